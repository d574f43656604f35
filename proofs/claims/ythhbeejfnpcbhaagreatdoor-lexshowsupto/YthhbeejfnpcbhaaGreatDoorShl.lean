/- Tokens as a source (Show). -/
import Derived.Test.YthhbeejfnpcbhaaGreatDoorSay
import Derived.Test.YthhbeejfnpcbhaaGreatDoorSh
namespace Go.Proofs.YthhbeejfnpcbhaaGreatDoor
open Go.ChangeShapes Go.WideShapes Go.ChangeAt Go.RowKit

theorem wrS (B b : Nat) (bs : List Value) (s : ByteArray) (w : World) (h : Lib.IsBuilder 50 5 B b bs w) (hlen : bs.length + s.size ≤ 140737488355328) (hBw : B ≤ w.heap.size) :
    Calls Tryz.prog 24 #[.pointer (some ⟨b, 0, none⟩), .string s] w fun e w' => e = .returned (.tuple #[.int .i64 s.size, .nilIface]) ∧ (Lib.BuilderAt 50 5 B b (.pointer (some ⟨b, 0, none⟩)) (bs ++ Lib.strCells s) w' ∧ Below B w w') :=
  Any.Builder_WriteString { Tryz.lays155 with } Tryz.Builder_Extra_155 B b bs s w h hlen hBw
theorem wrB (B b : Nat) (bs : List Value) (c : Int) (w : World) (h : Lib.IsBuilder 50 5 B b bs w) (hlen : bs.length + 1 ≤ 140737488355328) (hBw : B ≤ w.heap.size) :
    Calls Tryz.prog 23 #[.pointer (some ⟨b, 0, none⟩), .int .u8 c] w fun e w' => e = .returned .nilIface ∧ (Lib.BuilderAt 50 5 B b (.pointer (some ⟨b, 0, none⟩)) (bs ++ [.int .u8 c]) w' ∧ Below B w w') :=
  Any.Builder_WriteByte { Tryz.lays159 with } Tryz.Builder_Extra_159 B b bs c w h hlen hBw
theorem builderAt_below {T e : TypeId} {B b : Nat} {p : Value} {bs : List Value} {w w' : World} (h : Lib.BuilderAt T e B b p bs w) (hb : Below w.heap.size w w') : Lib.BuilderAt T e B b p bs w' := by
  have hlt := h.lt
  obtain ⟨h1, v, h2, h3, h4⟩ := h
  exact ⟨h1, v, by rw [hb.block b hlt]; exact h2, owns_below h3 hb, h4⟩
theorem builder_below {T e : TypeId} {B b : Nat} {bs : List Value} {w w' : World} (h : Lib.IsBuilder T e B b bs w) (hb : Below w.heap.size w w') : Lib.IsBuilder T e B b bs w' :=
  h.elim (fun h => Or.inl (builderAt_below h hb)) (fun h => Or.inr (builderAt_below h hb))
theorem byteCells_len (l : List UInt8) : (Lib.byteCells l).length = l.length := by simp [Lib.byteCells]
theorem byteCells_snoc (l : List UInt8) (c : UInt8) : Lib.byteCells l ++ [.int .u8 (c.toNat : Int)] = Lib.byteCells (l ++ [c]) := by simp [Lib.byteCells]
theorem byteCells_str (l m : List UInt8) : Lib.byteCells l ++ Lib.strCells (bsA m) = Lib.byteCells (l ++ m) := by
  simp [Lib.byteCells, Lib.strCells, bsA_list]
/-- Tokens as a source, or nothing, if one may not be. -/
def okP (t : Tk) : Bool := sayP (shP t) t
def shwP (ts : List Tk) : List UInt8 := if ts.all okP then js ts else []
theorem js_snoc : ∀ (ts : List Tk) (t : Tk), js (ts ++ [t]) = if ts = [] then shP t else js ts ++ 32 :: shP t
  | [], t => rfl
  | [u], t => rfl
  | u :: v :: r, t => by
    have ih := js_snoc (v :: r) t
    rw [if_neg (by simp)] at ih ⊢
    simp only [List.cons_append] at ih ⊢
    rw [js, ih, js]
    simp
theorem js_len (K : Nat) : ∀ (ts : List Tk), (∀ t ∈ ts, (shP t).length ≤ K) → (js ts).length ≤ ts.length * (K + 1)
  | [], _ => by simp [js]
  | [t], h => by have := h t (by simp); simp [js]; omega
  | t :: u :: r, h => by
    have ih := js_len K (u :: r) (fun x hx => h x (by simp at hx ⊢; exact Or.inr hx))
    have := h t (by simp)
    rw [js, List.length_append, List.length_cons, List.length_cons (a := t), Nat.succ_mul]
    omega
set_option maxRecDepth 20000 in
set_option maxHeartbeats 4000000 in
theorem Show_some (b off cap : Nat) (r : List Tt) (w : World) (hR : Rdy w) (hlen : r.length ≤ 10000000)
    (hN : ∀ t ∈ r, -9223372036854775808 ≤ t.1.2.2 ∧ t.1.2.2 ≤ 9223372036854775807 ∧ t.1.2.1.length ≤ 10000000 ∧ (shP t.1).length ≤ 10000000)
    (hc : ∀ i t, r[i]? = some t → w.cell? ⟨b, off + i * 4, none⟩ = some (.int .i64 t.1.1) ∧ w.cell? ⟨b, off + i * 4 + 1, none⟩ = some (.string (bsA t.1.2.1)) ∧ w.cell? ⟨b, off + i * 4 + 2, none⟩ = some (.int .i64 t.1.2.2) ∧ w.cell? ⟨b, off + i * 4 + 3, none⟩ = some (.int .i64 t.2)) :
    Calls Tryz.prog 15 #[.slice (some ⟨b, off, none⟩) r.length cap] w fun e w' => e = .returned (.string (bsA (shwP (bar r)))) ∧ Below w.heap.size w w' := by
  go_enter Tryz.func15, Tryz.ntmps15
  go_wp2
  go_loopw [9] (fun y wr => ∃ (m : Nat), y = .int .i64 m ∧ m ≤ r.length ∧ (bar (r.take m)).all okP = true ∧ Lib.IsBuilder 50 5 w.heap.size w.heap.size (Lib.byteCells (js (bar (r.take m)))) wr ∧ Bel w.heap.size w wr) (fun y _ => r.length - (intOf y).toNat)
  case atStart => exact ⟨0, rfl, Nat.zero_le _, rfl, Lib.fresh_isBuilder 50 5 w, (Bel.refl _).alloc _⟩
  case round =>
    obtain ⟨m, rfl, hm, hA, hI, HB⟩ := hrel
    have hW := HB.out
    have hRr := hR.below hW
    have HI : Hid _ := hI
    clear hI
    rcases Nat.lt_or_ge m r.length with hlt | hge
    · have gc : r[m]? = some r[m] := List.getElem?_eq_getElem hlt
      obtain ⟨c0, c1, c2, c3⟩ := hc m _ gc
      have c0 := cell_below hW c0
      have c1 := cell_below hW c1
      have c2 := cell_below hW c2
      have c3 := cell_below hW c3
      obtain ⟨n1, n2, n3, n4⟩ := hN r[m] (List.mem_of_getElem? gc)
      have htk : bar (r.take (m + 1)) = bar (r.take m) ++ [r[m].1] := by unfold bar; rw [List.take_add_one, gc, List.map_append]; rfl
      have hbig : (js (bar (r.take m))).length ≤ 100000000000000 := by
        have h1 := js_len 10000000 (bar (r.take m)) (fun t ht => by
          obtain ⟨x, hx, rfl⟩ := List.mem_map.1 ht
          exact (hN x (List.mem_of_mem_take hx)).2.2.2)
        have h2 : (bar (r.take m)).length ≤ 9999999 := by simp [bar]; omega
        have h3 := Nat.mul_le_mul_right (10000000 + 1) h2
        omega
      have hmem : okP r[m].1 = false → (bar r).all okP = false := fun h => by
        rw [List.all_eq_false]
        exact ⟨r[m].1, List.mem_map.2 ⟨r[m], List.mem_of_getElem? gc, rfl⟩, by simp [h]⟩
      clear hc hN
      generalize r[m] = t at *
      have hB2 : Below wr.heap.size wr (wr.alloc (Obj.cells #[Value.int IntKind.i64 t.1.1, Value.string (bsA t.1.2.1), Value.int IntKind.i64 t.1.2.2, Value.int IntKind.i64 t.2] 37)) := (Below.refl _ _).alloc (Nat.le_refl _) _
      have h1 := show_any t.1 t.2 (wr.alloc (Obj.cells #[Value.int IntKind.i64 t.1.1, Value.string (bsA t.1.2.1), Value.int IntKind.i64 t.1.2.2, Value.int IntKind.i64 t.2] 37)) (hRr.alloc _) n1 n2 (by omega)
      have h2 := fun W (h : Rdy W) => says_any (shP t.1) t.1 t.2 W h (by omega)
      unfold tkV at h1 h2
      cases hok : okP t.1 with
      | false =>
        have HN : Hid (shwP (bar r) = []) := by show _ = _; unfold shwP; rw [hmem hok]; rfl
        have hok' : sayP (shP t.1) t.1 = false := hok
        rw [hok'] at h2
        go_wp2_with fail
        refine h1.mono ?_
        rintro e w1 ⟨rfl, hb1⟩
        have bo := (Box.new wr (.int .i64 t.1.1) (.string (bsA t.1.2.1)) (.int .i64 t.1.2.2) (.int .i64 t.2)).below hb1
        obtain ⟨y0, y1, y2, y3, _, _, _, _⟩ := bo
        have hB1 : Below wr.heap.size wr w1 := hB2.trans (hb1.mono hB2.size)
        have h3 := h2 w1 (hRr.below hB1)
        clear h1 h2 hb1 hB2
        go_wp2_with fail
        refine h3.mono ?_
        rintro e w2 ⟨rfl, hb2⟩
        clear h3
        go_wp2
        go_ret
        exact ⟨by rw [HN.out]; rfl, hW.trans ((hB1.trans (hb2.mono hB1.size)).mono hW.size)⟩
      | true =>
        have hok' : sayP (shP t.1) t.1 = true := hok
        rw [hok'] at h2
        have HA : Hid ((bar (r.take (m + 1))).all okP = true) := by show _ = _; rw [htk, List.all_append, hA]; simp [hok]
        have hzs := bsA_size (shP t.1)
        go_wp2_with fail
        refine h1.mono ?_
        rintro e w1 ⟨rfl, hb1⟩
        have bo := (Box.new wr (.int .i64 t.1.1) (.string (bsA t.1.2.1)) (.int .i64 t.1.2.2) (.int .i64 t.2)).below hb1
        obtain ⟨y0, y1, y2, y3, _, _, _, _⟩ := bo
        have hB1 : Below wr.heap.size wr w1 := hB2.trans (hb1.mono hB2.size)
        have h3 := h2 w1 (hRr.below hB1)
        clear h1 h2 hb1 hB2
        go_wp2_with fail
        refine h3.mono ?_
        rintro e w2 ⟨rfl, hb2⟩
        have hB12 : Below wr.heap.size wr w2 := hB1.trans (hb2.mono hB1.size)
        have hW2 : Below w.heap.size w w2 := hW.trans (hB12.mono hW.size)
        have hI2 := builder_below HI.out hB12
        clear h3 hb2 hB1 hB12 HI
        by_cases hm0 : m = 0
        · subst hm0
          have e0 : js (bar (r.take 0)) = [] := rfl
          rw [e0] at hI2
          have hS := wrS w.heap.size w.heap.size (Lib.byteCells []) (bsA (shP t.1)) w2 hI2 (by rw [byteCells_len, hzs]; simp; omega) hW2.size
          have HJ : Hid (Lib.byteCells [] ++ Lib.strCells (bsA (shP t.1)) = Lib.byteCells (js (bar (r.take (0 + 1))))) := by show _ = _; rw [byteCells_str, htk, js_snoc]; rfl
          clear hI2 htk hA
          go_wp2_with fail
          refine hS.mono ?_
          rintro e w4 ⟨rfl, hbu4, hb4⟩
          have HBU : Hid (Lib.IsBuilder 50 5 w.heap.size w.heap.size (Lib.byteCells (js (bar (r.take (0 + 1))))) w4) := by show _ ∨ _; rw [← HJ.out]; exact Or.inr hbu4
          have hW4 := hW2.trans hb4
          clear hbu4 hb4 hS
          go_wp2
          go_roundw
          case rel => exact ⟨0 + 1, rfl, by omega, HA.out, HBU.out, ⟨hW4, hW4.size⟩⟩
          case measure => simp [intOf]; omega
        · have hS := wrB w.heap.size w.heap.size (Lib.byteCells (js (bar (r.take m)))) 32 w2 hI2 (by rw [byteCells_len]; omega) hW2.size
          have hne : bar (r.take m) ≠ [] := fun e => by
            have := congrArg List.length e
            unfold bar at this
            rw [List.length_map, List.length_take, List.length_nil] at this
            omega
          have hmp : (0 : Int) < m := by omega
          have HJ : Hid (Lib.byteCells (js (bar (r.take m)) ++ [32]) ++ Lib.strCells (bsA (shP t.1)) = Lib.byteCells (js (bar (r.take (m + 1))))) := by
            show _ = _
            rw [byteCells_str, htk, js_snoc, if_neg hne]
            simp
          clear hI2 htk hA
          go_wp2_with fail
          refine hS.mono ?_
          rintro e w3 ⟨rfl, hbu3, hb3⟩
          have hW3 := hW2.trans hb3
          have hbu3' : Lib.BuilderAt 50 5 w.heap.size w.heap.size (.pointer (some ⟨w.heap.size, 0, none⟩)) (Lib.byteCells (js (bar (r.take m)) ++ [32])) w3 := by rw [← byteCells_snoc]; exact hbu3
          have hS2 := wrS w.heap.size w.heap.size (Lib.byteCells (js (bar (r.take m)) ++ [32])) (bsA (shP t.1)) w3 (Or.inr hbu3') (by rw [byteCells_len, hzs]; simp; omega) hW3.size
          clear hbu3 hbu3' hS
          go_wp2_with fail
          refine hS2.mono ?_
          rintro e w4 ⟨rfl, hbu4, hb4⟩
          have HBU : Hid (Lib.IsBuilder 50 5 w.heap.size w.heap.size (Lib.byteCells (js (bar (r.take (m + 1))))) w4) := by show _ ∨ _; rw [← HJ.out]; exact Or.inr hbu4
          have hW4 := hW3.trans hb4
          clear hbu4 hb4 hS2
          go_wp2
          go_roundw
          case rel => exact ⟨m + 1, by go_num, by omega, HA.out, HBU.out, ⟨hW4, hW4.size⟩⟩
          case measure => simp [intOf]; omega
    · have hmn : r.take m = r := List.take_of_length_le hge
      rw [hmn] at hA HI
      have HN : Hid (shwP (bar r) = js (bar r)) := by show _ = _; unfold shwP; rw [hA]; rfl
      have h1 := Tryz.Builder_String_any w.heap.size w.heap.size (js (bar r)) wr HI.out hW.size
      clear hc hN
      go_wp2_with fail
      refine h1.mono ?_
      rintro e w1 ⟨rfl, hb1⟩
      go_wp2
      go_ret
      exact ⟨by rw [HN.out]; rfl, hW.trans hb1⟩
set_option maxRecDepth 20000 in
set_option maxHeartbeats 4000000 in
theorem Show_0 (a : Option Addr) (cap : Nat) (w : World) : Calls Tryz.prog 15 #[.slice a 0 cap] w fun e w' => e = .returned (.string (bsA [])) ∧ Below w.heap.size w w' := by
  have h1 := Tryz.Builder_String_any w.heap.size w.heap.size [] (w.alloc (.cells #[.pointer none, .slice none 0 0] 50)) (Lib.fresh_isBuilder 50 5 w) (by rw [World.size_alloc]; omega)
  have hB : Below w.heap.size w (w.alloc (.cells #[.pointer none, .slice none 0 0] 50)) := (Below.refl _ _).alloc (Nat.le_refl _) _
  go_enter Tryz.func15, Tryz.ntmps15
  go_wp2
  refine wp_loop_rounds 1 ?_
  rw [rounds_succ]
  go_wp2_with fail
  refine h1.mono ?_
  rintro e w1 ⟨rfl, hb1⟩
  go_wp2
  go_ret
  exact ⟨rfl, hB.trans hb1⟩
theorem Show_any (a : Option Addr) (cap : Nat) (r : List Tt) (w : World) (hR : Rdy w) (hlen : r.length ≤ 10000000)
    (hN : ∀ t ∈ r, -9223372036854775808 ≤ t.1.2.2 ∧ t.1.2.2 ≤ 9223372036854775807 ∧ t.1.2.1.length ≤ 10000000 ∧ (shP t.1).length ≤ 10000000) (h : TksAt w a r) :
    Calls Tryz.prog 15 #[.slice a r.length cap] w fun e w' => e = .returned (.string (bsA (shwP (bar r)))) ∧ Below w.heap.size w w' := by
  rcases h with rfl | ⟨b, off, rfl, hc⟩
  · exact Show_0 a cap w
  · exact Show_some b off cap r w hR hlen hN hc
end Go.Proofs.YthhbeejfnpcbhaaGreatDoor
