/- Texts one behind the other. -/
import Derived.Test.YtjphmbgennadcaaGreatDoorFar
import Derived.Test.YtjphmbgennadcaaGreatDoorSub
import Derived.Test.YtjphmbgennadcaaGreatDoorOwn
import Derived.Test.YtjphmbgennadcaaGreatDoorShelfT
namespace Go.Proofs.YtjphmbgennadcaaGreatDoor
set_option maxHeartbeats 4000000
set_option linter.unusedSimpArgs false
open Go.ChangeShapes Go.WideShapes Go.ChangeAt Go.RowKit


theorem wrS (B b : Nat) (bs : List Value) (s : ByteArray) (w : World) (h : Lib.IsBuilder 87 5 B b bs w) (hlen : bs.length + s.size ≤ 140737488355328) (hBw : B ≤ w.heap.size) :
    Calls Tryz.prog 88 #[.pointer (some ⟨b, 0, none⟩), .string s] w fun e w' => e = .returned (.tuple #[.int .i64 s.size, .nilIface]) ∧ (Lib.BuilderAt 87 5 B b (.pointer (some ⟨b, 0, none⟩)) (bs ++ Lib.strCells s) w' ∧ Below B w w') :=
  Any.Builder_WriteString Tryz.lays166 Tryz.Builder_Extra_166 B b bs s w h hlen hBw
theorem stS (B b : Nat) (l : List UInt8) (w : World) (h : Lib.IsBuilder 87 5 B b (Lib.byteCells l) w) (hBw : B ≤ w.heap.size) :
    Calls Tryz.prog 90 #[.pointer (some ⟨b, 0, none⟩)] w fun e w' => e = .returned (.string (bsA l)) ∧ Below B w w' :=
  Any.Builder_String_any Tryz.lays169 Tryz.Builder_Extra_169 B b l w h hBw
theorem builderAt_below {T e : TypeId} {B b : Nat} {p : Value} {bs : List Value} {w w' : World} (h : Lib.BuilderAt T e B b p bs w) (hb : Below w.heap.size w w') : Lib.BuilderAt T e B b p bs w' := by
  have hlt := h.lt
  obtain ⟨h1, v, h2, h3, h4⟩ := h
  exact ⟨h1, v, by rw [hb.block b hlt]; exact h2, owns_below h3 hb, h4⟩
theorem builder_below {T e : TypeId} {B b : Nat} {bs : List Value} {w w' : World} (h : Lib.IsBuilder T e B b bs w) (hb : Below w.heap.size w w') : Lib.IsBuilder T e B b bs w' :=
  h.elim (fun h => Or.inl (builderAt_below h hb)) (fun h => Or.inr (builderAt_below h hb))
theorem byteCells_len (l : List UInt8) : (Lib.byteCells l).length = l.length := by simp [Lib.byteCells]
theorem byteCells_str (l : List UInt8) (s : ByteArray) : Lib.byteCells l ++ Lib.strCells s = Lib.byteCells (l ++ s.data.toList) := by
  simp [Lib.byteCells, Lib.strCells]
/-- The texts one behind the other. -/
def conL (r : List Val) : List UInt8 := r.flatMap fun v => v.2.2.data.toList
def conP (r : List Val) : Val × Int := if (conL r).length ≤ 1024 then ((4, 0, bsA (conL r)), 0) else (dv, 20)
theorem conL_take {r : List Val} {m : Nat} (h : m < r.length) : conL (r.take (m + 1)) = conL (r.take m) ++ (tAt r m).data.toList := by
  unfold conL
  rw [take_at h, List.flatMap_append]; simp
theorem conL_le (r : List Val) (h : ∀ v ∈ r, v.2.2.size ≤ 1024) : (conL r).length ≤ r.length * 1024 := by
  induction r with
  | nil => simp [conL]
  | cons v r ih =>
    have h1 := ih (fun x hx => h x (List.mem_cons_of_mem _ hx))
    have h2 := h v List.mem_cons_self
    have h3 : v.2.2.data.toList.length = v.2.2.size := by rw [Array.length_toList]; rfl
    unfold conL at h1 ⊢
    rw [List.flatMap_cons, List.length_append, List.length_cons]
    omega
theorem concat_any (b off cap : Nat) (r : List Val) (w : World) (hlen : r.length * 32 ≤ 140737488355328) (hT : ∀ v ∈ r, v.2.2.size ≤ 1024)
    (hc : ∀ i, i < r.length → w.cell? ⟨b, off + i * 3, none⟩ = some (.int .i64 (kAt r i)) ∧ w.cell? ⟨b, off + i * 3 + 1, none⟩ = some (.int .i64 (nAt r i)) ∧ w.cell? ⟨b, off + i * 3 + 2, none⟩ = some (.string (tAt r i))) :
    Calls Tryz.prog 47 #[.slice (some ⟨b, off, none⟩) r.length cap] w fun e w' => e = .returned (.tuple #[.agg #[.int .i64 (conP r).1.1, .int .i64 (conP r).1.2.1, .string (conP r).1.2.2], .int .i64 (conP r).2]) ∧ Below w.heap.size w w' := by
  have HC : Hid _ := hc
  have HLe : Hid (∀ m, (conL (r.take m)).length ≤ r.length * 1024) := fun m => by
    have h1 := conL_le (r.take m) (fun v hv => hT v (List.mem_of_mem_take hv))
    rw [List.length_take] at h1
    exact Nat.le_trans h1 (Nat.mul_le_mul_right _ (Nat.min_le_right _ _))
  have HTa : Hid (∀ m, m < r.length → (tAt r m).size ≤ 1024) := fun m hm => by
    unfold tAt
    rw [List.getD_eq_getElem?_getD, List.getElem?_eq_getElem hm]
    exact hT _ (List.getElem_mem hm)
  have HP : Hid (conP r = if (conL r).length ≤ 1024 then ((4, 0, bsA (conL r)), 0) else (dv, 20)) := rfl
  generalize conP r = R at HP ⊢
  have hlm : r.length ≤ 9223372036854775807 := by omega
  clear hc hT
  go_enter Tryz.func47, Tryz.ntmps47
  go_wp2
  have HA0 : Hid (Below w.heap.size w (w.alloc (.cells #[.int .i64 0, .int .i64 0, .string ⟨#[]⟩] 34))) := (Below.refl _ _).alloc (Nat.le_refl _) _
  have hz0 : w.heap.size < (w.alloc (.cells #[.int .i64 0, .int .i64 0, .string ⟨#[]⟩] 34)).heap.size := by simp
  have y0 : (w.alloc (.cells #[.int .i64 0, .int .i64 0, .string ⟨#[]⟩] 34)).cell? ⟨w.heap.size, 0, none⟩ = some (.int .i64 0) := World.cell?_alloc_new _ _ _ _
  have y1 : (w.alloc (.cells #[.int .i64 0, .int .i64 0, .string ⟨#[]⟩] 34)).cell? ⟨w.heap.size, 1, none⟩ = some (.int .i64 0) := World.cell?_alloc_new _ _ _ _
  have y2 : (w.alloc (.cells #[.int .i64 0, .int .i64 0, .string ⟨#[]⟩] 34)).cell? ⟨w.heap.size, 2, none⟩ = some (.string ⟨#[]⟩) := World.cell?_alloc_new _ _ _ _
  have yf : ∀ i, (w.alloc (.cells #[.int .i64 0, .int .i64 0, .string ⟨#[]⟩] 34)).frozen? ⟨w.heap.size, i, none⟩ = false := fun _ => World.frozen?_alloc_new _ _ _ _
  generalize w.alloc (.cells #[.int .i64 0, .int .i64 0, .string ⟨#[]⟩] 34) = W0 at *
  go_loopw [4, 12] (fun s i wr => ∃ (m : Nat), m ≤ r.length ∧ i = .int .i64 m ∧ s = .int .i64 ((conL (r.take m)).length : Nat) ∧ Bel W0.heap.size W0 wr) (fun _ i _ => r.length - (intOf i).toNat)
  case atStart => exact ⟨0, Nat.zero_le _, rfl, rfl, Bel.refl _⟩
  case round =>
    obtain ⟨m, hm, rfl, rfl, HB⟩ := hrel
    have hW := HB.out
    have hWw : Below w.heap.size w wr := HA0.out.trans (hW.mono HA0.out.size)
    rcases Nat.lt_or_ge m r.length with hlt | hge
    · have c0 := cell_below hWw (HC.out m hlt).1
      have c1 := cell_below hWw (HC.out m hlt).2.1
      have c2 := cell_below hWw (HC.out m hlt).2.2
      have ht := HTa.out m hlt
      have HN : Hid ((conL (r.take (m + 1))).length = (conL (r.take m)).length + (tAt r m).size) := by
        show _ = _
        rw [conL_take hlt, List.length_append, Array.length_toList]; rfl
      have hq := HLe.out m
      generalize (conL (r.take m)).length = q at *
      generalize kAt r m = k at *
      generalize nAt r m = n at *
      generalize tAt r m = t at *
      have hq2 : (q : Int) ≤ 10000000000000000 := by omega
      have hq3 : (t.size : Int) ≤ 1024 := by omega
      go_wp2
      go_roundw
      case rel => exact ⟨m + 1, by omega, by go_num, by rw [HN.out]; go_num, (by repeat (first | exact Bel.refl _ | assumption | refine Bel.drew ?_ | refine Bel.drewN ?_ _ | refine Bel.alloc ?_ _ | refine Bel.setCell ?_ (by simp <;> omega) _ | refine Bel.step ?_ (by assumption)))⟩
      case measure => simp [intOf]; omega
    · obtain rfl : m = r.length := by omega
      have HF : Hid (conL (r.take r.length) = conL r) := by show _ = _; rw [List.take_length]
      rw [HF.out]
      obtain ⟨hc1, hf1⟩ := bcell hW
      have hz1 : w.heap.size < wr.heap.size := by have := hW.size; omega
      rcases Nat.lt_or_ge 1024 (conL r).length with hbig | hsml
      · have HN : Hid (R = ((0, 0, ⟨#[]⟩), 20)) := by show _ = _; rw [HP.out, if_neg (by omega)]; rfl
        have hbi : (1024 : Int) < ((conL r).length : Nat) := by omega
        generalize (conL r).length = q at *
        go_wp2
        exact bodyPost_ret (v := .tuple #[.agg #[.int .i64 0, .int .i64 0, .string ⟨#[]⟩], .int .i64 20]) (by simp [results, Tryz.results47, go_sem, hc1, hz1, hz0, y0, y1, y2]) rfl ⟨ret_v HN.out, (Bel.out (by repeat (first | exact Bel.refl _ | assumption | refine Bel.drew ?_ | refine Bel.drewN ?_ _ | refine Bel.alloc ?_ _ | refine Bel.setCell ?_ (by simp <;> omega) _ | refine Bel.step ?_ (by assumption))))⟩
      · have HN : Hid (R = ((4, 0, bsA (conL r)), 0)) := by show _ = _; rw [HP.out, if_pos hsml]
        have HSm : Hid ((conL r).length ≤ 1024) := hsml
        have hbi : ((conL r).length : Int) ≤ 1024 := by omega
        generalize (conL r).length = q at hbi ⊢
        go_wp2
        have HI0 : Hid _ := Lib.fresh_isBuilder 87 5 wr
        have HBw : Hid _ := (Bel.refl wr).alloc (.cells #[.pointer none, .slice none 0 0] 87)
        obtain ⟨bb, hbb⟩ : ∃ bb, bb = wr.heap.size := ⟨_, rfl⟩
        rw [← hbb] at HI0 HBw ⊢
        generalize wr.alloc (.cells #[.pointer none, .slice none 0 0] 87) = W1 at HI0 HBw ⊢
        have HHb : Hid _ := hbb
        have HWw : Hid _ := hWw
        have HWr : Hid _ := hW
        clear hc1 hf1 hbb hWw hW HB hlen
        obtain ⟨wo, hwo⟩ : ∃ wo : World, wo = wr := ⟨_, rfl⟩
        subst hwo
        go_loopw [27] (fun i wr => ∃ (m : Nat), m ≤ r.length ∧ i = .int .i64 m ∧ Lib.IsBuilder 87 5 bb bb (Lib.byteCells (conL (r.take m))) wr ∧ Bel bb wo wr) (fun i _ => r.length - (intOf i).toNat)
        case atStart => exact ⟨0, Nat.zero_le _, rfl, HI0.out, HBw.out⟩
        case round =>
          obtain ⟨m, hm, rfl, hI, HB⟩ := hrel
          have HI : Hid _ := hI
          have hS0 : Below wo.heap.size wo wr := by have h := HB.out; rw [HHb.out] at h; exact h
          have hWw : Below w.heap.size w wr := HWw.out.trans (hS0.mono HWw.out.size)
          clear hI HI0 HBw
          rcases Nat.lt_or_ge m r.length with hlt | hge
          · have c0 := cell_below hWw (HC.out m hlt).1
            have c1 := cell_below hWw (HC.out m hlt).2.1
            have c2 := cell_below hWw (HC.out m hlt).2.2
            have ht := HTa.out m hlt
            have HJ : Hid (Lib.byteCells (conL (r.take m)) ++ Lib.strCells (tAt r m) = Lib.byteCells (conL (r.take (m + 1)))) := by show _ = _; rw [byteCells_str, conL_take hlt]
            have hql : (conL (r.take m)).length ≤ 1024 := by
              have h1 := HSm.out
              have h2 : (conL r).length = (conL (r.take m)).length + (conL (r.drop m)).length := by
                conv => lhs; rw [← List.take_append_drop m r]
                unfold conL
                rw [List.flatMap_append, List.length_append]
              omega
            generalize kAt r m = k at *
            generalize nAt r m = n at *
            generalize tAt r m = t at *
            have hA1 : Below wr.heap.size wr (wr.alloc (.cells #[.int .i64 k, .int .i64 n, .string t] 34)) := (Below.refl _ _).alloc (Nat.le_refl _) _
            have hbs : bb ≤ (wr.alloc (.cells #[.int .i64 k, .int .i64 n, .string t] 34)).heap.size := Nat.le_trans HB.le hA1.size
            have hS := wrS bb bb (Lib.byteCells (conL (r.take m))) t (wr.alloc (.cells #[.int .i64 k, .int .i64 n, .string t] 34)) (builder_below HI.out hA1) (by rw [byteCells_len]; omega) hbs
            clear HI
            go_wp2_with fail
            refine hS.mono ?_
            rintro e w4 ⟨rfl, hbu4, hb4⟩
            have HBU : Hid (Lib.IsBuilder 87 5 bb bb (Lib.byteCells (conL (r.take (m + 1)))) w4) := by show _ ∨ _; rw [← HJ.out]; exact Or.inr hbu4
            have HB4 : Hid (Bel bb wo w4) := by
              have h1 : Bel bb wo (wr.alloc (.cells #[.int .i64 k, .int .i64 n, .string t] 34)) := HB.alloc _
              exact ⟨h1.out.trans hb4, Nat.le_trans hbs hb4.size⟩
            clear hbu4 hb4 hS
            go_wp2
            go_roundw
            case rel => exact ⟨m + 1, by omega, by go_num, HBU.out, HB4.out⟩
            case measure => simp [intOf]; omega
          · obtain rfl : m = r.length := by omega
            rw [HF.out] at HI
            have h1 := stS bb bb (conL r) wr HI.out HB.le
            have h2 := text10_any (bsA (conL r))
            go_wp2_with fail
            refine h1.mono ?_
            rintro e w5 ⟨rfl, hb5⟩
            have hb6 : Below wo.heap.size wo w5 := by have h := hb5; rw [HHb.out] at h; exact hS0.trans h
            go_wp2_with fail
            refine (h2 _).mono ?_
            rintro e w6 ⟨rfl, hb7⟩
            have hb8 : Below wo.heap.size wo w6 := hb6.trans (hb7.mono hb6.size)
            have hb9 : Below W0.heap.size W0 w6 := HWr.out.trans (hb8.mono HWr.out.size)
            have HBw6 : Hid (Below w.heap.size w w6) := HWw.out.trans (hb8.mono HWw.out.size)
            have hz6 : w.heap.size < w6.heap.size := by have := hb9.size; omega
            obtain ⟨hc6, hf6⟩ := bcell hb9
            clear hb8 hb7 hb6 hb5 h1 h2
            have HBf := (Bel.of HBw6.out)
            go_wp2
            exact bodyPost_ret (v := .tuple #[.agg #[.int .i64 4, .int .i64 0, .string (bsA (conL r))], .int .i64 0]) (by simp [results, Tryz.results47, go_sem, hc6, hz6, hz0, y0, y1, y2]) rfl ⟨ret_v HN.out, (Bel.out (by repeat (first | exact Bel.refl _ | assumption | refine Bel.drew ?_ | refine Bel.drewN ?_ _ | refine Bel.alloc ?_ _ | refine Bel.setCell ?_ (by simp <;> omega) _ | refine Bel.step ?_ (by assumption))))⟩
end Go.Proofs.YtjphmbgennadcaaGreatDoor
