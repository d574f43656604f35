/- What Lex makes of a name; what the calls read of the package variables. -/
import Derived.Test.YtcemogaacicnfaaGreatDoorCls
import Derived.Test.YtcemogaacicnfaaGreatDoorShL
import Derived.Lib.ItoaMem
import Derived.Lib.AppendIntMem
import Derived.Shelf.Unicode.DecodeSlow
import Derived.Deep.MidRow
import Derived.Deep.DeepCutAuto
import Derived.Laws.AppendOwn
import Derived.Laws.OwnMore
import Derived.OwnWalk
import Derived.Lib.LazyBuf
import Derived.ScopeJumps
namespace Go.Proofs.YtcemogaacicnfaaGreatDoor
set_option maxRecDepth 20000
set_option maxHeartbeats 4000000
set_option linter.unusedSimpArgs false
open Go.ChangeShapes Go.WideShapes Go.ChangeAt Go.RowKit

/-- The words. -/
def wdL : List (List UInt8) := [[97, 108, 108], [97, 110, 100], [97, 115], [97, 118, 103], [98, 101, 116, 119, 101, 101, 110], [98, 121], [99, 97, 115, 101], [99, 111, 110, 116, 101, 120, 116], [99, 111, 117, 110, 116], [99, 114, 101, 97, 116, 101], [100, 101, 108, 101, 116, 101], [100, 101, 115, 99], [100, 105, 115, 116, 105, 110, 99, 116], [101, 108, 115, 101], [101, 110, 100], [101, 118, 101, 110, 116, 115], [101, 118, 101, 114, 121], [102, 97, 108, 115, 101], [102, 105, 114, 115, 116], [102, 114, 111, 109], [103, 114, 111, 117, 112], [104, 97, 118, 105, 110, 103], [105, 110], [105, 110, 115, 101, 114, 116], [105, 110, 116, 111], [105, 114, 115, 116, 114, 101, 97, 109], [105, 115], [105, 115, 116, 114, 101, 97, 109], [108, 97, 115, 116], [109, 97, 116, 99, 104, 101, 100], [109, 97, 120], [109, 101, 114, 103, 101], [109, 105, 110], [109, 115], [110, 111, 116], [110, 117, 108, 108], [111, 110], [111, 114], [111, 114, 100, 101, 114], [111, 117, 116, 112, 117, 116], [111, 118, 101, 114, 108, 97, 112, 112, 105, 110, 103], [112, 97, 114, 116, 105, 116, 105, 111, 110], [112, 97, 116, 116, 101, 114, 110], [114, 115, 116, 114, 101, 97, 109], [115, 99, 104, 101, 109, 97], [115, 101, 108, 101, 99, 116], [115, 101, 116], [115, 110, 97, 112, 115, 104, 111, 116], [115, 116, 97, 114, 116], [115, 117, 109], [116, 104, 101, 110], [116, 105, 109, 101, 114], [116, 114, 117, 101], [117, 112, 100, 97, 116, 101], [119, 104, 101, 110], [119, 104, 101, 114, 101], [119, 105, 110, 100, 111, 119], [119, 105, 116, 104, 105, 110]]
def wd (i : Nat) : List UInt8 := wdL.getD i []
/-- A token: its kind, its text, its number. -/
abbrev Tk := Int × List UInt8 × Int
def tkV (t : Tk) (a : Int) : Value := .agg #[.int .i64 t.1, .string (bsA t.2.1), .int .i64 t.2.2, .int .i64 a]
def tk0 : Tk := (0, [], 0)
/-- What the calls read of the package variables. -/
structure Rdy (w : World) : Prop where
  words : ∀ i, i < 58 → w.cell? ⟨3, i, none⟩ = some (.string (bsA (wd i)))
  mx : ∃ m, w.cell? ⟨2, 0, none⟩ = some (.int .i64 m)
  utf : Lib.Utf8Tabs 0 1 w
  pow : Lib.TabIs Tryz.prog w "internal/strconv.uint64pow10" .u64 Lib.pow10Tab
  es : ∃ ev, w.cell? ⟨5, 0, none⟩ = some ev ∧ (ev = .nilIface ∨ ∃ te pe, ev = .iface te pe)
  er : ∃ ev, w.cell? ⟨6, 0, none⟩ = some ev ∧ (ev = .nilIface ∨ ∃ te pe, ev = .iface te pe)
theorem Rdy.below {w w' : World} (h : Rdy w) (hb : Below w.heap.size w w') : Rdy w' where
  words := fun i hi => cell_below hb (h.words i hi)
  mx := by obtain ⟨m, hm⟩ := h.mx; exact ⟨m, cell_below hb hm⟩
  utf := ⟨fun c hc => cell_below hb (h.utf.1 c hc), fun i hi => ⟨cell_below hb (h.utf.2 i hi).1, cell_below hb (h.utf.2 i hi).2⟩⟩
  pow := Lib.tabBelow_of_tabIs h.pow _ hb
  es := by obtain ⟨m, hm, h2⟩ := h.es; exact ⟨m, cell_below hb hm, h2⟩
  er := by obtain ⟨m, hm, h2⟩ := h.er; exact ⟨m, cell_below hb hm, h2⟩
theorem Rdy.alloc {w : World} (h : Rdy w) (o : Obj) : Rdy (w.alloc o) := h.below ((Below.refl _ _).alloc (Nat.le_refl _) o)
theorem bsA_tl (l : List UInt8) : (bsA l).toList = l := by rw [ByteArray.toList_eq, bsA_list]
theorem ext_drop' (l : List UInt8) (z : Nat) : (bsA l).extract z l.length = bsA (l.drop z) := by rw [← ext_drop, bsA_size]
/-- A token of nothing, in memory. -/
def tokO : Obj := .cells #[.int .i64 0, .string ⟨#[]⟩, .int .i64 0, .int .i64 0] 78
theorem tokBox {w w2 : World} (hb : Below (w.alloc tokO).heap.size (w.alloc tokO) w2) :
    w2.cell? ⟨w.heap.size, 0, none⟩ = some (.int .i64 0) ∧ w2.cell? ⟨w.heap.size, 1, none⟩ = some (.string ⟨#[]⟩) ∧ w2.cell? ⟨w.heap.size, 2, none⟩ = some (.int .i64 0) ∧ w2.cell? ⟨w.heap.size, 3, none⟩ = some (.int .i64 0) ∧
    w2.frozen? ⟨w.heap.size, 0, none⟩ = false ∧ w2.frozen? ⟨w.heap.size, 1, none⟩ = false ∧ w2.frozen? ⟨w.heap.size, 2, none⟩ = false ∧ w2.frozen? ⟨w.heap.size, 3, none⟩ = false := by
  have hlt : w.heap.size < (w.alloc tokO).heap.size := by simp
  have hn := hb.block w.heap.size hlt
  have he : (w.alloc tokO).heap[w.heap.size]? = some tokO := by show (w.heap.push tokO)[w.heap.size]? = _; simp
  rw [he] at hn
  unfold World.cell? World.frozen?
  simp only [hn, tokO]
  refine ⟨rfl, rfl, rfl, rfl, rfl, rfl, rfl, rfl⟩
/-- The words, as they lie in memory. -/
def wdV : List Value := wdL.map fun x => .string (bsA x)
theorem Rdy.range {w : World} (h : Rdy w) : w.rangeAt 3 0 wdV := by
  intro j v hj
  unfold wdV at hj
  rw [List.getElem?_map] at hj
  obtain ⟨x, hx, rfl⟩ := Option.map_eq_some_iff.1 hj
  have hlt : j < 58 := (List.getElem?_eq_some_iff.1 hx).1
  rw [Nat.zero_add, h.words j hlt]
  unfold wd
  rw [List.getD_eq_getElem?_getD, hx]; rfl
theorem wdV_at {m : Nat} (h : m < 58) : wdV[m]? = some (.string (bsA (wd m))) := by
  unfold wdV wd
  have hl : m < wdL.length := h
  rw [List.getElem?_map, List.getD_eq_getElem?_getD, List.getElem?_eq_getElem hl]; rfl
theorem wd_drop {m : Nat} (h : m < 58) : wdL.drop m = wd m :: wdL.drop (m + 1) := by
  unfold wd
  have hl : m < wdL.length := h
  rw [List.drop_eq_getElem_cons hl, List.getD_eq_getElem?_getD, List.getElem?_eq_getElem hl]; rfl
theorem index47 (V : List Value) (_hV : V.length = 58) (m : Nat) (hm : m < 58) (x : ByteArray) (hx : V[m]? = some (.string x)) (w : World) : (Instr.index 111 (.agg V.toArray) (.int .i64 m)).run Tryz.prog w = .ok (.string x) w := by
  have h0 : (0 : Int) ≤ (m : Int) ∧ (m : Int) < ((58 : Nat) : Int) := by omega
  simp [Instr.index, run_underlying Tryz.underlying111, asIntOf, h0, go_sem, hx]
  intro h; omega
theorem isWord_any (l : List UInt8) (w : World) (hR : Rdy w) : Calls Tryz.prog 153 #[.string (bsA l)] w fun e w' => e = .returned (.bool (wdL.contains l)) ∧ w' = w := by
  have HV : Hid (w.rangeAt 3 0 wdV) := hR.range
  have HVm : Hid (∀ m, m < 58 → wdV[m]? = some (.string (bsA (wd m)))) := fun m h => wdV_at h
  have hVl : wdV.length = 58 := rfl
  have hi : Hid ((Tryz.prog.info? 111).map (·.size) = some wdV.length) := by show _ = _; rw [hVl]; kernel_rfl
  clear hR
  generalize wdV = V at HV HVm hVl hi
  go_enter Tryz.func153, Tryz.ntmps153
  go_upto_region 1 with fail
  refine wp_region_list ?_
  refine wpList_load_mid rfl 111 _ rfl 3 0 rfl V _ HV.out Tryz.underlying111 rfl hi.out ?_
  go_wp2_with fail
  go_loopw [6] (fun i wr => ∃ m : Nat, m ≤ 58 ∧ i = .int .i64 m ∧ (wdL.drop m).contains l = wdL.contains l ∧ wr = w) (fun i _ => 58 - (intOf i).toNat)
  case atStart => exact ⟨0, Nat.zero_le _, rfl, rfl, rfl⟩
  case round =>
    obtain ⟨m, hm, rfl, hH, rfl⟩ := hrel
    have HH : Hid _ := hH
    clear hH
    rcases Nat.lt_or_ge m 58 with hlt | hge
    · have hx := index47 V hVl m hlt _ (HVm.out m hlt)
      have HD : Hid ((wdL.drop m).contains l = ((wd m == l) || (wdL.drop (m + 1)).contains l)) := by
        show _ = _
        rw [wd_drop hlt, List.contains_cons, BEq.comm (a := l)]
      have ht := bsA_tl (wd m)
      have ht2 := bsA_tl l
      cases hq : (wd m == l) with
      | true =>
        have HE : Hid (true = wdL.contains l) := by have h1 := HD.out; rw [hq, HH.out] at h1; show true = _; rw [h1]; rfl
        generalize wd m = x at hx ht hq
        go_wp2
        go_ret
        exact ⟨ret_bool HE.out, rfl⟩
      | false =>
        have HE : Hid ((wdL.drop (m + 1)).contains l = wdL.contains l) := by have h1 := HD.out; rw [hq, HH.out] at h1; show _ = _; rw [h1]; simp
        generalize wd m = x at hx ht hq
        go_wp2
        go_roundw
        case rel => exact ⟨m + 1, by omega, by go_num, HE.out, trivial⟩
        case measure => simp [intOf]; omega
    · obtain rfl : m = 58 := by omega
      have HE : Hid (false = wdL.contains l) := by show false = _; rw [← HH.out]; rfl
      go_wp2
      go_ret
      exact ⟨ret_bool HE.out, rfl⟩
def namP (l : List UInt8) : Tk × Int × Int := if wdL.contains (Lib.toLowerA (l.take (ldN ptB l))) then ((2, Lib.toLowerA (l.take (ldN ptB l)), 0), (l.take (ldN ptB l)).length, 0) else ((1, l.take (ldN ptB l), 0), (l.take (ldN ptB l)).length, 0)
theorem ptB_ascii {c : Nat} (h : ptB c = true) : c < 128 := by
  unfold ptB ltB dgB at h
  simp at h
  omega
theorem ld_ascii (l : List UInt8) : ∀ (j : Nat) (b : UInt8), (l.take (ldN ptB l))[j]? = some b → b.toNat < 128 := by
  intro j b hb
  have e : l.take (ldN ptB l) = l.takeWhile fun c => ptB c.toNat := by
    unfold ldN
    exact (List.prefix_iff_eq_take.1 (List.takeWhile_prefix _)).symm
  rw [e] at hb
  exact ptB_ascii (List.all_eq_true.1 (List.all_takeWhile (p := fun c : UInt8 => ptB c.toNat) (l := l)) b (List.mem_of_getElem? hb))
theorem name_any (l : List UInt8) (w : World) (hR : Rdy w) (hl : l.length ≤ 1048576000) : Calls Tryz.prog 143 #[.string (bsA l)] w fun e w' => e = .returned (.tuple #[tkV (namP l).1 0, .int .i64 (namP l).2.1, .int .i64 (namP l).2.2]) ∧ Below w.heap.size w w' := by
  have h1 := leading_isPart l (w.alloc tokO) hl
  have h2 := Tryz.strings_ToLower_ascii (bsA (l.take (ldN ptB l))) (w.alloc tokO) (by rw [bsA_size, List.length_take]; omega) (by rw [bsA_list]; exact ld_ascii l)
  rw [bsA_list] at h2
  change Calls Tryz.prog 152 _ _ (fun e w' => e = .returned (.string (bsA (Lib.toLowerA (l.take (ldN ptB l))))) ∧ Below (w.alloc tokO).heap.size (w.alloc tokO) w') at h2
  have hlt : (l.take (ldN ptB l)).length ≤ 1048576000 := by rw [List.length_take]; omega
  unfold namP tkV
  generalize l.take (ldN ptB l) = t at h1 h2 hlt ⊢
  have h3 := fun w2 (hb : Below (w.alloc tokO).heap.size (w.alloc tokO) w2) => isWord_any (Lib.toLowerA t) w2 ((hR.alloc tokO).below hb)
  generalize Lib.toLowerA t = s at h2 h3 ⊢
  have hz := bsA_size t
  clear hR
  cases hw : wdL.contains s with
  | true =>
    simp only [hw] at h3 ⊢
    go_enter Tryz.func143, Tryz.ntmps143
    go_wp2_with fail
    refine h1.mono ?_
    rintro e w' ⟨rfl, rfl⟩
    go_wp2_with fail
    refine h2.mono ?_
    rintro e w2 ⟨rfl, hb⟩
    have h4 := h3 w2 hb
    obtain ⟨y0, y1, y2, y3, f0, f1, f2, f3⟩ := tokBox hb
    have hB : Below w.heap.size w w2 := ((Below.refl _ _).alloc (Nat.le_refl _) _).trans (hb.mono (by simp))
    clear hb h1 h2 h3
    go_wp2_with fail
    refine h4.mono ?_
    rintro e w' ⟨rfl, rfl⟩
    go_wp2
    refine bodyPost_ret (v := .tuple #[.agg #[.int .i64 2, .string (bsA s), .int .i64 0, .int .i64 0], .int .i64 t.length, .int .i64 0]) (by simp [results, Tryz.results143, go_sem, y0, y1, y2, y3]) rfl ⟨rfl, (((hB.setCell (p := ⟨w.heap.size, 0, none⟩) (Nat.le_refl _) _).setCell (p := ⟨w.heap.size, 1, none⟩) (Nat.le_refl _) _).setCell (p := ⟨w.heap.size, 2, none⟩) (Nat.le_refl _) _).setCell (p := ⟨w.heap.size, 3, none⟩) (Nat.le_refl _) _⟩
  | false =>
    simp only [hw] at h3 ⊢
    go_enter Tryz.func143, Tryz.ntmps143
    go_wp2_with fail
    refine h1.mono ?_
    rintro e w' ⟨rfl, rfl⟩
    go_wp2_with fail
    refine h2.mono ?_
    rintro e w2 ⟨rfl, hb⟩
    have h4 := h3 w2 hb
    obtain ⟨y0, y1, y2, y3, f0, f1, f2, f3⟩ := tokBox hb
    have hB : Below w.heap.size w w2 := ((Below.refl _ _).alloc (Nat.le_refl _) _).trans (hb.mono (by simp))
    clear hb h1 h2 h3
    go_wp2_with fail
    refine h4.mono ?_
    rintro e w' ⟨rfl, rfl⟩
    go_wp2
    refine bodyPost_ret (v := .tuple #[.agg #[.int .i64 1, .string (bsA t), .int .i64 0, .int .i64 0], .int .i64 t.length, .int .i64 0]) (by simp [results, Tryz.results143, go_sem, y0, y1, y2, y3]) rfl ⟨rfl, (((hB.setCell (p := ⟨w.heap.size, 0, none⟩) (Nat.le_refl _) _).setCell (p := ⟨w.heap.size, 1, none⟩) (Nat.le_refl _) _).setCell (p := ⟨w.heap.size, 2, none⟩) (Nat.le_refl _) _).setCell (p := ⟨w.heap.size, 3, none⟩) (Nat.le_refl _) _⟩
theorem boxAt {w w2 : World} {v0 v1 v2 v3 : Value} (hb : Below (w.alloc (.cells #[v0, v1, v2, v3] 78)).heap.size (w.alloc (.cells #[v0, v1, v2, v3] 78)) w2) :
    w2.cell? ⟨w.heap.size, 0, none⟩ = some v0 ∧ w2.cell? ⟨w.heap.size, 1, none⟩ = some v1 ∧ w2.cell? ⟨w.heap.size, 2, none⟩ = some v2 ∧ w2.cell? ⟨w.heap.size, 3, none⟩ = some v3 ∧
    w2.frozen? ⟨w.heap.size, 0, none⟩ = false ∧ w2.frozen? ⟨w.heap.size, 1, none⟩ = false ∧ w2.frozen? ⟨w.heap.size, 2, none⟩ = false ∧ w2.frozen? ⟨w.heap.size, 3, none⟩ = false := by
  have hlt : w.heap.size < (w.alloc (.cells #[v0, v1, v2, v3] 78)).heap.size := by simp
  have hn := hb.block w.heap.size hlt
  have he : (w.alloc (.cells #[v0, v1, v2, v3] 78)).heap[w.heap.size]? = some (.cells #[v0, v1, v2, v3] 78) := by show (w.heap.push _)[w.heap.size]? = _; simp
  rw [he] at hn
  unfold World.cell? World.frozen?
  simp only [hn]
  refine ⟨rfl, rfl, rfl, rfl, rfl, rfl, rfl, rfl⟩
/-- Four cells of a block stay as they are. -/
structure Box (w : World) (b : Nat) (v0 v1 v2 v3 : Value) : Prop where
  c0 : w.cell? ⟨b, 0, none⟩ = some v0
  c1 : w.cell? ⟨b, 1, none⟩ = some v1
  c2 : w.cell? ⟨b, 2, none⟩ = some v2
  c3 : w.cell? ⟨b, 3, none⟩ = some v3
  f0 : w.frozen? ⟨b, 0, none⟩ = false
  f1 : w.frozen? ⟨b, 1, none⟩ = false
  f2 : w.frozen? ⟨b, 2, none⟩ = false
  f3 : w.frozen? ⟨b, 3, none⟩ = false
theorem Box.new (w : World) (v0 v1 v2 v3 : Value) : Box (w.alloc (.cells #[v0, v1, v2, v3] 78)) w.heap.size v0 v1 v2 v3 := by
  obtain ⟨h0, h1, h2, h3, h4, h5, h6, h7⟩ := boxAt (Below.refl (w.alloc (.cells #[v0, v1, v2, v3] 78)).heap.size (w.alloc (.cells #[v0, v1, v2, v3] 78)))
  exact ⟨h0, h1, h2, h3, h4, h5, h6, h7⟩
theorem Box.below {w w2 : World} {b : Nat} {v0 v1 v2 v3 : Value} (h : Box w b v0 v1 v2 v3) (hb : Below w.heap.size w w2) : Box w2 b v0 v1 v2 v3 where
  c0 := cell_below hb h.c0
  c1 := cell_below hb h.c1
  c2 := cell_below hb h.c2
  c3 := cell_below hb h.c3
  f0 := (hb.frozen (p := ⟨b, 0, none⟩) (cell_lt h.c0)).trans h.f0
  f1 := (hb.frozen (p := ⟨b, 1, none⟩) (cell_lt h.c0)).trans h.f1
  f2 := (hb.frozen (p := ⟨b, 2, none⟩) (cell_lt h.c0)).trans h.f2
  f3 := (hb.frozen (p := ⟨b, 3, none⟩) (cell_lt h.c0)).trans h.f3
theorem Box.set {w : World} {b : Nat} {v0 v1 v2 v3 : Value} (h : Box w b v0 v1 v2 v3) (u0 u1 u2 u3 : Value) :
    Box ((((w.setCell ⟨b, 0, none⟩ u0).setCell ⟨b, 1, none⟩ u1).setCell ⟨b, 2, none⟩ u2).setCell ⟨b, 3, none⟩ u3) b u0 u1 u2 u3 := by
  obtain ⟨c0, c1, c2, c3, f0, f1, f2, f3⟩ := h
  refine ⟨?_, ?_, ?_, ?_, ?_, ?_, ?_, ?_⟩
  · simp [go_sem, c0]
  · simp [go_sem, c1]
  · simp [go_sem, c2]
  · simp [go_sem, c3]
  · simpa using f0
  · simpa using f1
  · simpa using f2
  · simpa using f3
theorem below_new {w w2 : World} (h : Below w.heap.size w w2) (o : Obj) : Below w.heap.size w (w2.alloc o) := h.alloc h.size o
theorem info37 : (Tryz.prog.info? 78).map (fun i => (i.zero, i.size, i.bytes)) = some (some (.agg #[.int .i64 0, .string ⟨#[]⟩, .int .i64 0, .int .i64 0]), 4, 40) := by kernel_rfl
theorem heap_lt {w : World} {b : Nat} {o : Obj} (h : w.heap[b]? = some o) : b < w.heap.size := by
  rcases Nat.lt_or_ge b w.heap.size with h' | h'
  · exact h'
  · rw [Array.getElem?_eq_none h'] at h; cases h
/-- A token with its place. -/
abbrev Tt := Tk × Int
def tkC (t : Tt) : List Value := [.int .i64 t.1.1, .string (bsA t.1.2.1), .int .i64 t.1.2.2, .int .i64 t.2]
def rtC (r : List Tt) : List Value := r.flatMap tkC
theorem rtC_nil : rtC [] = [] := rfl
theorem rtC_snoc (r : List Tt) (t : Tt) : rtC (r ++ [t]) = rtC r ++ tkC t := by simp [rtC]
theorem rtC_len : ∀ r : List Tt, (rtC r).length = r.length * 4
  | [] => rfl
  | t :: r => by
    have := rtC_len r
    simp only [rtC, List.flatMap_cons, List.length_append] at this ⊢
    rw [this]; simp [tkC]; omega
theorem rtC_at : ∀ (r : List Tt) (i : Nat) (t : Tt), r[i]? = some t → (rtC r)[i * 4]? = some (.int .i64 t.1.1) ∧ (rtC r)[i * 4 + 1]? = some (.string (bsA t.1.2.1)) ∧ (rtC r)[i * 4 + 2]? = some (.int .i64 t.1.2.2) ∧ (rtC r)[i * 4 + 3]? = some (.int .i64 t.2)
  | [], i, t, h => by simp at h
  | u :: r, 0, t, h => by
    simp only [List.getElem?_cons_zero, Option.some.injEq] at h
    subst h
    exact ⟨rfl, rfl, rfl, rfl⟩
  | u :: r, i + 1, t, h => by
    simp only [List.getElem?_cons_succ] at h
    obtain ⟨h0, h1, h2, h3⟩ := rtC_at r i t h
    have e : rtC (u :: r) = tkC u ++ rtC r := rfl
    have el : (tkC u).length = 4 := rfl
    rw [e]
    refine ⟨?_, ?_, ?_, ?_⟩
    · rw [List.getElem?_append_right (by rw [el]; omega), el, show (i + 1) * 4 - 4 = i * 4 by omega]; exact h0
    · rw [List.getElem?_append_right (by rw [el]; omega), el, show (i + 1) * 4 + 1 - 4 = i * 4 + 1 by omega]; exact h1
    · rw [List.getElem?_append_right (by rw [el]; omega), el, show (i + 1) * 4 + 2 - 4 = i * 4 + 2 by omega]; exact h2
    · rw [List.getElem?_append_right (by rw [el]; omega), el, show (i + 1) * 4 + 3 - 4 = i * 4 + 3 by omega]; exact h3
theorem rtC_one (r : List Tt) : ∀ u ∈ rtC r, u.oneCell' = true := by
  intro u hu
  unfold rtC at hu
  rw [List.mem_flatMap] at hu
  obtain ⟨t, _, hu⟩ := hu
  simp only [tkC, List.mem_cons, List.not_mem_nil, or_false] at hu
  rcases hu with rfl | rfl | rfl | rfl <;> rfl
/-- A slice of tokens. -/
def TksAt (w : World) (a : Option Addr) (r : List Tt) : Prop :=
  r = [] ∨ ∃ b off, a = some ⟨b, off, none⟩ ∧ ∀ i t, r[i]? = some t → w.cell? ⟨b, off + i * 4, none⟩ = some (.int .i64 t.1.1) ∧ w.cell? ⟨b, off + i * 4 + 1, none⟩ = some (.string (bsA t.1.2.1)) ∧ w.cell? ⟨b, off + i * 4 + 2, none⟩ = some (.int .i64 t.1.2.2) ∧ w.cell? ⟨b, off + i * 4 + 3, none⟩ = some (.int .i64 t.2)
theorem TksAt.below {w w' : World} {a : Option Addr} {r : List Tt} (h : TksAt w a r) (hb : Below w.heap.size w w') : TksAt w' a r := by
  rcases h with h | ⟨b, off, ha, hc⟩
  · exact Or.inl h
  · exact Or.inr ⟨b, off, ha, fun i t hi => ⟨cell_below hb (hc i t hi).1, cell_below hb (hc i t hi).2.1, cell_below hb (hc i t hi).2.2.1, cell_below hb (hc i t hi).2.2.2⟩⟩
theorem TksAt.alloc {w : World} {a : Option Addr} {r : List Tt} (h : TksAt w a r) (o : Obj) : TksAt (w.alloc o) a r := h.below ((Below.refl _ _).alloc (Nat.le_refl _) o)
theorem tks_of_owns {w : World} {base : Nat} {vv : Value} {r : List Tt} (h : w.ownsRow base 78 4 vv r.length (rtC r)) : ∃ a cap, vv = .slice a r.length cap ∧ TksAt w a r ∧ (∀ g o, a = some ⟨g, o, none⟩ → base ≤ g) ∧ r.length ≤ cap := by
  have h' := h
  obtain ⟨hlen, ⟨rfl, h0⟩ | ⟨g, cap, cur, rfl, hbg, hg, hcap, hcm, hcs, htake⟩⟩ := h
  · exact ⟨none, 0, by rw [h0], Or.inl (List.length_eq_zero_iff.1 h0), (fun _ _ e => by cases e), by omega⟩
  refine ⟨_, cap, rfl, Or.inr ⟨g, 0, rfl, fun i t hi => ?_⟩, fun g' o' e => by injection e with e; injection e with e1 e2 _; subst e1; exact hbg, hcap⟩
  have hc := h'.cells (g := g) rfl
  obtain ⟨a, b, c, d⟩ := rtC_at r i t hi
  have ea := hc _ _ a
  have eb := hc _ _ b
  have ec := hc _ _ c
  have ed := hc _ _ d
  rw [add_plain] at ea eb ec ed
  rw [Nat.zero_add] at ea eb ec ed ⊢
  exact ⟨ea, eb, ec, ed⟩
theorem tkCells_new (w : World) (t : Tt) : ∀ j u, (rtC [t])[j]? = some u → (w.alloc (.cells #[.int .i64 t.1.1, .string (bsA t.1.2.1), .int .i64 t.1.2.2, .int .i64 t.2] 78)).cell? ((⟨w.heap.size, 0, none⟩ : Addr).add j) = some u := by
  have e : rtC [t] = [.int .i64 t.1.1, .string (bsA t.1.2.1), .int .i64 t.1.2.2, .int .i64 t.2] := rfl
  have bo := Box.new w (.int .i64 t.1.1) (.string (bsA t.1.2.1)) (.int .i64 t.1.2.2) (.int .i64 t.2)
  rw [e]
  intro j u hj
  rw [add_plain]
  match j, hj with
  | 0, hj => simp only [List.getElem?_cons_zero, Option.some.injEq] at hj; subst hj; exact bo.c0
  | 1, hj => simp only [List.getElem?_cons_succ, List.getElem?_cons_zero, Option.some.injEq] at hj; subst hj; exact bo.c1
  | 2, hj => simp only [List.getElem?_cons_succ, List.getElem?_cons_zero, Option.some.injEq] at hj; subst hj; exact bo.c2
  | 3, hj => simp only [List.getElem?_cons_succ, List.getElem?_cons_zero, Option.some.injEq] at hj; subst hj; exact bo.c3
  | j + 4, hj => simp at hj
theorem owns_below {w w' : World} {base e size n : Nat} {v : Value} {xs : List Value} (h : w.ownsRow base e size v n xs) (hb : Below w.heap.size w w') : w'.ownsRow base e size v n xs :=
  h.kept (row := none) ⟨hb.os, hb.tape, hb.output, hb.size, fun k hk _ => hb.block k hk⟩ (by cases v.ownBlock <;> simp)
theorem tw_all (p : Nat → Bool) : ∀ (t : List UInt8), (∀ c ∈ t, p c.toNat = true) → ldN p t = t.length := by
  intro t h
  unfold ldN
  induction t with
  | nil => rfl
  | cons c t ih =>
    rw [List.takeWhile_cons, if_pos (h c (by simp)), List.length_cons, List.length_cons, ih fun d hd => h d (by simp [hd])]
/-- The token that a name is. -/
def tkN (l : List UInt8) : Tk := if wdL.contains (Lib.toLowerA l) then (2, Lib.toLowerA l, 0) else (1, l, 0)
theorem namP_nm (l : List UInt8) (ha : ∀ d ∈ l, ptB d.toNat = true) : namP l = (tkN l, (l.length : Int), 0) := by
  unfold namP tkN
  rw [tw_all ptB _ ha, List.take_length]
  split <;> rfl
theorem token_nm (c : UInt8) (r : List UInt8) (w : World) (hR : Rdy w) (hlt : ltB c.toNat = true) (ha : ∀ d ∈ c :: r, ptB d.toNat = true) (hl : (c :: r).length ≤ 64) : Calls Tryz.prog 138 #[.string (bsA (c :: r))] w fun e w' => e = .returned (.tuple #[tkV (tkN (c :: r)) 0, .int .i64 (c :: r).length, .int .i64 0]) ∧ Below w.heap.size w w' := by
  have hz := bsA_size (c :: r)
  have h0 : 0 < (bsA (c :: r)).size := by rw [hz]; simp
  have hc : (bsA (c :: r))[0]'h0 = c := rfl
  have h1 := isLetter_any c.toNat (w.alloc tokO)
  have h3 := name_any (c :: r) (w.alloc tokO) (hR.alloc _) (by omega)
  rw [namP_nm _ ha] at h3
  rw [hlt] at h1
  clear hR ha
  generalize (c :: r).length = n at hz hl h3 ⊢
  generalize tkN (c :: r) = q at h3 ⊢
  generalize bsA (c :: r) = S at hz h0 hc h3 ⊢
  obtain ⟨q1, q2, q3⟩ := q
  unfold tkV at h3 ⊢
  dsimp only at h3 ⊢
  go_enter Tryz.func138, Tryz.ntmps138
  go_wp2_with fail
  refine h1.mono ?_
  rintro e w' ⟨rfl, rfl⟩
  go_wp2_with fail
  refine h3.mono ?_
  rintro e w2 ⟨rfl, hb⟩
  obtain ⟨y0, y1, y2, y3, f0, f1, f2, f3⟩ := tokBox hb
  have hB : Below w.heap.size w w2 := ((Below.refl _ _).alloc (Nat.le_refl _) _).trans (hb.mono (by simp))
  clear hb h3
  go_wp2
  refine bodyPost_ret (v := .tuple #[.agg #[.int .i64 q1, .string (bsA q2), .int .i64 q3, .int .i64 0], .int .i64 n, .int .i64 0]) (by simp [results, Tryz.results138, go_sem, y0, y1, y2, y3]) rfl ⟨rfl, (((hB.setCell (p := ⟨w.heap.size, 0, none⟩) (Nat.le_refl _) _).setCell (p := ⟨w.heap.size, 1, none⟩) (Nat.le_refl _) _).setCell (p := ⟨w.heap.size, 2, none⟩) (Nat.le_refl _) _).setCell (p := ⟨w.heap.size, 3, none⟩) (Nat.le_refl _) _⟩
theorem next_end (s : List UInt8) (w : World) (_hl : s.length ≤ 64) : Calls Tryz.prog 131 #[.string (bsA s), .int .i64 s.length] w fun e w' => e = .returned (.tuple #[.agg #[.int .i64 0, .string ⟨#[]⟩, .int .i64 0, .int .i64 s.length], .int .i64 s.length, .int .i64 0]) ∧ Below w.heap.size w w' := by
  have hz := bsA_size s
  have hx : (bsA s).extract s.length s.length = bsA [] := by rw [ext_drop', List.drop_length]
  have htl : (bsA ([] : List UInt8)).toList = [] := bsA_tl []
  have hB1 : Below w.heap.size w (w.alloc tokO) := (Below.refl _ _).alloc (Nat.le_refl _) _
  obtain ⟨y0, y1, y2, y3, f0, f1, f2, f3⟩ := Box.new w (.int .i64 0) (.string ⟨#[]⟩) (.int .i64 0) (.int .i64 0)
  generalize s.length = n at hz _hl hx ⊢
  generalize bsA s = S at hz hx ⊢
  go_enter Tryz.func131, Tryz.ntmps131
  go_wp2
  refine wp_scope_jumps 0 (fun _ _ => False) (fun _ _ => 0) rfl ?_ (fun _ _ h => h.elim)
  go_wp2
  go_step3
  rename_i hK
  apply hK
  clear hK
  change Code.wp _ _ _ _ (w.alloc tokO)
  have z0 : (w.alloc tokO).cell? ⟨w.heap.size, 0, none⟩ = some (.int .i64 0) := y0
  have z1 : (w.alloc tokO).cell? ⟨w.heap.size, 1, none⟩ = some (.string ⟨#[]⟩) := y1
  have z2 : (w.alloc tokO).cell? ⟨w.heap.size, 2, none⟩ = some (.int .i64 0) := y2
  have z3 : (w.alloc tokO).cell? ⟨w.heap.size, 3, none⟩ = some (.int .i64 0) := y3
  have g0 : (w.alloc tokO).frozen? ⟨w.heap.size, 0, none⟩ = false := f0
  have g1 : (w.alloc tokO).frozen? ⟨w.heap.size, 1, none⟩ = false := f1
  have g2 : (w.alloc tokO).frozen? ⟨w.heap.size, 2, none⟩ = false := f2
  have g3 : (w.alloc tokO).frozen? ⟨w.heap.size, 3, none⟩ = false := f3
  clear y0 y1 y2 y3 f0 f1 f2 f3
  generalize w.alloc tokO = W1 at hB1 z0 z1 z2 z3 g0 g1 g2 g3 ⊢
  go_wp2
  simp only [Exit.jump]
  refine bodyPost_ret (v := .tuple #[.agg #[.int .i64 0, .string ⟨#[]⟩, .int .i64 0, .int .i64 n], .int .i64 n, .int .i64 0]) (by simp [results, Tryz.results131, go_sem, z0, z1, z2, z3]) rfl ⟨rfl, ((((hB1.setCell (p := ⟨w.heap.size, 0, none⟩) (Nat.le_refl _) _).setCell (p := ⟨w.heap.size, 1, none⟩) (Nat.le_refl _) _).setCell (p := ⟨w.heap.size, 2, none⟩) (Nat.le_refl _) _).setCell (p := ⟨w.heap.size, 3, none⟩) (Nat.le_refl _) _)⟩
theorem lt_bl (c : UInt8) (h : ltB c.toNat = true) : blB c.toNat = false := by
  unfold ltB at h
  unfold blB
  simp only [Bool.or_eq_true, Bool.and_eq_true, decide_eq_true_eq, beq_iff_eq, Bool.or_eq_false_iff, beq_eq_false_iff_ne] at h ⊢
  omega
theorem lt_pre (c d : UInt8) (r p : List UInt8) (h : c ≠ d) : Lib.hasPrefix (c :: r) (d :: p) = false := by
  unfold Lib.hasPrefix
  simp only [List.isPrefixOf, Bool.and_eq_false_iff, beq_eq_false_iff_ne]
  exact Or.inl fun e => h e.symm
theorem next_nm (c : UInt8) (r : List UInt8) (w : World) (hR : Rdy w) (hlt : ltB c.toNat = true) (ha : ∀ d ∈ c :: r, ptB d.toNat = true) (hl : (c :: r).length ≤ 64) : Calls Tryz.prog 131 #[.string (bsA (c :: r)), .int .i64 0] w fun e w' => e = .returned (.tuple #[tkV (tkN (c :: r)) 0, .int .i64 (c :: r).length, .int .i64 0]) ∧ Below w.heap.size w w' := by
  have hz := bsA_size (c :: r)
  have hx : (bsA (c :: r)).extract 0 (c :: r).length = bsA (c :: r) := by rw [ext_drop', List.drop_zero]
  have hB1 : Below w.heap.size w (w.alloc tokO) := (Below.refl _ _).alloc (Nat.le_refl _) _
  have bo : Box (w.alloc tokO) w.heap.size (.int .i64 0) (.string ⟨#[]⟩) (.int .i64 0) (.int .i64 0) := Box.new w _ _ _ _
  have hb := isBlank_any c.toNat (w.alloc tokO)
  rw [lt_bl c hlt] at hb
  have hp1 := Tryz.strings_HasPrefix (bsA (c :: r)) ⟨#[45, 45]⟩ (w.alloc tokO)
  have hp2 := Tryz.strings_HasPrefix (bsA (c :: r)) ⟨#[47, 42]⟩ (w.alloc tokO)
  rw [bsA_list] at hp1 hp2
  change Calls Tryz.prog 135 _ _ (fun e w' => e = .returned (.bool (Lib.hasPrefix (c :: r) [45, 45])) ∧ w' = _) at hp1
  change Calls Tryz.prog 135 _ _ (fun e w' => e = .returned (.bool (Lib.hasPrefix (c :: r) [47, 42])) ∧ w' = _) at hp2
  rw [lt_pre c 45 r [45] (by rintro rfl; revert hlt; decide)] at hp1
  rw [lt_pre c 47 r [42] (by rintro rfl; revert hlt; decide)] at hp2
  have htok := token_nm c r (w.alloc tokO) (hR.alloc _) hlt ha hl
  have h0 : 0 < (bsA (c :: r)).size := by rw [hz]; simp
  have hc : (bsA (c :: r))[0]'h0 = c := rfl
  have hSt : ((bsA (c :: r)).toList == []) = false := by rw [bsA_tl]; rfl
  clear hR ha hlt
  generalize tkN (c :: r) = q at htok ⊢
  generalize (c :: r).length = n at hz hl hx htok ⊢
  generalize bsA (c :: r) = S at hz hx hp1 hp2 htok h0 hc hSt ⊢
  obtain ⟨q1, q2, q3⟩ := q
  unfold tkV at htok ⊢
  dsimp only at htok ⊢
  go_enter Tryz.func131, Tryz.ntmps131
  go_wp2
  refine wp_scope_jumps 0 (fun _ _ => False) (fun _ _ => 0) rfl ?_ (fun _ _ h => h.elim)
  go_wp2
  go_step3
  rename_i hK
  apply hK
  clear hK
  change Code.wp _ _ _ _ (w.alloc tokO)
  generalize w.alloc tokO = W1 at hB1 bo hb hp1 hp2 htok ⊢
  have hsz := cell_lt bo.c0
  go_wp2_with fail
  refine hb.mono ?_
  rintro e w' ⟨rfl, rfl⟩
  go_wp2_with fail
  refine hp1.mono ?_
  rintro e w' ⟨rfl, rfl⟩
  go_wp2_with fail
  refine hp2.mono ?_
  rintro e w' ⟨rfl, rfl⟩
  go_wp2_with fail
  refine htok.mono ?_
  rintro e w2 ⟨rfl, hbb⟩
  have hB2 : Below w.heap.size w w2 := hB1.trans (hbb.mono hB1.size)
  have bo2 := bo.below hbb
  obtain ⟨y0, y1, y2, y3, f0, f1, f2, f3⟩ := bo2
  have hsz2 : w.heap.size < w2.heap.size := cell_lt y0
  clear htok hbb bo hb hp1 hp2
  have hB3 : Below w.heap.size w (((((w2.setCell ⟨w.heap.size, 0, none⟩ (.int .i64 q1)).setCell ⟨w.heap.size, 1, none⟩ (.string (bsA q2))).setCell ⟨w.heap.size, 2, none⟩ (.int .i64 q3)).setCell ⟨w.heap.size, 3, none⟩ (.int .i64 0)).alloc (Obj.cells #[Value.int IntKind.i64 q1, Value.string (bsA q2), Value.int IntKind.i64 q3, Value.int IntKind.i64 0] 78)) := Below.alloc ((((hB2.setCell (p := ⟨w.heap.size, 0, none⟩) (Nat.le_refl _) _).setCell (p := ⟨w.heap.size, 1, none⟩) (Nat.le_refl _) _).setCell (p := ⟨w.heap.size, 2, none⟩) (Nat.le_refl _) _).setCell (p := ⟨w.heap.size, 3, none⟩) (Nat.le_refl _) _) (by simp; omega) _
  obtain ⟨z0, z1, z2, z3, _, _, _, _⟩ := ((Box.mk y0 y1 y2 y3 f0 f1 f2 f3).set (.int .i64 q1) (.string (bsA q2)) (.int .i64 q3) (.int .i64 0)).below ((Below.refl _ _).alloc (Nat.le_refl _) (Obj.cells #[Value.int IntKind.i64 q1, Value.string (bsA q2), Value.int IntKind.i64 q3, Value.int IntKind.i64 0] 78))
  clear hB2
  go_wp2
  generalize ((((w2.setCell ⟨w.heap.size, 0, none⟩ (.int .i64 q1)).setCell ⟨w.heap.size, 1, none⟩ (.string (bsA q2))).setCell ⟨w.heap.size, 2, none⟩ (.int .i64 q3)).setCell ⟨w.heap.size, 3, none⟩ (.int .i64 0)).alloc (Obj.cells #[Value.int IntKind.i64 q1, Value.string (bsA q2), Value.int IntKind.i64 q3, Value.int IntKind.i64 0] 78) = W3 at hB3 z0 z1 z2 z3 ⊢
  simp only [Exit.jump]
  refine bodyPost_ret (v := .tuple #[.agg #[.int .i64 q1, .string (bsA q2), .int .i64 q3, .int .i64 0], .int .i64 n, .int .i64 0]) (by simp [results, Tryz.results131, go_sem, z0, z1, z2, z3]) rfl ⟨rfl, hB3⟩
/-- What Lex tells of a name: one token. -/
def LexOne (s : List UInt8) (e : Ending) (w' : World) : Prop := ∃ g off cap, e = .returned (.tuple #[.slice (some ⟨g, off, none⟩) 1 cap, .int .i64 0, .int .i64 0]) ∧ w'.cell? ⟨g, off, none⟩ = some (.int .i64 (tkN s).1) ∧ w'.cell? ⟨g, off + 1, none⟩ = some (.string (bsA (tkN s).2.1)) ∧ w'.cell? ⟨g, off + 2, none⟩ = some (.int .i64 (tkN s).2.2) ∧ w'.cell? ⟨g, off + 3, none⟩ = some (.int .i64 0)
theorem tkN_ne (s : List UInt8) : (tkN s).1 ≠ 0 := by
  unfold tkN
  split
  · show (2 : Int) ≠ 0
    decide
  · show (1 : Int) ≠ 0
    decide
theorem Lex_nm (c : UInt8) (r : List UInt8) (w : World) (hR : Rdy w) (hlt : ltB c.toNat = true) (ha : ∀ d ∈ c :: r, ptB d.toNat = true) (hl : (c :: r).length ≤ 64) : Calls Tryz.prog 121 #[.string (bsA (c :: r))] w fun e w' => LexOne (c :: r) e w' ∧ Below w.heap.size w w' := by
  obtain ⟨i0, hi, hz0⟩ := Option.map_eq_some_iff.1 info37
  simp only [Prod.mk.injEq] at hz0
  obtain ⟨hz, hs, hb3⟩ := hz0
  have hzs := bsA_size (c :: r)
  have HN1 : Hid (∀ W, Rdy W → _) := fun W h => next_nm c r W h hlt ha hl
  have HN2 : Hid (∀ W, _) := fun W => next_end (c :: r) W hl
  have hne := tkN_ne (c :: r)
  unfold LexOne
  have HRD : Hid _ := hR
  clear ha hlt hR
  have hpos : 0 < (c :: r).length := by simp
  generalize tkN (c :: r) = q at HN1 hne ⊢
  generalize (c :: r).length = n at hzs hl HN1 HN2 hpos
  generalize bsA (c :: r) = S at hzs HN1 HN2 ⊢
  obtain ⟨q1, q2, q3⟩ := q
  unfold tkV at HN1
  dsimp only at HN1 hne ⊢
  go_enter Tryz.func121, Tryz.ntmps121
  go_wp2
  refine wp_loop_rounds 2 ?_
  rw [rounds_succ]
  have h1 := HN1.out w HRD.out
  go_wp2_with fail
  refine h1.mono ?_
  rintro e w1 ⟨rfl, hb1⟩
  clear h1
  have hk' : ¬ q1 = 0 := hne
  have hB2 : Below w.heap.size w (w1.alloc (Obj.cells #[Value.int IntKind.i64 q1, Value.string (bsA q2), Value.int IntKind.i64 q3, Value.int IntKind.i64 0] 78)) := below_new hb1 _
  obtain ⟨c0, c1, c2, c3, _, _, _, _⟩ := Box.new w1 (.int .i64 q1) (.string (bsA q2)) (.int .i64 q3) (.int .i64 0)
  have hrow : Hid (((w1.alloc (Obj.cells #[Value.int IntKind.i64 q1, Value.string (bsA q2), Value.int IntKind.i64 q3, Value.int IntKind.i64 0] 78)).alloc (Obj.cells #[Value.int IntKind.i64 q1, Value.string (bsA q2), Value.int IntKind.i64 q3, Value.int IntKind.i64 0] 78)).ownsRow w.heap.size 78 4 (.slice none 0 0) 0 (rtC [])) := World.ownsRow_nil _ _ _ _
  have hcel : Hid _ := tkCells_new (w1.alloc (Obj.cells #[Value.int IntKind.i64 q1, Value.string (bsA q2), Value.int IntKind.i64 q3, Value.int IntKind.i64 0] 78)) ((q1, q2, q3), 0)
  have hone : Hid (∀ u ∈ rtC [((q1, q2, q3), 0)], u.oneCell' = true) := rtC_one _
  have hnl : 0 + 1 ≤ maxLen := by unfold maxLen; omega
  have hby : (0 + 1) * 40 ≤ 140737488355328 := by omega
  have hbw2 : w.heap.size ≤ ((w1.alloc (Obj.cells #[Value.int IntKind.i64 q1, Value.string (bsA q2), Value.int IntKind.i64 q3, Value.int IntKind.i64 0] 78)).alloc (Obj.cells #[Value.int IntKind.i64 q1, Value.string (bsA q2), Value.int IntKind.i64 q3, Value.int IntKind.i64 0] 78)).heap.size := by rw [World.size_alloc]; have := hB2.size; omega
  have hvl : Hid ((rtC [((q1, q2, q3), 0)]).length = 1 * 4) := rtC_len _
  have esz : (w1.alloc (Obj.cells #[Value.int IntKind.i64 q1, Value.string (bsA q2), Value.int IntKind.i64 q3, Value.int IntKind.i64 0] 78)).heap.size = w1.heap.size + 1 := World.size_alloc _ _
  rw [esz] at hcel
  have hbw : w.heap.size ≤ (w1.alloc (Obj.cells #[Value.int IntKind.i64 q1, Value.string (bsA q2), Value.int IntKind.i64 q3, Value.int IntKind.i64 0] 78)).heap.size := hB2.size
  go_wp2_with (at_builtin; refine wpList_append_own _ rfl _ _ 74 rfl w.heap.size 78 i0 (.agg #[.int .i64 0, .string ⟨#[]⟩, .int .i64 0, .int .i64 0]) 4 40 Tryz.underlying74 hi hz hs hb3 rfl (by decide) _ _ _ rfl hrow.out ⟨w1.heap.size + 1, 0, none⟩ 1 1 (rtC [((q1, q2, q3), 0)]) rfl hvl.out hcel.out hone.out hnl hby hbw2 ?_)
  intro v3 w3 hown3 hgrow3 hi3
  clear hi3
  have HO3 : Hid (w3.ownsRow w.heap.size 78 4 v3 [((q1, q2, q3), (0 : Int))].length (rtC [((q1, q2, q3), (0 : Int))])) := hown3
  have HB3 : Hid (Below w.heap.size w w3) := by
    exact (hB2.alloc hbw (Obj.cells #[Value.int IntKind.i64 q1, Value.string (bsA q2), Value.int IntKind.i64 q3, Value.int IntKind.i64 0] 78)).grown hgrow3 hbw2 (fun j hj => (hrow.out.lt j hj).1)
  obtain ⟨a, cap, rfl, hta, -, -⟩ := tks_of_owns HO3.out
  rcases hta with h0 | ⟨b, off, rfl, hc⟩
  · cases h0
  obtain ⟨x0, x1, x2, x3⟩ := hc 0 _ rfl
  clear hown3 hgrow3 hrow hcel hone hvl hB2 c0 c1 c2 c3 hb1 esz hbw hbw2 hc
  simp only [Nat.zero_mul, Nat.add_zero] at x0 x1 x2 x3
  have H0 : Hid _ := x0
  have H1 : Hid _ := x1
  have H2 : Hid _ := x2
  have H3 : Hid _ := x3
  have h2 := HN2.out w3
  clear x0 x1 x2 x3
  go_wp2
  rw [rounds_succ]
  go_wp2_with fail
  refine h2.mono ?_
  rintro e w4 ⟨rfl, hb4⟩
  clear h2
  go_wp2
  refine bodyPost_ret (v := .tuple #[.slice (some ⟨b, off, none⟩) 1 cap, .int .i64 0, .int .i64 0]) (by simp [results, Tryz.results121, go_sem]) rfl ⟨⟨b, off, cap, rfl, ?_, ?_, ?_, ?_⟩, below_new (HB3.out.trans (hb4.mono HB3.out.size)) _⟩
  · exact cell_below (below_new hb4 _) H0.out
  · exact cell_below (below_new hb4 _) H1.out
  · exact cell_below (below_new hb4 _) H2.out
  · exact cell_below (below_new hb4 _) H3.out
end Go.Proofs.YtcemogaacicnfaaGreatDoor
