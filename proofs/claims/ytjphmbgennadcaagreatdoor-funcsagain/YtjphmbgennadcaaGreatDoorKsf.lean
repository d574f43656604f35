/- Arguments: their kinds, whether they may be, whether one is null. -/
import Derived.Test.YtjphmbgennadcaaGreatDoorFin
import Derived.Test.YtjphmbgennadcaaGreatDoorMay
import Derived.Test.YtjphmbgennadcaaGreatDoorMem
import Derived.Laws.MakeOwn
namespace Go.Proofs.YtjphmbgennadcaaGreatDoor
set_option maxHeartbeats 4000000
set_option linter.unusedSimpArgs false
open Go.ChangeShapes Go.WideShapes Go.ChangeAt Go.RowKit


def mayV (v : Val) : Bool := mayS v.1 v.2.1 v.2.2
def mayR (r : List Val) : Bool := r.all mayV
theorem mayR_drop {r : List Val} {m : Nat} (h : m < r.length) : mayR (r.drop m) = (mayS (kAt r m) (nAt r m) (tAt r m) && mayR (r.drop (m + 1))) := by
  rw [drop_at h]; rfl
theorem mayBe_some (b off cap : Nat) (r : List Val) (w : World) (hR : Ready w) (hlen : r.length ≤ 9223372036854775807)
    (hc : ∀ i, i < r.length → w.cell? ⟨b, off + i * 3, none⟩ = some (.int .i64 (kAt r i)) ∧ w.cell? ⟨b, off + i * 3 + 1, none⟩ = some (.int .i64 (nAt r i)) ∧ w.cell? ⟨b, off + i * 3 + 2, none⟩ = some (.string (tAt r i))) :
    Calls Tryz.prog 30 #[.slice (some ⟨b, off, none⟩) r.length cap] w fun e w' => e = .returned (.bool (mayR r)) ∧ Below w.heap.size w w' := by
  go_enter Tryz.func30, Tryz.ntmps30
  go_wp2
  go_loopw [7] (fun i wr => ∃ m : Nat, m ≤ r.length ∧ i = .int .i64 m ∧ mayR (r.drop m) = mayR r ∧ Bel w.heap.size w wr) (fun i _ => r.length - (intOf i).toNat)
  case atStart => exact ⟨0, Nat.zero_le _, rfl, rfl, Bel.refl _⟩
  case round =>
    obtain ⟨m, hm, rfl, hV, HB⟩ := hrel
    have HV : Hid (mayR (r.drop m) = mayR r) := hV
    clear hV
    have hW := HB.out
    rcases Nat.lt_or_ge m r.length with hlt | hge
    · have c0 := cell_below hW (hc m hlt).1
      have c1 := cell_below hW (hc m hlt).2.1
      have c2 := cell_below hW (hc m hlt).2.2
      have hRr := hR.below hW
      clear hc
      have hch := Check_any (kAt r m) (nAt r m) (tAt r m)
      generalize hp : mayS (kAt r m) (nAt r m) (tAt r m) = p at hch
      cases p
      · have HN : Hid (mayR r = false) := by show _ = _; rw [← HV.out, mayR_drop hlt, hp]; rfl
        simp only [Bool.false_eq_true, if_false] at hch
        go_wp2_with (go_at_call 69; refine (hch _ (hRr.alloc _)).mono ?_; rintro e w' ⟨rfl, hb⟩)
        go_ret
        exact ⟨ret_bool HN.out.symm, (Bel.out (by repeat (first | exact Bel.refl _ | assumption | refine Bel.drew ?_ | refine Bel.drewN ?_ _ | refine Bel.alloc ?_ _ | refine Bel.setCell ?_ (by simp <;> omega) _ | refine Bel.step ?_ (by assumption))))⟩
      · have HN : Hid (mayR (r.drop (m + 1)) = mayR r) := by show _ = _; rw [← HV.out, mayR_drop hlt, hp]; rfl
        simp only [if_true] at hch
        go_wp2_with (go_at_call 69; refine (hch _ (hRr.alloc _)).mono ?_; rintro e w' ⟨rfl, hb⟩)
        go_roundw
        case rel => exact ⟨m + 1, by omega, by go_num, HN.out, (by repeat (first | exact Bel.refl _ | assumption | refine Bel.drew ?_ | refine Bel.drewN ?_ _ | refine Bel.alloc ?_ _ | refine Bel.setCell ?_ (by simp <;> omega) _ | refine Bel.step ?_ (by assumption)))⟩
        case measure => simp [intOf]; omega
    · obtain rfl : m = r.length := by omega
      have HN : Hid (mayR r = true) := by show _ = _; rw [← HV.out, List.drop_length]; rfl
      clear hc
      go_wp2
      go_ret
      exact ⟨ret_bool HN.out.symm, (Bel.out (by repeat (first | exact Bel.refl _ | assumption | refine Bel.drew ?_ | refine Bel.drewN ?_ _ | refine Bel.alloc ?_ _ | refine Bel.setCell ?_ (by simp <;> omega) _ | refine Bel.step ?_ (by assumption))))⟩
theorem mayBe_none (a : Option Addr) (cap : Nat) (w : World) : Calls Tryz.prog 30 #[.slice a 0 cap] w fun e w' => e = .returned (.bool true) ∧ Below w.heap.size w w' := by
  go_enter Tryz.func30, Tryz.ntmps30
  go_wp2
  refine wp_loop_rounds 1 ?_
  rw [rounds_succ]
  go_wp2
  go_ret
  exact ⟨rfl, (Bel.out (by repeat (first | exact Bel.refl _ | assumption | refine Bel.drew ?_ | refine Bel.drewN ?_ _ | refine Bel.alloc ?_ _ | refine Bel.setCell ?_ (by simp <;> omega) _ | refine Bel.step ?_ (by assumption))))⟩
theorem mayBeR_any (a : Option Addr) (cap : Nat) (r : List Val) (w : World) (hR : Ready w) (hlen : r.length ≤ 9223372036854775807) (hr : RowAt w a r) :
    Calls Tryz.prog 30 #[.slice a r.length cap] w fun e w' => e = .returned (.bool (mayR r)) ∧ Below w.heap.size w w' := by
  rcases hr with h0 | ⟨b, off, rfl, hc⟩
  · obtain rfl : r = [] := List.length_eq_zero_iff.1 h0
    exact mayBe_none a cap w
  · exact mayBe_some b off cap r w hR hlen hc

theorem hasNull_some (b off cap : Nat) (r : List Val) (w : World) (hlen : r.length ≤ 9223372036854775807)
    (hc : ∀ i, i < r.length → w.cell? ⟨b, off + i * 3, none⟩ = some (.int .i64 (kAt r i)) ∧ w.cell? ⟨b, off + i * 3 + 1, none⟩ = some (.int .i64 (nAt r i)) ∧ w.cell? ⟨b, off + i * 3 + 2, none⟩ = some (.string (tAt r i))) :
    Calls Tryz.prog 31 #[.slice (some ⟨b, off, none⟩) r.length cap] w fun e w' => e = .returned (.bool (nulB r)) ∧ Below w.heap.size w w' := by
  have HC : Hid _ := hc
  clear hc
  go_enter Tryz.func31, Tryz.ntmps31
  go_wp2
  go_loopw [7] (fun i wr => ∃ m : Nat, m ≤ r.length ∧ i = .int .i64 m ∧ nulB (r.drop m) = nulB r ∧ Bel w.heap.size w wr) (fun i _ => r.length - (intOf i).toNat)
  case atStart => exact ⟨0, Nat.zero_le _, rfl, rfl, Bel.refl _⟩
  case round =>
    obtain ⟨m, hm, rfl, hV, HB⟩ := hrel
    have HV : Hid (nulB (r.drop m) = nulB r) := hV
    clear hV
    have hW := HB.out
    rcases Nat.lt_or_ge m r.length with hlt | hge
    · have c0 := cell_below hW (HC.out m hlt).1
      have c1 := cell_below hW (HC.out m hlt).2.1
      have c2 := cell_below hW (HC.out m hlt).2.2
      have HD : Hid (nulB (r.drop m) = ((kAt r m == 0) || nulB (r.drop (m + 1)))) := by show _ = _; rw [drop_at hlt]; rfl
      generalize kAt r m = k at c0 HD
      generalize hp : (k == 0) = p
      cases p
      · have HN : Hid (nulB (r.drop (m + 1)) = nulB r) := by show _ = _; rw [← HV.out, HD.out, hp]; rfl
        go_wp2
        go_roundw
        case rel => exact ⟨m + 1, by omega, by go_num, HN.out, (by repeat (first | exact Bel.refl _ | assumption | refine Bel.drew ?_ | refine Bel.drewN ?_ _ | refine Bel.alloc ?_ _ | refine Bel.setCell ?_ (by simp <;> omega) _ | refine Bel.step ?_ (by assumption)))⟩
        case measure => simp [intOf]; omega
      · have HN : Hid (nulB r = true) := by show _ = _; rw [← HV.out, HD.out, hp]; rfl
        go_wp2
        go_ret
        exact ⟨ret_bool HN.out.symm, (Bel.out (by repeat (first | exact Bel.refl _ | assumption | refine Bel.drew ?_ | refine Bel.drewN ?_ _ | refine Bel.alloc ?_ _ | refine Bel.setCell ?_ (by simp <;> omega) _ | refine Bel.step ?_ (by assumption))))⟩
    · obtain rfl : m = r.length := by omega
      have HN : Hid (nulB r = false) := by show _ = _; rw [← HV.out, List.drop_length]; rfl
      go_wp2
      go_ret
      exact ⟨ret_bool HN.out.symm, (Bel.out (by repeat (first | exact Bel.refl _ | assumption | refine Bel.drew ?_ | refine Bel.drewN ?_ _ | refine Bel.alloc ?_ _ | refine Bel.setCell ?_ (by simp <;> omega) _ | refine Bel.step ?_ (by assumption))))⟩
theorem hasNull_none (a : Option Addr) (cap : Nat) (w : World) : Calls Tryz.prog 31 #[.slice a 0 cap] w fun e w' => e = .returned (.bool false) ∧ Below w.heap.size w w' := by
  go_enter Tryz.func31, Tryz.ntmps31
  go_wp2
  refine wp_loop_rounds 1 ?_
  rw [rounds_succ]
  go_wp2
  go_ret
  exact ⟨rfl, (Bel.out (by repeat (first | exact Bel.refl _ | assumption | refine Bel.drew ?_ | refine Bel.drewN ?_ _ | refine Bel.alloc ?_ _ | refine Bel.setCell ?_ (by simp <;> omega) _ | refine Bel.step ?_ (by assumption))))⟩
theorem hasNull_any (a : Option Addr) (cap : Nat) (r : List Val) (w : World) (hlen : r.length ≤ 9223372036854775807) (hr : RowAt w a r) :
    Calls Tryz.prog 31 #[.slice a r.length cap] w fun e w' => e = .returned (.bool (nulB r)) ∧ Below w.heap.size w w' := by
  rcases hr with h0 | ⟨b, off, rfl, hc⟩
  · obtain rfl : r = [] := List.length_eq_zero_iff.1 h0
    exact hasNull_none a cap w
  · exact hasNull_some b off cap r w hlen hc

/-- Kinds that are written into a new row, one by one. -/
structure Kmk (w : World) (g : Nat) (r : List Val) (m : Nat) (wr : World) : Prop where
  bel : Bel w.heap.size w wr
  ge : w.heap.size ≤ g
  lt : g < wr.heap.size
  don : ∀ i, i < m → wr.cell? ⟨g, i, none⟩ = some (.int .i64 (kAt r i))
  all : ∀ i, i < r.length → ∃ u, wr.cell? ⟨g, i, none⟩ = some u
  fr : ∀ i, i < r.length → wr.frozen? ⟨g, i, none⟩ = false
theorem Kmk.alloc {w wr : World} {g m : Nat} {r : List Val} (h : Kmk w g r m wr) (o : Obj) : Kmk w g r m (wr.alloc o) := by
  have hA : Below wr.heap.size wr (wr.alloc o) := (Below.refl _ _).alloc (Nat.le_refl _) _
  exact { bel := h.bel.alloc _, ge := h.ge, lt := Nat.lt_of_lt_of_le h.lt hA.size, don := fun i hi => cell_below hA (h.don i hi), all := fun i hi => by { obtain ⟨u, hu⟩ := h.all i hi; exact ⟨u, cell_below hA hu⟩ }, fr := fun i hi => by { rw [hA.frozen (p := ⟨g, i, none⟩) h.lt]; exact h.fr i hi } }
theorem Kmk.set {w wr : World} {g m : Nat} {r : List Val} (h : Kmk w g r m wr) (hm : m < r.length) : Kmk w g r (m + 1) (wr.setCell ⟨g, m, none⟩ (.int .i64 (kAt r m))) where
  bel := h.bel.setCell h.ge _
  ge := h.ge
  lt := by simpa [World.setCell] using h.lt
  don := fun i hi => by
    by_cases e : i = m
    · subst e
      obtain ⟨u, hu⟩ := h.all i hm
      exact World.cell?_setCell_same _ _ _ hu
    · rw [set_off e]; exact h.don i (by omega)
  all := fun i hi => by
    obtain ⟨u, hu⟩ := h.all i hi
    by_cases e : i = m
    · subst e; exact ⟨_, World.cell?_setCell_same _ _ _ hu⟩
    · exact ⟨u, by rw [set_off e]; exact hu⟩
  fr := fun i hi => by rw [World.frozen?_setCell]; exact h.fr i hi
theorem ksL_len (r : List Val) : (ksL r).length = r.length := by simp [ksL]
theorem ksL_at (r : List Val) (i : Nat) (h : i < r.length) : (ksL r).getD i 0 = kAt r i := by
  unfold ksL kAt
  rw [List.getD_eq_getElem?_getD, List.getD_eq_getElem?_getD, List.getElem?_map, List.getElem?_eq_getElem h]; rfl
theorem info3 : Tryz.prog.info? 3 = some ((Tryz.prog.info? 3).getD default) := by kernel_rfl
theorem make22 (n : Nat) (h : n * 8 ≤ 281474976710656) (w : World) : (Instr.makeSlice 22 (.int .i64 n) (.int .i64 n)).run Tryz.prog w = .ok (.slice (some ⟨w.heap.size, 0, none⟩) n n) (w.alloc (.cells (madeCells #[.int .i64 0] n) 3)) := by
  have e1 : ((Tryz.prog.info? 3).getD default).bytes = 8 := by kernel_rfl
  have hr := run_make (P := Tryz.prog) w 22 3 _ (.int .i64 0) Tryz.underlying22 info3 (by kernel_rfl) .i64 .i64 n n (by omega) (Int.le_refl _) (by rw [e1]; omega) (by omega)
  have e2 : ((Tryz.prog.info? 3).getD default).size = 1 := by kernel_rfl
  rw [e2] at hr
  simpa [Value.cells] using hr
theorem made_at (n i : Nat) (h : i < n) : (madeCells #[.int .i64 0] n)[i]? = some (.int .i64 0) := by
  unfold madeCells
  simp [h, Nat.mod_one]
theorem kindsOf_some (b off cap : Nat) (r : List Val) (w : World) (hlen : r.length * 8 ≤ 140737488355328)
    (hc : ∀ i, i < r.length → w.cell? ⟨b, off + i * 3, none⟩ = some (.int .i64 (kAt r i)) ∧ w.cell? ⟨b, off + i * 3 + 1, none⟩ = some (.int .i64 (nAt r i)) ∧ w.cell? ⟨b, off + i * 3 + 2, none⟩ = some (.string (tAt r i))) :
    Calls Tryz.prog 29 #[.slice (some ⟨b, off, none⟩) r.length cap] w fun e w' => (∃ a, e = .returned (.slice a r.length r.length) ∧ KsAt w' a (ksL r)) ∧ Below w.heap.size w w' := by
  have HC : Hid _ := hc
  have hlen' : r.length ≤ 9223372036854775807 := by omega
  have hmk := make22 r.length (by omega)
  clear hc
  go_enter Tryz.func29, Tryz.ntmps29
  go_wp2
  have HK0 : Hid (Kmk w w.heap.size r 0 (w.alloc (.cells (madeCells #[.int .i64 0] r.length) 3))) := by
    refine { bel := (Bel.refl _).alloc _, ge := Nat.le_refl _, lt := by simp, don := fun i hi => absurd hi (Nat.not_lt_zero _), all := fun i hi => ⟨.int .i64 0, ?_⟩, fr := fun i _ => World.frozen?_alloc_new _ _ _ _ }
    rw [World.cell?_alloc_new]
    exact made_at _ _ hi
  clear hmk
  obtain ⟨g, hg⟩ : ∃ g, g = w.heap.size := ⟨_, rfl⟩
  rw [← hg] at HK0 ⊢
  generalize w.alloc (.cells (madeCells #[.int .i64 0] r.length) 3) = W0 at HK0 ⊢
  clear hg
  go_loopw [11] (fun i wr => ∃ m : Nat, m ≤ r.length ∧ i = .int .i64 m ∧ Kmk w g r m wr) (fun i _ => r.length - (intOf i).toNat)
  case atStart => exact ⟨0, Nat.zero_le _, rfl, HK0.out⟩
  case round =>
    obtain ⟨m, hm, rfl, hV⟩ := hrel
    have HV : Hid (Kmk w g r m wr) := hV
    have hW := hV.bel.out
    have hgl := hV.lt
    clear hV HK0
    rcases Nat.lt_or_ge m r.length with hlt | hge
    · have c0 := cell_below hW (HC.out m hlt).1
      have c1 := cell_below hW (HC.out m hlt).2.1
      have c2 := cell_below hW (HC.out m hlt).2.2
      obtain ⟨u, hu⟩ := HV.out.all m hlt
      have hf := HV.out.fr m hlt
      go_wp2
      go_roundw
      case rel => exact ⟨m + 1, by omega, by go_num, (HV.out.set hlt).alloc _⟩
      case measure => simp [intOf]; omega
    · obtain rfl : m = r.length := by omega
      go_wp2
      go_ret
      refine ⟨⟨_, rfl, ?_⟩, hW⟩
      refine Or.inr ⟨g, 0, rfl, fun i hi => ?_⟩
      rw [ksL_len] at hi
      rw [ksL_at r i hi, Nat.zero_add]
      exact HV.out.don i hi
theorem kindsOf_none (a : Option Addr) (cap : Nat) (w : World) : Calls Tryz.prog 29 #[.slice a 0 cap] w fun e w' => (∃ a, e = .returned (.slice a 0 0) ∧ KsAt w' a []) ∧ Below w.heap.size w w' := by
  have hmk : ∀ w : World, (Instr.makeSlice 22 (.int .i64 0) (.int .i64 0)).run Tryz.prog w = .ok (.slice (some ⟨w.heap.size, 0, none⟩) 0 0) (w.alloc (.cells #[] 3)) := fun w => by kernel_rfl
  go_enter Tryz.func29, Tryz.ntmps29
  go_wp2
  refine wp_loop_rounds 1 ?_
  rw [rounds_succ]
  go_wp2
  go_ret
  exact ⟨⟨_, rfl, Or.inl rfl⟩, (Bel.out (by repeat (first | exact Bel.refl _ | assumption | refine Bel.drew ?_ | refine Bel.drewN ?_ _ | refine Bel.alloc ?_ _ | refine Bel.setCell ?_ (by simp <;> omega) _ | refine Bel.step ?_ (by assumption))))⟩
theorem kindsOf_any (a : Option Addr) (cap : Nat) (r : List Val) (w : World) (hlen : r.length * 8 ≤ 140737488355328) (hr : RowAt w a r) :
    Calls Tryz.prog 29 #[.slice a r.length cap] w fun e w' => (∃ a, e = .returned (.slice a r.length r.length) ∧ KsAt w' a (ksL r)) ∧ Below w.heap.size w w' := by
  rcases hr with h0 | ⟨b, off, rfl, hc⟩
  · obtain rfl : r = [] := List.length_eq_zero_iff.1 h0
    exact kindsOf_none a cap w
  · exact kindsOf_some b off cap r w hlen hc
end Go.Proofs.YtjphmbgennadcaaGreatDoor
