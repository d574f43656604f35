/- The kind of what a function answers (kind, Kind). -/
import Derived.Test.YtjphmbgennadcaaGreatDoorDoe
import Derived.Laws.EntriesVeiled
namespace Go.Proofs.YtjphmbgennadcaaGreatDoor
set_option maxHeartbeats 4000000
set_option linter.unusedSimpArgs false
open Go.ChangeShapes Go.WideShapes Go.ChangeAt Go.RowKit


theorem fdK_lt {s : ByteArray} {k : Nat} (h : fdK s = some k) : k < 18 := (fnd_lt h).2.1
theorem anI_cases (k : Nat) : anI k = -1 ∨ anI k = -2 ∨ 0 ≤ anI k := by
  unfold anI; split <;> decide
/-- The method kind. -/
theorem kind_any (k : Nat) (a : Option Addr) (cap : Nat) (l : List Int) (w : World) (hl : anI k = -1 → 1 ≤ l.length) (hlen : l.length ≤ 9223372036854775807) (hk : KsAt w a l) :
    Calls Tryz.prog 23 #[.agg #[.string (nmA k), .func (.func (tkF k)) #[] #[], .int .i64 (anI k), .func (.func (dsF k)) #[] #[], .bool (snB k)], .slice a l.length cap] w fun e w' => e = .returned (.int .i64 (kdP k l)) ∧ Below w.heap.size w w' := by
  have hA : Below w.heap.size w (w.alloc (.cells #[.string (nmA k), .func (.func (tkF k)) #[] #[], .int .i64 (anI k), .func (.func (dsF k)) #[] #[], .bool (snB k)] 49)) := (Below.refl _ _).alloc (Nat.le_refl _) _
  have hcm := common_any a cap l (w.alloc (.cells #[.string (nmA k), .func (.func (tkF k)) #[] #[], .int .i64 (anI k), .func (.func (dsF k)) #[] #[], .bool (snB k)] 49)) hlen (hk.below hA)
  have HP : Hid (kdP k l = if anI k == -1 then l.headD 0 else if anI k == -2 then comG l else anI k) := rfl
  generalize kdP k l = R at HP ⊢
  have hcs := anI_cases k
  generalize nmA k = n1 at *
  generalize tkF k = n2 at *
  generalize dsF k = n3 at *
  generalize snB k = n4 at *
  generalize anI k = q at *
  by_cases h1 : q = -1
  · subst h1
    obtain ⟨b, off, rfl, hc⟩ : ∃ b off, a = some ⟨b, off, none⟩ ∧ ∀ i, i < l.length → w.cell? ⟨b, off + i, none⟩ = some (.int .i64 (l.getD i 0)) := by
      rcases hk with h | h
      · have := hl rfl; omega
      · exact h
    have hc0 := hc 0 (hl rfl)
    have hl1 : (0 : Int) < (l.length : Int) := by have := hl rfl; omega
    have hl2 : 0 < l.length := hl rfl
    have HN : Hid (R = l.getD 0 0) := by show _ = _; rw [HP.out]; cases l <;> rfl
    generalize l.getD 0 0 = x at *
    rw [Nat.add_zero] at hc0
    have hbl := cell_lt hc0
    clear hc hk hcm hl
    go_enter Tryz.func23, Tryz.ntmps23
    go_wp2
    go_ret
    exact ⟨ret_int HN.out.symm, (Bel.out (by repeat (first | exact Bel.refl _ | assumption | refine Bel.drew ?_ | refine Bel.drewN ?_ _ | refine Bel.alloc ?_ _ | refine Bel.setCell ?_ (by simp <;> omega) _ | refine Bel.step ?_ (by assumption))))⟩
  · have e1 : (q == -1) = false := by simpa using h1
    by_cases h2 : q = -2
    · subst h2
      have HN : Hid (R = comG l) := by show _ = _; rw [HP.out]; rfl
      clear h1 hl
      go_enter Tryz.func23, Tryz.ntmps23
      go_wp2_with fail
      refine hcm.mono ?_
      rintro e w1 ⟨rfl, rfl⟩
      go_wp2
      go_ret
      exact ⟨ret_int HN.out.symm, (Bel.out (by repeat (first | exact Bel.refl _ | assumption | refine Bel.drew ?_ | refine Bel.drewN ?_ _ | refine Bel.alloc ?_ _ | refine Bel.setCell ?_ (by simp <;> omega) _ | refine Bel.step ?_ (by assumption))))⟩
    · have e2 : (q == -2) = false := by simpa using h2
      have HN : Hid (R = q) := by show _ = _; rw [HP.out, e1, e2]; rfl
      clear h1 h2 hl hcm
      go_enter Tryz.func23, Tryz.ntmps23
      go_wp2
      go_ret
      exact ⟨ret_int HN.out.symm, (Bel.out (by repeat (first | exact Bel.refl _ | assumption | refine Bel.drew ?_ | refine Bel.drewN ?_ _ | refine Bel.alloc ?_ _ | refine Bel.setCell ?_ (by simp <;> omega) _ | refine Bel.step ?_ (by assumption))))⟩
/-- The kind of what a function answers, and the error. -/
def kinP (s : ByteArray) (l : List Int) : Int × Int := if fdB (fdK s) l then (kdP ((fdK s).getD 0) l, 0) else (0, 100)
theorem tak_one {k : Nat} (hk : k < 18) {l : List Int} (h : tkP k l = true) (ha : anI k = -1) : 1 ≤ l.length := by
  rcases (show k = 0 ∨ k = 9 by rcases (show k = 0 ∨ k = 1 ∨ k = 2 ∨ k = 3 ∨ k = 4 ∨ k = 5 ∨ k = 6 ∨ k = 7 ∨ k = 8 ∨ k = 9 ∨ k = 10 ∨ k = 11 ∨ k = 12 ∨ k = 13 ∨ k = 14 ∨ k = 15 ∨ k = 16 ∨ k = 17 by omega) with rfl | rfl | rfl | rfl | rfl | rfl | rfl | rfl | rfl | rfl | rfl | rfl | rfl | rfl | rfl | rfl | rfl | rfl; all_goals first | (left; rfl) | (right; rfl) | (exact absurd ha (by decide))) with rfl | rfl
  · have := of_decide_eq_true (and_l h); omega
  · have := of_decide_eq_true (and_l h); omega
theorem Kind_any (s : ByteArray) (a : Option Addr) (cap : Nat) (l : List Int) (w : World) (hlen : l.length ≤ 9223372036854775807) (hcap : l.length ≤ cap) (hk : KsAt w a l) :
    Calls Tryz.prog 10 #[.string s, .slice a l.length cap] w fun e w' => e = .returned (.tuple #[.int .i64 (kinP s l).1, .int .i64 (kinP s l).2]) ∧ Below w.heap.size w w' := by
  have hf := find_go s a cap l w hlen hcap hk
  have HP : Hid (kinP s l = if fdB (fdK s) l then (kdP ((fdK s).getD 0) l, 0) else (0, 100)) := rfl
  generalize kinP s l = R at HP ⊢
  have HK : Hid (KsAt w a l) := hk
  cases ho : fdK s with
  | none =>
    rw [ho] at hf HP
    have HN : Hid (R = (0, 100)) := by show _ = _; rw [HP.out]; rfl
    have e1 : fdV none = .agg #[.string ⟨#[]⟩, .nilFunc, .int .i64 0, .nilFunc, .bool false] := rfl
    have e2 : fdB none l = false := rfl
    rw [e1, e2] at hf
    clear ho hk e1 e2
    go_enter Tryz.func10, Tryz.ntmps10
    go_wp2_with fail
    refine hf.mono ?_
    rintro e w1 ⟨rfl, hb1⟩
    go_wp2
    go_ret2
    exact ⟨ret_ii (by rw [HN.out]) (by rw [HN.out]), (Bel.out (by repeat (first | exact Bel.refl _ | assumption | refine Bel.drew ?_ | refine Bel.drewN ?_ _ | refine Bel.alloc ?_ _ | refine Bel.setCell ?_ (by simp <;> omega) _ | refine Bel.step ?_ (by assumption))))⟩
  | some k =>
    have hk18 := fdK_lt ho
    rw [ho] at hf HP
    have e1 : fdV (some k) = .agg #[.string (nmA k), .func (.func (tkF k)) #[] #[], .int .i64 (anI k), .func (.func (dsF k)) #[] #[], .bool (snB k)] := rfl
    have e2 : fdB (some k) l = (areK l && tkP k l) := rfl
    rw [e1] at hf
    cases hB : fdB (some k) l with
    | false =>
      rw [hB] at hf HP
      have HN : Hid (R = (0, 100)) := by show _ = _; rw [HP.out]; rfl
      clear ho hk hB e1 e2
      go_enter Tryz.func10, Tryz.ntmps10
      go_wp2_with fail
      refine hf.mono ?_
      rintro e w1 ⟨rfl, hb1⟩
      go_wp2
      go_ret2
      exact ⟨ret_ii (by rw [HN.out]) (by rw [HN.out]), (Bel.out (by repeat (first | exact Bel.refl _ | assumption | refine Bel.drew ?_ | refine Bel.drewN ?_ _ | refine Bel.alloc ?_ _ | refine Bel.setCell ?_ (by simp <;> omega) _ | refine Bel.step ?_ (by assumption))))⟩
    | true =>
      have ht : tkP k l = true := by rw [e2] at hB; simp at hB; exact hB.2
      have HT : Hid (anI k = -1 → 1 ≤ l.length) := tak_one hk18 ht
      rw [hB] at hf HP
      have HN : Hid (R = (kdP k l, 0)) := by show _ = _; rw [HP.out]; rfl
      have hkk := fun w hk => kind_any k a cap l w HT.out hlen hk
      generalize kdP k l = q at *
      generalize nmA k = n1 at *
      generalize tkF k = n2 at *
      generalize dsF k = n3 at *
      generalize snB k = n4 at *
      generalize anI k = n5 at *
      clear ho hk hB e1 e2 ht hk18 HT
      go_enter Tryz.func10, Tryz.ntmps10
      go_wp2_with fail
      refine hf.mono ?_
      rintro e w1 ⟨rfl, hb1⟩
      go_wp2_with fail
      refine (hkk _ ((HK.out.below hb1).alloc _)).mono ?_
      rintro e w2 ⟨rfl, hb2⟩
      go_wp2
      go_ret2
      exact ⟨ret_ii (by rw [HN.out]) (by rw [HN.out]), (Bel.out (by repeat (first | exact Bel.refl _ | assumption | refine Bel.drew ?_ | refine Bel.drewN ?_ _ | refine Bel.alloc ?_ _ | refine Bel.setCell ?_ (by simp <;> omega) _ | refine Bel.step ?_ (by assumption))))⟩
end Go.Proofs.YtjphmbgennadcaaGreatDoor
