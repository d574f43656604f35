/- Which schemas may be: package schema and the document's answer. -/
import Derived.Test.YtjncoihppmbijaaDoorName
import Derived.Test.YtjncoihppmbijaaDoorPlace
namespace Go.Proofs.YtjncoihppmbijaaDoor
open Go.ChangeShapes Go.WideShapes Go.ChangeAt Go.RowKit

theorem fnd_is {p : Nat → Bool} {n : Nat} : ∀ (d i j : Nat), j = i + d → j < n → p j = true → (∀ k, i ≤ k → k < j → p k = false) → fnd p n i = some j
  | 0, i, j, e, h, hp, _ => by
    have : j = i := by omega
    subst this; exact fnd_hit h hp
  | d + 1, i, j, e, h, hp, ha => by
    rw [fnd_miss (by omega) (ha i (Nat.le_refl _) (by omega))]
    exact fnd_is d (i + 1) j (by omega) h hp fun k h1 h2 => ha k (by omega) h2
theorem fnd_first {p : Nat → Bool} {n : Nat} : ∀ (d i j k : Nat), k = i + d → fnd p n i = some j → k < j → p k = false
  | 0, i, j, k, e, h, hk => by
    have : k = i := by omega
    subst this
    have hl := fnd_lt h
    cases hp : p k
    · rfl
    · rw [fnd_hit (by omega) hp] at h; simp only [Option.some.injEq] at h; omega
  | d + 1, i, j, k, e, h, hk => by
    have hl := fnd_lt h
    cases hp : p i
    · rw [fnd_miss (by omega) hp] at h
      exact fnd_first d (i + 1) j k (by omega) h hk
    · rw [fnd_hit (by omega) hp] at h; simp only [Option.some.injEq] at h; omega

/-- No column ahead of place j has its name. -/
def alone (nm : Nat → ByteArray) (j : Nat) : Bool := allF (fun k => !((nm k).toList == (nm j).toList)) j 0
def colOk (nm : Nat → ByteArray) (kd : Nat → Int) (j : Nat) : Bool := nameS (nm j) && kdB (kd j) && alone nm j
def checkS (sn : ByteArray) (len : Nat) (nm : Nat → ByteArray) (kd : Nat → Int) : Bool := nameS sn && (decide (1 ≤ (len : Int)) && decide ((len : Int) ≤ 32)) && allF (colOk nm kd) len 0

theorem place_self (nm : Nat → ByteArray) (len m : Nat) (h : m < len) : (plI (plF nm (nm m) len) == (m : Int)) = alone nm m := by
  cases ha : alone nm m
  · rw [beq_eq_false_iff_ne]
    intro hf
    have : alone nm m = true := by
      unfold alone
      rw [allF_iff]
      intro k _ hk
      cases hq : plF nm (nm m) len with
      | none =>
        exfalso
        rw [hq] at hf
        have h1 : m = 0 := by simp only [plI] at hf; omega
        omega
      | some j =>
        rw [hq] at hf
        have h1 : j = m := by simp only [plI] at hf; omega
        subst h1
        have := fnd_first k 0 j k (by omega) hq hk
        unfold plP at this
        simp only [this, Bool.not_false]
    rw [this] at ha; cases ha
  · unfold alone at ha
    rw [allF_iff] at ha
    have : plF nm (nm m) len = some m := fnd_is m 0 m (by omega) h (by unfold plP; exact beq_self_eq_true _) fun k _ hk => by
      have := ha k (Nat.zero_le _) hk
      unfold plP
      simpa using this
    rw [this]
    exact beq_self_eq_true _

set_option maxHeartbeats 8000000 in
theorem SCheck_go (sn : ByteArray) (b off len cap : Nat) (nm : Nat → ByteArray) (kd : Nat → Int) (w : World) (hn : nameS sn = true) (h1 : 1 ≤ (len : Int)) (h2 : (len : Int) ≤ 32)
    (hc : ∀ i, i < len → w.cell? ⟨b, off + i * 2, none⟩ = some (.string (nm i)) ∧ w.cell? ⟨b, off + i * 2 + 1, none⟩ = some (.int .i64 (kd i))) :
    Calls Tryd.prog 10 #[.agg #[.string sn, .slice (some ⟨b, off, none⟩) len cap]] w fun e w' => e = .returned (.int .i64 (erI 30 (allF (colOk nm kd) len 0))) ∧ Below w.heap.size w w' := by
  have z0 : ((len : Int) == 0) = false := by rw [beq_eq_false_iff_ne]; omega
  have z1 : decide (32 < (len : Int)) = false := decide_eq_false (by omega)
  go_enter Tryd.func10, Tryd.ntmps10
  go_wp2_with (go_at_call 12; refine (Name_any _ _).mono ?_; rintro e w' ⟨rfl, rfl⟩)
  clear z0 z1 hn
  go_loopw [26] (fun i wr => ∃ m : Nat, m ≤ len ∧ i = .int .i64 m ∧ allF (colOk nm kd) len m = allF (colOk nm kd) len 0 ∧ Bel (w.alloc (.cells #[.string sn, .slice (some ⟨b, off, none⟩) len cap] 24)).heap.size (w.alloc (.cells #[.string sn, .slice (some ⟨b, off, none⟩) len cap] 24)) wr) (fun i _ => len - (intOf i).toNat)
  case atStart => exact ⟨0, Nat.zero_le _, rfl, rfl, Bel.refl _⟩
  case round =>
    obtain ⟨m, hm, rfl, hV, HB⟩ := hrel
    have HV : Hid (allF (colOk nm kd) len m = allF (colOk nm kd) len 0) := hV
    clear hV
    have hB1 : Below w.heap.size w (w.alloc (.cells #[.string sn, .slice (some ⟨b, off, none⟩) len cap] 24)) := (Below.refl _ _).alloc (Nat.le_refl _) _
    have hB2 := HB.out
    rcases Nat.lt_or_ge m len with hlt | hge
    · have hW : Below w.heap.size w wr := (Bel.out (by repeat (first | exact Bel.refl _ | assumption | refine Bel.drew ?_ | refine Bel.drewN ?_ _ | refine Bel.alloc ?_ _ | refine Bel.setCell ?_ (by simp <;> omega) _ | refine Bel.step ?_ (by assumption))))
      have c0 : wr.cell? ⟨b, off + m * 2, none⟩ = some (.string (nm m)) := cell_below hW (hc m hlt).1
      have c1 : wr.cell? ⟨b, off + m * 2 + 1, none⟩ = some (.int .i64 (kd m)) := cell_below hW (hc m hlt).2
      have x0 : wr.cell? ⟨w.heap.size, 0, none⟩ = some (.string sn) := cell_below hB2 (by go_simp)
      have x1 : wr.cell? ⟨w.heap.size, 1, none⟩ = some (.slice (some ⟨b, off, none⟩) len cap) := cell_below hB2 (by go_simp)
      have hz : w.heap.size < wr.heap.size := cell_lt x0
      have hCw : ColsAt wr (some ⟨b, off, none⟩) len nm kd := ColsAt.below (w := w) (Or.inr ⟨b, off, rfl, hc⟩) hW
      clear hc
      generalize hN : nameS (nm m) = N
      generalize hK : kdB (kd m) = K
      generalize hL : alone nm m = L
      have HO : Hid (colOk nm kd m = (N && K && L)) := by show _ = _; unfold colOk; rw [hN, hK, hL]
      have hq : (plI (plF nm (nm m) len) == (m : Int)) = L := by rw [place_self nm len m hlt, hL]
      have hq2 : (plI (plF nm (nm m) len) != (m : Int)) = !L := by unfold bne; rw [hq]
      cases N
      · have HN : Hid (false = allF (colOk nm kd) len 0) := by show _ = _; rw [← HV.out]; exact (allF_miss hlt (by rw [HO.out]; rfl)).symm
        go_wp2_with (first | (go_at_call 12; refine (Name_any _ _).mono ?_; rintro e w' ⟨rfl, rfl⟩) | (go_at_call 25; refine (isColumnKind_any _ _).mono ?_; rintro e w' ⟨rfl, rfl⟩))
        go_ret
        exact ⟨ret_er HN.out, (Bel.out (by repeat (first | exact Bel.refl _ | assumption | refine Bel.drew ?_ | refine Bel.drewN ?_ _ | refine Bel.alloc ?_ _ | refine Bel.setCell ?_ (by simp <;> omega) _ | refine Bel.step ?_ (by assumption))))⟩
      cases K
      · have HN : Hid (false = allF (colOk nm kd) len 0) := by show _ = _; rw [← HV.out]; exact (allF_miss hlt (by rw [HO.out]; rfl)).symm
        go_wp2_with (first | (go_at_call 12; refine (Name_any _ _).mono ?_; rintro e w' ⟨rfl, rfl⟩) | (go_at_call 25; refine (isColumnKind_any _ _).mono ?_; rintro e w' ⟨rfl, rfl⟩))
        go_ret
        exact ⟨ret_er HN.out, (Bel.out (by repeat (first | exact Bel.refl _ | assumption | refine Bel.drew ?_ | refine Bel.drewN ?_ _ | refine Bel.alloc ?_ _ | refine Bel.setCell ?_ (by simp <;> omega) _ | refine Bel.step ?_ (by assumption))))⟩
      cases L
      · have HN : Hid (false = allF (colOk nm kd) len 0) := by show _ = _; rw [← HV.out]; exact (allF_miss hlt (by rw [HO.out]; rfl)).symm
        go_wp2_with (first | (go_at_call 12; refine (Name_any _ _).mono ?_; rintro e w' ⟨rfl, rfl⟩) | (go_at_call 25; refine (isColumnKind_any _ _).mono ?_; rintro e w' ⟨rfl, rfl⟩) | (go_at_call 8; refine (Place_any sn (nm m) (some ⟨b, off, none⟩) len cap nm kd _ (by omega) ?_).mono ?_; (exact hCw.alloc _); rintro e w8 ⟨rfl, hb8⟩))
        go_ret
        exact ⟨ret_er HN.out, (Bel.out (by repeat (first | exact Bel.refl _ | assumption | refine Bel.drew ?_ | refine Bel.drewN ?_ _ | refine Bel.alloc ?_ _ | refine Bel.setCell ?_ (by simp <;> omega) _ | refine Bel.step ?_ (by assumption))))⟩
      · have HN : Hid (allF (colOk nm kd) len (m + 1) = allF (colOk nm kd) len 0) := by show _ = _; rw [← HV.out]; exact (allF_hit hlt (by rw [HO.out]; rfl)).symm
        go_wp2_with (first | (go_at_call 12; refine (Name_any _ _).mono ?_; rintro e w' ⟨rfl, rfl⟩) | (go_at_call 25; refine (isColumnKind_any _ _).mono ?_; rintro e w' ⟨rfl, rfl⟩) | (go_at_call 8; refine (Place_any sn (nm m) (some ⟨b, off, none⟩) len cap nm kd _ (by omega) ?_).mono ?_; (exact hCw.alloc _); rintro e w8 ⟨rfl, hb8⟩))
        go_roundw
        case rel => exact ⟨m + 1, by omega, by go_num, HN.out, (by repeat (first | exact Bel.refl _ | assumption | refine Bel.drew ?_ | refine Bel.drewN ?_ _ | refine Bel.alloc ?_ _ | refine Bel.setCell ?_ (by simp <;> omega) _ | refine Bel.step ?_ (by assumption)))⟩
        case measure => simp [intOf]; omega
    · have HN : Hid (true = allF (colOk nm kd) len 0) := by show _ = _; rw [← HV.out]; exact (allF_end hge).symm
      clear hc
      go_wp2
      go_ret
      exact ⟨ret_ok HN.out, (Bel.out (by repeat (first | exact Bel.refl _ | assumption | refine Bel.drew ?_ | refine Bel.drewN ?_ _ | refine Bel.alloc ?_ _ | refine Bel.setCell ?_ (by simp <;> omega) _ | refine Bel.step ?_ (by assumption))))⟩
set_option maxHeartbeats 4000000 in
theorem SCheck_n (sn : ByteArray) (a : Option Addr) (len cap : Nat) (w : World) (hn : nameS sn = false) : Calls Tryd.prog 10 #[.agg #[.string sn, .slice a len cap]] w fun e w' => e = .returned (.int .i64 30) ∧ Below w.heap.size w w' := by
  go_enter Tryd.func10, Tryd.ntmps10
  go_wp2_with (go_at_call 12; refine (Name_any _ _).mono ?_; rintro e w' ⟨rfl, rfl⟩)
  go_ret
  exact ⟨rfl, (Bel.out (by repeat (first | exact Bel.refl _ | assumption | refine Bel.drew ?_ | refine Bel.drewN ?_ _ | refine Bel.alloc ?_ _ | refine Bel.setCell ?_ (by simp <;> omega) _ | refine Bel.step ?_ (by assumption))))⟩
set_option maxHeartbeats 4000000 in
theorem SCheck_0 (sn : ByteArray) (a : Option Addr) (cap : Nat) (w : World) (hn : nameS sn = true) : Calls Tryd.prog 10 #[.agg #[.string sn, .slice a 0 cap]] w fun e w' => e = .returned (.int .i64 30) ∧ Below w.heap.size w w' := by
  go_enter Tryd.func10, Tryd.ntmps10
  go_wp2_with (go_at_call 12; refine (Name_any _ _).mono ?_; rintro e w' ⟨rfl, rfl⟩)
  go_ret
  exact ⟨rfl, (Bel.out (by repeat (first | exact Bel.refl _ | assumption | refine Bel.drew ?_ | refine Bel.drewN ?_ _ | refine Bel.alloc ?_ _ | refine Bel.setCell ?_ (by simp <;> omega) _ | refine Bel.step ?_ (by assumption))))⟩
set_option maxHeartbeats 4000000 in
theorem SCheck_32 (sn : ByteArray) (a : Option Addr) (len cap : Nat) (w : World) (hn : nameS sn = true) (h : 32 < (len : Int)) : Calls Tryd.prog 10 #[.agg #[.string sn, .slice a len cap]] w fun e w' => e = .returned (.int .i64 30) ∧ Below w.heap.size w w' := by
  have z0 : ((len : Int) == 0) = false := by rw [beq_eq_false_iff_ne]; omega
  go_enter Tryd.func10, Tryd.ntmps10
  go_wp2_with (go_at_call 12; refine (Name_any _ _).mono ?_; rintro e w' ⟨rfl, rfl⟩)
  go_ret
  exact ⟨rfl, (Bel.out (by repeat (first | exact Bel.refl _ | assumption | refine Bel.drew ?_ | refine Bel.drewN ?_ _ | refine Bel.alloc ?_ _ | refine Bel.setCell ?_ (by simp <;> omega) _ | refine Bel.step ?_ (by assumption))))⟩
theorem SCheck_any (sn : ByteArray) (a : Option Addr) (len cap : Nat) (nm : Nat → ByteArray) (kd : Nat → Int) (w : World) (hc : ColsAt w a len nm kd) :
    Calls Tryd.prog 10 #[.agg #[.string sn, .slice a len cap]] w fun e w' => e = .returned (.int .i64 (erI 30 (checkS sn len nm kd))) ∧ Below w.heap.size w w' := by
  cases hn : nameS sn
  · have e : erI 30 (checkS sn len nm kd) = 30 := by unfold checkS; rw [hn]; rfl
    rw [e]; exact SCheck_n sn a len cap w hn
  rcases hc with rfl | ⟨b, off, rfl, hc⟩
  · have e : erI 30 (checkS sn 0 nm kd) = 30 := by unfold checkS; rw [hn]; rfl
    rw [e]; exact SCheck_0 sn a cap w hn
  rcases Nat.eq_zero_or_pos len with rfl | h0
  · have e : erI 30 (checkS sn 0 nm kd) = 30 := by unfold checkS; rw [hn]; rfl
    rw [e]; exact SCheck_0 sn _ cap w hn
  rcases Int.lt_or_le 32 (len : Int) with h | h
  · have e : erI 30 (checkS sn len nm kd) = 30 := by unfold checkS; rw [hn, decide_eq_false (by omega : ¬ (len : Int) ≤ 32), Bool.and_false, Bool.and_false, Bool.false_and]; rfl
    rw [e]; exact SCheck_32 sn _ len cap w hn h
  · have e : checkS sn len nm kd = allF (colOk nm kd) len 0 := by unfold checkS; rw [hn, decide_eq_true h, decide_eq_true (by omega : 1 ≤ (len : Int))]; rfl
    rw [e]; exact SCheck_go sn b off len cap nm kd w hn (by omega) h hc
set_option maxHeartbeats 8000000 in
theorem rCheck_go (sn : ByteArray) (b off len cap : Nat) (nm : Nat → ByteArray) (kd : Nat → Int) (w : World) (hn : nameS sn = true) (h1 : 1 ≤ (len : Int)) (h2 : (len : Int) ≤ 32)
    (hc : ∀ i, i < len → w.cell? ⟨b, off + i * 2, none⟩ = some (.string (nm i)) ∧ w.cell? ⟨b, off + i * 2 + 1, none⟩ = some (.int .i64 (kd i))) :
    Calls Tryd.prog 11 #[.agg #[.string sn, .slice (some ⟨b, off, none⟩) len cap]] w fun e w' => e = .returned (.int .i64 (erI 30 (allF (colOk nm kd) len 0))) ∧ Below w.heap.size w w' := by
  have z0 : decide ((len : Int) < 1) = false := decide_eq_false (by omega)
  have z1 : decide (32 < (len : Int)) = false := decide_eq_false (by omega)
  go_enter Tryd.func11, Tryd.ntmps11
  go_wp2_with (go_at_call 13; refine (rName_any _ _).mono ?_; rintro e w' ⟨rfl, rfl⟩)
  clear z0 z1 hn
  go_loopw [3] (fun i wr => ∃ m : Nat, m ≤ len ∧ i = .int .i64 m ∧ allF (colOk nm kd) len m = allF (colOk nm kd) len 0 ∧ Bel (w.alloc (.cells #[.string sn, .slice (some ⟨b, off, none⟩) len cap] 24)).heap.size (w.alloc (.cells #[.string sn, .slice (some ⟨b, off, none⟩) len cap] 24)) wr) (fun i _ => len - (intOf i).toNat)
  case atStart => exact ⟨0, Nat.zero_le _, rfl, rfl, Bel.refl _⟩
  case round =>
    obtain ⟨wo, hwo⟩ : ∃ x, x = wr := ⟨_, rfl⟩
    subst hwo
    obtain ⟨m, hm, rfl, hV, HB⟩ := hrel
    have HV : Hid (allF (colOk nm kd) len m = allF (colOk nm kd) len 0) := hV
    clear hV
    have hB1 : Below w.heap.size w (w.alloc (.cells #[.string sn, .slice (some ⟨b, off, none⟩) len cap] 24)) := (Below.refl _ _).alloc (Nat.le_refl _) _
    have hB2 := HB.out
    have x0 : wo.cell? ⟨w.heap.size, 0, none⟩ = some (.string sn) := cell_below hB2 (by go_simp)
    have x1 : wo.cell? ⟨w.heap.size, 1, none⟩ = some (.slice (some ⟨b, off, none⟩) len cap) := cell_below hB2 (by go_simp)
    have hz : w.heap.size < wo.heap.size := cell_lt x0
    rcases Nat.lt_or_ge m len with hlt | hge
    · have hW : Below w.heap.size w wo := (Bel.out (by repeat (first | exact Bel.refl _ | assumption | refine Bel.drew ?_ | refine Bel.drewN ?_ _ | refine Bel.alloc ?_ _ | refine Bel.setCell ?_ (by simp <;> omega) _ | refine Bel.step ?_ (by assumption))))
      have c0 : wo.cell? ⟨b, off + m * 2, none⟩ = some (.string (nm m)) := cell_below hW (hc m hlt).1
      have c1 : wo.cell? ⟨b, off + m * 2 + 1, none⟩ = some (.int .i64 (kd m)) := cell_below hW (hc m hlt).2
      generalize hN : nameS (nm m) = N
      generalize hK : kdB (kd m) = K
      generalize hL : alone nm m = L
      have HO : Hid (colOk nm kd m = (N && K && L)) := by show _ = _; unfold colOk; rw [hN, hK, hL]
      cases N
      · have HN : Hid (false = allF (colOk nm kd) len 0) := by show _ = _; rw [← HV.out]; exact (allF_miss hlt (by rw [HO.out]; rfl)).symm
        clear hc
        go_wp2_with (go_at_call 13; refine (rName_any _ _).mono ?_; rintro e w' ⟨rfl, rfl⟩)
        go_ret
        exact ⟨ret_er HN.out, (Bel.out (by repeat (first | exact Bel.refl _ | assumption | refine Bel.drew ?_ | refine Bel.drewN ?_ _ | refine Bel.alloc ?_ _ | refine Bel.setCell ?_ (by simp <;> omega) _ | refine Bel.step ?_ (by assumption))))⟩
      rcases Int.lt_or_le (kd m) 1 with k1 | k1
      · have hK2 : K = false := by rw [← hK]; unfold kdB; rw [decide_eq_false (by omega)]; rfl
        subst hK2
        have HN : Hid (false = allF (colOk nm kd) len 0) := by show _ = _; rw [← HV.out]; exact (allF_miss hlt (by rw [HO.out]; rfl)).symm
        clear hc
        go_wp2_with (go_at_call 13; refine (rName_any _ _).mono ?_; rintro e w' ⟨rfl, rfl⟩)
        go_ret
        exact ⟨ret_er HN.out, (Bel.out (by repeat (first | exact Bel.refl _ | assumption | refine Bel.drew ?_ | refine Bel.drewN ?_ _ | refine Bel.alloc ?_ _ | refine Bel.setCell ?_ (by simp <;> omega) _ | refine Bel.step ?_ (by assumption))))⟩
      rcases Int.lt_or_le 4 (kd m) with k4 | k4
      · have hK2 : K = false := by rw [← hK]; unfold kdB; rw [decide_eq_false (by omega : ¬ kd m ≤ 4), Bool.and_false]
        subst hK2
        have HN : Hid (false = allF (colOk nm kd) len 0) := by show _ = _; rw [← HV.out]; exact (allF_miss hlt (by rw [HO.out]; rfl)).symm
        clear hc
        have y1 : decide (kd m < 1) = false := decide_eq_false (by omega)
        go_wp2_with (go_at_call 13; refine (rName_any _ _).mono ?_; rintro e w' ⟨rfl, rfl⟩)
        go_ret
        exact ⟨ret_er HN.out, (Bel.out (by repeat (first | exact Bel.refl _ | assumption | refine Bel.drew ?_ | refine Bel.drewN ?_ _ | refine Bel.alloc ?_ _ | refine Bel.setCell ?_ (by simp <;> omega) _ | refine Bel.step ?_ (by assumption))))⟩
      have hK2 : K = true := by rw [← hK]; unfold kdB; rw [decide_eq_true k1, decide_eq_true k4]; rfl
      subst hK2
      have y1 : decide (kd m < 1) = false := decide_eq_false (by omega)
      have y4 : decide (4 < kd m) = false := decide_eq_false (by omega)
      go_wp2_with (go_at_call 13; refine (rName_any _ _).mono ?_; rintro e w' ⟨rfl, rfl⟩)
      clear y1 y4 k1 k4
      have hB3 : Below wo.heap.size wo (wo.alloc (.cells #[.string (nm m), .int .i64 (kd m)] 52)) := (Below.refl _ _).alloc (Nat.le_refl _) _
      go_loopw [5] (fun k wr => ∃ q : Nat, q ≤ m ∧ k = .int .i64 q ∧ allF (fun k => !((nm k).toList == (nm m).toList)) m q = L ∧ Bel (wo.alloc (.cells #[.string (nm m), .int .i64 (kd m)] 52)).heap.size (wo.alloc (.cells #[.string (nm m), .int .i64 (kd m)] 52)) wr) (fun i _ => m - (intOf i).toNat)
      case atStart => exact ⟨0, Nat.zero_le _, rfl, hL, Bel.refl _⟩
      case round =>
        obtain ⟨q, hq, rfl, hV2, HB4⟩ := hrel
        have HV2 : Hid (allF (fun k => !((nm k).toList == (nm m).toList)) m q = L) := hV2
        clear hV2
        have hB4 := HB4.out
        have v1 : wr.cell? ⟨w.heap.size, 1, none⟩ = some (.slice (some ⟨b, off, none⟩) len cap) := cell_below hB4 (cell_below hB3 x1)
        rcases Nat.lt_or_ge q m with hlt2 | hge2
        · have d0 : wr.cell? ⟨b, off + q * 2, none⟩ = some (.string (nm q)) := cell_below hB4 (cell_below hB3 (cell_below hW (hc q (by omega)).1))
          have d2 : wr.cell? ⟨wo.heap.size, 0, none⟩ = some (.string (nm m)) := cell_below hB4 (by go_simp)
          clear hc
          generalize hs : ((nm q).toList == (nm m).toList) = S
          have hlt3 : q < len := by omega
          cases S
          · have HN : Hid (allF (fun k => !((nm k).toList == (nm m).toList)) m (q + 1) = L) := by show _ = _; rw [← HV2.out]; exact (allF_hit hlt2 (by simp only [hs, Bool.not_false])).symm
            go_wp2
            go_quiet (fail)
            go_wp2
            go_roundw
            case rel => exact ⟨q + 1, by omega, by go_num, HN.out, (by repeat (first | exact Bel.refl _ | assumption | refine Bel.drew ?_ | refine Bel.drewN ?_ _ | refine Bel.alloc ?_ _ | refine Bel.setCell ?_ (by simp <;> omega) _ | refine Bel.step ?_ (by assumption)))⟩
            case measure => simp [intOf]; omega
          · have HN : Hid (false = allF (colOk nm kd) len 0) := by show _ = _; rw [← HV.out]; exact (allF_miss hlt (by rw [HO.out, ← HV2.out, allF_miss hlt2 (by simp only [hs, Bool.not_true])]; rfl)).symm
            go_wp2
            go_quiet (fail)
            go_wp2
            go_ret
            exact ⟨ret_er HN.out, (Bel.out (by repeat (first | exact Bel.refl _ | assumption | refine Bel.drew ?_ | refine Bel.drewN ?_ _ | refine Bel.alloc ?_ _ | refine Bel.setCell ?_ (by simp <;> omega) _ | refine Bel.step ?_ (by assumption))))⟩
        · have HN : Hid (allF (colOk nm kd) len (m + 1) = allF (colOk nm kd) len 0) := by show _ = _; rw [← HV.out]; exact (allF_hit hlt (by rw [HO.out, ← HV2.out, allF_end hge2]; rfl)).symm
          clear hc
          go_wp2
          go_roundw
          case rel => exact ⟨m + 1, by omega, by go_num, HN.out, (by repeat (first | exact Bel.refl _ | assumption | refine Bel.drew ?_ | refine Bel.drewN ?_ _ | refine Bel.alloc ?_ _ | refine Bel.setCell ?_ (by simp <;> omega) _ | refine Bel.step ?_ (by assumption)))⟩
          case measure => simp [intOf]; omega
    · have HN : Hid (true = allF (colOk nm kd) len 0) := by show _ = _; rw [← HV.out]; exact (allF_end hge).symm
      clear hc
      go_wp2
      go_ret
      exact ⟨ret_ok HN.out, (Bel.out (by repeat (first | exact Bel.refl _ | assumption | refine Bel.drew ?_ | refine Bel.drewN ?_ _ | refine Bel.alloc ?_ _ | refine Bel.setCell ?_ (by simp <;> omega) _ | refine Bel.step ?_ (by assumption))))⟩
set_option maxHeartbeats 4000000 in
theorem rCheck_n (sn : ByteArray) (a : Option Addr) (len cap : Nat) (w : World) (hn : nameS sn = false) : Calls Tryd.prog 11 #[.agg #[.string sn, .slice a len cap]] w fun e w' => e = .returned (.int .i64 30) ∧ Below w.heap.size w w' := by
  go_enter Tryd.func11, Tryd.ntmps11
  go_wp2_with (go_at_call 13; refine (rName_any _ _).mono ?_; rintro e w' ⟨rfl, rfl⟩)
  go_ret
  exact ⟨rfl, (Bel.out (by repeat (first | exact Bel.refl _ | assumption | refine Bel.drew ?_ | refine Bel.drewN ?_ _ | refine Bel.alloc ?_ _ | refine Bel.setCell ?_ (by simp <;> omega) _ | refine Bel.step ?_ (by assumption))))⟩
set_option maxHeartbeats 4000000 in
theorem rCheck_0 (sn : ByteArray) (a : Option Addr) (cap : Nat) (w : World) (hn : nameS sn = true) : Calls Tryd.prog 11 #[.agg #[.string sn, .slice a 0 cap]] w fun e w' => e = .returned (.int .i64 30) ∧ Below w.heap.size w w' := by
  go_enter Tryd.func11, Tryd.ntmps11
  go_wp2_with (go_at_call 13; refine (rName_any _ _).mono ?_; rintro e w' ⟨rfl, rfl⟩)
  go_ret
  exact ⟨rfl, (Bel.out (by repeat (first | exact Bel.refl _ | assumption | refine Bel.drew ?_ | refine Bel.drewN ?_ _ | refine Bel.alloc ?_ _ | refine Bel.setCell ?_ (by simp <;> omega) _ | refine Bel.step ?_ (by assumption))))⟩
set_option maxHeartbeats 4000000 in
theorem rCheck_32 (sn : ByteArray) (a : Option Addr) (len cap : Nat) (w : World) (hn : nameS sn = true) (h : 32 < (len : Int)) : Calls Tryd.prog 11 #[.agg #[.string sn, .slice a len cap]] w fun e w' => e = .returned (.int .i64 30) ∧ Below w.heap.size w w' := by
  have z0 : decide ((len : Int) < 1) = false := decide_eq_false (by omega)
  go_enter Tryd.func11, Tryd.ntmps11
  go_wp2_with (go_at_call 13; refine (rName_any _ _).mono ?_; rintro e w' ⟨rfl, rfl⟩)
  go_ret
  exact ⟨rfl, (Bel.out (by repeat (first | exact Bel.refl _ | assumption | refine Bel.drew ?_ | refine Bel.drewN ?_ _ | refine Bel.alloc ?_ _ | refine Bel.setCell ?_ (by simp <;> omega) _ | refine Bel.step ?_ (by assumption))))⟩
theorem rCheck_any (sn : ByteArray) (a : Option Addr) (len cap : Nat) (nm : Nat → ByteArray) (kd : Nat → Int) (w : World) (hc : ColsAt w a len nm kd) :
    Calls Tryd.prog 11 #[.agg #[.string sn, .slice a len cap]] w fun e w' => e = .returned (.int .i64 (erI 30 (checkS sn len nm kd))) ∧ Below w.heap.size w w' := by
  cases hn : nameS sn
  · have e : erI 30 (checkS sn len nm kd) = 30 := by unfold checkS; rw [hn]; rfl
    rw [e]; exact rCheck_n sn a len cap w hn
  rcases hc with rfl | ⟨b, off, rfl, hc⟩
  · have e : erI 30 (checkS sn 0 nm kd) = 30 := by unfold checkS; rw [hn]; rfl
    rw [e]; exact rCheck_0 sn a cap w hn
  rcases Nat.eq_zero_or_pos len with rfl | h0
  · have e : erI 30 (checkS sn 0 nm kd) = 30 := by unfold checkS; rw [hn]; rfl
    rw [e]; exact rCheck_0 sn _ cap w hn
  rcases Int.lt_or_le 32 (len : Int) with h | h
  · have e : erI 30 (checkS sn len nm kd) = 30 := by unfold checkS; rw [hn, decide_eq_false (by omega : ¬ (len : Int) ≤ 32), Bool.and_false, Bool.and_false, Bool.false_and]; rfl
    rw [e]; exact rCheck_32 sn _ len cap w hn h
  · have e : checkS sn len nm kd = allF (colOk nm kd) len 0 := by unfold checkS; rw [hn, decide_eq_true h, decide_eq_true (by omega : 1 ≤ (len : Int))]; rfl
    rw [e]; exact rCheck_go sn b off len cap nm kd w hn (by omega) h hc
end Go.Proofs.YtjncoihppmbijaaDoor
