/- Numbers: the document's answer and the code's, as functions. -/
import Derived.Test.YthhbeejfnpcbhaaGreatDoorRUn
import Derived.Test.YthhbeejfnpcbhaaGreatDoorRWh
namespace Go.Proofs.YthhbeejfnpcbhaaGreatDoor
open Go.ChangeShapes Go.WideShapes Go.ChangeAt Go.RowKit

theorem parse_val : ∀ (l : List UInt8) (a n : Nat), Dgs l → Lib.parseUint10 a l = .ok n → n = valA a l
  | [], a, n, _, h => by rw [Lib.parseUint10] at h; injection h with h; exact h.symm
  | c :: r, a, n, hd, h => by
    have hc := hd c (by simp)
    rw [Lib.parseUint10, if_pos hc] at h
    split at h
    · cases h
    · split at h
      · cases h
      · have := parse_val r _ n (fun x hx => hd x (by simp [hx])) h
        rw [this]
        show _ = valA (10 * a + (c.toNat - 48)) r
        rw [Nat.mul_comm a 10]
theorem whl_whR {k : Int} {d : List UInt8} (hl : d ≠ []) (hd : Dgs d) : whlP k d = if (whR d).2 = false then (tk0, 51) else ((k, [], (whR d).1), 0) := by
  unfold whR
  by_cases hv : val d ≤ 9223372036854775807
  · rw [if_pos hv]
    unfold whlP
    rw [atoi_digits hl hd hv]
    rfl
  · rw [if_neg hv]
    unfold whlP
    cases ha : Lib.atoiAll d with
    | «syntax» => rfl
    | range => rfl
    | ok v =>
      exfalso
      cases d with
      | nil => exact absurd rfl hl
      | cons c r =>
        have hc := hd c (by simp)
        rw [Lib.atoiAll_plain c r (by omega) (by omega)] at ha
        cases hp : Lib.parseMag (c :: r) with
        | «syntax» => rw [hp] at ha; cases ha
        | range => rw [hp] at ha; cases ha
        | ok u =>
          rw [hp] at ha
          unfold Lib.parseMag at hp
          rw [if_neg hl] at hp
          have hu := parse_val _ _ _ hd hp
          have hu : u = val (c :: r) := hu
          simp only [Lib.signless] at ha
          rw [if_pos (by omega)] at ha
          cases ha
theorem ldN_pos_cons {p : Nat → Bool} {c : UInt8} (h : p c.toNat = true) (r : List UInt8) : ldN p (c :: r) = ldN p r + 1 := by
  unfold ldN; rw [List.takeWhile_cons, if_pos h]; rfl
theorem ldN_neg_cons {p : Nat → Bool} {c : UInt8} (h : p c.toNat = false) (r : List UInt8) : ldN p (c :: r) = 0 := by
  unfold ldN; rw [List.takeWhile_cons, if_neg (by simp [h])]; rfl
theorem ldN_after (p : Nat → Bool) : ∀ l : List UInt8, ldN p (l.drop (ldN p l)) = 0
  | [] => rfl
  | c :: r => by
    cases hc : p c.toNat with
    | true => rw [ldN_pos_cons hc, List.drop_succ_cons]; exact ldN_after p r
    | false => rw [ldN_neg_cons hc, List.drop_zero, ldN_neg_cons hc]
theorem ldN_all_take (p : Nat → Bool) : ∀ l : List UInt8, ∀ c ∈ l.take (ldN p l), p c.toNat = true
  | [] => by simp
  | c :: r => by
    cases hc : p c.toNat with
    | true =>
      rw [ldN_pos_cons hc, List.take_succ_cons]
      intro x hx
      rcases List.mem_cons.1 hx with rfl | hx
      · exact hc
      · exact ldN_all_take p r x hx
    | false => rw [ldN_neg_cons hc]; simp
theorem dgs_of {d : List UInt8} (h : ∀ c ∈ d, dgB c.toNat = true) : Dgs d := fun c hc => by
  have := h c hc
  unfold dgB at this
  simpa using this
theorem dgs_Dgs (l : List UInt8) : Dgs (dgs l) := dgs_of (ldN_all_take dgB l)
theorem dgs_ne {l : List UInt8} (hne : l ≠ []) (hd0 : dgB (l.headD 0).toNat = true) : dgs l ≠ [] := fun h => by
  have h1 := ldN_pos (p := dgB) hne hd0
  have h2 := congrArg List.length h
  unfold dgs at h2
  have h3 := ldN_le dgB l
  rw [List.length_take, Nat.min_eq_left h3] at h2
  have h2 : ldN dgB l = 0 := h2
  omega
theorem dgs_len (l : List UInt8) : (dgs l).length = ldN dgB l := by
  unfold dgs; rw [List.length_take, Nat.min_eq_left (ldN_le _ _)]
/-- A nought ahead of other digits. -/
def badN (l : List UInt8) : Bool := decide (1 < ldN dgB l) && (((l.headD 0).toNat : Int) == 48)
theorem ngh_bad {l : List UInt8} (hne : l ≠ []) (hd0 : dgB (l.headD 0).toNat = true) : nghB l = badN l := by
  unfold badN
  match l, hne, hd0 with
  | [c], _, hd0 =>
    have : ldN dgB [c] ≤ 1 := ldN_le _ _
    rw [decide_eq_false (by omega)]; rfl
  | c :: d :: r, _, hd0 =>
    have hc : dgB c.toNat = true := hd0
    rw [ldN_pos_cons hc]
    have h48 : (((c :: d :: r).headD 0).toNat : Int) = c.toNat := rfl
    rw [h48]
    have hb : (c == 48) = ((c.toNat : Int) == 48) := by
      rw [Bool.eq_iff_iff, beq_iff_eq, beq_iff_eq]; exact b48.symm
    show (c == 48 && dgB d.toNat) = _
    rw [hb]
    cases hd : dgB d.toNat with
    | true => rw [decide_eq_true (by rw [ldN_pos_cons hd]; omega), Bool.and_true, Bool.true_and]
    | false => rw [decide_eq_false (by rw [ldN_neg_cons hd]; omega), Bool.and_false, Bool.false_and]
/-- What the document's answer asks for. -/
theorem num_per {l : List UInt8} (hne : l ≠ []) (hd0 : dgB (l.headD 0).toNat = true) (h : 0 < msN (unt l)) :
    numP l = if badN l = true then (tk0, 0, 50) else if (whR (dgs l)).2 = false ∨ (whR (dgs l)).1 > 1099511627776 / msN (unt l) then (tk0, 0, 51) else ((7, [], (whR (dgs l)).1 * msN (unt l)), ((ldN dgB l : Int) + (unt l).length), 0) := by
  have hw := whl_whR (k := 7) (dgs_ne hne hd0) (dgs_Dgs l)
  have ha : (amtP l).2.1 = (dgs l).length + (unt l).length := by unfold amtP; rw [if_pos h]
  have hz : ldN ptB (l.drop (amtP l).2.1) = 0 := by
    rw [ha, dgs_len, ← List.drop_drop]
    have hu : (unt l).length = ldN ptB (rst l) := by unfold unt; rw [List.length_take, Nat.min_eq_left (ldN_le _ _)]
    rw [hu]
    exact ldN_after ptB (rst l)
  have he : amtP l = ((perP (dgs l) (msN (unt l))).1, (dgs l).length + (unt l).length, (perP (dgs l) (msN (unt l))).2) := by unfold amtP; rw [if_pos h]
  unfold numP numE
  rw [hz, ngh_bad hne hd0, he, dgs_len]
  clear he hz ha
  unfold perP
  rw [hw]
  generalize msN (unt l) = z
  generalize whR (dgs l) = W
  obtain ⟨W1, W2⟩ := W
  cases badN l <;> cases W2 <;> by_cases hx : W1 > 1099511627776 / z <;> simp [hx]
theorem frc_dgs {l : List UInt8} : Dgs (frcL (rst l)) := by
  unfold frcL
  split
  · exact dgs_of (ldN_all_take dgB _)
  · intro c hc; simp at hc
theorem rep_dgs : ∀ k, Dgs (Lib.repeatL [48] k)
  | 0 => by intro c hc; simp [Lib.repeatL] at hc
  | k + 1 => by
    intro c hc
    simp only [Lib.repeatL, List.singleton_append, List.mem_cons] at hc
    rcases hc with rfl | hc
    · decide
    · exact rep_dgs k c hc
theorem dgs_two {a b : List UInt8} (ha : Dgs a) (hb : Dgs b) : Dgs (a ++ b) := fun c hc => by
  rcases List.mem_append.1 hc with h | h
  · exact ha c h
  · exact hb c h
theorem num_dec {l : List UInt8} (hne : l ≠ []) (hd0 : dgB (l.headD 0).toNat = true) (h : ¬ 0 < msN (unt l)) (hf : frcL (rst l) ≠ []) :
    numP l = if (badN l || decide (4 < (frcL (rst l)).length) || decide (0 < ldN ptB (l.drop (ldN dgB l + 1 + (frcL (rst l)).length)))) = true then (tk0, 0, 50) else if (whR (dgs l ++ (frcL (rst l) ++ Lib.repeatL [48] (4 - (frcL (rst l)).length)))).2 = false then (tk0, 0, 51) else ((4, [], (whR (dgs l ++ (frcL (rst l) ++ Lib.repeatL [48] (4 - (frcL (rst l)).length)))).1), ((ldN dgB l : Int) + 1 + (frcL (rst l)).length), 0) := by
  have hw := whl_whR (k := 4) (d := dgs l ++ (frcL (rst l) ++ Lib.repeatL [48] (4 - (frcL (rst l)).length))) (by simp [dgs_ne hne hd0]) (dgs_two (dgs_Dgs l) (dgs_two frc_dgs (rep_dgs _)))
  have ha : (amtP l).2.1 = ldN dgB l + 1 + (frcL (rst l)).length := by unfold amtP; rw [if_neg h, if_pos hf, dgs_len]
  have he : amtP l = ((decP (dgs l) (frcL (rst l))).1, (dgs l).length + 1 + (frcL (rst l)).length, (decP (dgs l) (frcL (rst l))).2) := by unfold amtP; rw [if_neg h, if_pos hf]
  unfold numP numE
  rw [ha, ngh_bad hne hd0]
  have he1 : (amtP l).1 = (decP (dgs l) (frcL (rst l))).1 := by rw [he]
  have he2 : (amtP l).2.2 = (decP (dgs l) (frcL (rst l))).2 := by rw [he]
  rw [he1, he2]
  clear he he1 he2
  generalize ldN ptB (l.drop (ldN dgB l + 1 + (frcL (rst l)).length)) = z
  unfold decP
  rw [List.append_assoc, hw]
  generalize whR (dgs l ++ (frcL (rst l) ++ Lib.repeatL [48] (4 - (frcL (rst l)).length))) = W
  obtain ⟨W1, W2⟩ := W
  cases badN l <;> by_cases h4 : 4 < (frcL (rst l)).length <;> by_cases hz : 0 < z <;> cases W2 <;> simp [h4, hz]
theorem num_int {l : List UInt8} (hne : l ≠ []) (hd0 : dgB (l.headD 0).toNat = true) (h : ¬ 0 < msN (unt l)) (hf : frcL (rst l) = []) :
    numP l = if (badN l || decide (0 < ldN ptB (rst l))) = true then (tk0, 0, 50) else if (whR (dgs l)).2 = false then (tk0, 0, 51) else ((3, [], (whR (dgs l)).1), (ldN dgB l : Int), 0) := by
  have hw := whl_whR (k := 3) (dgs_ne hne hd0) (dgs_Dgs l)
  have he : amtP l = ((whlP 3 (dgs l)).1, ldN dgB l, (whlP 3 (dgs l)).2) := by unfold amtP; rw [if_neg h, if_neg (by simp [hf]), dgs_len]
  have ha : (amtP l).2.1 = ldN dgB l := by rw [he]
  have he1 : (amtP l).1 = (whlP 3 (dgs l)).1 := by rw [he]
  have he2 : (amtP l).2.2 = (whlP 3 (dgs l)).2 := by rw [he]
  have hr : l.drop (ldN dgB l) = rst l := rfl
  unfold numP numE
  rw [ha, he1, he2, ngh_bad hne hd0, hw, hr]
  clear ha he he1 he2 hr
  generalize ldN ptB (rst l) = z
  generalize whR (dgs l) = W
  obtain ⟨W1, W2⟩ := W
  cases badN l <;> by_cases hz : 0 < z <;> cases W2 <;> simp [hz]
/- Bytes. -/
theorem lt_at {l : List UInt8} {m : Nat} (h : m < l.length) (hd : dgB (l[m]).toNat = false) : decide (0 < ldN ptB (l.drop m)) = ltB (l[m]).toNat := by
  rw [List.drop_eq_getElem_cons h]
  cases hl : ltB (l[m]).toNat with
  | true => rw [decide_eq_true]; rw [ldN_pos_cons (pt_lt hl)]; omega
  | false => rw [decide_eq_false]; rw [ldN_neg_cons (pt_no hl hd)]; omega
theorem lt_end {l : List UInt8} {m : Nat} (h : l.length ≤ m) : decide (0 < ldN ptB (l.drop m)) = false := by
  rw [List.drop_eq_nil_of_le h]; rfl
theorem ld_not {p : Nat → Bool} {l : List UInt8} {a : Nat} (h : a + ldN p (l.drop a) < l.length) : p (l[a + ldN p (l.drop a)]).toNat = false := by
  have h1 := ldN_after p (l.drop a)
  rw [List.drop_drop, List.drop_eq_getElem_cons h] at h1
  cases hc : p (l[a + ldN p (l.drop a)]).toNat with
  | false => rfl
  | true => rw [ldN_pos_cons hc] at h1; omega
theorem frc_yes {l : List UInt8} (h : ldN dgB l + 1 < l.length) (hp : (l[ldN dgB l]) = 46) (hd : dgB (l[ldN dgB l + 1]).toNat = true) : frcL (rst l) = (l.drop (ldN dgB l + 1)).take (ldN dgB (l.drop (ldN dgB l + 1))) ∧ frcL (rst l) ≠ [] := by
  have e : rst l = 46 :: l.drop (ldN dgB l + 1) := by unfold rst; rw [List.drop_eq_getElem_cons (by omega), hp]
  have e2 : frcL (rst l) = (l.drop (ldN dgB l + 1)).take (ldN dgB (l.drop (ldN dgB l + 1))) := by
    unfold frcL
    rw [e]
    have : Lib.hasPrefix (46 :: l.drop (ldN dgB l + 1)) [46] = true := by rw [pre_take (by simp)]; simp
    rw [if_pos this]; rfl
  refine ⟨e2, ?_⟩
  rw [e2, List.drop_eq_getElem_cons h, ldN_pos_cons hd]
  simpa using h
theorem frc_no1 {l : List UInt8} (h : l.length ≤ ldN dgB l + 1) : frcL (rst l) = [] := by
  unfold frcL
  split
  · next hp =>
    have : (rst l).tail = [] := by unfold rst; rw [List.tail_drop, List.drop_eq_nil_of_le h]
    rw [this]; simp
  · rfl
theorem frc_no2 {l : List UInt8} (h : ldN dgB l < l.length) (hp : (l[ldN dgB l]) ≠ 46) : frcL (rst l) = [] := by
  unfold frcL
  split
  · next hq =>
    exfalso
    obtain ⟨r, hr⟩ := pre_split hq
    unfold rst at hr
    rw [List.drop_eq_getElem_cons h] at hr
    injection hr with h1 _
    exact hp h1
  · rfl
theorem frc_no3 {l : List UInt8} (h : ldN dgB l + 1 < l.length) (hd : dgB (l[ldN dgB l + 1]).toNat = false) : frcL (rst l) = [] := by
  unfold frcL
  split
  · have : (rst l).tail = l.drop (ldN dgB l + 1) := by unfold rst; rw [List.tail_drop]
    rw [this, List.drop_eq_getElem_cons h, ldN_neg_cons hd]; rfl
  · rfl
end Go.Proofs.YthhbeejfnpcbhaaGreatDoor
