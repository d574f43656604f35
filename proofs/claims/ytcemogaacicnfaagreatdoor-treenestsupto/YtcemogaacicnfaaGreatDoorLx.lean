/- The tokens of any bytes, as a function. -/
import Derived.Test.YtcemogaacicnfaaGreatDoorNam
import Derived.Test.YtcemogaacicnfaaGreatDoorQu
import Derived.Lib.ValidU
namespace Go.Proofs.YtcemogaacicnfaaGreatDoor
open Go.ChangeShapes Go.WideShapes Go.ChangeAt Go.RowKit

def dgs (l : List UInt8) : List UInt8 := l.take (ldN dgB l)
def rst (l : List UInt8) : List UInt8 := l.drop (ldN dgB l)
def unt (l : List UInt8) : List UInt8 := (rst l).take (ldN ptB (rst l))
/-- A number and its length, beside an error, too. -/
def amtP (l : List UInt8) : Tk × Nat × Int :=
  if 0 < msN (unt l) then ((perP (dgs l) (msN (unt l))).1, (dgs l).length + (unt l).length, (perP (dgs l) (msN (unt l))).2)
  else if frcL (rst l) ≠ [] then ((decP (dgs l) (frcL (rst l))).1, (dgs l).length + 1 + (frcL (rst l)).length, (decP (dgs l) (frcL (rst l))).2)
  else ((whlP 3 (dgs l)).1, (dgs l).length, (whlP 3 (dgs l)).2)
def nghB : List UInt8 → Bool
  | c :: d :: _ => c == 48 && dgB d.toNat
  | _ => false
def numE (l : List UInt8) : Int := if nghB l || decide (0 < ldN ptB (l.drop (amtP l).2.1)) then 50 else (amtP l).2.2
def numP (l : List UInt8) : Tk × Int × Int := if numE l ≠ 0 then (tk0, 0, numE l) else ((amtP l).1, (amtP l).2.1, 0)
def txtP (l : List UInt8) : Tk × Int × Int := match quF l.tail with
  | none => (tk0, 0, 52)
  | some (x, n) => if 1024 < x.length ∨ Lib.validD x = false then (tk0, 0, 52) else ((5, x, 0), (n : Int) + 1, 0)
def tokP (l : List UInt8) : Tk × Int × Int :=
  if ltB (l.headD 0).toNat then namP l else if dgB (l.headD 0).toNat then numP l else if l.headD 0 = 39 then txtP l else sgnP l
/-- How many bytes are passed over at once; 0: none, -1: a note without an end. -/
def stp (l : List UInt8) : Int :=
  if l = [] then 0 else if blB (l.headD 0).toNat then 1 else if Lib.hasPrefix l [45, 45] then lineN l
  else if Lib.hasPrefix l [47, 42] then (if noteN l = 0 then -1 else noteN l) else 0
def skF : Nat → List UInt8 → Nat × Bool
  | 0, l => (0, stp l == 0)
  | f + 1, l => if stp l ≤ 0 then (0, stp l == 0) else ((skF f (l.drop (stp l).toNat)).1 + (stp l).toNat, (skF f (l.drop (stp l).toNat)).2)
def sk (l : List UInt8) : Nat × Bool := skF l.length l
/-- Tokens with their places, or the place and the error. -/
def lxF : Nat → List UInt8 → Int → List (Tk × Int) × Int × Int
  | 0, _, _ => ([], 0, 0)
  | f + 1, l, a =>
    if (sk l).2 = false then ([], a + (sk l).1, 50)
    else if l.drop (sk l).1 = [] then ([], 0, 0)
    else if (tokP (l.drop (sk l).1)).2.2 ≠ 0 then ([], a + (sk l).1, (tokP (l.drop (sk l).1)).2.2)
    else if (lxF f (l.drop ((sk l).1 + (tokP (l.drop (sk l).1)).2.1.toNat)) (a + (sk l).1 + (tokP (l.drop (sk l).1)).2.1)).2.2 ≠ 0 then
      lxF f (l.drop ((sk l).1 + (tokP (l.drop (sk l).1)).2.1.toNat)) (a + (sk l).1 + (tokP (l.drop (sk l).1)).2.1)
    else (((tokP (l.drop (sk l).1)).1, a + (sk l).1) :: (lxF f (l.drop ((sk l).1 + (tokP (l.drop (sk l).1)).2.1.toNat)) (a + (sk l).1 + (tokP (l.drop (sk l).1)).2.1)).1, 0, 0)
def lx (l : List UInt8) (a : Int) : List (Tk × Int) × Int × Int := lxF (l.length + 1) l a

/- Lengths. -/
theorem lineN_le (l : List UInt8) : lineN l ≤ l.length := by
  unfold lineN
  split
  · have h := Lib.index_le l [10]; rw [Lib.index_one] at h; exact h
  · exact Int.le_refl _
theorem two_of {l : List UInt8} {a b : UInt8} (h : Lib.hasPrefix l [a, b] = true) : ∃ r, l = a :: b :: r := by
  unfold Lib.hasPrefix at h
  obtain ⟨t, ht⟩ := List.isPrefixOf_iff_prefix.1 h
  exact ⟨t, ht.symm⟩
theorem lineN_dash (r : List UInt8) : 2 ≤ lineN (45 :: 45 :: r) := by
  unfold lineN
  have g := Lib.indexByte_ge r 10
  split
  · next h =>
    simp only [Lib.indexByte, show ((45 : UInt8) == 10) = false from rfl] at h ⊢
    by_cases hm : Lib.indexByte r 10 = -1
    · simp [hm] at h
    · have hm' : (Lib.indexByte r 10 == -1) = false := by simpa using hm
      simp only [hm'] at h ⊢
      simp
      split
      · omega
      · omega
  · simp; omega
theorem noteN_le (r : List UInt8) (a b : UInt8) : noteN (a :: b :: r) ≤ (a :: b :: r).length ∧ 0 ≤ noteN (a :: b :: r) := by
  unfold noteN
  split
  · constructor
    · simp; omega
    · omega
  · next h =>
    have h' : 0 ≤ Lib.index ((a :: b :: r).drop 2) [42, 47] := by omega
    have := Lib.index_room _ _ h'
    simp at this h' ⊢
    omega
theorem stp_le (l : List UInt8) : stp l ≤ l.length := by
  unfold stp
  split
  · simp
  · next hl =>
    have h1 : 1 ≤ l.length := by cases l with | nil => exact absurd rfl hl | cons => simp
    split
    · omega
    · split
      · exact lineN_le l
      · split
        · next h =>
          obtain ⟨r, rfl⟩ := two_of h
          split
          · omega
          · exact (noteN_le r _ _).1
        · omega
theorem skF_fuel : ∀ (f : Nat) (l : List UInt8), l.length ≤ f → skF f l = skF l.length l
  | 0, l, h => by
    have : l = [] := List.length_eq_zero_iff.1 (by omega)
    subst this; rfl
  | f + 1, l, h => by
    have hle := stp_le l
    cases l with
    | nil => rfl
    | cons c r =>
      show skF (f + 1) (c :: r) = skF (r.length + 1) (c :: r)
      rw [skF, skF]
      split
      · rfl
      · next hs =>
        have e : ((c :: r).drop (stp (c :: r)).toNat).length ≤ r.length := by simp; omega
        rw [skF_fuel f _ (by simp at h; omega), ← skF_fuel r.length _ e]
theorem sk_stop {l : List UInt8} (h : stp l ≤ 0) : sk l = (0, stp l == 0) := by
  unfold sk
  cases hn : l.length with
  | zero => rfl
  | succ n => rw [skF, if_pos h]
theorem sk_step {l : List UInt8} (h : 0 < stp l) : sk l = ((sk (l.drop (stp l).toNat)).1 + (stp l).toNat, (sk (l.drop (stp l).toNat)).2) := by
  have hle := stp_le l
  unfold sk
  cases hn : l.length with
  | zero => omega
  | succ n =>
    rw [skF, if_neg (by omega), skF_fuel n _ (by simp; omega)]
theorem sk_le (l : List UInt8) : (sk l).1 ≤ l.length := by
  induction hn : l.length using Nat.strongRecOn generalizing l with
  | _ n IH =>
    subst hn
    by_cases h : stp l ≤ 0
    · rw [sk_stop h]; exact Nat.zero_le _
    · have hle := stp_le l
      have hd : (l.drop (stp l).toNat).length < l.length := by simp; omega
      have ih := IH _ hd (l.drop (stp l).toNat) rfl
      rw [sk_step (by omega)]
      simp at ih ⊢
      omega
/-- Where it is ended, nothing more is passed over. -/
theorem stp_sk (l : List UInt8) : stp (l.drop (sk l).1) ≤ 0 ∧ (sk l).2 = (stp (l.drop (sk l).1) == 0) := by
  induction hn : l.length using Nat.strongRecOn generalizing l with
  | _ n IH =>
    subst hn
    by_cases h : stp l ≤ 0
    · rw [sk_stop h]; exact ⟨h, rfl⟩
    · have hle := stp_le l
      have hd : (l.drop (stp l).toNat).length < l.length := by simp; omega
      have ih := IH _ hd (l.drop (stp l).toNat) rfl
      rw [sk_step (by omega)]
      simp only [List.drop_drop] at ih ⊢
      rw [Nat.add_comm _ (stp l).toNat]
      exact ih

/- What a token is. -/
theorem whlP_ok {k : Int} {d : List UInt8} {t : Tk} (h : whlP k d = (t, 0)) : t.1 = k ∧ t.2.1 = [] := by
  unfold whlP at h
  split at h
  · injection h with h1 h2; subst h1; exact ⟨rfl, rfl⟩
  · injection h with h1 h2; cases h2
theorem ldN_pos {p : Nat → Bool} {l : List UInt8} (h : l ≠ []) (hp : p (l.headD 0).toNat = true) : 1 ≤ ldN p l := by
  cases l with
  | nil => exact absurd rfl h
  | cons c r =>
    unfold ldN
    rw [List.takeWhile_cons, if_pos (by simpa using hp)]
    simp
theorem amt_len (l : List UInt8) : ldN dgB l ≤ (amtP l).2.1 ∧ (amtP l).2.1 ≤ l.length := by
  have h1 := ldN_le dgB l
  have hd : (dgs l).length = ldN dgB l := by unfold dgs; rw [List.length_take]; omega
  have hr : (rst l).length = l.length - ldN dgB l := by unfold rst; rw [List.length_drop]
  have h2 := ldN_le ptB (rst l)
  have hu : (unt l).length = ldN ptB (rst l) := by unfold unt; rw [List.length_take]; omega
  unfold amtP
  split
  · simp only; omega
  · split
    · next hf =>
      have hq : 1 + (frcL (rst l)).length ≤ (rst l).length := by
        unfold frcL at hf ⊢
        split at hf
        · next hp =>
          rw [if_pos hp]
          have := ldN_le dgB (rst l).tail
          cases hx : rst l with
          | nil => rw [hx] at hp; simp [Lib.hasPrefix] at hp
          | cons c r => rw [hx] at this; simp at this ⊢; omega
        · exact absurd rfl hf
      simp only; omega
    · simp only; omega
theorem perP_kind {d : List UInt8} {u : Int} (h : (perP d u).2 = 0) : (perP d u).1.1 = 7 := by
  unfold perP at h ⊢
  split
  · next hc => rw [if_pos hc] at h; cases h
  · rfl
theorem whlP_kind {k : Int} {d : List UInt8} (h : (whlP k d).2 = 0) : (whlP k d).1.1 = k := (whlP_ok (t := (whlP k d).1) (by rw [← h])).1
theorem decP_kind {d b : List UInt8} (h : (decP d b).2 = 0) : (decP d b).1.1 = 4 := by
  unfold decP at h ⊢
  split
  · next hc => rw [if_pos hc] at h; cases h
  · next hc => rw [if_neg hc] at h; exact whlP_kind h
theorem amt_kind {l : List UInt8} (h : (amtP l).2.2 = 0) : (amtP l).1.1 ≠ 0 := by
  unfold amtP at h ⊢
  split
  · next hc => rw [if_pos hc] at h; rw [perP_kind h]; decide
  · next hc =>
    rw [if_neg hc] at h
    split
    · next hc => rw [if_pos hc] at h; rw [decP_kind h]; decide
    · next hc => rw [if_neg hc] at h; rw [whlP_kind h]; decide
theorem sgn_len (c : UInt8) (r : List UInt8) : sgnN (c :: r) ≤ (c :: r).length := by
  unfold sgnN
  split
  · next h => unfold sgn2 at h; simp at h ⊢; omega
  · split <;> simp
theorem tok_ok {l : List UInt8} (hl : l ≠ []) (h : (tokP l).2.2 = 0) : (tokP l).1.1 ≠ 0 ∧ 1 ≤ (tokP l).2.1 ∧ (tokP l).2.1 ≤ l.length := by
  unfold tokP at h ⊢
  split
  · next hc =>
    have h1 := ldN_pos (p := ptB) hl (by unfold ptB; rw [hc]; rfl)
    have h2 := ldN_le ptB l
    unfold namP
    split
    · refine ⟨by simp, ?_, ?_⟩ <;> simp only [List.length_take] <;> omega
    · refine ⟨by simp, ?_, ?_⟩ <;> simp only [List.length_take] <;> omega
  · next hc0 =>
    rw [if_neg hc0] at h
    split
    · next hc =>
      rw [if_pos hc] at h
      have h1 := ldN_pos (p := dgB) hl hc
      have h2 := amt_len l
      unfold numP at h ⊢
      split
      · next he => rw [if_pos he] at h; exact absurd h he
      · next he =>
        have he' : numE l = 0 := Decidable.not_not.1 he
        unfold numE at he'
        split at he'
        · cases he'
        · refine ⟨amt_kind he', ?_, ?_⟩ <;> simp only <;> omega
    · next hc1 =>
      rw [if_neg hc1] at h
      split
      · next hc =>
        rw [if_pos hc] at h
        unfold txtP at h ⊢
        cases hq : quF l.tail with
        | none => rw [hq] at h; cases h
        | some p =>
          obtain ⟨x, n⟩ := p
          rw [hq] at h
          simp only at h ⊢
          split
          · next he => rw [if_pos he] at h; cases h
          · have := quF_spec _ _ _ hq
            cases l with
            | nil => exact absurd rfl hl
            | cons c r => refine ⟨by simp, ?_, ?_⟩ <;> simp at this ⊢ <;> omega
      · next hc =>
        rw [if_neg hc] at h
        cases l with
        | nil => exact absurd rfl hl
        | cons c r =>
          have := sgn_len c r
          unfold sgnP at h ⊢
          split
          · next he => rw [if_pos he] at h; cases h
          · refine ⟨by simp, ?_, ?_⟩ <;> simp at this ⊢ <;> omega
theorem lxF_fuel : ∀ (f : Nat) (l : List UInt8) (a : Int), l.length + 1 ≤ f → lxF f l a = lxF (l.length + 1) l a
  | 0, l, a, h => by omega
  | f + 1, l, a, h => by
    have hs := sk_le l
    rw [lxF, lxF]
    split
    · rfl
    · split
      · rfl
      · next hne =>
        split
        · rfl
        · next he =>
          have ht := tok_ok hne (Decidable.not_not.1 he)
          have hd : (l.drop ((sk l).1 + (tokP (l.drop (sk l).1)).2.1.toNat)).length + 1 ≤ l.length := by simp at ht ⊢; omega
          rw [lxF_fuel f _ _ (by omega), ← lxF_fuel l.length _ _ hd]
theorem lx_bad {l : List UInt8} {a : Int} (h : (sk l).2 = false) : lx l a = ([], a + (sk l).1, 50) := by
  unfold lx; rw [lxF, if_pos h]
theorem lx_end {l : List UInt8} {a : Int} (h : (sk l).2 = true) (he : l.drop (sk l).1 = []) : lx l a = ([], 0, 0) := by
  unfold lx; rw [lxF, if_neg (by simp [h]), if_pos he]
theorem lx_err {l : List UInt8} {a : Int} (h : (sk l).2 = true) (he : l.drop (sk l).1 ≠ []) (hx : (tokP (l.drop (sk l).1)).2.2 ≠ 0) : lx l a = ([], a + (sk l).1, (tokP (l.drop (sk l).1)).2.2) := by
  unfold lx; rw [lxF, if_neg (by simp [h]), if_neg he, if_pos hx]
theorem lx_go {l : List UInt8} {a : Int} (h : (sk l).2 = true) (he : l.drop (sk l).1 ≠ []) (hx : (tokP (l.drop (sk l).1)).2.2 = 0) :
    lx l a = if (lx (l.drop ((sk l).1 + (tokP (l.drop (sk l).1)).2.1.toNat)) (a + (sk l).1 + (tokP (l.drop (sk l).1)).2.1)).2.2 ≠ 0 then lx (l.drop ((sk l).1 + (tokP (l.drop (sk l).1)).2.1.toNat)) (a + (sk l).1 + (tokP (l.drop (sk l).1)).2.1)
      else (((tokP (l.drop (sk l).1)).1, a + (sk l).1) :: (lx (l.drop ((sk l).1 + (tokP (l.drop (sk l).1)).2.1.toNat)) (a + (sk l).1 + (tokP (l.drop (sk l).1)).2.1)).1, 0, 0) := by
  have hs := sk_le l
  have ht := tok_ok he hx
  have hd : (l.drop ((sk l).1 + (tokP (l.drop (sk l).1)).2.1.toNat)).length + 1 ≤ l.length := by simp at ht ⊢; omega
  unfold lx
  rw [lxF, if_neg (by simp [h]), if_neg he, if_neg (by simp [hx]), lxF_fuel l.length _ _ hd]
end Go.Proofs.YtcemogaacicnfaaGreatDoor
