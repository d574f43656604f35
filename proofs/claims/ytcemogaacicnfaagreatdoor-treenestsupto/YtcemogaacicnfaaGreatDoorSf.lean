/- What stands behind a token, and blanks and notes around a source. -/
import Derived.Test.YtcemogaacicnfaaGreatDoorPl
namespace Go.Proofs.YtcemogaacicnfaaGreatDoor
open Go.ChangeShapes Go.WideShapes Go.ChangeAt Go.RowKit

/-- A blank that may stand behind anything. -/
def Sep (c : UInt8) : Prop := c = 10 ∨ c = 32
theorem ldN_app {p : Nat → Bool} {c : UInt8} (h : p c.toNat = false) (x : List UInt8) : ∀ l : List UInt8, ldN p (l ++ c :: x) = ldN p l
  | [] => by simp [ldN, h]
  | d :: l => by
    have ih := ldN_app h x l
    unfold ldN at ih ⊢
    rw [List.cons_append, List.takeWhile_cons, List.takeWhile_cons]
    split
    · simp only [List.length_cons]; rw [ih]
    · rfl
theorem sep_pt {c : UInt8} (h : Sep c) : ptB c.toNat = false := by rcases h with rfl | rfl <;> rfl
theorem sep_dg {c : UInt8} (h : Sep c) : dgB c.toNat = false := by rcases h with rfl | rfl <;> rfl
theorem take_app {l x : List UInt8} {n : Nat} (h : n ≤ l.length) : (l ++ x).take n = l.take n := by
  rw [List.take_append, show n - l.length = 0 from by omega]; simp
theorem drop_app {l x : List UInt8} {n : Nat} (h : n ≤ l.length) : (l ++ x).drop n = l.drop n ++ x := by
  rw [List.drop_append, show n - l.length = 0 from by omega]; simp
theorem namP_app {c : UInt8} (h : Sep c) (l x : List UInt8) : namP (l ++ c :: x) = namP l := by
  unfold namP
  rw [ldN_app (sep_pt h), take_app (ldN_le _ _)]
theorem dgs_app {c : UInt8} (h : Sep c) (l x : List UInt8) : dgs (l ++ c :: x) = dgs l := by
  unfold dgs
  rw [ldN_app (sep_dg h), take_app (ldN_le _ _)]
theorem rst_app {c : UInt8} (h : Sep c) (l x : List UInt8) : rst (l ++ c :: x) = rst l ++ c :: x := by
  unfold rst
  rw [ldN_app (sep_dg h), drop_app (ldN_le _ _)]
theorem unt_app {c : UInt8} (h : Sep c) (l x : List UInt8) : unt (l ++ c :: x) = unt l := by
  unfold unt
  rw [rst_app h, ldN_app (sep_pt h), take_app (ldN_le _ _)]
theorem frc_app {c : UInt8} (h : Sep c) (q x : List UInt8) : frcL (q ++ c :: x) = frcL q := by
  unfold frcL
  cases q with
  | nil =>
    have : Lib.hasPrefix ([] ++ c :: x) [46] = false := by rcases h with rfl | rfl <;> rfl
    rw [this]; rfl
  | cons d r =>
    have e : Lib.hasPrefix (d :: r ++ c :: x) [46] = Lib.hasPrefix (d :: r) [46] := by simp [Lib.hasPrefix, List.isPrefixOf]
    rw [e]
    split
    · simp only [List.cons_append, List.tail_cons]
      rw [ldN_app (sep_dg h), take_app (ldN_le _ _)]
    · rfl
theorem amt_app {c : UInt8} (h : Sep c) (l x : List UInt8) : amtP (l ++ c :: x) = amtP l := by
  unfold amtP
  rw [unt_app h, dgs_app h, rst_app h, frc_app h]
theorem ngh_app {c : UInt8} (h : Sep c) (l x : List UInt8) : nghB (l ++ c :: x) = nghB l := by
  match l with
  | [] => cases x <;> rcases h with rfl | rfl <;> rfl
  | [d] =>
    show (d == 48 && dgB c.toNat) = false
    rw [sep_dg h, Bool.and_false]
  | d :: e :: r => rfl
theorem num_app {c : UInt8} (h : Sep c) (l x : List UInt8) : numP (l ++ c :: x) = numP l := by
  have e : numE (l ++ c :: x) = numE l := by
    unfold numE
    rw [amt_app h, ngh_app h, drop_app (amt_len l).2, ldN_app (sep_pt h)]
  unfold numP
  rw [e, amt_app h]
theorem qu_app {c : UInt8} (h : c ≠ 39) (x : List UInt8) : ∀ (l : List UInt8) (p : List UInt8 × Nat), quF l = some p → quF (l ++ c :: x) = some p
  | [], p, hq => by cases hq
  | [d], p, hq => by
    rw [quF] at hq
    split at hq
    · next hd => simp only [List.cons_append, List.nil_append]; rw [quF, if_pos hd, if_neg h]; exact hq
    · cases hq
  | d :: e :: r, p, hq => by
    rw [quF] at hq
    simp only [List.cons_append]
    rw [quF]
    split at hq
    · next hd =>
      rw [if_pos hd]
      split at hq
      · next he =>
        rw [if_pos he]
        cases hr : quF r with
        | none => rw [hr] at hq; cases hq
        | some p' => rw [hr] at hq; rw [qu_app h x r p' hr]; exact hq
      · next he => rw [if_neg he]; exact hq
    · next hd =>
      rw [if_neg hd]
      cases hr : quF (e :: r) with
      | none => rw [hr] at hq; cases hq
      | some p' =>
        rw [hr] at hq
        have := qu_app h x (e :: r) p' hr
        simp only [List.cons_append] at this
        rw [this]; exact hq
theorem sep_39 {c : UInt8} (h : Sep c) : c ≠ 39 := by rcases h with rfl | rfl <;> decide
theorem txt_app {c : UInt8} (h : Sep c) {l : List UInt8} (hl : l ≠ []) (x : List UInt8) (hx : (txtP l).2.2 = 0) : txtP (l ++ c :: x) = txtP l := by
  cases l with
  | nil => exact absurd rfl hl
  | cons d r =>
    unfold txtP at hx ⊢
    simp only [List.cons_append, List.tail_cons] at hx ⊢
    cases hq : quF r with
    | none => rw [hq] at hx; cases hx
    | some p => rw [qu_app (sep_39 h) x r p hq]
theorem sgn_app {c : UInt8} (h : Sep c) {l : List UInt8} (hl : l ≠ []) (x : List UInt8) : sgnP (l ++ c :: x) = sgnP l := by
  have e2 : sgn2 (l ++ c :: x) = sgn2 l := by
    match l with
    | [] => exact absurd rfl hl
    | [d] => unfold sgn2; rcases h with rfl | rfl <;> simp
    | d :: e :: r => simp [sgn2]
  have e1 : (l ++ c :: x).headD 0 = l.headD 0 := by
    cases l with
    | nil => exact absurd rfl hl
    | cons d r => rfl
  have e : sgnN (l ++ c :: x) = sgnN l := by unfold sgnN; rw [e2, e1]
  have hle : sgnN l ≤ l.length := by
    cases l with
    | nil => exact absurd rfl hl
    | cons d r => exact sgn_len d r
  unfold sgnP
  rw [e, take_app hle]
/-- A token that is one is the same one with a blank behind it. -/
theorem tok_app {c : UInt8} (h : Sep c) {l : List UInt8} (hl : l ≠ []) (x : List UInt8) (hx : (tokP l).2.2 = 0) : tokP (l ++ c :: x) = tokP l := by
  have e1 : (l ++ c :: x).headD 0 = l.headD 0 := by
    cases l with
    | nil => exact absurd rfl hl
    | cons d r => rfl
  unfold tokP at hx ⊢
  rw [e1, namP_app h, num_app h, sgn_app h hl]
  split
  · rfl
  · next h0 =>
    split
    · rfl
    · next h1 =>
      split
      · next h2 =>
        rw [if_neg h0, if_neg h1, if_pos h2] at hx
        exact txt_app h hl x hx
      · rfl
theorem two_app {c a b : UInt8} (hb : b ≠ c) {l : List UInt8} (hl : l ≠ []) (x : List UInt8) : Lib.hasPrefix (l ++ c :: x) [a, b] = Lib.hasPrefix l [a, b] := by
  match l with
  | [] => exact absurd rfl hl
  | [d] => simp [Lib.hasPrefix, List.isPrefixOf, hb]
  | d :: e :: r => simp [Lib.hasPrefix, List.isPrefixOf]
theorem ixb_app (x : List UInt8) : ∀ l : List UInt8, Lib.indexByte (l ++ 10 :: x) 10 = if Lib.indexByte l 10 ≥ 0 then Lib.indexByte l 10 else l.length
  | [] => by simp [Lib.indexByte]
  | d :: l => by
    have ih := ixb_app x l
    have g := Lib.indexByte_ge l 10
    rw [List.cons_append]
    by_cases hd : (d == 10) = true
    · have e1 : Lib.indexByte (d :: l) 10 = 0 := by simp only [Lib.indexByte]; rw [if_pos hd]
      have e2 : Lib.indexByte (d :: (l ++ 10 :: x)) 10 = 0 := by simp only [Lib.indexByte]; rw [if_pos hd]
      rw [e1, e2]; rfl
    · have e1 : Lib.indexByte (d :: l) 10 = if Lib.indexByte l 10 == -1 then -1 else Lib.indexByte l 10 + 1 := by simp only [Lib.indexByte]; rw [if_neg hd]
      have e2 : Lib.indexByte (d :: (l ++ 10 :: x)) 10 = if Lib.indexByte (l ++ 10 :: x) 10 == -1 then -1 else Lib.indexByte (l ++ 10 :: x) 10 + 1 := by simp only [Lib.indexByte]; rw [if_neg hd]
      by_cases hm : Lib.indexByte l 10 = -1
      · rw [hm, if_pos (by simp)] at e1
        rw [hm, if_neg (by omega)] at ih
        rw [ih, if_neg (by simp)] at e2
        rw [e1, e2, if_neg (by omega)]
        simp
      · rw [if_neg (by simpa using hm)] at e1
        rw [if_pos (by omega)] at ih
        rw [ih, if_neg (by simpa using hm)] at e2
        rw [e1, e2, if_pos (by omega)]
theorem line_app (l x : List UInt8) : lineN (l ++ 10 :: x) = lineN l := by
  unfold lineN
  rw [ixb_app]
  by_cases h : Lib.indexByte l 10 ≥ 0
  · rw [if_pos h, if_pos h]
  · rw [if_neg h, if_pos (by omega)]
theorem ix_app (x : List UInt8) : ∀ (l : List UInt8), Lib.index l [42, 47] ≥ 0 → Lib.index (l ++ x) [42, 47] = Lib.index l [42, 47]
  | [], h => by simp [Lib.index] at h
  | d :: l, h => by
    have g := Lib.index_ge l [42, 47]
    simp only [List.cons_append, Lib.index] at h ⊢
    by_cases hp : ([42, 47] : List UInt8).isPrefixOf (d :: l) = true
    · have hp' : ([42, 47] : List UInt8).isPrefixOf (d :: (l ++ x)) = true := by
        obtain ⟨t, ht⟩ := List.isPrefixOf_iff_prefix.1 hp
        exact List.isPrefixOf_iff_prefix.2 ⟨t ++ x, by rw [← List.append_assoc, ht]; rfl⟩
      rw [if_pos hp, if_pos hp']
    · rw [if_neg hp] at h ⊢
      have hm : (Lib.index l [42, 47] == -1) = false := by
        by_cases e : Lib.index l [42, 47] = -1
        · rw [e] at h; simp at h
        · simpa using e
      have ih := ix_app x l (by have : Lib.index l [42, 47] ≠ -1 := by simpa using hm
                                omega)
      have hp' : ¬ ([42, 47] : List UInt8).isPrefixOf (d :: (l ++ x)) = true := by
        intro hc
        apply hp
        cases l with
        | nil => simp [Lib.index] at hm
        | cons e r => simpa [List.isPrefixOf] using hc
      rw [if_neg hp', ih]
theorem note_app {l : List UInt8} (x : List UInt8) (h2 : 2 ≤ l.length) (h : noteN l ≠ 0) : noteN (l ++ x) = noteN l := by
  unfold noteN at h ⊢
  rw [drop_app h2]
  split at h
  · contradiction
  · next hi => rw [ix_app x _ (by omega)]
theorem stp_app {l : List UInt8} (hl : l ≠ []) (x : List UInt8) (h : 0 ≤ stp l) : stp (l ++ 10 :: x) = stp l := by
  have e1 : (l ++ 10 :: x).headD 0 = l.headD 0 := by
    cases l with
    | nil => exact absurd rfl hl
    | cons d r => rfl
  unfold stp at h ⊢
  rw [if_neg (by simp), e1, two_app (by decide) hl, two_app (by decide) hl, line_app, if_neg hl]
  rw [if_neg hl] at h
  split
  · rfl
  · next h0 =>
    rw [if_neg h0] at h
    split
    · rfl
    · next h1 =>
      rw [if_neg h1] at h
      split
      · next h2 =>
        rw [if_pos h2] at h
        obtain ⟨r, hr⟩ := two_of h2
        by_cases hn : noteN l = 0
        · rw [if_pos hn] at h; omega
        · rw [note_app _ (by rw [hr]; simp) hn]
      · rfl
/-- Nothing is passed over: nothing is with a blank behind it. -/
theorem stp0_app {c : UInt8} (hc : Sep c) {l : List UInt8} (hl : l ≠ []) (x : List UInt8) (h : stp l = 0) : stp (l ++ c :: x) = 0 := by
  have e1 : (l ++ c :: x).headD 0 = l.headD 0 := by
    cases l with
    | nil => exact absurd rfl hl
    | cons d r => rfl
  have n1 : (45 : UInt8) ≠ c := by rcases hc with rfl | rfl <;> decide
  have n2 : (42 : UInt8) ≠ c := by rcases hc with rfl | rfl <;> decide
  unfold stp at h ⊢
  rw [if_neg (by simp), e1, two_app n1 hl, two_app n2 hl]
  rw [if_neg hl] at h
  split at h
  · cases h
  · next h0 =>
    rw [if_neg h0]
    split at h
    · next h1 =>
      obtain ⟨r, rfl⟩ := two_of h1
      have := lineN_dash r
      omega
    · next h1 =>
      rw [if_neg h1]
      split at h
      · next h2 => split at h <;> omega
      · next h2 => rw [if_neg h2]
theorem sk_app (x : List UInt8) (l : List UInt8) (h : (sk l).2 = true) : sk (l ++ 10 :: x) = if l.drop (sk l).1 = [] then (l.length + (sk (10 :: x)).1, (sk (10 :: x)).2) else sk l := by
  induction hn : l.length using Nat.strongRecOn generalizing l with
  | _ n IH =>
    subst hn
    by_cases hl : l = []
    · subst hl; simp
    · by_cases hs : stp l ≤ 0
      · have h0 : stp l = 0 := by rw [sk_stop hs] at h; simpa using h
        rw [sk_stop hs]
        rw [if_neg (by simpa using hl), sk_stop (by rw [stp_app hl _ (by omega)]; exact hs), stp_app hl _ (by omega)]
      · have hle := stp_le l
        have e := stp_app hl x (by omega : 0 ≤ stp l)
        have hd : (l.drop (stp l).toNat).length < l.length := by simp; omega
        rw [sk_step (by omega)] at h
        have ih := IH _ hd (l.drop (stp l).toNat) h rfl
        rw [sk_step (l := l ++ 10 :: x) (by omega), e, drop_app (by omega), ih, sk_step (l := l) (by omega)]
        simp only [List.drop_drop]
        rw [Nat.add_comm (sk (l.drop (stp l).toNat)).1 (stp l).toNat]
        split
        · simp only [List.length_drop, Prod.mk.injEq, and_true]; omega
        · simp only [Prod.mk.injEq, and_true]; omega
/-- Blanks and notes behind a source. -/
theorem lx_app (x : List UInt8) (hx : sk (10 :: x) = ((10 :: x).length, true)) (l : List UInt8) (a : Int) (h : (lx l a).2.2 = 0) : lx (l ++ 10 :: x) a = lx l a := by
  induction hn : l.length using Nat.strongRecOn generalizing l a with
  | _ n IH =>
    subst hn
    obtain ⟨h1, ⟨h2, h3⟩ | ⟨h2, h3, h4, h5⟩⟩ := lx_cases h
    · have e := sk_app x l h1
      rw [if_pos h2, hx] at e
      rw [h3, lx_end (by rw [e]) (by rw [e]; apply List.drop_eq_nil_of_le; simp)]
    · have e := sk_app x l h1
      rw [if_neg h2] at e
      have hs := sk_le l
      have ht := tok_ok h2 h3
      have hd : (l.drop ((sk l).1 + (tokP (l.drop (sk l).1)).2.1.toNat)).length < l.length := by simp at ht ⊢; omega
      have ed : (l ++ 10 :: x).drop (sk l).1 = l.drop (sk l).1 ++ 10 :: x := drop_app hs
      have et := tok_app (Or.inl rfl) h2 x h3
      have g3 : (tokP ((l ++ 10 :: x).drop (sk (l ++ 10 :: x)).1)).2.2 = 0 := by rw [e, ed, et]; exact h3
      have ih := IH _ hd _ _ h4 rfl
      have en : (l ++ 10 :: x).drop ((sk l).1 + (tokP (l.drop (sk l).1)).2.1.toNat) = l.drop ((sk l).1 + (tokP (l.drop (sk l).1)).2.1.toNat) ++ 10 :: x := drop_app (by simp at ht; omega)
      rw [lx_go (by rw [e]; exact h1) (by rw [e, ed]; simp) g3, h5]
      simp only [e, ed, et, en, ih, h4]
      simp
/-- Blanks and notes ahead of a source. -/
theorem lx_pre {b l : List UInt8} {a : Int} (h : sk (b ++ l) = (b.length + (sk l).1, (sk l).2)) : lx (b ++ l) a = lx l (a + b.length) := by
  have ed : (b ++ l).drop (b.length + (sk l).1) = l.drop (sk l).1 := by rw [← List.drop_drop]; simp
  by_cases h1 : (sk l).2 = false
  · rw [lx_bad (by rw [h]; exact h1), lx_bad h1, h]; simp [Int.add_assoc]
  · have h1' : (sk l).2 = true := by simpa using h1
    by_cases h2 : l.drop (sk l).1 = []
    · rw [lx_end (by rw [h]; exact h1') (by rw [h, ed]; exact h2), lx_end h1' h2]
    · by_cases h3 : (tokP (l.drop (sk l).1)).2.2 = 0
      · have en : (b ++ l).drop (b.length + (sk l).1 + (tokP (l.drop (sk l).1)).2.1.toNat) = l.drop ((sk l).1 + (tokP (l.drop (sk l).1)).2.1.toNat) := by rw [Nat.add_assoc, ← List.drop_drop]; simp
        have ea : a + ((b.length + (sk l).1 : Nat) : Int) = a + b.length + (sk l).1 := by omega
        rw [lx_go (by rw [h]; exact h1') (by rw [h, ed]; exact h2) (by rw [h, ed]; exact h3), lx_go h1' h2 h3]
        simp only [h, ed, en, ea]
      · have ea : a + ((b.length + (sk l).1 : Nat) : Int) = a + b.length + (sk l).1 := by omega
        rw [lx_err (by rw [h]; exact h1') (by rw [h, ed]; exact h2) (by rw [h, ed]; exact h3), lx_err h1' h2 h3]
        simp only [h, ed, ea]
theorem stp_bl {c : UInt8} (h : blB c.toNat = true) (l : List UInt8) : stp (c :: l) = 1 := by
  unfold stp
  rw [if_neg (by simp), if_pos (by simpa using h)]
theorem sk_bl {c : UInt8} (h : blB c.toNat = true) (l : List UInt8) : sk (c :: l) = (1 + (sk l).1, (sk l).2) := by
  have e := stp_bl h l
  rw [sk_step (by omega), e]
  simp [Nat.add_comm]
end Go.Proofs.YtcemogaacicnfaaGreatDoor
