/- The lexer of the document: what stands behind. -/
import Derived.Test.YtcicdapccondkaaZpu
import Derived.Test.YtcicdapccondkaaPur
import Derived.Test.YtcicdapccondkaaZRLx
namespace Go.Proofs.Ytcicdapccondkaa
section
open Go.ChangeShapes Go.WideShapes Go.ChangeAt Go.RowKit Go.Lib
set_option linter.unusedSimpArgs false
set_option maxRecDepth 20000
set_option maxHeartbeats 4000000

/-- Tokens without their places. -/
def bar (q : List (Tk × Int)) : List Tk := q.map (·.1)
theorem lx_shift (l : List UInt8) (a b : Int) : (lx l a).2.2 = (lx l b).2.2 ∧ bar (lx l a).1 = bar (lx l b).1 := by
  induction hn : l.length using Nat.strongRecOn generalizing l a b with
  | _ n IH =>
    subst hn
    by_cases h1 : (sk l).2 = false
    · rw [lx_bad h1, lx_bad h1]; exact ⟨rfl, rfl⟩
    · have h1' : (sk l).2 = true := by simpa using h1
      by_cases h2 : l.drop (sk l).1 = []
      · rw [lx_end h1' h2, lx_end h1' h2]; exact ⟨rfl, rfl⟩
      · by_cases h3 : (tokP (l.drop (sk l).1)).2.2 = 0
        · have hs := sk_le l
          have ht := tok_ok h2 h3
          have hd : (l.drop ((sk l).1 + (tokP (l.drop (sk l).1)).2.1.toNat)).length < l.length := by simp at ht ⊢; omega
          have ih := IH _ hd (l.drop ((sk l).1 + (tokP (l.drop (sk l).1)).2.1.toNat)) (a + (sk l).1 + (tokP (l.drop (sk l).1)).2.1) (b + (sk l).1 + (tokP (l.drop (sk l).1)).2.1) rfl
          rw [lx_go h1' h2 h3, lx_go h1' h2 h3, ih.1]
          split
          · exact ih
          · refine ⟨rfl, ?_⟩
            have := ih.2
            simp only [bar, List.map_cons] at this ⊢
            rw [this]
        · rw [lx_err h1' h2 h3, lx_err h1' h2 h3]; exact ⟨rfl, rfl⟩
/-- A blank that may stand behind anything. -/
def Sep (c : UInt8) : Prop := c = 10 ∨ c = 32
theorem ldN_app {p : Nat → Bool} {c : UInt8} (h : p c.toNat = false) (x : List UInt8) : ∀ l : List UInt8, ldN p (l ++ c :: x) = ldN p l
  | [] => by simp [ldN, h]
  | d :: l => by
    have ih := ldN_app h x l
    unfold ldN at ih ⊢
    rw [List.cons_append, List.takeWhile_cons, List.takeWhile_cons]
    split
    · simp only [List.length_cons]; rw [ih]
    · rfl
theorem sep_pt {c : UInt8} (h : Sep c) : ptB c.toNat = false := by rcases h with rfl | rfl <;> rfl
theorem sep_dg {c : UInt8} (h : Sep c) : dgB c.toNat = false := by rcases h with rfl | rfl <;> rfl
theorem take_app {l x : List UInt8} {n : Nat} (h : n ≤ l.length) : (l ++ x).take n = l.take n := by
  rw [List.take_append, show n - l.length = 0 from by omega]; simp
theorem drop_app {l x : List UInt8} {n : Nat} (h : n ≤ l.length) : (l ++ x).drop n = l.drop n ++ x := by
  rw [List.drop_append, show n - l.length = 0 from by omega]; simp
theorem namP_app {c : UInt8} (h : Sep c) (l x : List UInt8) : namP (l ++ c :: x) = namP l := by
  unfold namP
  rw [ldN_app (sep_pt h), take_app (ldN_le _ _)]
theorem dgs_app {c : UInt8} (h : Sep c) (l x : List UInt8) : dgs (l ++ c :: x) = dgs l := by
  unfold dgs
  rw [ldN_app (sep_dg h), take_app (ldN_le _ _)]
theorem rst_app {c : UInt8} (h : Sep c) (l x : List UInt8) : rst (l ++ c :: x) = rst l ++ c :: x := by
  unfold rst
  rw [ldN_app (sep_dg h), drop_app (ldN_le _ _)]
theorem unt_app {c : UInt8} (h : Sep c) (l x : List UInt8) : unt (l ++ c :: x) = unt l := by
  unfold unt
  rw [rst_app h, ldN_app (sep_pt h), take_app (ldN_le _ _)]
theorem frc_app {c : UInt8} (h : Sep c) (q x : List UInt8) : frcL (q ++ c :: x) = frcL q := by
  unfold frcL
  cases q with
  | nil =>
    have : Lib.hasPrefix ([] ++ c :: x) [46] = false := by rcases h with rfl | rfl <;> rfl
    rw [this]; rfl
  | cons d r =>
    have e : Lib.hasPrefix (d :: r ++ c :: x) [46] = Lib.hasPrefix (d :: r) [46] := by simp [Lib.hasPrefix, List.isPrefixOf]
    rw [e]
    split
    · simp only [List.cons_append, List.tail_cons]
      rw [ldN_app (sep_dg h), take_app (ldN_le _ _)]
    · rfl
theorem amt_app {c : UInt8} (h : Sep c) (l x : List UInt8) : amtP (l ++ c :: x) = amtP l := by
  unfold amtP
  rw [unt_app h, dgs_app h, rst_app h, frc_app h]
theorem ngh_app {c : UInt8} (h : Sep c) (l x : List UInt8) : nghB (l ++ c :: x) = nghB l := by
  match l with
  | [] => cases x <;> rcases h with rfl | rfl <;> rfl
  | [d] =>
    show (d == 48 && dgB c.toNat) = false
    rw [sep_dg h, Bool.and_false]
  | d :: e :: r => rfl
theorem num_app {c : UInt8} (h : Sep c) (l x : List UInt8) : numP (l ++ c :: x) = numP l := by
  have e : numE (l ++ c :: x) = numE l := by
    unfold numE
    rw [amt_app h, ngh_app h, drop_app (amt_len l).2, ldN_app (sep_pt h)]
  unfold numP
  rw [e, amt_app h]
theorem qu_app {c : UInt8} (h : c ≠ 39) (x : List UInt8) : ∀ (l : List UInt8) (p : List UInt8 × Nat), quF l = some p → quF (l ++ c :: x) = some p
  | [], p, hq => by cases hq
  | [d], p, hq => by
    rw [quF] at hq
    split at hq
    · next hd => simp only [List.cons_append, List.nil_append]; rw [quF, if_pos hd, if_neg h]; exact hq
    · cases hq
  | d :: e :: r, p, hq => by
    rw [quF] at hq
    simp only [List.cons_append]
    rw [quF]
    split at hq
    · next hd =>
      rw [if_pos hd]
      split at hq
      · next he =>
        rw [if_pos he]
        cases hr : quF r with
        | none => rw [hr] at hq; cases hq
        | some p' => rw [hr] at hq; rw [qu_app h x r p' hr]; exact hq
      · next he => rw [if_neg he]; exact hq
    · next hd =>
      rw [if_neg hd]
      cases hr : quF (e :: r) with
      | none => rw [hr] at hq; cases hq
      | some p' =>
        rw [hr] at hq
        have := qu_app h x (e :: r) p' hr
        simp only [List.cons_append] at this
        rw [this]; exact hq
theorem sep_39 {c : UInt8} (h : Sep c) : c ≠ 39 := by rcases h with rfl | rfl <;> decide
theorem txt_app {c : UInt8} (h : Sep c) {l : List UInt8} (hl : l ≠ []) (x : List UInt8) (hx : (txtP l).2.2 = 0) : txtP (l ++ c :: x) = txtP l := by
  cases l with
  | nil => exact absurd rfl hl
  | cons d r =>
    unfold txtP at hx ⊢
    simp only [List.cons_append, List.tail_cons] at hx ⊢
    cases hq : quF r with
    | none => rw [hq] at hx; cases hx
    | some p => rw [qu_app (sep_39 h) x r p hq]
theorem sgn_app {c : UInt8} (h : Sep c) {l : List UInt8} (hl : l ≠ []) (x : List UInt8) : sgnP (l ++ c :: x) = sgnP l := by
  have e2 : sgn2 (l ++ c :: x) = sgn2 l := by
    match l with
    | [] => exact absurd rfl hl
    | [d] => unfold sgn2; rcases h with rfl | rfl <;> simp
    | d :: e :: r => simp [sgn2]
  have e1 : (l ++ c :: x).headD 0 = l.headD 0 := by
    cases l with
    | nil => exact absurd rfl hl
    | cons d r => rfl
  have e : sgnN (l ++ c :: x) = sgnN l := by unfold sgnN; rw [e2, e1]
  have hle : sgnN l ≤ l.length := by
    cases l with
    | nil => exact absurd rfl hl
    | cons d r => exact sgn_len d r
  unfold sgnP
  rw [e, take_app hle]
/-- A token that is one is the same one with a blank behind it. -/
theorem tok_app {c : UInt8} (h : Sep c) {l : List UInt8} (hl : l ≠ []) (x : List UInt8) (hx : (tokP l).2.2 = 0) : tokP (l ++ c :: x) = tokP l := by
  have e1 : (l ++ c :: x).headD 0 = l.headD 0 := by
    cases l with
    | nil => exact absurd rfl hl
    | cons d r => rfl
  unfold tokP at hx ⊢
  rw [e1, namP_app h, num_app h, sgn_app h hl]
  split
  · rfl
  · next h0 =>
    split
    · rfl
    · next h1 =>
      split
      · next h2 =>
        rw [if_neg h0, if_neg h1, if_pos h2] at hx
        exact txt_app h hl x hx
      · rfl
theorem two_app {c a b : UInt8} (hb : b ≠ c) {l : List UInt8} (hl : l ≠ []) (x : List UInt8) : Lib.hasPrefix (l ++ c :: x) [a, b] = Lib.hasPrefix l [a, b] := by
  match l with
  | [] => exact absurd rfl hl
  | [d] => simp [Lib.hasPrefix, List.isPrefixOf, hb]
  | d :: e :: r => simp [Lib.hasPrefix, List.isPrefixOf]
theorem ixb_app (x : List UInt8) : ∀ l : List UInt8, Lib.indexByte (l ++ 10 :: x) 10 = if Lib.indexByte l 10 ≥ 0 then Lib.indexByte l 10 else l.length
  | [] => by simp [Lib.indexByte]
  | d :: l => by
    have ih := ixb_app x l
    have g := Lib.indexByte_ge l 10
    rw [List.cons_append]
    by_cases hd : (d == 10) = true
    · have e1 : Lib.indexByte (d :: l) 10 = 0 := by simp only [Lib.indexByte]; rw [if_pos hd]
      have e2 : Lib.indexByte (d :: (l ++ 10 :: x)) 10 = 0 := by simp only [Lib.indexByte]; rw [if_pos hd]
      rw [e1, e2]; rfl
    · have e1 : Lib.indexByte (d :: l) 10 = if Lib.indexByte l 10 == -1 then -1 else Lib.indexByte l 10 + 1 := by simp only [Lib.indexByte]; rw [if_neg hd]
      have e2 : Lib.indexByte (d :: (l ++ 10 :: x)) 10 = if Lib.indexByte (l ++ 10 :: x) 10 == -1 then -1 else Lib.indexByte (l ++ 10 :: x) 10 + 1 := by simp only [Lib.indexByte]; rw [if_neg hd]
      by_cases hm : Lib.indexByte l 10 = -1
      · rw [hm, if_pos (by simp)] at e1
        rw [hm, if_neg (by omega)] at ih
        rw [ih, if_neg (by simp)] at e2
        rw [e1, e2, if_neg (by omega)]
        simp
      · rw [if_neg (by simpa using hm)] at e1
        rw [if_pos (by omega)] at ih
        rw [ih, if_neg (by simpa using hm)] at e2
        rw [e1, e2, if_pos (by omega)]
theorem line_app (l x : List UInt8) : lineN (l ++ 10 :: x) = lineN l := by
  unfold lineN
  rw [ixb_app]
  by_cases h : Lib.indexByte l 10 ≥ 0
  · rw [if_pos h, if_pos h]
  · rw [if_neg h, if_pos (by omega)]
theorem ix_app (x : List UInt8) : ∀ (l : List UInt8), Lib.index l [42, 47] ≥ 0 → Lib.index (l ++ x) [42, 47] = Lib.index l [42, 47]
  | [], h => by simp [Lib.index] at h
  | d :: l, h => by
    have g := Lib.index_ge l [42, 47]
    simp only [List.cons_append, Lib.index] at h ⊢
    by_cases hp : ([42, 47] : List UInt8).isPrefixOf (d :: l) = true
    · have hp' : ([42, 47] : List UInt8).isPrefixOf (d :: (l ++ x)) = true := by
        obtain ⟨t, ht⟩ := List.isPrefixOf_iff_prefix.1 hp
        exact List.isPrefixOf_iff_prefix.2 ⟨t ++ x, by rw [← List.append_assoc, ht]; rfl⟩
      rw [if_pos hp, if_pos hp']
    · rw [if_neg hp] at h ⊢
      have hm : (Lib.index l [42, 47] == -1) = false := by
        by_cases e : Lib.index l [42, 47] = -1
        · rw [e] at h; simp at h
        · simpa using e
      have ih := ix_app x l (by have : Lib.index l [42, 47] ≠ -1 := by simpa using hm
                                omega)
      have hp' : ¬ ([42, 47] : List UInt8).isPrefixOf (d :: (l ++ x)) = true := by
        intro hc
        apply hp
        cases l with
        | nil => simp [Lib.index] at hm
        | cons e r => simpa [List.isPrefixOf] using hc
      rw [if_neg hp', ih]
theorem note_app {l : List UInt8} (x : List UInt8) (h2 : 2 ≤ l.length) (h : noteN l ≠ 0) : noteN (l ++ x) = noteN l := by
  unfold noteN at h ⊢
  rw [drop_app h2]
  split at h
  · contradiction
  · next hi => rw [ix_app x _ (by omega)]
theorem stp_app {l : List UInt8} (hl : l ≠ []) (x : List UInt8) (h : 0 ≤ stp l) : stp (l ++ 10 :: x) = stp l := by
  have e1 : (l ++ 10 :: x).headD 0 = l.headD 0 := by
    cases l with
    | nil => exact absurd rfl hl
    | cons d r => rfl
  unfold stp at h ⊢
  rw [if_neg (by simp), e1, two_app (by decide) hl, two_app (by decide) hl, line_app, if_neg hl]
  rw [if_neg hl] at h
  split
  · rfl
  · next h0 =>
    rw [if_neg h0] at h
    split
    · rfl
    · next h1 =>
      rw [if_neg h1] at h
      split
      · next h2 =>
        rw [if_pos h2] at h
        obtain ⟨r, hr⟩ := two_of h2
        by_cases hn : noteN l = 0
        · rw [if_pos hn] at h; omega
        · rw [note_app _ (by rw [hr]; simp) hn]
      · rfl
theorem sk_app (x : List UInt8) (l : List UInt8) (h : (sk l).2 = true) : sk (l ++ 10 :: x) = if l.drop (sk l).1 = [] then (l.length + (sk (10 :: x)).1, (sk (10 :: x)).2) else sk l := by
  induction hn : l.length using Nat.strongRecOn generalizing l with
  | _ n IH =>
    subst hn
    by_cases hl : l = []
    · subst hl; simp
    · by_cases hs : stp l ≤ 0
      · have h0 : stp l = 0 := by rw [sk_stop hs] at h; simpa using h
        rw [sk_stop hs]
        rw [if_neg (by simpa using hl), sk_stop (by rw [stp_app hl _ (by omega)]; exact hs), stp_app hl _ (by omega)]
      · have hle := stp_le l
        have e := stp_app hl x (by omega : 0 ≤ stp l)
        have hd : (l.drop (stp l).toNat).length < l.length := by simp; omega
        rw [sk_step (by omega)] at h
        have ih := IH _ hd (l.drop (stp l).toNat) h rfl
        rw [sk_step (l := l ++ 10 :: x) (by omega), e, drop_app (by omega), ih, sk_step (l := l) (by omega)]
        simp only [List.drop_drop]
        rw [Nat.add_comm (sk (l.drop (stp l).toNat)).1 (stp l).toNat]
        split
        · simp only [List.length_drop, Prod.mk.injEq, and_true]; omega
        · simp only [Prod.mk.injEq, and_true]; omega
/-- Blanks and notes behind a source. -/
theorem lx_app (x : List UInt8) (hx : sk (10 :: x) = ((10 :: x).length, true)) (l : List UInt8) (a : Int) (h : (lx l a).2.2 = 0) : lx (l ++ 10 :: x) a = lx l a := by
  induction hn : l.length using Nat.strongRecOn generalizing l a with
  | _ n IH =>
    subst hn
    obtain ⟨h1, ⟨h2, h3⟩ | ⟨h2, h3, h4, h5⟩⟩ := lx_cases h
    · have e := sk_app x l h1
      rw [if_pos h2, hx] at e
      rw [h3, lx_end (by rw [e]) (by rw [e]; apply List.drop_eq_nil_of_le; simp)]
    · have e := sk_app x l h1
      rw [if_neg h2] at e
      have hs := sk_le l
      have ht := tok_ok h2 h3
      have hd : (l.drop ((sk l).1 + (tokP (l.drop (sk l).1)).2.1.toNat)).length < l.length := by simp at ht ⊢; omega
      have ed : (l ++ 10 :: x).drop (sk l).1 = l.drop (sk l).1 ++ 10 :: x := drop_app hs
      have et := tok_app (Or.inl rfl) h2 x h3
      have g3 : (tokP ((l ++ 10 :: x).drop (sk (l ++ 10 :: x)).1)).2.2 = 0 := by rw [e, ed, et]; exact h3
      have ih := IH _ hd _ _ h4 rfl
      have en : (l ++ 10 :: x).drop ((sk l).1 + (tokP (l.drop (sk l).1)).2.1.toNat) = l.drop ((sk l).1 + (tokP (l.drop (sk l).1)).2.1.toNat) ++ 10 :: x := drop_app (by simp at ht; omega)
      rw [lx_go (by rw [e]; exact h1) (by rw [e, ed]; simp) g3, h5]
      simp only [e, ed, et, en, ih, h4]
      simp
/-- Blanks and notes ahead of a source. -/
theorem lx_pre {b l : List UInt8} {a : Int} (h : sk (b ++ l) = (b.length + (sk l).1, (sk l).2)) : lx (b ++ l) a = lx l (a + b.length) := by
  have ed : (b ++ l).drop (b.length + (sk l).1) = l.drop (sk l).1 := by rw [← List.drop_drop]; simp
  by_cases h1 : (sk l).2 = false
  · rw [lx_bad (by rw [h]; exact h1), lx_bad h1, h]; simp [Int.add_assoc]
  · have h1' : (sk l).2 = true := by simpa using h1
    by_cases h2 : l.drop (sk l).1 = []
    · rw [lx_end (by rw [h]; exact h1') (by rw [h, ed]; exact h2), lx_end h1' h2]
    · by_cases h3 : (tokP (l.drop (sk l).1)).2.2 = 0
      · have en : (b ++ l).drop (b.length + (sk l).1 + (tokP (l.drop (sk l).1)).2.1.toNat) = l.drop ((sk l).1 + (tokP (l.drop (sk l).1)).2.1.toNat) := by rw [Nat.add_assoc, ← List.drop_drop]; simp
        have ea : a + ((b.length + (sk l).1 : Nat) : Int) = a + b.length + (sk l).1 := by omega
        rw [lx_go (by rw [h]; exact h1') (by rw [h, ed]; exact h2) (by rw [h, ed]; exact h3), lx_go h1' h2 h3]
        simp only [h, ed, en, ea]
      · have ea : a + ((b.length + (sk l).1 : Nat) : Int) = a + b.length + (sk l).1 := by omega
        rw [lx_err (by rw [h]; exact h1') (by rw [h, ed]; exact h2) (by rw [h, ed]; exact h3), lx_err h1' h2 h3]
        simp only [h, ed, ea]
theorem sk_bl {c : UInt8} (h : blB c.toNat = true) (l : List UInt8) : sk (c :: l) = (1 + (sk l).1, (sk l).2) := by
  have e := stp_bl h l
  rw [sk_step (by omega), e]
  simp [Nat.add_comm]
end
section
open Go.ChangeShapes Go.WideShapes Go.ChangeAt Go.RowKit
set_option linter.unusedSimpArgs false
set_option maxRecDepth 20000
set_option maxHeartbeats 4000000

def aT1 : List Tt := [((1, [97], 0), 0), ((6, [43], 0), 2), ((1, [98], 0), 4), ((6, [42], 0), 6), ((1, [99], 0), 8)]
def aT2 : List Tt := [((1, [102], 0), 0), ((6, [40], 0), 1), ((3, [], 1), 2), ((6, [44], 0), 3), ((6, [41], 0), 4)]
def aT3 : List Tt := [((1, [97], 0), 0), ((2, [110, 111, 116], 0), 2), ((2, [105, 110], 0), 6), ((6, [40], 0), 9), ((3, [], 1), 10), ((6, [44], 0), 11), ((3, [], 2), 13), ((6, [41], 0), 14), ((2, [97, 110, 100], 0), 16)]
def aX1 : X := mkX 8 [43] 0 2 [mkX 6 [97] 0 0 [], mkX 8 [42] 0 6 [mkX 6 [98] 0 4 [], mkX 6 [99] 0 8 []]]
theorem lx_a1 : lx [97, 32, 43, 32, 98, 32, 42, 32, 99] 0 = (aT1, 0, 0) := by kernel_rfl
theorem lx_a2 : lx [102, 40, 49, 44, 41] 0 = (aT2, 0, 0) := by kernel_rfl
theorem lx_a3 : lx [97, 32, 110, 111, 116, 32, 105, 110, 32, 40, 49, 44, 32, 50, 41, 32, 97, 110, 100] 0 = (aT3, 0, 0) := by kernel_rfl
theorem ex_a1 : exP aT1 12 0 0 = some (.inr (aX1, 5)) := by kernel_rfl
theorem ex_a2 : exP aT2 12 0 0 = some (.inl (4, 70)) := by kernel_rfl
theorem ex_a3 : exP aT3 20 0 0 = some (.inl (9, 70)) := by kernel_rfl
/-- The tails of ParseTail. -/
def tls : List (List UInt8) := [[44], [41], [59], [102, 114, 111, 109, 32, 120], [97, 115, 32, 121], [116, 104, 101, 110]]
def tlT : List (List Tt) := [[((6, [44], 0), 0)], [((6, [41], 0), 0)], [((6, [59], 0), 0)], [((2, [102, 114, 111, 109], 0), 0), ((1, [120], 0), 5)], [((2, [97, 115], 0), 0), ((1, [121], 0), 3)], [((2, [116, 104, 101, 110], 0), 0)]]
theorem lx_tls : tls.map (fun s => lx s 0) = tlT.map (fun t => (t, (0 : Int), (0 : Int))) := by kernel_rfl
end
section
open Go.ChangeShapes Go.WideShapes Go.ChangeAt Go.RowKit
set_option linter.unusedSimpArgs false
set_option maxRecDepth 20000
set_option maxHeartbeats 4000000

/-- The tokens of a source; none, if it has none. -/
def tkP (s : List UInt8) : List Tt := if (lx s 0).2.2 ≠ 0 then [] else (lx s 0).1
theorem lx_count (l : List UInt8) (a : Int) (h : (lx l a).2.2 = 0) : (lx l a).1.length ≤ l.length := by
  induction hn : l.length using Nat.strongRecOn generalizing l a with
  | _ n IH =>
    subst hn
    obtain ⟨h1, ⟨h2, h3⟩ | ⟨h2, h3, h4, h5⟩⟩ := lx_cases h
    · rw [h3]
      exact Nat.zero_le _
    · have hs := sk_le l
      have ht := tok_ok h2 h3
      have hd : (l.drop ((sk l).1 + (tokP (l.drop (sk l).1)).2.1.toNat)).length < l.length := by simp at ht ⊢; omega
      have ih := IH _ hd _ _ h4 rfl
      rw [h5]
      show _ + 1 ≤ _
      omega
theorem tkP_len (s : List UInt8) : (tkP s).length ≤ s.length := by
  unfold tkP
  split
  · exact Nat.zero_le _
  · rename_i h
    exact lx_count s 0 (by simpa using h)
theorem tkP_of {s : List UInt8} {T : List Tt} (h : lx s 0 = (T, 0, 0)) : tkP s = T := by
  unfold tkP
  rw [h]
  rfl
/-- Where tokens lie that the call has made. -/
def TkNew (w : World) (T : List Tt) (e : Ending) (w' : World) : Prop := (∃ a cap, e = .returned (.slice a T.length cap) ∧ TksAt w' a T ∧ ∀ g o, a = some ⟨g, o, none⟩ → w.heap.size ≤ g ∧ g < w'.heap.size) ∧ Below w.heap.size w w'
theorem Tokens_any (s : List UInt8) (w : World) (hl : s.length ≤ 104857600) : Calls Try.prog 6 #[.string (bsA s)] w (TkNew w (tkP s)) := by
  have h1 := RLex_any s w hl
  by_cases he : (lx s 0).2.2 = 0
  · have HT : Hid (tkP s = (lx s 0).1) := by show _ = _; unfold tkP; rw [if_neg (by simpa using he)]
    have HE : Hid ((lx s 0).2.2 = 0) := he
    clear he
    go_enter Try.func6, Try.ntmps6
    go_wp2_with fail
    refine h1.mono ?_
    rintro e w1 ⟨hp, hb⟩
    clear h1
    unfold LexPost2 at hp
    rw [if_neg (by simpa using HE.out)] at hp
    obtain ⟨a, cap, rfl, ht, hg, _⟩ := hp
    have HFin : Hid (TkNew w (tkP s) (.returned (.slice a (lx s 0).1.length cap)) w1) := by
      rw [HT.out]
      exact ⟨⟨a, cap, rfl, ht, hg⟩, hb⟩
    clear ht hg hb
    go_wp2
    refine bodyPost_ret (v := .slice a (lx s 0).1.length cap) (by simp [results, Try.results6, go_sem]) rfl ?_
    exact HFin.out
  · have HT : Hid (tkP s = []) := by show _ = _; unfold tkP; rw [if_pos he]
    have HE : Hid (¬ (lx s 0).2.2 = 0) := he
    clear he
    go_enter Try.func6, Try.ntmps6
    go_wp2_with fail
    refine h1.mono ?_
    rintro e w1 ⟨hp, hb⟩
    clear h1
    unfold LexPost2 at hp
    rw [if_pos HE.out] at hp
    subst hp
    have HFin : Hid (TkNew w (tkP s) (.returned (.slice none 0 0)) w1) := by
      rw [HT.out]
      exact ⟨⟨none, 0, rfl, Or.inl rfl, fun _ _ e => by cases e⟩, hb⟩
    have hne : ((lx s 0).2.2 != 0) = true := by simpa using HE.out
    clear hb
    go_wp2
    refine bodyPost_ret (v := .slice none 0 0) (by simp [results, Try.results6, go_sem]) rfl ?_
    exact HFin.out
end
section
open Go.ChangeShapes Go.WideShapes Go.ChangeAt Go.RowKit
set_option linter.unusedSimpArgs false
set_option maxRecDepth 20000
set_option maxHeartbeats 4000000

theorem XAt.kid {lo : Nat} {w : World} {k : Int} {t : List UInt8} {m a : Int} {l : List X} {s : Option Addr} (h : XAt lo w (mkX k t m a l) s) {i : Nat} {x : X} (hi : l[i]? = some x) : ∃ b, s = some ⟨b, 0, none⟩ ∧ lo ≤ b ∧ w.cell? ⟨b, i * 5 + 1, none⟩ = some (.string (bsA (xt x))) := by
  have hA := fm_all (rbX (mxB l)) l (mkX_all l)
  obtain ⟨_, h0 | ⟨b, off, rfl, ⟨hlo, rfl, _⟩, hc⟩⟩ := h
  · have h1 : (l.filterMap (rbX (mxB l))).length = 0 := congrArg List.length h0
    rw [hA.1] at h1
    rw [List.length_eq_zero_iff.1 h1] at hi
    cases hi
  · have hm := List.mem_of_getElem? hi
    have e : (l.filterMap (rbX (mxB l)))[i]? = some (rbT x.1 (mxB l) (mxB_le hm) x.2) := by rw [hA.2 i x hi, rbX_some hm]
    obtain ⟨s', c', ⟨_, h2, _⟩, _⟩ := hc i _ e
    rw [rbT_tx, Nat.zero_add] at h2
    exact ⟨b, rfl, hlo, h2⟩
/-- The examples hold. -/
theorem awake_any (w : World) : Calls Try.prog 8 #[] w fun e w' => e = .returned (.bool true) ∧ Below w.heap.size w w' := by
  have h1 := Tokens_any [97, 32, 43, 32, 98, 32, 42, 32, 99] w (by decide)
  rw [tkP_of lx_a1] at h1
  go_enter Try.func8, Try.ntmps8
  go_wp2_with fail
  refine h1.mono ?_
  rintro e w1 ⟨⟨a1, p1, rfl, ht1, hg1⟩, hb1⟩
  clear h1
  have h2 := Expr_any a1 p1 aT1 12 w1 ht1 (by decide) (fun b o e => (hg1 b o e).2) _ ex_a1
  clear ht1 hg1
  go_wp2_with fail
  refine h2.mono ?_
  rintro e w2 ⟨⟨s1, c1, rfl, hx1⟩, hb2⟩
  clear h2
  obtain ⟨b1, rfl, hlo1, hc1⟩ := XAt.kid (show XAt w1.heap.size w2 (mkX 8 [43] 0 2 [mkX 6 [97] 0 0 [], mkX 8 [42] 0 6 [mkX 6 [98] 0 4 [], mkX 6 [99] 0 8 []]]) s1 from hx1) (i := 1) rfl
  have hlt1 : b1 < w2.heap.size := cell_lt hc1
  have HB2 : Hid (Below w.heap.size w (w2.alloc (Obj.cells #[Value.int IntKind.i64 8, Value.string (bsA [43]), Value.int IntKind.i64 0, Value.int IntKind.i64 2, Value.slice (some { block := b1, off := 0 }) 2 c1] 26))) := below_new (hb1.trans (hb2.mono hb1.size)) _
  have HC1 : Hid (((w2.alloc (Obj.cells #[Value.int IntKind.i64 8, Value.string (bsA [43]), Value.int IntKind.i64 0, Value.int IntKind.i64 2, Value.slice (some { block := b1, off := 0 }) 2 c1] 26))).cell? ⟨b1, 6, none⟩ = some (.string (bsA [42]))) := cell_below ((Below.refl _ _).alloc (Nat.le_refl _) _) hc1
  have HN1 : Hid (Box5 (w2.alloc (Obj.cells #[Value.int IntKind.i64 8, Value.string (bsA [43]), Value.int IntKind.i64 0, Value.int IntKind.i64 2, Value.slice (some { block := b1, off := 0 }) 2 c1] 26)) w2.heap.size (.int .i64 8) (.string (bsA [43])) (.int .i64 0) (.int .i64 2) (.slice (some ⟨b1, 0, none⟩) 2 c1)) := Box5.new w2 _ _ _ _ _ 26
  have h3 := Tokens_any [102, 40, 49, 44, 41] (w2.alloc (Obj.cells #[Value.int IntKind.i64 8, Value.string (bsA [43]), Value.int IntKind.i64 0, Value.int IntKind.i64 2, Value.slice (some { block := b1, off := 0 }) 2 c1] 26)) (by decide)
  rw [tkP_of lx_a2] at h3
  clear hb1 hb2 hx1 hc1
  have ex : xV aX1 (some ⟨b1, 0, none⟩) c1 = .agg #[.int .i64 8, .string (bsA [43]), .int .i64 0, .int .i64 2, .slice (some ⟨b1, 0, none⟩) 2 c1] := rfl
  rw [ex]
  clear ex
  go_wp2_with fail
  refine h3.mono ?_
  rintro e w3 ⟨⟨a3, p3, rfl, ht3, hg3⟩, hb3⟩
  clear h3
  have h4 := Expr_any a3 p3 aT2 12 w3 ht3 (by decide) (fun b o e => (hg3 b o e).2) _ ex_a2
  clear ht3 hg3
  go_wp2_with fail
  refine h4.mono ?_
  rintro e w4 ⟨rfl, hb4⟩
  clear h4
  have hb34 := (hb3.trans (hb4.mono hb3.size)).alloc (show _ ≤ w4.heap.size from Nat.le_trans hb3.size hb4.size) (Obj.cells #[Value.int IntKind.i64 0, Value.string (bsA []), Value.int IntKind.i64 0, Value.int IntKind.i64 0, Value.slice none 0 0] 26)
  have HB4 : Hid (Below w.heap.size w (w4.alloc (Obj.cells #[Value.int IntKind.i64 0, Value.string (bsA []), Value.int IntKind.i64 0, Value.int IntKind.i64 0, Value.slice none 0 0] 26))) := HB2.out.trans (hb34.mono HB2.out.size)
  have HC4 : Hid ((w4.alloc (Obj.cells #[Value.int IntKind.i64 0, Value.string (bsA []), Value.int IntKind.i64 0, Value.int IntKind.i64 0, Value.slice none 0 0] 26)).cell? ⟨b1, 6, none⟩ = some (.string (bsA [42]))) := cell_below hb34 HC1.out
  have HN4 : Hid (Box5 (w4.alloc (Obj.cells #[Value.int IntKind.i64 0, Value.string (bsA []), Value.int IntKind.i64 0, Value.int IntKind.i64 0, Value.slice none 0 0] 26)) w2.heap.size (.int .i64 8) (.string (bsA [43])) (.int .i64 0) (.int .i64 2) (.slice (some ⟨b1, 0, none⟩) 2 c1)) := HN1.out.below hb34
  have h5 := Tokens_any [97, 32, 110, 111, 116, 32, 105, 110, 32, 40, 49, 44, 32, 50, 41, 32, 97, 110, 100] (w4.alloc (Obj.cells #[Value.int IntKind.i64 0, Value.string (bsA []), Value.int IntKind.i64 0, Value.int IntKind.i64 0, Value.slice none 0 0] 26)) (by decide)
  rw [tkP_of lx_a3] at h5
  clear hb3 hb4 hb34 HB2 HC1 HN1
  unfold nV
  go_wp2_with fail
  refine h5.mono ?_
  rintro e w5 ⟨⟨a5, p5, rfl, ht5, hg5⟩, hb5⟩
  clear h5
  have h6 := Expr_any a5 p5 aT3 20 w5 ht5 (by decide) (fun b o e => (hg5 b o e).2) _ ex_a3
  clear ht5 hg5
  go_wp2_with fail
  refine h6.mono ?_
  rintro e w6 ⟨rfl, hb6⟩
  clear h6
  have hb56 := (hb5.trans (hb6.mono hb5.size)).alloc (show _ ≤ w6.heap.size from Nat.le_trans hb5.size hb6.size) (Obj.cells #[Value.int IntKind.i64 0, Value.string (bsA []), Value.int IntKind.i64 0, Value.int IntKind.i64 0, Value.slice none 0 0] 26)
  have HB6 : Hid (Below w.heap.size w (w6.alloc (Obj.cells #[Value.int IntKind.i64 0, Value.string (bsA []), Value.int IntKind.i64 0, Value.int IntKind.i64 0, Value.slice none 0 0] 26))) := HB4.out.trans (hb56.mono HB4.out.size)
  have hc6 := cell_below hb56 HC4.out
  obtain ⟨n0, n1, n2, n3, n4, _, _, _, _, _⟩ := HN4.out.below hb56
  obtain ⟨z0, z1, z2, z3, z4, _, _, _, _, _⟩ := Box5.new w6 (.int .i64 0) (.string (bsA [])) (.int .i64 0) (.int .i64 0) (.slice none 0 0) 26
  have g1 : ((bsA [43]).toList == [43]) = true := by rw [bsA_tl]; rfl
  have g2 : ((bsA [42]).toList == [42]) = true := by rw [bsA_tl]; rfl
  clear hb5 hb6 hb56 HB4 HC4 HN4
  unfold nV
  go_wp2
  refine bodyPost_ret (v := .bool true) (by simp [results, Try.results8, go_sem]) rfl ?_
  exact ⟨rfl, HB6.out⟩
end
section
open Go.ChangeShapes Go.WideShapes Go.ChangeAt Go.RowKit
set_option linter.unusedSimpArgs false
set_option maxRecDepth 20000
set_option maxHeartbeats 4000000

theorem stp_dec (t : Tt) (h : (stopL.all fun p => !isT t p.1 p.2) = true ∧ t.1.1 ≠ 1) : Stp t := by
  refine ⟨fun p hp => ?_, h.2⟩
  have := List.all_eq_true.1 h.1 p hp
  simpa using this
theorem tail_tok : ∀ (i : Nat), i < 6 → ∃ t M, tkP (tls.getD i []) = t :: M ∧ Stp t ∧ (tls.getD i []).length ≤ 10 ∧ M.length ≤ 1
  | 0, _ => ⟨_, _, tkP_of (T := ((6, [44], 0), 0) :: []) (by kernel_rfl), stp_dec _ (by decide), by decide, by decide⟩
  | 1, _ => ⟨_, _, tkP_of (T := ((6, [41], 0), 0) :: []) (by kernel_rfl), stp_dec _ (by decide), by decide, by decide⟩
  | 2, _ => ⟨_, _, tkP_of (T := ((6, [59], 0), 0) :: []) (by kernel_rfl), stp_dec _ (by decide), by decide, by decide⟩
  | 3, _ => ⟨_, _, tkP_of (T := ((2, [102, 114, 111, 109], 0), 0) :: [((1, [120], 0), 5)]) (by kernel_rfl), stp_dec _ (by decide), by decide, by decide⟩
  | 4, _ => ⟨_, _, tkP_of (T := ((2, [97, 115], 0), 0) :: [((1, [121], 0), 3)]) (by kernel_rfl), stp_dec _ (by decide), by decide, by decide⟩
  | 5, _ => ⟨_, _, tkP_of (T := ((2, [116, 104, 101, 110], 0), 0) :: []) (by kernel_rfl), stp_dec _ (by decide), by decide, by decide⟩
  | n + 6, h => absurd h (by omega)
theorem tail_idx (k : Int) : ∃ i : Nat, i < 6 ∧ (wrap64 (k.tmod 6 + 6)).tmod 6 = (i : Int) := by
  have h1 := Int.tmod_lt_of_pos k (show (0 : Int) < 6 by decide)
  have h2 := Int.lt_tmod_of_pos k (show (0 : Int) < 6 by decide)
  have e : wrap64 (k.tmod 6 + 6) = k.tmod 6 + 6 := by
    unfold wrap64
    omega
  rw [e, Int.tmod_eq_emod_of_nonneg (by omega)]
  exact ⟨((k.tmod 6 + 6) % 6).toNat, by omega, by omega⟩
theorem tks_cells {w : World} {b off : Nat} {T : List Tt} (h : ∀ i t, T[i]? = some t → w.cell? ⟨b, off + i * 4, none⟩ = some (.int .i64 t.1.1) ∧ w.cell? ⟨b, off + i * 4 + 1, none⟩ = some (.string (bsA t.1.2.1)) ∧ w.cell? ⟨b, off + i * 4 + 2, none⟩ = some (.int .i64 t.1.2.2) ∧ w.cell? ⟨b, off + i * 4 + 3, none⟩ = some (.int .i64 t.2)) : ∀ j u, (rtC T)[j]? = some u → w.cell? ((⟨b, off, none⟩ : Addr).add j) = some u := by
  intro j u hj
  have hlt : j < (rtC T).length := (List.getElem?_eq_some_iff.1 hj).1
  rw [rtC_len] at hlt
  have hi : j / 4 < T.length := by omega
  have hg := List.getElem?_eq_getElem hi
  obtain ⟨c0, c1, c2, c3⟩ := rtC_at T (j / 4) _ hg
  obtain ⟨d0, d1, d2, d3⟩ := h (j / 4) _ hg
  have hadd : (⟨b, off, none⟩ : Addr).add j = ⟨b, off + j, none⟩ := by unfold Addr.add; split <;> simp_all
  rw [hadd]
  have hm : j % 4 = 0 ∨ j % 4 = 1 ∨ j % 4 = 2 ∨ j % 4 = 3 := by omega
  rcases hm with hm | hm | hm | hm
  · rw [show j = j / 4 * 4 by omega] at hj ⊢
    rw [c0] at hj
    rw [← Option.some.inj hj]; exact d0
  · rw [show j = j / 4 * 4 + 1 by omega] at hj ⊢
    rw [c1] at hj
    rw [← Option.some.inj hj]; exact d1
  · rw [show j = j / 4 * 4 + 2 by omega] at hj ⊢
    rw [c2] at hj
    rw [← Option.some.inj hj]; exact d2
  · rw [show j = j / 4 * 4 + 3 by omega] at hj ⊢
    rw [c3] at hj
    rw [← Option.some.inj hj]; exact d3
end
end Go.Proofs.Ytcicdapccondkaa
