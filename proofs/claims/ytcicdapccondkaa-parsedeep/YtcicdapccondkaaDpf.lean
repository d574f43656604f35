/- So many nested: the pure part. -/
import Derived.Test.YtcicdapccondkaaPur
import Derived.Test.YtcicdapccondkaaPbw
import Derived.BigQuiet
import Derived.Deep.DeepCutAuto
import Derived.Deep.DrawnRows
import Derived.Deep.MidRow
import Derived.Deep.QuietTactic
import Derived.Deep.RegionHeld3
import Derived.Laws.AppendOwn
import Derived.Laws.IdiomStrings
import Derived.Laws.OwnMore
import Derived.Lib.AppendIntMem
import Derived.Lib.DecodeN
import Derived.Lib.ItoaMem
import Derived.Lib.LazyBuf
import Derived.Lib.TrimUEq
import Derived.Lib.ValidU
import Derived.LoopIn
import Derived.LoopN
import Derived.LoopNIn
import Derived.OwnWalk
import Derived.OwnWalkIn
import Derived.ProofKit
import Derived.RangeFuncBound
import Derived.RangeFuncCalls
import Derived.RangeFuncLeaves
import Derived.RangeFuncNested
import Derived.ScopeJumps
import Derived.Shelf.Abstract
import Derived.Shelf.RegionOpen
import Derived.Shelf.Small.Strs
import Derived.Shelf.Unicode.DecodeSlow
import Derived.Shelf.Unicode.ValidAny
import Derived.TacticsInMore
import Derived.WalkKit
import Derived.WalkLawsBesides
import Derived.WalkSmall
import Derived.WalkSpells
namespace Go.Proofs.Ytcicdapccondkaa
section
open Go.ChangeShapes Go.WideShapes Go.ChangeAt Go.RowKit
set_option linter.unusedSimpArgs false
set_option maxRecDepth 20000
set_option maxHeartbeats 4000000

/-- A sign ahead, as often: the tree. -/
def unX (T : List Tt) (i : Nat) (x : X) : Nat → X
  | 0 => x
  | m + 1 => tnd 7 (tkI T i) [unX T (i + 1) x m]
/-- As many signs as may be open, and not one more. -/
theorem pref_deep {T : List Tt} {k : Int} {t : List UInt8} {p : Nat → Nat → Rz X} {x : X} {j : Nat} : ∀ (m f i op : Nat), (∀ q, q < m → isT (tkI T (i + q)) k [t] = true) → isT (tkI T (i + m)) k [t] = false → m < f → op ≤ 100 → (op + m ≤ 100 → p (i + m) (op + m) = some (.inr (x, j))) →
    prefP T k t p f i op = if op + m ≤ 100 then some (.inr (unX T i x m, j)) else some (.inl (i + (100 - op), 71))
  | 0, f + 1, i, op, _, h0, _, ho, hp => by
    unfold prefP
    rw [show isT (tkI T i) k [t] = false from h0, if_neg (by decide), if_pos (by omega)]
    exact hp (by omega)
  | m + 1, f + 1, i, op, hs, h0, hf, ho, hp => by
    unfold prefP
    rw [show isT (tkI T i) k [t] = true from hs 0 (by omega), if_pos rfl]
    by_cases h1 : op = 100
    · rw [if_pos h1, if_neg (by omega)]
      subst h1
      rfl
    · rw [if_neg h1, pref_deep m f (i + 1) (op + 1) (fun q hq => by rw [show i + 1 + q = i + (q + 1) by omega]; exact hs (q + 1) (by omega)) (by rw [show i + 1 + m = i + (m + 1) by omega]; exact h0) (by omega) (by omega) (fun h => by rw [show i + 1 + m = i + (m + 1) by omega, show op + 1 + m = op + (m + 1) by omega]; exact hp (by omega))]
      by_cases h2 : op + (m + 1) ≤ 100
      · rw [if_pos h2, if_pos (by omega)]
        rfl
      · rw [if_neg h2, if_neg (by omega)]
        show some (Sum.inl (i + 1 + (100 - (op + 1)), (71 : Int))) = _
        rw [show i + 1 + (100 - (op + 1)) = i + (100 - op) by omega]
  | _, 0, _, _, _, _, h, _, _ => absurd h (by omega)
/-- A name that the tokens end with. -/
theorem prim_name {T : List Tt} {E : Nat → Nat → Rz X} {f i op : Nat} (h1 : (tkI T i).1.1 = 1) (h2 : T.length = i + 1) : primP T E f i op = some (.inr (tnd 6 (tkI T i) [], i + 1)) := by
  unfold primP
  rw [h1]
  show namedP T _ f i = _
  unfold namedP
  rw [isT_end (by decide) _ (by omega), if_neg (by decide), isT_end (by decide) _ (by omega), if_neg (fun h => absurd h.1 (by decide))]
  rfl
/-- What a line or a test of a tree that ends where the tokens do is. -/
theorem line_end {T : List Tt} {k : Int} {L : List (List UInt8)} {p : Nat → Rz X} {f : Nat} {r : Sum Er (X × Nat)} (hk : k ≠ 0) (hr : ∀ x j, r = .inr (x, j) → T.length ≤ j) : bnd (some r) (lineP T k L p (f + 1)) = some r := by
  cases r with
  | inl q => rfl
  | inr q =>
    obtain ⟨x, j⟩ := q
    show lineP T k L p (f + 1) x j = _
    unfold lineP
    rw [isT_end hk L (hr x j rfl)]
    rfl
theorem sum_end {T : List Tt} {E : Nat → Nat → Rz X} {f i op : Nat} {r : Sum Er (X × Nat)} (h : minusP T E (f + 1) i op = some r) (hr : ∀ x j, r = .inr (x, j) → T.length ≤ j) : sumP T E (f + 1) i op = some r := by
  have hp : prodP T E (f + 1) i op = some r := by
    unfold prodP
    rw [h]
    exact line_end (by decide) hr
  unfold sumP
  rw [hp]
  exact line_end (by decide) hr
theorem test_end {T : List Tt} {E : Nat → Nat → Rz X} {f i op : Nat} {r : Sum Er (X × Nat)} (h : minusP T E (f + 1) i op = some r) (hr : ∀ x j, r = .inr (x, j) → T.length ≤ j) : testP T E (f + 1) i op = some r := by
  unfold testP
  rw [sum_end h hr]
  cases r with
  | inl q => rfl
  | inr q =>
    obtain ⟨x, j⟩ := q
    have he := hr x j rfl
    show (if isT (tkI T j) 6 cmpL = true then _ else _) = _
    rw [isT_end (by decide) _ he, isT_end (by decide) _ he, isT_end (by decide) _ he, isT_end (by decide) _ he, isT_end (by decide) _ he]
    rfl
theorem or_end {T : List Tt} {E : Nat → Nat → Rz X} {f i op : Nat} {r : Sum Er (X × Nat)} (h : notP T E (f + 1) i op = some r) (hr : ∀ x j, r = .inr (x, j) → T.length ≤ j) : orP T E (f + 1) i op = some r := by
  have ha : andP T E (f + 1) i op = some r := by
    unfold andP
    rw [h]
    exact line_end (by decide) hr
  unfold orP
  rw [ha]
  exact line_end (by decide) hr
/-- So many minus signs ahead of a name. -/
theorem minus_deep (T : List Tt) (m f : Nat) (hT : T.length = m + 1) (hs : ∀ q, q < m → (tkI T q).1.1 = 6 ∧ (tkI T q).1.2.1 = [45]) (hn : (tkI T m).1.1 = 1) (hf : m < f + 1) : exP T (f + 2) 0 0 = if m < 100 then some (.inr (unX T 0 (tnd 6 (tkI T m) []) m, m + 1)) else some (.inl (99, 71)) := by
  have hi : ∀ q, q < m → isT (tkI T q) 6 [[45]] = true := fun q hq => by unfold isT; rw [(hs q hq).1, (hs q hq).2]; rfl
  have hm : minusP T (exP T (f + 1)) (f + 1) 0 1 = if m < 100 then some (.inr (unX T 0 (tnd 6 (tkI T m) []) m, m + 1)) else some (.inl (99, 71)) := by
    have h := pref_deep (T := T) (k := 6) (t := [45]) (p := primP T (exP T (f + 1)) (f + 1)) (x := tnd 6 (tkI T m) []) (j := m + 1) m (f + 1) 0 1 (fun q hq => by rw [Nat.zero_add]; exact hi q hq) (by rw [Nat.zero_add]; unfold isT; rw [hn]; rfl) hf (by omega) (fun _ => by rw [Nat.zero_add]; exact prim_name hn hT)
    unfold minusP
    rw [h]
    by_cases h1 : m < 100
    · rw [if_pos h1, if_pos (by omega)]
    · rw [if_neg h1, if_neg (by omega)]
  show (if (0 : Nat) = 100 then _ else orP T (exP T (f + 1)) (f + 1) 0 1) = _
  rw [if_neg (by decide)]
  have hno : isT (tkI T 0) 2 [[110, 111, 116]] = false := by
    cases m with
    | zero => unfold isT; rw [hn]; rfl
    | succ m => unfold isT; rw [(hs 0 (by omega)).1]; rfl
  by_cases h1 : m < 100
  · rw [if_pos h1] at hm ⊢
    have hr : ∀ x j, (Sum.inr (unX T 0 (tnd 6 (tkI T m) []) m, m + 1) : Sum Er (X × Nat)) = .inr (x, j) → T.length ≤ j := fun x j e => by cases e; omega
    refine or_end ?_ hr
    unfold notP prefP
    rw [hno, if_neg (by decide)]
    exact test_end hm hr
  · rw [if_neg h1] at hm ⊢
    have hr : ∀ x j, (Sum.inl (99, 71) : Sum Er (X × Nat)) = .inr (x, j) → T.length ≤ j := fun x j e => by cases e
    refine or_end ?_ hr
    unfold notP prefP
    rw [hno, if_neg (by decide)]
    exact test_end hm hr
/-- So many nots ahead of a name. -/
theorem not_deep (T : List Tt) (m f : Nat) (hT : T.length = m + 1) (hs : ∀ q, q < m → (tkI T q).1.1 = 2 ∧ (tkI T q).1.2.1 = [110, 111, 116]) (hn : (tkI T m).1.1 = 1) (hf : m < f + 1) : exP T (f + 2) 0 0 = if m < 100 then some (.inr (unX T 0 (tnd 6 (tkI T m) []) m, m + 1)) else some (.inl (99, 71)) := by
  have hi : ∀ q, q < m → isT (tkI T q) 2 [[110, 111, 116]] = true := fun q hq => by unfold isT; rw [(hs q hq).1, (hs q hq).2]; rfl
  have hr : ∀ x j, (Sum.inr (tnd 6 (tkI T m) [], m + 1) : Sum Er (X × Nat)) = .inr (x, j) → T.length ≤ j := fun x j e => by cases e; omega
  have hno : notP T (exP T (f + 1)) (f + 1) 0 1 = if m < 100 then some (.inr (unX T 0 (tnd 6 (tkI T m) []) m, m + 1)) else some (.inl (99, 71)) := by
    have h := pref_deep (T := T) (k := 2) (t := [110, 111, 116]) (p := testP T (exP T (f + 1)) (f + 1)) (x := tnd 6 (tkI T m) []) (j := m + 1) m (f + 1) 0 1 (fun q hq => by rw [Nat.zero_add]; exact hi q hq) (by rw [Nat.zero_add]; unfold isT; rw [hn]; rfl) hf (by omega) (fun _ => by
      rw [Nat.zero_add]
      refine test_end ?_ hr
      unfold minusP prefP
      rw [show isT (tkI T m) 6 [[45]] = false by unfold isT; rw [hn]; rfl, if_neg (by decide)]
      exact prim_name hn hT)
    unfold notP
    rw [h]
    by_cases h1 : m < 100
    · rw [if_pos h1, if_pos (by omega)]
    · rw [if_neg h1, if_neg (by omega)]
  show (if (0 : Nat) = 100 then _ else orP T (exP T (f + 1)) (f + 1) 0 1) = _
  rw [if_neg (by decide)]
  by_cases h1 : m < 100
  · rw [if_pos h1] at hno ⊢
    exact or_end hno (fun x j e => by cases e; omega)
  · rw [if_neg h1] at hno ⊢
    exact or_end hno (fun x j e => by cases e)
theorem or_stop {T : List Tt} {E : Nat → Nat → Rz X} {f i op : Nat} {r : Sum Er (X × Nat)} (h1 : isT (tkI T i) 6 [[45]] = false) (h2 : isT (tkI T i) 2 [[110, 111, 116]] = false) (h : primP T E (f + 1) i op = some r) (hr : ∀ x j, r = .inr (x, j) → ∀ p ∈ stopL, isT (tkI T j) p.1 p.2 = false) : orP T E (f + 1) i op = some r := by
  have hm : minusP T E (f + 1) i op = some r := by
    unfold minusP prefP
    rw [h1]
    exact h
  have hl : ∀ (k : Int) (L : List (List UInt8)) (p : Nat → Rz X), (k, L) ∈ stopL → bnd (some r) (lineP T k L p (f + 1)) = some r := fun k L p hk => by
    cases r with
    | inl q => rfl
    | inr q =>
      obtain ⟨x, j⟩ := q
      show lineP T k L p (f + 1) x j = _
      unfold lineP
      rw [show isT (tkI T j) k L = false from hr x j rfl (k, L) hk]
      rfl
  have hp : prodP T E (f + 1) i op = some r := by
    unfold prodP
    rw [hm]
    exact hl _ _ _ (by unfold stopL; decide)
  have hsu : sumP T E (f + 1) i op = some r := by
    unfold sumP
    rw [hp]
    exact hl _ _ _ (by unfold stopL; decide)
  have ht : testP T E (f + 1) i op = some r := by
    unfold testP
    rw [hsu]
    cases r with
    | inl q => rfl
    | inr q =>
      obtain ⟨x, j⟩ := q
      have he : ∀ k L, (k, L) ∈ stopL → isT (tkI T j) k L = false := fun k L hk => hr x j rfl (k, L) hk
      show (if isT (tkI T j) 6 cmpL = true then _ else _) = _
      rw [he 6 cmpL (by unfold stopL cmpL; decide), he 2 _ (by unfold stopL; decide), he 2 _ (by unfold stopL; decide), he 2 _ (by unfold stopL; decide), he 2 _ (by unfold stopL; decide)]
      rfl
  have hno : notP T E (f + 1) i op = some r := by
    unfold notP prefP
    rw [h2]
    exact ht
  have ha : andP T E (f + 1) i op = some r := by
    unfold andP
    rw [hno]
    exact hl _ _ _ (by unfold stopL; decide)
  unfold orP
  rw [ha]
  exact hl _ _ _ (by unfold stopL; decide)
/-- So many brackets around a name. -/
theorem br_deep (T : List Tt) (m : Nat) (hT : T.length = 2 * m + 1) (ho : ∀ q, q < m → (tkI T q).1.1 = 6 ∧ (tkI T q).1.2.1 = [40]) (hn : (tkI T m).1.1 = 1) (hc : ∀ q, m < q → q < 2 * m + 1 → (tkI T q).1.1 = 6 ∧ (tkI T q).1.2.1 = [41]) : ∀ (d F q : Nat), q + d = m → d + 2 ≤ F → q ≤ 100 → exP T F q q = if m < 100 then some (.inr (tnd 6 (tkI T m) [], 2 * m + 1 - q)) else some (.inl (100, 71)) := by
  have hst : ∀ q, m < q → ∀ p ∈ stopL, isT (tkI T q) p.1 p.2 = false := fun q hq => by
    rcases Nat.lt_or_ge q (2 * m + 1) with h | h
    · intro p hp
      have e : isT (tkI T q) p.1 p.2 = (decide (6 = p.1) && inF p.2 [41]) := by unfold isT; rw [(hc q hq h).1, (hc q hq h).2]
      rw [e]
      clear e
      revert p
      unfold stopL
      decide
    · rw [tkI_end (by omega)]
      intro p hp
      revert p
      unfold stopL
      decide
  intro d
  induction d with
  | zero =>
    intro F q hq hF h100
    obtain ⟨F, rfl⟩ : ∃ G, F = G + 2 := ⟨F - 2, by omega⟩
    have hqm : q = m := by omega
    subst hqm
    show (if q = 100 then _ else orP T (exP T (F + 1)) (F + 1) q (q + 1)) = _
    by_cases h1 : q = 100
    · rw [if_pos h1, if_neg (by omega), h1]
      rfl
    · rw [if_neg h1, if_pos (by omega)]
      refine (or_stop (r := .inr (tnd 6 (tkI T q) [], q + 1)) (by unfold isT; rw [hn]; rfl) (by unfold isT; rw [hn]; rfl) ?_ (fun x j e => by cases e; exact hst _ (by omega))).trans (by rw [show 2 * q + 1 - q = q + 1 by omega])
      unfold primP
      rw [hn]
      show namedP T _ (F + 1) q = _
      unfold namedP
      rw [hst (q + 1) (by omega) (6, [[40]]) (by unfold stopL; decide), if_neg (by decide), hst (q + 1) (by omega) (6, [[46]]) (by unfold stopL; decide), if_neg (fun h => absurd h.1 (by decide))]
      rfl
  | succ d ih =>
    intro F q hq hF h100
    obtain ⟨F, rfl⟩ : ∃ G, F = G + 2 := ⟨F - 2, by omega⟩
    obtain ⟨o1, o2⟩ := ho q (by omega)
    have hi : ∀ k L, isT (tkI T q) k L = (decide (6 = k) && inF L [40]) := fun k L => by unfold isT; rw [o1, o2]
    show (if q = 100 then _ else orP T (exP T (F + 1)) (F + 1) q (q + 1)) = _
    by_cases h1 : q = 100
    · rw [if_pos h1, if_neg (by omega), h1]
      rfl
    · rw [if_neg h1]
      have hE := ih (F + 1) (q + 1) (by omega) (by omega) (by omega)
      have hb : ∀ r, bnd (exP T (F + 1) (q + 1) (q + 1)) (fun x j => bnd (needP T 6 [41] j) fun _ j => okR x j) = some r → primP T (exP T (F + 1)) (F + 1) q (q + 1) = some r := fun r h => by
        unfold primP
        rw [o1]
        show brackP T (fun j => exP T (F + 1) j (q + 1)) q = some r
        unfold brackP
        rw [show needP T 6 [40] q = okR (tkI T q) (q + 1) by unfold needP; rw [hi]; rfl]
        exact h
      by_cases h2 : m < 100
      · rw [if_pos h2] at hE ⊢
        refine or_stop (by rw [hi]; decide) (by rw [hi]; decide) (hb _ ?_) (fun x j e => by cases e; exact hst _ (by omega))
        rw [hE]
        show bnd (needP T 6 [41] (2 * m + 1 - (q + 1))) _ = _
        unfold needP
        obtain ⟨c1, c2⟩ := hc (2 * m + 1 - (q + 1)) (by omega) (by omega)
        rw [show isT (tkI T (2 * m + 1 - (q + 1))) 6 [[41]] = true by unfold isT; rw [c1, c2]; rfl, if_pos rfl]
        show some (Sum.inr (tnd 6 (tkI T m) [], 2 * m + 1 - (q + 1) + 1)) = _
        rw [show 2 * m + 1 - (q + 1) + 1 = 2 * m + 1 - q by omega]
      · rw [if_neg h2] at hE ⊢
        refine or_stop (by rw [hi]; decide) (by rw [hi]; decide) (hb _ ?_) (fun x j e => by cases e)
        rw [hE]
        rfl
end
section
open Go.ChangeShapes Go.WideShapes Go.ChangeAt Go.RowKit
set_option linter.unusedSimpArgs false
set_option maxRecDepth 20000
set_option maxHeartbeats 4000000

/-- One token more. -/
theorem lx_one_more {l r : List UInt8} {k : Tk} {n : Nat} (hs : sk l = (0, true)) (ht : tokP l = (k, (n : Int), 0)) (hne : l ≠ []) (hd : l.drop n = r) (a : Int) (h : ∀ b, (lx r b).2.2 = 0) : (lx l a).2.2 = 0 ∧ bar (lx l a).1 = k :: bar (lx r 0).1 := by
  have e0 : l.drop (sk l).1 = l := by rw [hs]; rfl
  have e1 : tokP (l.drop (sk l).1) = (k, (n : Int), 0) := by rw [e0, ht]
  have e2 : l.drop ((sk l).1 + (tokP (l.drop (sk l).1)).2.1.toNat) = r := by
    rw [e1, hs]
    show l.drop (0 + ((n : Int)).toNat) = r
    rw [Nat.zero_add, Int.toNat_natCast, hd]
  have hg := lx_go (l := l) (a := a) (by rw [hs]) (by rw [e0]; exact hne) (by rw [e1])
  rw [e2, e1, if_neg (by rw [h]; decide)] at hg
  rw [hg]
  refine ⟨rfl, ?_⟩
  show k :: bar _ = _
  rw [(lx_shift r _ 0).2]
theorem sk_of {l : List UInt8} (h : stp l = 0) : sk l = (0, true) := (sk_stop (by rw [h]; decide)).trans (by rw [h]; rfl)
theorem t_41 (r : List UInt8) : stp (41 :: 41 :: r) = 0 ∧ tokP (41 :: 41 :: r) = ((6, [41], 0), 1, 0) := ⟨by kernel_rfl, by kernel_rfl⟩
theorem t_40 (r : List UInt8) : stp (40 :: 40 :: r) = 0 ∧ tokP (40 :: 40 :: r) = ((6, [40], 0), 1, 0) := ⟨by kernel_rfl, by kernel_rfl⟩
theorem t_4a (r : List UInt8) : stp (40 :: 97 :: r) = 0 ∧ tokP (40 :: 97 :: r) = ((6, [40], 0), 1, 0) := ⟨by kernel_rfl, by kernel_rfl⟩
theorem t_45 (r : List UInt8) : stp (45 :: 32 :: r) = 0 ∧ tokP (45 :: 32 :: r) = ((6, [45], 0), 1, 0) := ⟨by kernel_rfl, by kernel_rfl⟩
theorem t_a4 (r : List UInt8) : stp (97 :: 41 :: r) = 0 ∧ tokP (97 :: 41 :: r) = ((1, [97], 0), 1, 0) := ⟨by kernel_rfl, by kernel_rfl⟩
theorem t_no (r : List UInt8) : stp (110 :: 111 :: 116 :: 32 :: r) = 0 ∧ tokP (110 :: 111 :: 116 :: 32 :: r) = ((2, [110, 111, 116], 0), 3, 0) := ⟨by kernel_rfl, by kernel_rfl⟩
/-- The tokens of a source, but for the places. -/
def Brs (l : List UInt8) (q : List Tk) : Prop := ∀ a, (lx l a).2.2 = 0 ∧ bar (lx l a).1 = q
theorem Brs.more {l r : List UInt8} {k : Tk} {n : Nat} {q : List Tk} (h : Brs r q) (hs : stp l = 0 ∧ tokP l = (k, (n : Int), 0)) (hne : l ≠ []) (hd : l.drop n = r) : Brs l (k :: q) := fun a => by
  have h1 := lx_one_more (sk_of hs.1) hs.2 hne hd a (fun b => (h b).1)
  exact ⟨h1.1, h1.2.trans (by rw [(h 0).2])⟩
theorem Brs.blank {r : List UInt8} {q : List Tk} (h : Brs r q) : Brs (32 :: r) q := fun a => by
  have e : lx (32 :: r) a = lx r (a + 1) := lx_pre (b := [32]) (sk_bl (by decide) _)
  rw [e]
  exact h _
theorem brs_nil : Brs [] [] := fun a => by rw [lx_none]; exact ⟨rfl, rfl⟩
theorem brs_close : ∀ n : Nat, Brs (List.replicate n 41) (List.replicate n (6, [41], 0))
  | 0 => brs_nil
  | 1 => brs_nil.more (l := [41]) (k := (6, [41], 0)) (n := 1) ⟨by kernel_rfl, by kernel_rfl⟩ (by decide) rfl
  | n + 2 => (brs_close (n + 1)).more (l := 41 :: 41 :: List.replicate n 41) (k := (6, [41], 0)) (n := 1) (t_41 _) (by simp) rfl
theorem brs_a : ∀ n : Nat, Brs (97 :: List.replicate n 41) ((1, [97], 0) :: List.replicate n (6, [41], 0))
  | 0 => brs_nil.more (l := [97]) (k := (1, [97], 0)) (n := 1) ⟨by kernel_rfl, by kernel_rfl⟩ (by decide) rfl
  | n + 1 => (brs_close (n + 1)).more (l := 97 :: 41 :: List.replicate n 41) (k := (1, [97], 0)) (n := 1) (t_a4 _) (by simp) rfl
theorem rep_app {α : Type} (x : α) (n : Nat) (Y : List α) : List.replicate (n + 1) x ++ Y = x :: (List.replicate n x ++ Y) := by rw [List.replicate_succ, List.cons_append]
theorem flat_app (x : List UInt8) (n : Nat) (Y : List UInt8) : (List.replicate (n + 1) x).flatten ++ Y = x ++ ((List.replicate n x).flatten ++ Y) := by rw [List.replicate_succ, List.flatten_cons, List.append_assoc]
theorem brs_open (k : Nat) : ∀ n : Nat, Brs (List.replicate n 40 ++ 97 :: List.replicate k 41) (List.replicate n (6, [40], 0) ++ (1, [97], 0) :: List.replicate k (6, [41], 0))
  | 0 => brs_a k
  | 1 => by
    rw [rep_app, rep_app]
    have h := brs_a k
    generalize List.replicate k (41 : UInt8) = Y at h ⊢
    exact h.more (n := 1) (t_4a Y) (by simp) rfl
  | n + 2 => by
    have h := brs_open k (n + 1)
    rw [rep_app, rep_app] at h
    rw [rep_app, rep_app, rep_app, rep_app]
    generalize List.replicate n (40 : UInt8) ++ 97 :: List.replicate k (41 : UInt8) = Y at h ⊢
    exact h.more (n := 1) (t_40 Y) (by simp) rfl
theorem brs_minus : ∀ n : Nat, Brs ((List.replicate n [45, 32]).flatten ++ [97]) (List.replicate n (6, [45], 0) ++ [(1, [97], 0)])
  | 0 => brs_a 0
  | n + 1 => by
    have h := (brs_minus n).blank
    rw [flat_app, rep_app]
    generalize (List.replicate n ([45, 32] : List UInt8)).flatten ++ [97] = Y at h ⊢
    exact h.more (n := 1) (t_45 Y) (by simp) rfl
theorem brs_not : ∀ n : Nat, Brs ((List.replicate n [110, 111, 116, 32]).flatten ++ [97]) (List.replicate n (2, [110, 111, 116], 0) ++ [(1, [97], 0)])
  | 0 => brs_a 0
  | n + 1 => by
    have h := (brs_not n).blank
    rw [flat_app, rep_app]
    generalize (List.replicate n ([110, 111, 116, 32] : List UInt8)).flatten ++ [97] = Y at h ⊢
    exact h.more (n := 3) (t_no Y) (by simp) rfl
end
section
open Go.ChangeShapes Go.WideShapes Go.ChangeAt Go.RowKit
set_option linter.unusedSimpArgs false
set_option maxRecDepth 20000
set_option maxHeartbeats 4000000

/-- What stands ahead, once. -/
def pcs : List (List UInt8) := [[40], [45, 32], [110, 111, 116, 32]]
theorem flat_one (x : UInt8) : ∀ n, (List.replicate n [x]).flatten = List.replicate n x
  | 0 => rfl
  | n + 1 => by rw [List.replicate_succ, List.flatten_cons, flat_one x n]; rfl
theorem bar_at {T : List Tt} {q : List Tk} (h : bar T = q) {i : Nat} {k : Tk} (hi : q[i]? = some k) : (tkI T i).1 = k := by
  rw [← h] at hi
  unfold bar at hi
  rw [List.getElem?_map] at hi
  obtain ⟨t, ht, rfl⟩ := Option.map_eq_some_iff.1 hi
  unfold tkI
  rw [ht]
  rfl
theorem bar_len {T : List Tt} {q : List Tk} (h : bar T = q) : T.length = q.length := by rw [← h]; simp [bar]
/-- A name, with signs ahead. -/
def Chn (x : X) : Prop := ∃ (T : List Tt) (i m : Nat) (t : Tt), x = unX T i (tnd 6 t []) m ∧ t.1.2.1 = [97] ∧ ∀ q, q < m → (tkI T (i + q)).1.2.1 = [45] ∨ (tkI T (i + q)).1.2.1 = [110, 111, 116]
/-- What is read of so many nested. -/
theorem deep_pure (c m : Nat) (hc : c < 3) (P : List UInt8) (hP : pcs.getD c [] = P) : ∃ (T : List Tt) (F : Nat) (x : X), lx ((List.replicate m P).flatten ++ 97 :: (if c = 0 then List.replicate m 41 else [])) 0 = (T, 0, 0) ∧ T.length ≤ 2 * m + 1 ∧ exP T F 0 0 = (if m < 100 then some (.inr (x, T.length)) else some (.inl (if c = 0 then 100 else 99, 71))) ∧ Chn x := by
  have fin : ∀ (l : List UInt8) (q : List Tk), Brs l q → ∃ T, lx l 0 = (T, 0, 0) ∧ bar T = q := fun l q h => ⟨(lx l 0).1, lx_whole (h 0).1, (h 0).2⟩
  match c, hc with
  | 0, _ =>
    obtain rfl : P = [40] := hP.symm
    rw [if_pos rfl, flat_one]
    obtain ⟨T, h1, h2⟩ := fin _ _ (brs_open m m)
    have hl : T.length = 2 * m + 1 := by rw [bar_len h2]; simp; omega
    have ho : ∀ q, q < m → (tkI T q).1.1 = 6 ∧ (tkI T q).1.2.1 = [40] := fun q hq => by
      rw [bar_at h2 (k := (6, [40], 0)) (by rw [List.getElem?_append_left (by simpa using hq)]; simp [hq])]
      exact ⟨rfl, rfl⟩
    have hn : (tkI T m).1 = (1, [97], 0) := bar_at h2 (by rw [List.getElem?_append_right (by simp)]; simp)
    have hcl : ∀ q, m < q → q < 2 * m + 1 → (tkI T q).1.1 = 6 ∧ (tkI T q).1.2.1 = [41] := fun q h3 h4 => by
      rw [bar_at h2 (k := (6, [41], 0)) (by
        rw [List.getElem?_append_right (by simp; omega)]
        simp only [List.length_replicate]
        rw [show q - m = (q - m - 1) + 1 by omega, List.getElem?_cons_succ]
        rw [List.getElem?_replicate, if_pos (by omega)])]
      exact ⟨rfl, rfl⟩
    refine ⟨T, m + 2, tnd 6 (tkI T m) [], h1, by omega, ?_, T, 0, 0, tkI T m, rfl, by rw [hn], fun q hq => absurd hq (by omega)⟩
    rw [br_deep T m hl ho (by rw [hn]) hcl m (m + 2) 0 (by omega) (by omega) (by omega), hl]
    rfl
  | 1, _ =>
    obtain rfl : P = [45, 32] := hP.symm
    rw [if_neg (by decide), if_neg (by decide)]
    obtain ⟨T, h1, h2⟩ := fin _ _ (brs_minus m)
    have hl : T.length = m + 1 := by rw [bar_len h2]; simp
    have hs : ∀ q, q < m → (tkI T q).1.1 = 6 ∧ (tkI T q).1.2.1 = [45] := fun q hq => by
      rw [bar_at h2 (k := (6, [45], 0)) (by rw [List.getElem?_append_left (by simpa using hq)]; simp [hq])]
      exact ⟨rfl, rfl⟩
    have hn : (tkI T m).1 = (1, [97], 0) := bar_at h2 (by rw [List.getElem?_append_right (by simp)]; simp)
    refine ⟨T, m + 2, unX T 0 (tnd 6 (tkI T m) []) m, h1, by omega, ?_, T, 0, m, tkI T m, rfl, by rw [hn], fun q hq => by rw [Nat.zero_add]; exact Or.inl (hs q hq).2⟩
    rw [minus_deep T m m hl hs (by rw [hn]) (by omega), hl]
  | 2, _ =>
    obtain rfl : P = [110, 111, 116, 32] := hP.symm
    rw [if_neg (by decide), if_neg (by decide)]
    obtain ⟨T, h1, h2⟩ := fin _ _ (brs_not m)
    have hl : T.length = m + 1 := by rw [bar_len h2]; simp
    have hs : ∀ q, q < m → (tkI T q).1.1 = 2 ∧ (tkI T q).1.2.1 = [110, 111, 116] := fun q hq => by
      rw [bar_at h2 (k := (2, [110, 111, 116], 0)) (by rw [List.getElem?_append_left (by simpa using hq)]; simp [hq])]
      exact ⟨rfl, rfl⟩
    have hn : (tkI T m).1 = (1, [97], 0) := bar_at h2 (by rw [List.getElem?_append_right (by simp)]; simp)
    refine ⟨T, m + 2, unX T 0 (tnd 6 (tkI T m) []) m, h1, by omega, ?_, T, 0, m, tkI T m, rfl, by rw [hn], fun q hq => by rw [Nat.zero_add]; exact Or.inr (hs q hq).2⟩
    rw [not_deep T m m hl hs (by rw [hn]) (by omega), hl]
  | n + 3, h => exact absurd h (by omega)
end
section
open Go.ChangeShapes Go.WideShapes Go.ChangeAt Go.RowKit
set_option linter.unusedSimpArgs false
set_option maxRecDepth 20000
set_option maxHeartbeats 4000000

theorem deep_idx (k : Int) : ∃ i : Nat, i < 3 ∧ (wrap64 (k.tmod 3 + 3)).tmod 3 = (i : Int) := by
  have h1 := Int.tmod_lt_of_pos k (show (0 : Int) < 3 by decide)
  have h2 := Int.lt_tmod_of_pos k (show (0 : Int) < 3 by decide)
  have e : wrap64 (k.tmod 3 + 3) = k.tmod 3 + 3 := by
    unfold wrap64
    omega
  rw [e, Int.tmod_eq_emod_of_nonneg (by omega)]
  exact ⟨((k.tmod 3 + 3) % 3).toNat, by omega, by omega⟩
theorem deep_num (k : Int) : ∃ m : Nat, m ≤ 300 ∧ max 0 (min k 300) = (m : Int) := ⟨(max 0 (min k 300)).toNat, by omega, by omega⟩
theorem deep_walk (hF : ∀ (x : X) (s : Option Addr) (c lo : Nat) (W : World), Chn x → XAt lo W x s → Calls Try.prog 10 #[xV x s c] W fun e w' => e = .returned (.int .i64 1) ∧ Below W.heap.size W w') (n k : Int) (w : World) : Calls Try.prog 4 #[.int .i64 n, .int .i64 k] w fun e w' => e = .returned (.bool true) ∧ Below w.heap.size w w' := by
  have HFM : Hid _ := hF
  clear hF
  obtain ⟨N, hN, hNe⟩ := deep_num n
  obtain ⟨c, hc, hce⟩ := deep_idx k
  go_enter Try.func4, Try.ntmps4
  go_wp2
  obtain ⟨P, hP⟩ : ∃ P, pcs.getD c [] = P := ⟨_, rfl⟩
  have hPl : P.length ≤ 4 := by
    rw [← hP]
    match c, hc with
    | 0, _ => decide
    | 1, _ => decide
    | 2, _ => decide
    | n + 3, h => exact absurd h (by omega)
  have HCL : Hid (∀ wr : World, (wr.alloc (Obj.cells #[Value.string { data := #[40] }, Value.string { data := #[45, 32] }, Value.string { data := #[110, 111, 116, 32] }] 9)).cell? ⟨wr.heap.size, c, none⟩ = some (.string (bsA P))) := fun wr => by
    rw [← hP]
    match c, hc with
    | 0, _ => simp [go_sem]; rfl
    | 1, _ => simp [go_sem]; rfl
    | 2, _ => simp [go_sem]; rfl
    | n + 3, h => exact absurd h (by omega)
  have hc0 : (0 : Int) ≤ (c : Int) := by omega
  have hc3 : (c : Int) < 3 := by omega
  go_loopg [5, 6, 7] N (fun gk v5 v6 v7 wr => ∃ i : Nat, gk + i = N ∧ v5 = .string (bsA (List.replicate i P).flatten) ∧ v6 = .string (bsA (if c = 0 then List.replicate i 41 else [])) ∧ v7 = .int .i64 (i : Nat) ∧ Below w.heap.size w wr)
  case atStart => exact ⟨0, by omega, rfl, by split <;> rfl, rfl, Below.refl _ _⟩
  case round =>
    obtain ⟨i, hgi, rfl, rfl, rfl, hb⟩ := hrel
    have hfl : ((List.replicate i P).flatten).length ≤ 1200 := by
      have e : ((List.replicate i P).flatten).length = i * P.length := by simp
      rw [e]
      have : i * P.length ≤ 300 * 4 := Nat.mul_le_mul (by omega) hPl
      omega
    have htl : (if c = 0 then List.replicate i 41 else ([] : List UInt8)).length ≤ 300 := by split <;> simp <;> omega
    obtain ⟨A, hA⟩ : ∃ A, (List.replicate i P).flatten = A := ⟨_, rfl⟩
    obtain ⟨B, hB⟩ : ∃ B, (if c = 0 then List.replicate i 41 else ([] : List UInt8)) = B := ⟨_, rfl⟩
    rw [hA] at hfl ⊢
    rw [hB] at htl ⊢
    have HA : Hid ((List.replicate i P).flatten = A) := hA
    have HB : Hid ((if c = 0 then List.replicate i 41 else ([] : List UInt8)) = B) := hB
    have HBW : Hid (Below w.heap.size w wr) := hb
    clear hA hB hb
    have z1 : ¬ 9223372036854775807 < (bsA A).size + (bsA P).size := by rw [bsA_size, bsA_size]; omega
    have z2 : ¬ 9223372036854775807 < (bsA B).size + 1 := by rw [bsA_size]; omega
    have z3 : ¬ 9223372036854775807 < (bsA A).size + 1 := by rw [bsA_size]; omega
    have z4 : ¬ 9223372036854775807 < (bsA A).size + 1 + (bsA B).size := by rw [bsA_size, bsA_size]; omega
    by_cases hi : i < N
    · have hil : (i : Int) < (N : Int) := by omega
      have hcl := HCL.out wr
      obtain ⟨m, rfl⟩ : ∃ m, gk = m + 1 := ⟨gk - 1, by omega⟩
      have e1 : bsA A ++ bsA P = bsA (List.replicate (i + 1) P).flatten := by
        rw [app_bsA, ← HA.out]
        congr 1
        rw [List.replicate_succ', List.flatten_append]
        simp
      by_cases hcz : c = 0
      · have hcb : ((c : Int) == 0) = true := by simp [hcz]
        have e2 : bsA B ++ { data := #[41] } = bsA (if c = 0 then List.replicate (i + 1) 41 else []) := by
          show bsA B ++ bsA [41] = _
          rw [app_bsA, ← HB.out, if_pos hcz, if_pos hcz, ← List.replicate_succ']
        have hP0 : P = [40] := by rw [← hP, hcz]; rfl
        have HE1 : Hid (bsA A ++ { data := #[40] } = bsA (List.replicate (i + 1) P).flatten) := by
          show _ = _
          rw [← e1, hP0]
          rfl
        clear e1
        go_wp2
        go_roundg m
        case measure => omega
        case rel => exact ⟨i + 1, by omega, by rw [HE1.out], by rw [if_pos hcz], by push_cast; rfl, below_new HBW.out _⟩
      · have hcb : ((c : Int) == 0) = false := by simp; omega
        have e2 : bsA B = bsA (if c = 0 then List.replicate (i + 1) 41 else []) := by
          rw [← HB.out, if_neg hcz, if_neg hcz]
        go_wp2
        go_roundg m
        case measure => omega
        case rel => exact ⟨i + 1, by omega, rfl, by rw [e2], by push_cast; rfl, below_new HBW.out _⟩
    · have hil : ¬ (i : Int) < (N : Int) := by omega
      have hiN : i = N := by omega
      subst hiN
      obtain ⟨T, F, x, hlx, hTl, hex, hch⟩ := deep_pure c i hc P hP
      rw [HA.out, HB.out] at hlx
      have h1 := Tokens_any (A ++ 97 :: B) wr (by simp; omega)
      rw [tkP_of hlx] at h1
      have es : (bsA A ++ { data := #[97] }) ++ bsA B = bsA (A ++ 97 :: B) := by
        show (bsA A ++ bsA [97]) ++ bsA B = _
        rw [app_bsA, app_bsA, List.append_assoc]
        rfl
      rw [← es] at h1
      clear es hlx
      have HCH : Hid (Chn x) := hch
      clear hch
      obtain ⟨lt, hlt⟩ : ∃ lt, T.length = lt := ⟨_, rfl⟩
      have HLT : Hid (T.length = lt) := hlt
      go_wp2_with fail
      refine h1.mono ?_
      rintro e w1 ⟨⟨a1, p1, rfl, ht1, hg1⟩, hb1⟩
      clear h1 z1 z2 z3 z4
      by_cases h100 : i < 100
      · rw [if_pos h100] at hex
        have h2 := Expr_any a1 p1 T _ w1 ht1 (by omega) (fun b o e => (hg1 b o e).2) _ hex
        rw [hlt] at h2 ⊢
        have hi1 : (i : Int) < 100 := by omega
        have hjj : ((lt : Int) == (lt : Int)) = true := by simp
        clear ht1 hg1 hex hlt
        go_wp2_with fail
        refine h2.mono ?_
        rintro e w2 ⟨⟨s1, c1, rfl, hx⟩, hb2⟩
        clear h2
        have hb := HBW.out.trans ((hb1.trans (hb2.mono hb1.size)).mono HBW.out.size)
        have HB2 : Hid (Below w.heap.size w (w2.alloc (Obj.cells #[Value.int IntKind.i64 (xk x), Value.string (bsA (xt x)), Value.int IntKind.i64 (xn x), Value.int IntKind.i64 (xa x), Value.slice s1 (xl x) c1] 26))) := below_new hb _
        have h3 := HFM.out x s1 c1 w1.heap.size (w2.alloc (Obj.cells #[Value.int IntKind.i64 (xk x), Value.string (bsA (xt x)), Value.int IntKind.i64 (xn x), Value.int IntKind.i64 (xa x), Value.slice s1 (xl x) c1] 26)) HCH.out (XAt.below hx ((Below.refl _ _).alloc (Nat.le_refl _) _))
        obtain ⟨y0, y1, y2, y3, y4, _, _, _, _, _⟩ := Box5.new w2 (.int .i64 (xk x)) (.string (bsA (xt x))) (.int .i64 (xn x)) (.int .i64 (xa x)) (.slice s1 (xl x) c1) 26
        clear hx hb hb1 hb2
        unfold xV nV at h3
        unfold xV nV
        go_wp2_with fail
        refine h3.mono ?_
        rintro e w3 ⟨rfl, hb3⟩
        clear h3 y0 y1 y2 y3 y4
        have HB3 : Hid (Below w.heap.size w w3) := HB2.out.trans (hb3.mono HB2.out.size)
        clear hb3
        have h9 := awake_any w3
        go_wp2_with fail
        refine h9.mono ?_
        rintro e w9 ⟨rfl, hb9⟩
        clear h9
        have HFin : Hid (Below w.heap.size w w9) := (HB3.out).trans (hb9.mono (HB3.out).size)
        clear hb9
        go_wp2
        refine bodyPost_ret (v := .bool true) (by simp [results, Try.results4, go_sem]) rfl ?_
        exact ⟨rfl, HFin.out⟩
      · rw [if_neg h100] at hex
        have hi1 : ¬ (i : Int) < 100 := by omega
        by_cases hcz : c = 0
        · rw [if_pos hcz] at hex
          have hcb : ((c : Int) == 0) = true := by simp [hcz]
          have h2 := Expr_any a1 p1 T _ w1 ht1 (by omega) (fun b o e => (hg1 b o e).2) _ hex
          rw [hlt] at h2 ⊢
          clear ht1 hg1 hex hlt
          go_wp2_with fail
          refine h2.mono ?_
          rintro e w2 ⟨rfl, hb2⟩
          clear h2
          have HB2 : Hid (Below w.heap.size w (w2.alloc (Obj.cells #[Value.int IntKind.i64 0, Value.string (bsA []), Value.int IntKind.i64 0, Value.int IntKind.i64 0, Value.slice none 0 0] 26))) := below_new (HBW.out.trans ((hb1.trans (hb2.mono hb1.size)).mono HBW.out.size)) _
          obtain ⟨y0, y1, y2, y3, y4, _, _, _, _, _⟩ := Box5.new w2 (.int .i64 0) (.string (bsA [])) (.int .i64 0) (.int .i64 0) (.slice none 0 0) 26
          clear hb1 hb2
          unfold nV
          have h9 := awake_any (w2.alloc (Obj.cells #[Value.int IntKind.i64 0, Value.string (bsA []), Value.int IntKind.i64 0, Value.int IntKind.i64 0, Value.slice none 0 0] 26))
          go_wp2_with fail
          refine h9.mono ?_
          rintro e w9 ⟨rfl, hb9⟩
          clear h9
          have HFin : Hid (Below w.heap.size w w9) := (HB2.out).trans (hb9.mono (HB2.out).size)
          clear hb9
          go_wp2
          refine bodyPost_ret (v := .bool true) (by simp [results, Try.results4, go_sem]) rfl ?_
          exact ⟨rfl, HFin.out⟩
        · rw [if_neg hcz] at hex
          have hcb : ((c : Int) == 0) = false := by simp; omega
          have h2 := Expr_any a1 p1 T _ w1 ht1 (by omega) (fun b o e => (hg1 b o e).2) _ hex
          rw [hlt] at h2 ⊢
          clear ht1 hg1 hex hlt
          go_wp2_with fail
          refine h2.mono ?_
          rintro e w2 ⟨rfl, hb2⟩
          clear h2
          have HB2 : Hid (Below w.heap.size w (w2.alloc (Obj.cells #[Value.int IntKind.i64 0, Value.string (bsA []), Value.int IntKind.i64 0, Value.int IntKind.i64 0, Value.slice none 0 0] 26))) := below_new (HBW.out.trans ((hb1.trans (hb2.mono hb1.size)).mono HBW.out.size)) _
          obtain ⟨y0, y1, y2, y3, y4, _, _, _, _, _⟩ := Box5.new w2 (.int .i64 0) (.string (bsA [])) (.int .i64 0) (.int .i64 0) (.slice none 0 0) 26
          clear hb1 hb2
          unfold nV
          have h9 := awake_any (w2.alloc (Obj.cells #[Value.int IntKind.i64 0, Value.string (bsA []), Value.int IntKind.i64 0, Value.int IntKind.i64 0, Value.slice none 0 0] 26))
          go_wp2_with fail
          refine h9.mono ?_
          rintro e w9 ⟨rfl, hb9⟩
          clear h9
          have HFin : Hid (Below w.heap.size w w9) := (HB2.out).trans (hb9.mono (HB2.out).size)
          clear hb9
          go_wp2
          refine bodyPost_ret (v := .bool true) (by simp [results, Try.results4, go_sem]) rfl ?_
          exact ⟨rfl, HFin.out⟩
end
section
open Go.ChangeShapes Go.WideShapes Go.ChangeAt Go.RowKit
set_option linter.unusedSimpArgs false
set_option maxRecDepth 20000
set_option maxHeartbeats 4000000

def s_dgB (n : Int) : Bool := decide (48 ≤ n) && decide (n ≤ 57)
def s_ltB (n : Int) : Bool := (decide (97 ≤ n) && decide (n ≤ 122)) || (decide (65 ≤ n) && decide (n ≤ 90))
def s_nmB (n : Int) : Bool := s_ltB n || s_dgB n || n == 95
theorem s_all_step (s : ByteArray) (m : Nat) (h : m < s.size) (f : UInt8 → Bool) : (s.data.toList.drop m).all f = (f s[m] && (s.data.toList.drop (m + 1)).all f) := by
  have hl : m < s.data.toList.length := by rw [Array.length_toList]; exact h
  rw [List.drop_eq_getElem_cons hl, List.all_cons]
  rfl
def s_nmF (c : UInt8) : Bool := s_nmB c.toNat
def s_nmL (s : ByteArray) (m : Nat) : Bool := (s.data.toList.drop m).all s_nmF
theorem s_nmL_step (s : ByteArray) (m : Nat) (h : m < s.size) : s_nmL s m = (s_nmB s[m].toNat && s_nmL s (m + 1)) := s_all_step s m h s_nmF
theorem s_nmL_end (s : ByteArray) (m : Nat) (h : s.size ≤ m) : s_nmL s m = true := by
  unfold s_nmL
  rw [List.drop_eq_nil_of_le (by rw [Array.length_toList]; exact h)]
  rfl
/-- Is a text a name? -/
def s_nameS (s : ByteArray) : Bool := if h : 0 < s.size then decide ((s.size : Int) ≤ 64) && !s_dgB s[0].toNat && s_nmL s 0 else false
/-- Trees side by side at sl, with the room that is told. -/
def KsGL (n : Nat) (w : World) (sl : Option Addr) (cap : Nat) (l : List (Tr n)) (p : Tr n → Option Addr → Nat → Prop) : Prop :=
  l.length ≤ 9223372036854775807 ∧ (l = [] ∨ ∃ b off, sl = some ⟨b, off, none⟩ ∧ ∀ i y, l[i]? = some y → ∃ s c, (w.cell? ⟨b, off + i * 5, none⟩ = some (.int .i64 (kd n y)) ∧ w.cell? ⟨b, off + i * 5 + 1, none⟩ = some (.string (bsA (tx n y))) ∧ w.cell? ⟨b, off + i * 5 + 2, none⟩ = some (.int .i64 (nu n y)) ∧ w.cell? ⟨b, off + i * 5 + 3, none⟩ = some (.int .i64 (pl n y)) ∧ w.cell? ⟨b, off + i * 5 + 4, none⟩ = some (.slice s (ks n y).length c)) ∧ p y s c) ∧ l.length ≤ cap
def NdG (w : World) : (n : Nat) → Tr n → Option Addr → Nat → Prop
  | 0, _, _, _ => False
  | n + 1, x, sl, cap => KsGL n w sl cap (ks (n + 1) x) (NdG w n)
def KsG (w : World) (n : Nat) (sl : Option Addr) (cap : Nat) (l : List (Tr n)) : Prop := KsGL n w sl cap l (NdG w n)
theorem NdG.kids {w : World} {n : Nat} {x : Tr (n + 1)} {sl : Option Addr} {cap : Nat} (h : NdG w (n + 1) x sl cap) : KsG w n sl cap (ks (n + 1) x) := h
theorem KsGL.mono {n : Nat} {w w' : World} {sl : Option Addr} {cap : Nat} {l : List (Tr n)} {p q : Tr n → Option Addr → Nat → Prop} (h : KsGL n w sl cap l p) (hb : Below w.heap.size w w') (hpq : ∀ y s c, p y s c → q y s c) : KsGL n w' sl cap l q := by
  obtain ⟨hl, h, hcap⟩ := h
  refine ⟨hl, ?_, hcap⟩
  rcases h with h | ⟨b, off, e, hc⟩
  · exact Or.inl h
  · refine Or.inr ⟨b, off, e, fun i y hi => ?_⟩
    obtain ⟨s, c, ⟨c0, c1, c2, c3, c4⟩, hp⟩ := hc i y hi
    exact ⟨s, c, ⟨cell_below hb c0, cell_below hb c1, cell_below hb c2, cell_below hb c3, cell_below hb c4⟩, hpq y s c hp⟩
theorem NdG.below {w w' : World} (hb : Below w.heap.size w w') : ∀ {n : Nat} {x : Tr n} {sl : Option Addr} {cap : Nat}, NdG w n x sl cap → NdG w' n x sl cap
  | 0, _, _, _, h => h
  | n + 1, _, _, _, h => KsGL.mono (p := NdG w n) (q := NdG w' n) h hb (fun _ _ _ h => NdG.below hb h)
theorem KsG.below {w w' : World} {n : Nat} {sl : Option Addr} {cap : Nat} {l : List (Tr n)} (h : KsG w n sl cap l) (hb : Below w.heap.size w w') : KsG w' n sl cap l :=
  KsGL.mono h hb (fun _ _ _ h => NdG.below hb h)
/-- The first of them, and those behind. -/
theorem KsG.take {w : World} {n : Nat} {sl : Option Addr} {cap : Nat} {l : List (Tr n)} (h : KsG w n sl cap l) (k : Nat) : KsG w n sl cap (l.take k) := by
  obtain ⟨hl, h, hcap⟩ := h
  have hk : (l.take k).length ≤ l.length := by rw [List.length_take]; omega
  refine ⟨by omega, ?_, by omega⟩
  rcases h with h | ⟨b, off, e, hc⟩
  · exact Or.inl (by rw [h]; simp)
  · refine Or.inr ⟨b, off, e, fun i y hi => hc i y ?_⟩
    rw [List.getElem?_take] at hi
    split at hi
    · exact hi
    · cases hi
theorem KsG.drop {w : World} {n : Nat} {b off cap : Nat} {l : List (Tr n)} (h : KsG w n (some ⟨b, off, none⟩) cap l) (k : Nat) : KsG w n (some ⟨b, off + k * 5, none⟩) (cap - k) (l.drop k) := by
  obtain ⟨hl, h, hcap⟩ := h
  have hk : (l.drop k).length = l.length - k := List.length_drop ..
  refine ⟨by omega, ?_, by omega⟩
  rcases h with h | ⟨b, off, e, hc⟩
  · exact Or.inl (by rw [h]; simp)
  · cases e
    refine Or.inr ⟨b, off + k * 5, rfl, fun i y hi => ?_⟩
    rw [List.getElem?_drop] at hi
    obtain ⟨s, c, hcs, hp⟩ := hc (k + i) y hi
    rw [show off + (k + i) * 5 = off + k * 5 + i * 5 by omega] at hcs
    exact ⟨s, c, hcs, hp⟩
theorem Kc.setCell {n₀ B : Nat} (W : World) (b o : Nat) (v : Value) (h1 : n₀ ≤ b) (h2 : b < B) : Kc n₀ B W (W.setCell ⟨b, o, none⟩ v) := by
  refine ⟨by simp, fun k x hk hx _ => ?_⟩
  rw [← hx]
  exact heap_setCell_other _ _ _ _ (by rcases hk with h | h <;> (show k ≠ b; omega))
/-- A function, with what it holds, that tells of trees by P. -/
structure May (k : FuncId) (cs : List Value) (n : Nat) (P : Tr n → Bool) (w : World) : Prop where
  ent : Ent k
  run : ∀ W : World, Below w.heap.size w W → ∀ (y : Tr n) (s : Option Addr) (c : Nat), NdG W n y s c → Calls Try.prog k (ndV n y s c :: cs).toArray W fun e w' => e = .returned (.bool (P y)) ∧ Below W.heap.size W w'
theorem May.below {k : FuncId} {cs : List Value} {n : Nat} {P : Tr n → Bool} {w w' : World} (h : May k cs n P w) (hb : Below w.heap.size w w') : May k cs n P w' := ⟨h.1, fun W hW y s c hy => h.2 W (hb.trans (hW.mono hb.size)) y s c hy⟩
/-- A tree in a box, as it is while a test goes over it. -/
structure Nd (w : World) (n : Nat) (k : Int) (t : List UInt8) (m a : Int) (l : List (Tr n)) (s : Option Addr) (c : Nat) (W : World) : Prop where
  box : Box5 W w.heap.size (.int .i64 k) (.string (bsA t)) (.int .i64 m) (.int .i64 a) (.slice s l.length c)
  kids : KsG W n s c l
  bel : Below w.heap.size w W
  rdy : Rdy W
theorem Nd.new (w : World) (n : Nat) (k : Int) (t : List UInt8) (m a : Int) (l : List (Tr n)) (s : Option Addr) (c : Nat) (hR : Rdy w) (hl : KsG w n s c l) : Nd w n k t m a l s c (w.alloc (Obj.cells #[Value.int IntKind.i64 k, Value.string (bsA t), Value.int IntKind.i64 m, Value.int IntKind.i64 a, Value.slice s l.length c] 26)) := by
  have hA : Below w.heap.size w (w.alloc (Obj.cells #[Value.int IntKind.i64 k, Value.string (bsA t), Value.int IntKind.i64 m, Value.int IntKind.i64 a, Value.slice s l.length c] 26)) := (Below.refl _ _).alloc (Nat.le_refl _) _
  exact ⟨Box5.new w _ _ _ _ _ 26, hl.below hA, hA, hR.below hA⟩
theorem Nd.step {w : World} {n : Nat} {k : Int} {t : List UInt8} {m a : Int} {l : List (Tr n)} {s : Option Addr} {c : Nat} {W W' : World} (h : Nd w n k t m a l s c W) (hb : Below W.heap.size W W') : Nd w n k t m a l s c W' :=
  ⟨h.box.below hb, h.kids.below hb, h.bel.trans (hb.mono h.bel.size), h.rdy.below hb⟩
theorem arr_new (w : World) (vs : Array Value) (T : TypeId) (j : Nat) (u : Value) (hj : vs.toList[j]? = some u) : (w.alloc (.cells vs T)).cell? ⟨w.heap.size, j, none⟩ = some u := by
  unfold World.cell?
  simp only [World.alloc_heap_new]
  simpa using hj
theorem beqL (a b : List UInt8) : (a == b) = decide (a = b) := by by_cases h : a = b <;> simp [h]
/-- Is a text a name that is no word: by the code. -/
def idC (t : List UInt8) : Bool := s_nameS (bsA t) && !wdL.contains (Lib.toLowerA t)
theorem nameS_len {t : List UInt8} (h : s_nameS (bsA t) = true) : t.length ≤ 64 := by
  unfold s_nameS at h
  split at h
  · simp only [Bool.and_eq_true, decide_eq_true_eq] at h
    rw [bsA_size] at h
    omega
  · cases h
theorem contains_snoc (t : List UInt8) {l : List (List UInt8)} {i : Nat} {x : List UInt8} (h : l[i]? = some x) : ((l.take (i + 1)).any fun y => decide (y = t)) = (((l.take i).any fun y => decide (y = t)) || decide (x = t)) := by
  rw [List.take_add_one, h, List.any_append]
  simp
theorem rin_go (t : List UInt8) (l : List (List UInt8)) (g c : Nat) (w : World) (hl : l.length ≤ 9223372036854775807) (hc : ∀ i x, l[i]? = some x → w.cell? ⟨g, i, none⟩ = some (.string (bsA x))) :
    Calls Try.prog 28 #[.string (bsA t), .slice (some ⟨g, 0, none⟩) l.length c] w fun e w' => e = .returned (.bool (l.any fun y => decide (y = t))) ∧ w' = w := by
  have HC : Hid _ := hc
  clear hc
  go_enter Try.func28, Try.ntmps28
  go_wp2
  go_loopw [5] (fun i wr => ∃ k : Nat, k ≤ l.length ∧ i = .int .i64 k ∧ ((l.take k).any fun y => decide (y = t)) = false ∧ wr = w) (fun i _ => l.length - (intOf i).toNat)
  case atStart => exact ⟨0, Nat.zero_le _, rfl, rfl, rfl⟩
  case round =>
    obtain ⟨k, hk, rfl, hV, rfl⟩ := hrel
    have HV : Hid (((l.take k).any fun y => decide (y = t)) = false) := hV
    clear hV
    rcases Nat.lt_or_ge k l.length with hlt | hge
    · obtain ⟨x, gx⟩ : ∃ x, l[k]? = some x := ⟨_, List.getElem?_eq_getElem hlt⟩
      have c0 := HC.out k x gx
      have HZ : Hid _ := contains_snoc t gx
      by_cases hx : x = t
      · have HN : Hid ((l.any fun y => decide (y = t)) = true) := by
          show _ = _
          rw [List.any_eq_true]
          exact ⟨x, List.mem_of_getElem? gx, by simpa using hx⟩
        subst hx
        clear gx HZ HV
        go_wp2
        go_ret
        exact ⟨ret_bool HN.out.symm, rfl⟩
      · have HN : Hid (((l.take (k + 1)).any fun y => decide (y = t)) = false) := by show _ = _; rw [HZ.out, HV.out, decide_eq_false hx]; rfl
        have hx2 : ((bsA x).toList == (bsA t).toList) = false := by rw [bsA_tl, bsA_tl, beqL]; exact decide_eq_false hx
        clear gx HZ HV
        go_wp2
        go_roundw
        case rel => exact ⟨k + 1, by omega, by go_num, HN.out, trivial⟩
        case measure => simp [intOf]; omega
    · have HN : Hid ((l.any fun y => decide (y = t)) = false) := by
        show _ = _
        rw [← HV.out, List.take_of_length_le hge]
      go_wp2
      go_ret
      exact ⟨ret_bool HN.out.symm, rfl⟩
/-- No text in a tree is too long. -/
def Txs : (n : Nat) → Tr n → Prop
  | 0, _ => True
  | n + 1, x => (tx (n + 1) x).length ≤ 1048576 ∧ ∀ y : Tr n, y ∈ ks (n + 1) x → Txs n y
/-- A function of the document's that tells of trees by P. -/
structure RM (k : FuncId) (n : Nat) (P : Tr n → Bool) (w : World) : Prop where
  run : ∀ W : World, Below w.heap.size w W → ∀ (y : Tr n) (s : Option Addr) (c : Nat), NdG W n y s c → Txs n y → Calls Try.prog k #[ndV n y s c] W fun e w' => e = .returned (.bool (P y)) ∧ Below W.heap.size W w'
theorem RM.below {k : FuncId} {n : Nat} {P : Tr n → Bool} {w w' : World} (h : RM k n P w) (hb : Below w.heap.size w w') : RM k n P w' := ⟨fun W hW y s c hy ht => h.run W (hb.trans (hW.mono hb.size)) y s c hy ht⟩
/-- What is asked of the document's Id. -/
def RIdSaid : Prop := ∀ (t : List UInt8) (w : World), Rdy w → Calls Try.prog 26 #[.string (bsA t)] w fun e w' => e = .returned (.bool (idC t)) ∧ Below w.heap.size w w'
theorem rin_b (t : List UInt8) (L : List (List UInt8)) (g c len : Nat) (W : World) (cs : Array Value) (hcs : cs.toList = L.map fun x => .string (bsA x)) (hlen : len = L.length) (hg : g = W.heap.size) (h63 : L.length ≤ 9223372036854775807) :
    Calls Try.prog 28 #[.string (bsA t), .slice (some ⟨g, 0, none⟩) len c] (W.alloc (.cells cs 9)) fun e w' => e = .returned (.bool (inF L t)) ∧ Below W.heap.size W w' := by
  subst hg hlen
  have hA : Below W.heap.size W (W.alloc (.cells cs 9)) := (Below.refl _ _).alloc (Nat.le_refl _) _
  have h := rin_go t L W.heap.size c (W.alloc (.cells cs 9)) h63 (fun i x hx => arr_new W cs 9 i _ (by rw [hcs, List.getElem?_map, hx]; rfl))
  exact h.mono fun e w' ⟨he, hw⟩ => ⟨he, by rw [hw]; exact hA⟩
theorem inF_c (L : List (List UInt8)) (t : List UInt8) : inF L t = L.contains t := by
  unfold inF
  induction L with
  | nil => rfl
  | cons y L ih =>
    rw [List.any_cons, List.contains_cons, ih, beqL]
    by_cases h : y = t
    · rw [decide_eq_true h, decide_eq_true h.symm]
    · rw [decide_eq_false h, decide_eq_false (fun e => h e.symm)]
theorem s_nm_0 {n : Int} (h2 : n < 48) : s_nmB n = false := by
  unfold s_nmB s_ltB s_dgB
  simp only [Bool.or_eq_false_iff, Bool.and_eq_false_iff, decide_eq_false_iff_not, beq_eq_false_iff_ne]; omega
theorem s_nm_48 {n : Int} (h1 : 48 ≤ n) (h2 : n < 58) : s_nmB n = true := by
  unfold s_nmB s_ltB s_dgB
  simp only [Bool.or_eq_true, Bool.and_eq_true, decide_eq_true_eq, beq_iff_eq]; omega
theorem s_nm_58 {n : Int} (h1 : 58 ≤ n) (h2 : n < 65) : s_nmB n = false := by
  unfold s_nmB s_ltB s_dgB
  simp only [Bool.or_eq_false_iff, Bool.and_eq_false_iff, decide_eq_false_iff_not, beq_eq_false_iff_ne]; omega
theorem s_nm_65 {n : Int} (h1 : 65 ≤ n) (h2 : n < 91) : s_nmB n = true := by
  unfold s_nmB s_ltB s_dgB
  simp only [Bool.or_eq_true, Bool.and_eq_true, decide_eq_true_eq, beq_iff_eq]; omega
theorem s_nm_91 {n : Int} (h1 : 91 ≤ n) (h2 : n < 95) : s_nmB n = false := by
  unfold s_nmB s_ltB s_dgB
  simp only [Bool.or_eq_false_iff, Bool.and_eq_false_iff, decide_eq_false_iff_not, beq_eq_false_iff_ne]; omega
theorem s_nm_95 {n : Int} (h1 : 95 ≤ n) (h2 : n < 96) : s_nmB n = true := by
  unfold s_nmB s_ltB s_dgB
  simp only [Bool.or_eq_true, Bool.and_eq_true, decide_eq_true_eq, beq_iff_eq]; omega
theorem s_nm_96 {n : Int} (h1 : 96 ≤ n) (h2 : n < 97) : s_nmB n = false := by
  unfold s_nmB s_ltB s_dgB
  simp only [Bool.or_eq_false_iff, Bool.and_eq_false_iff, decide_eq_false_iff_not, beq_eq_false_iff_ne]; omega
theorem s_nm_97 {n : Int} (h1 : 97 ≤ n) (h2 : n < 123) : s_nmB n = true := by
  unfold s_nmB s_ltB s_dgB
  simp only [Bool.or_eq_true, Bool.and_eq_true, decide_eq_true_eq, beq_iff_eq]; omega
theorem s_nm_123 {n : Int} (h1 : 123 ≤ n) : s_nmB n = false := by
  unfold s_nmB s_ltB s_dgB
  simp only [Bool.or_eq_false_iff, Bool.and_eq_false_iff, decide_eq_false_iff_not, beq_eq_false_iff_ne]; omega
theorem rName_lo (s : ByteArray) (w : World) (h0 : 0 < s.size) (h1 : (s.size : Int) ≤ 64) (hq : (s[0].toNat : Int) < 48) : Calls Try.prog 53 #[.string s] w fun e w' => e = .returned (.bool (s_nmL s 0)) ∧ w' = w := by
  have z0 : decide ((s.size : Int) < 1) = false := decide_eq_false (by omega)
  have z1 : decide (64 < (s.size : Int)) = false := decide_eq_false (by omega)
  go_enter Try.func53, Try.ntmps53
  go_wp2
  clear z0 z1
  go_loop [3] (fun i => ∃ m : Nat, m ≤ s.size ∧ i = .int .i64 m ∧ s_nmL s m = s_nmL s 0) (fun i => s.size - (intOf i).toNat)
  case atStart => exact ⟨0, Nat.zero_le _, rfl, rfl⟩
  case round =>
    obtain ⟨m, hm, rfl, hV⟩ := hrel
    have HV : Hid (s_nmL s m = s_nmL s 0) := hV
    clear hV hq
    rcases Nat.lt_or_ge m s.size with hlt | hge
    · have HS : Hid (s_nmL s 0 = (s_nmB s[m].toNat && s_nmL s (m + 1))) := by show _ = _; rw [← HV.out]; exact s_nmL_step s m hlt
      rcases Int.lt_or_le (s[m].toNat : Int) 48 with A0 | A0
      · have HN : Hid (s_nmB s[m].toNat = false) := s_nm_0 (by omega)
        have t0 : (97 ≤ (s[m].toNat : Int)) = False := eq_false (by omega)
        have t1 : ((s[m].toNat : Int) ≤ 122) = True := eq_true (by omega)
        have t2 : (65 ≤ (s[m].toNat : Int)) = False := eq_false (by omega)
        have t3 : ((s[m].toNat : Int) ≤ 90) = True := eq_true (by omega)
        have t4 : (48 ≤ (s[m].toNat : Int)) = False := eq_false (by omega)
        have t5 : ((s[m].toNat : Int) ≤ 57) = True := eq_true (by omega)
        have t9 : ((s[m].toNat : Int) == 95) = false := by rw [beq_eq_false_iff_ne]; omega
        clear A0
        go_wp2
        all_goals go_ret
        all_goals exact ⟨ret_bool (by rw [HS.out, HN.out]; rfl), rfl⟩
      rcases Int.lt_or_le (s[m].toNat : Int) 58 with A1 | A1
      · have HN : Hid (s_nmB s[m].toNat = true) := s_nm_48 (by omega) (by omega)
        have t0 : (97 ≤ (s[m].toNat : Int)) = False := eq_false (by omega)
        have t1 : ((s[m].toNat : Int) ≤ 122) = True := eq_true (by omega)
        have t2 : (65 ≤ (s[m].toNat : Int)) = False := eq_false (by omega)
        have t3 : ((s[m].toNat : Int) ≤ 90) = True := eq_true (by omega)
        have t4 : (48 ≤ (s[m].toNat : Int)) = True := eq_true (by omega)
        have t5 : ((s[m].toNat : Int) ≤ 57) = True := eq_true (by omega)
        have t9 : ((s[m].toNat : Int) == 95) = false := by rw [beq_eq_false_iff_ne]; omega
        clear A0 A1
        go_wp2
        all_goals go_round
        all_goals first | exact ⟨m + 1, by omega, by go_num, by rw [HS.out, HN.out]; rfl⟩ | (simp [intOf]; omega)
      rcases Int.lt_or_le (s[m].toNat : Int) 65 with A2 | A2
      · have HN : Hid (s_nmB s[m].toNat = false) := s_nm_58 (by omega) (by omega)
        have t0 : (97 ≤ (s[m].toNat : Int)) = False := eq_false (by omega)
        have t1 : ((s[m].toNat : Int) ≤ 122) = True := eq_true (by omega)
        have t2 : (65 ≤ (s[m].toNat : Int)) = False := eq_false (by omega)
        have t3 : ((s[m].toNat : Int) ≤ 90) = True := eq_true (by omega)
        have t4 : (48 ≤ (s[m].toNat : Int)) = True := eq_true (by omega)
        have t5 : ((s[m].toNat : Int) ≤ 57) = False := eq_false (by omega)
        have t9 : ((s[m].toNat : Int) == 95) = false := by rw [beq_eq_false_iff_ne]; omega
        clear A0 A1 A2
        go_wp2
        all_goals go_ret
        all_goals exact ⟨ret_bool (by rw [HS.out, HN.out]; rfl), rfl⟩
      rcases Int.lt_or_le (s[m].toNat : Int) 91 with A3 | A3
      · have HN : Hid (s_nmB s[m].toNat = true) := s_nm_65 (by omega) (by omega)
        have t0 : (97 ≤ (s[m].toNat : Int)) = False := eq_false (by omega)
        have t1 : ((s[m].toNat : Int) ≤ 122) = True := eq_true (by omega)
        have t2 : (65 ≤ (s[m].toNat : Int)) = True := eq_true (by omega)
        have t3 : ((s[m].toNat : Int) ≤ 90) = True := eq_true (by omega)
        have t4 : (48 ≤ (s[m].toNat : Int)) = True := eq_true (by omega)
        have t5 : ((s[m].toNat : Int) ≤ 57) = False := eq_false (by omega)
        have t9 : ((s[m].toNat : Int) == 95) = false := by rw [beq_eq_false_iff_ne]; omega
        clear A0 A1 A2 A3
        go_wp2
        all_goals go_round
        all_goals first | exact ⟨m + 1, by omega, by go_num, by rw [HS.out, HN.out]; rfl⟩ | (simp [intOf]; omega)
      rcases Int.lt_or_le (s[m].toNat : Int) 95 with A4 | A4
      · have HN : Hid (s_nmB s[m].toNat = false) := s_nm_91 (by omega) (by omega)
        have t0 : (97 ≤ (s[m].toNat : Int)) = False := eq_false (by omega)
        have t1 : ((s[m].toNat : Int) ≤ 122) = True := eq_true (by omega)
        have t2 : (65 ≤ (s[m].toNat : Int)) = True := eq_true (by omega)
        have t3 : ((s[m].toNat : Int) ≤ 90) = False := eq_false (by omega)
        have t4 : (48 ≤ (s[m].toNat : Int)) = True := eq_true (by omega)
        have t5 : ((s[m].toNat : Int) ≤ 57) = False := eq_false (by omega)
        have t9 : ((s[m].toNat : Int) == 95) = false := by rw [beq_eq_false_iff_ne]; omega
        clear A0 A1 A2 A3 A4
        go_wp2
        all_goals go_ret
        all_goals exact ⟨ret_bool (by rw [HS.out, HN.out]; rfl), rfl⟩
      rcases Int.lt_or_le (s[m].toNat : Int) 96 with A5 | A5
      · have HN : Hid (s_nmB s[m].toNat = true) := s_nm_95 (by omega) (by omega)
        have t0 : (97 ≤ (s[m].toNat : Int)) = False := eq_false (by omega)
        have t1 : ((s[m].toNat : Int) ≤ 122) = True := eq_true (by omega)
        have t2 : (65 ≤ (s[m].toNat : Int)) = True := eq_true (by omega)
        have t3 : ((s[m].toNat : Int) ≤ 90) = False := eq_false (by omega)
        have t4 : (48 ≤ (s[m].toNat : Int)) = True := eq_true (by omega)
        have t5 : ((s[m].toNat : Int) ≤ 57) = False := eq_false (by omega)
        have t9 : ((s[m].toNat : Int) == 95) = true := by rw [beq_iff_eq]; omega
        clear A0 A1 A2 A3 A4 A5
        go_wp2
        all_goals go_round
        all_goals first | exact ⟨m + 1, by omega, by go_num, by rw [HS.out, HN.out]; rfl⟩ | (simp [intOf]; omega)
      rcases Int.lt_or_le (s[m].toNat : Int) 97 with A6 | A6
      · have HN : Hid (s_nmB s[m].toNat = false) := s_nm_96 (by omega) (by omega)
        have t0 : (97 ≤ (s[m].toNat : Int)) = False := eq_false (by omega)
        have t1 : ((s[m].toNat : Int) ≤ 122) = True := eq_true (by omega)
        have t2 : (65 ≤ (s[m].toNat : Int)) = True := eq_true (by omega)
        have t3 : ((s[m].toNat : Int) ≤ 90) = False := eq_false (by omega)
        have t4 : (48 ≤ (s[m].toNat : Int)) = True := eq_true (by omega)
        have t5 : ((s[m].toNat : Int) ≤ 57) = False := eq_false (by omega)
        have t9 : ((s[m].toNat : Int) == 95) = false := by rw [beq_eq_false_iff_ne]; omega
        clear A0 A1 A2 A3 A4 A5 A6
        go_wp2
        all_goals go_ret
        all_goals exact ⟨ret_bool (by rw [HS.out, HN.out]; rfl), rfl⟩
      rcases Int.lt_or_le (s[m].toNat : Int) 123 with A7 | A7
      · have HN : Hid (s_nmB s[m].toNat = true) := s_nm_97 (by omega) (by omega)
        have t0 : (97 ≤ (s[m].toNat : Int)) = True := eq_true (by omega)
        have t1 : ((s[m].toNat : Int) ≤ 122) = True := eq_true (by omega)
        have t2 : (65 ≤ (s[m].toNat : Int)) = True := eq_true (by omega)
        have t3 : ((s[m].toNat : Int) ≤ 90) = False := eq_false (by omega)
        have t4 : (48 ≤ (s[m].toNat : Int)) = True := eq_true (by omega)
        have t5 : ((s[m].toNat : Int) ≤ 57) = False := eq_false (by omega)
        have t9 : ((s[m].toNat : Int) == 95) = false := by rw [beq_eq_false_iff_ne]; omega
        clear A0 A1 A2 A3 A4 A5 A6 A7
        go_wp2
        all_goals go_round
        all_goals first | exact ⟨m + 1, by omega, by go_num, by rw [HS.out, HN.out]; rfl⟩ | (simp [intOf]; omega)
      have HN : Hid (s_nmB s[m].toNat = false) := s_nm_123 (by omega)
      have t0 : (97 ≤ (s[m].toNat : Int)) = True := eq_true (by omega)
      have t1 : ((s[m].toNat : Int) ≤ 122) = False := eq_false (by omega)
      have t2 : (65 ≤ (s[m].toNat : Int)) = True := eq_true (by omega)
      have t3 : ((s[m].toNat : Int) ≤ 90) = False := eq_false (by omega)
      have t4 : (48 ≤ (s[m].toNat : Int)) = True := eq_true (by omega)
      have t5 : ((s[m].toNat : Int) ≤ 57) = False := eq_false (by omega)
      have t9 : ((s[m].toNat : Int) == 95) = false := by rw [beq_eq_false_iff_ne]; omega
      clear A0 A1 A2 A3 A4 A5 A6 A7
      go_wp2
      all_goals go_ret
      all_goals exact ⟨ret_bool (by rw [HS.out, HN.out]; rfl), rfl⟩
    · have HE : Hid (true = s_nmL s 0) := by show _ = _; rw [← HV.out, s_nmL_end s m hge]
      go_wp2
      go_ret
      exact ⟨ret_bool HE.out, rfl⟩
theorem rName_hi (s : ByteArray) (w : World) (h0 : 0 < s.size) (h1 : (s.size : Int) ≤ 64) (hq : 57 < (s[0].toNat : Int)) : Calls Try.prog 53 #[.string s] w fun e w' => e = .returned (.bool (s_nmL s 0)) ∧ w' = w := by
  have z0 : decide ((s.size : Int) < 1) = false := decide_eq_false (by omega)
  have z1 : decide (64 < (s.size : Int)) = false := decide_eq_false (by omega)
  go_enter Try.func53, Try.ntmps53
  go_wp2
  clear z0 z1
  go_loop [3] (fun i => ∃ m : Nat, m ≤ s.size ∧ i = .int .i64 m ∧ s_nmL s m = s_nmL s 0) (fun i => s.size - (intOf i).toNat)
  case atStart => exact ⟨0, Nat.zero_le _, rfl, rfl⟩
  case round =>
    obtain ⟨m, hm, rfl, hV⟩ := hrel
    have HV : Hid (s_nmL s m = s_nmL s 0) := hV
    clear hV hq
    rcases Nat.lt_or_ge m s.size with hlt | hge
    · have HS : Hid (s_nmL s 0 = (s_nmB s[m].toNat && s_nmL s (m + 1))) := by show _ = _; rw [← HV.out]; exact s_nmL_step s m hlt
      rcases Int.lt_or_le (s[m].toNat : Int) 48 with A0 | A0
      · have HN : Hid (s_nmB s[m].toNat = false) := s_nm_0 (by omega)
        have t0 : (97 ≤ (s[m].toNat : Int)) = False := eq_false (by omega)
        have t1 : ((s[m].toNat : Int) ≤ 122) = True := eq_true (by omega)
        have t2 : (65 ≤ (s[m].toNat : Int)) = False := eq_false (by omega)
        have t3 : ((s[m].toNat : Int) ≤ 90) = True := eq_true (by omega)
        have t4 : (48 ≤ (s[m].toNat : Int)) = False := eq_false (by omega)
        have t5 : ((s[m].toNat : Int) ≤ 57) = True := eq_true (by omega)
        have t9 : ((s[m].toNat : Int) == 95) = false := by rw [beq_eq_false_iff_ne]; omega
        clear A0
        go_wp2
        all_goals go_ret
        all_goals exact ⟨ret_bool (by rw [HS.out, HN.out]; rfl), rfl⟩
      rcases Int.lt_or_le (s[m].toNat : Int) 58 with A1 | A1
      · have HN : Hid (s_nmB s[m].toNat = true) := s_nm_48 (by omega) (by omega)
        have t0 : (97 ≤ (s[m].toNat : Int)) = False := eq_false (by omega)
        have t1 : ((s[m].toNat : Int) ≤ 122) = True := eq_true (by omega)
        have t2 : (65 ≤ (s[m].toNat : Int)) = False := eq_false (by omega)
        have t3 : ((s[m].toNat : Int) ≤ 90) = True := eq_true (by omega)
        have t4 : (48 ≤ (s[m].toNat : Int)) = True := eq_true (by omega)
        have t5 : ((s[m].toNat : Int) ≤ 57) = True := eq_true (by omega)
        have t9 : ((s[m].toNat : Int) == 95) = false := by rw [beq_eq_false_iff_ne]; omega
        clear A0 A1
        go_wp2
        all_goals go_round
        all_goals first | exact ⟨m + 1, by omega, by go_num, by rw [HS.out, HN.out]; rfl⟩ | (simp [intOf]; omega)
      rcases Int.lt_or_le (s[m].toNat : Int) 65 with A2 | A2
      · have HN : Hid (s_nmB s[m].toNat = false) := s_nm_58 (by omega) (by omega)
        have t0 : (97 ≤ (s[m].toNat : Int)) = False := eq_false (by omega)
        have t1 : ((s[m].toNat : Int) ≤ 122) = True := eq_true (by omega)
        have t2 : (65 ≤ (s[m].toNat : Int)) = False := eq_false (by omega)
        have t3 : ((s[m].toNat : Int) ≤ 90) = True := eq_true (by omega)
        have t4 : (48 ≤ (s[m].toNat : Int)) = True := eq_true (by omega)
        have t5 : ((s[m].toNat : Int) ≤ 57) = False := eq_false (by omega)
        have t9 : ((s[m].toNat : Int) == 95) = false := by rw [beq_eq_false_iff_ne]; omega
        clear A0 A1 A2
        go_wp2
        all_goals go_ret
        all_goals exact ⟨ret_bool (by rw [HS.out, HN.out]; rfl), rfl⟩
      rcases Int.lt_or_le (s[m].toNat : Int) 91 with A3 | A3
      · have HN : Hid (s_nmB s[m].toNat = true) := s_nm_65 (by omega) (by omega)
        have t0 : (97 ≤ (s[m].toNat : Int)) = False := eq_false (by omega)
        have t1 : ((s[m].toNat : Int) ≤ 122) = True := eq_true (by omega)
        have t2 : (65 ≤ (s[m].toNat : Int)) = True := eq_true (by omega)
        have t3 : ((s[m].toNat : Int) ≤ 90) = True := eq_true (by omega)
        have t4 : (48 ≤ (s[m].toNat : Int)) = True := eq_true (by omega)
        have t5 : ((s[m].toNat : Int) ≤ 57) = False := eq_false (by omega)
        have t9 : ((s[m].toNat : Int) == 95) = false := by rw [beq_eq_false_iff_ne]; omega
        clear A0 A1 A2 A3
        go_wp2
        all_goals go_round
        all_goals first | exact ⟨m + 1, by omega, by go_num, by rw [HS.out, HN.out]; rfl⟩ | (simp [intOf]; omega)
      rcases Int.lt_or_le (s[m].toNat : Int) 95 with A4 | A4
      · have HN : Hid (s_nmB s[m].toNat = false) := s_nm_91 (by omega) (by omega)
        have t0 : (97 ≤ (s[m].toNat : Int)) = False := eq_false (by omega)
        have t1 : ((s[m].toNat : Int) ≤ 122) = True := eq_true (by omega)
        have t2 : (65 ≤ (s[m].toNat : Int)) = True := eq_true (by omega)
        have t3 : ((s[m].toNat : Int) ≤ 90) = False := eq_false (by omega)
        have t4 : (48 ≤ (s[m].toNat : Int)) = True := eq_true (by omega)
        have t5 : ((s[m].toNat : Int) ≤ 57) = False := eq_false (by omega)
        have t9 : ((s[m].toNat : Int) == 95) = false := by rw [beq_eq_false_iff_ne]; omega
        clear A0 A1 A2 A3 A4
        go_wp2
        all_goals go_ret
        all_goals exact ⟨ret_bool (by rw [HS.out, HN.out]; rfl), rfl⟩
      rcases Int.lt_or_le (s[m].toNat : Int) 96 with A5 | A5
      · have HN : Hid (s_nmB s[m].toNat = true) := s_nm_95 (by omega) (by omega)
        have t0 : (97 ≤ (s[m].toNat : Int)) = False := eq_false (by omega)
        have t1 : ((s[m].toNat : Int) ≤ 122) = True := eq_true (by omega)
        have t2 : (65 ≤ (s[m].toNat : Int)) = True := eq_true (by omega)
        have t3 : ((s[m].toNat : Int) ≤ 90) = False := eq_false (by omega)
        have t4 : (48 ≤ (s[m].toNat : Int)) = True := eq_true (by omega)
        have t5 : ((s[m].toNat : Int) ≤ 57) = False := eq_false (by omega)
        have t9 : ((s[m].toNat : Int) == 95) = true := by rw [beq_iff_eq]; omega
        clear A0 A1 A2 A3 A4 A5
        go_wp2
        all_goals go_round
        all_goals first | exact ⟨m + 1, by omega, by go_num, by rw [HS.out, HN.out]; rfl⟩ | (simp [intOf]; omega)
      rcases Int.lt_or_le (s[m].toNat : Int) 97 with A6 | A6
      · have HN : Hid (s_nmB s[m].toNat = false) := s_nm_96 (by omega) (by omega)
        have t0 : (97 ≤ (s[m].toNat : Int)) = False := eq_false (by omega)
        have t1 : ((s[m].toNat : Int) ≤ 122) = True := eq_true (by omega)
        have t2 : (65 ≤ (s[m].toNat : Int)) = True := eq_true (by omega)
        have t3 : ((s[m].toNat : Int) ≤ 90) = False := eq_false (by omega)
        have t4 : (48 ≤ (s[m].toNat : Int)) = True := eq_true (by omega)
        have t5 : ((s[m].toNat : Int) ≤ 57) = False := eq_false (by omega)
        have t9 : ((s[m].toNat : Int) == 95) = false := by rw [beq_eq_false_iff_ne]; omega
        clear A0 A1 A2 A3 A4 A5 A6
        go_wp2
        all_goals go_ret
        all_goals exact ⟨ret_bool (by rw [HS.out, HN.out]; rfl), rfl⟩
      rcases Int.lt_or_le (s[m].toNat : Int) 123 with A7 | A7
      · have HN : Hid (s_nmB s[m].toNat = true) := s_nm_97 (by omega) (by omega)
        have t0 : (97 ≤ (s[m].toNat : Int)) = True := eq_true (by omega)
        have t1 : ((s[m].toNat : Int) ≤ 122) = True := eq_true (by omega)
        have t2 : (65 ≤ (s[m].toNat : Int)) = True := eq_true (by omega)
        have t3 : ((s[m].toNat : Int) ≤ 90) = False := eq_false (by omega)
        have t4 : (48 ≤ (s[m].toNat : Int)) = True := eq_true (by omega)
        have t5 : ((s[m].toNat : Int) ≤ 57) = False := eq_false (by omega)
        have t9 : ((s[m].toNat : Int) == 95) = false := by rw [beq_eq_false_iff_ne]; omega
        clear A0 A1 A2 A3 A4 A5 A6 A7
        go_wp2
        all_goals go_round
        all_goals first | exact ⟨m + 1, by omega, by go_num, by rw [HS.out, HN.out]; rfl⟩ | (simp [intOf]; omega)
      have HN : Hid (s_nmB s[m].toNat = false) := s_nm_123 (by omega)
      have t0 : (97 ≤ (s[m].toNat : Int)) = True := eq_true (by omega)
      have t1 : ((s[m].toNat : Int) ≤ 122) = False := eq_false (by omega)
      have t2 : (65 ≤ (s[m].toNat : Int)) = True := eq_true (by omega)
      have t3 : ((s[m].toNat : Int) ≤ 90) = False := eq_false (by omega)
      have t4 : (48 ≤ (s[m].toNat : Int)) = True := eq_true (by omega)
      have t5 : ((s[m].toNat : Int) ≤ 57) = False := eq_false (by omega)
      have t9 : ((s[m].toNat : Int) == 95) = false := by rw [beq_eq_false_iff_ne]; omega
      clear A0 A1 A2 A3 A4 A5 A6 A7
      go_wp2
      all_goals go_ret
      all_goals exact ⟨ret_bool (by rw [HS.out, HN.out]; rfl), rfl⟩
    · have HE : Hid (true = s_nmL s 0) := by show _ = _; rw [← HV.out, s_nmL_end s m hge]
      go_wp2
      go_ret
      exact ⟨ret_bool HE.out, rfl⟩
theorem rName_0 (s : ByteArray) (w : World) (z0 : (s.size : Int) < 1) : Calls Try.prog 53 #[.string s] w fun e w' => e = .returned (.bool false) ∧ w' = w := by
  go_enter Try.func53, Try.ntmps53
  go_wp2
  all_goals go_ret
  all_goals exact ⟨rfl, rfl⟩
theorem rName_64 (s : ByteArray) (w : World) (z1 : 64 < (s.size : Int)) : Calls Try.prog 53 #[.string s] w fun e w' => e = .returned (.bool false) ∧ w' = w := by
  have z0 : decide ((s.size : Int) < 1) = false := decide_eq_false (by omega)
  go_enter Try.func53, Try.ntmps53
  go_wp2
  all_goals go_ret
  all_goals exact ⟨rfl, rfl⟩
theorem rName_dg (s : ByteArray) (w : World) (h0 : 0 < s.size) (h1 : (s.size : Int) ≤ 64) (hd : 48 ≤ (s[0].toNat : Int)) (hd2 : (s[0].toNat : Int) ≤ 57) : Calls Try.prog 53 #[.string s] w fun e w' => e = .returned (.bool false) ∧ w' = w := by
  have z0 : decide ((s.size : Int) < 1) = false := decide_eq_false (by omega)
  have z1 : decide (64 < (s.size : Int)) = false := decide_eq_false (by omega)
  go_enter Try.func53, Try.ntmps53
  go_wp2
  all_goals go_ret
  all_goals exact ⟨rfl, rfl⟩
theorem rName_any (s : ByteArray) (w : World) : Calls Try.prog 53 #[.string s] w fun e w' => e = .returned (.bool (s_nameS s)) ∧ w' = w := by
  rcases Nat.eq_zero_or_pos s.size with h0 | h0
  · have e : s_nameS s = false := by unfold s_nameS; rw [dif_neg (by omega)]
    rw [e]; exact rName_0 s w (by omega)
  rcases Int.lt_or_le 64 (s.size : Int) with h1 | h1
  · have e : s_nameS s = false := by unfold s_nameS; rw [dif_pos h0, decide_eq_false (by omega)]; rfl
    rw [e]; exact rName_64 s w h1
  cases hd : s_dgB s[0].toNat
  · have e : s_nameS s = s_nmL s 0 := by unfold s_nameS; rw [dif_pos h0, decide_eq_true h1, hd]; rfl
    rw [e]
    rcases Int.lt_or_le (s[0].toNat : Int) 48 with a | a
    · exact rName_lo s w h0 h1 a
    · rcases Int.lt_or_le 57 (s[0].toNat : Int) with b | b
      · exact rName_hi s w h0 h1 b
      · unfold s_dgB at hd; rw [decide_eq_true a, decide_eq_true b] at hd; cases hd
  · have e : s_nameS s = false := by unfold s_nameS; rw [dif_pos h0, decide_eq_true h1, hd]; rfl
    unfold s_dgB at hd
    rw [Bool.and_eq_true, decide_eq_true_eq, decide_eq_true_eq] at hd
    rw [e]; exact rName_dg s w h0 h1 hd.1 hd.2
/-- The bytes when m of them are made small. -/
def smT (l : List UInt8) (m j : Nat) : UInt8 := if j < m then Lib.lowerB (l.getD j 0) else l.getD j 0
structure SmAt (l : List UInt8) (g m : Nat) (w : World) : Prop where
  cell : ∀ j, j < l.length → w.cell? ⟨g, j, none⟩ = some (.int .u8 ((smT l m j).toNat : Int))
  thaw : ∀ j, j < l.length → w.frozen? ⟨g, j, none⟩ = false
theorem smT_le {l : List UInt8} {m j : Nat} (h : m ≤ j) : smT l m j = l.getD j 0 := by unfold smT; rw [if_neg (by omega)]
theorem smT_set (l : List UInt8) (m j : Nat) (h : j ≠ m) : smT l (m + 1) j = smT l m j := by
  unfold smT
  by_cases h1 : j < m
  · rw [if_pos h1, if_pos (by omega)]
  · rw [if_neg h1, if_neg (by omega)]
theorem SmAt.step {l : List UInt8} {g m : Nat} {w : World} (h : SmAt l g m w) (hm : m < l.length) (v : Int) (hv : v = ((Lib.lowerB (l.getD m 0)).toNat : Int)) : SmAt l g (m + 1) (w.setCell ⟨g, m, none⟩ (.int .u8 v)) := by
  refine ⟨fun j hj => ?_, fun j hj => by rw [World.frozen?_setCell]; exact h.thaw j hj⟩
  by_cases hjm : j = m
  · subst hjm
    rw [sc_eq (h.cell j hj)]
    unfold smT
    rw [if_pos (by omega), hv]
  · rw [sc_ne (fun e => hjm (by injection e; omega)), h.cell j hj, smT_set l m j hjm]
theorem SmAt.same {l : List UInt8} {g m : Nat} {w : World} (h : SmAt l g m w) (hv : Lib.lowerB (l.getD m 0) = l.getD m 0) : SmAt l g (m + 1) w := by
  refine ⟨fun j hj => ?_, h.thaw⟩
  rw [h.cell j hj]
  by_cases hjm : j = m
  · subst hjm
    unfold smT
    rw [if_neg (by omega), if_pos (by omega), hv]
  · rw [smT_set l m j hjm]
theorem SmAt.new (l : List UInt8) (w : World) (cap : Nat) (mk : Nat × Nat) (hmk : mk.1 ≥ l.length) : SmAt l w.heap.size 0 (w.drew.alloc (.cells (bytesRow (bsA l) cap) 5 mk)) := by
  have hb : (w.drew.alloc (.cells (bytesRow (bsA l) cap) 5 mk)).heap[w.heap.size]? = some (.cells (bytesRow (bsA l) cap) 5 mk) := by
    show (w.heap.push _)[w.heap.size]? = _
    simp
  refine ⟨fun j hj => ?_, fun j hj => ?_⟩
  · unfold World.cell?
    rw [hb]
    have e : (bytesRow (bsA l) cap)[j]? = some (.int .u8 ((l.getD j 0).toNat : Int)) := by
      unfold bytesRow
      rw [Array.getElem?_append_left (by simpa [bsA] using hj)]
      simp [bsA, hj]
    simpa [smT] using e
  · unfold World.frozen?
    rw [hb]
    simp
    omega
theorem SmAt.end {l : List UInt8} {g m cap : Nat} {w : World} (h : SmAt l g m w) (hm : l.length ≤ m) : (convert 63 9 (.slice (some ⟨g, 0, none⟩) l.length cap)).run Try.prog w = .ok (.string (bsA (Lib.toLowerA l))) w := by
  have hl : (Lib.toLowerA l).length = l.length := by simp [Lib.toLowerA]
  have e := run_convert_bytes_back (P := Try.prog) w 63 9 5 ⟨g, 0, none⟩ cap (Lib.toLowerA l) Try.underlying63 Try.underlying5 Try.underlying9 (fun j hj => by
    rw [hl] at hj
    have h1 := h.cell j hj
    rw [add_plain, Nat.zero_add, h1]
    unfold smT
    rw [if_pos (by omega)]
    simp [Lib.toLowerA, hj])
  rw [hl] at e
  exact e
theorem rsmall_any (l : List UInt8) (w : World) (hl : l.length ≤ 64) : Calls Try.prog 54 #[.string (bsA l)] w fun e w' => e = .returned (.string (bsA (Lib.toLowerA l))) ∧ Below w.heap.size w w' := by
  have hconv := run_bytes_of_string (P := Try.prog) w 9 63 5 (bsA l) Try.underlying9 Try.underlying63 Try.underlying5
  rw [bsA_size] at hconv
  have hS := SmAt.new l w (grownCap w l.length 0 5) ((bytesRow (bsA l) (grownCap w l.length 0 5)).size, (bytesRow (bsA l) (grownCap w l.length 0 5)).size + 1) (by simp [bytesRow, bsA])
  have hA : Below w.heap.size w (w.drew.alloc (.cells (bytesRow (bsA l) (grownCap w l.length 0 5)) 5 ((bytesRow (bsA l) (grownCap w l.length 0 5)).size, (bytesRow (bsA l) (grownCap w l.length 0 5)).size + 1))) := (Below.refl _ _).drew.alloc (Nat.le_refl _) _
  generalize w.drew.alloc (.cells (bytesRow (bsA l) (grownCap w l.length 0 5)) 5 ((bytesRow (bsA l) (grownCap w l.length 0 5)).size, (bytesRow (bsA l) (grownCap w l.length 0 5)).size + 1)) = W1 at hconv hS hA
  generalize grownCap w l.length 0 5 = cap at hconv
  have HS0 : Hid (SmAt l w.heap.size 0 W1) := hS
  clear hS
  have hg : ∃ g, g = w.heap.size := ⟨_, rfl⟩
  obtain ⟨g, hg⟩ := hg
  rw [← hg] at hconv HS0
  have hgl : w.heap.size ≤ g := by omega
  clear hg
  go_enter Try.func54, Try.ntmps54
  go_wp2
  go_loopw [4] (fun i wr => ∃ m : Nat, m ≤ l.length ∧ i = .int .i64 m ∧ SmAt l g m wr ∧ Bel w.heap.size w wr) (fun i _ => l.length - (intOf i).toNat)
  case atStart => exact ⟨0, Nat.zero_le _, rfl, HS0.out, ⟨hA, hA.size⟩⟩
  case round =>
    obtain ⟨m, hm, rfl, hS, HB⟩ := hrel
    have HS : Hid (SmAt l g m wr) := hS
    clear hS HS0 hA
    rcases Nat.lt_or_ge m l.length with hlt | hge
    · have c0 := HS.out.cell m hlt
      have f0 := HS.out.thaw m hlt
      rw [smT_le (Nat.le_refl m)] at c0
      have HW : Hid (w.heap.size ≤ g) := hgl
      by_cases hup : 65 ≤ (l.getD m 0).toNat ∧ (l.getD m 0).toNat ≤ 90
      · have e1 : ((65 : Int) ≤ ((l.getD m 0).toNat : Int)) = True := eq_true (by omega)
        have e2 : (((l.getD m 0).toNat : Int) ≤ (90 : Int)) = True := eq_true (by omega)
        have HN : Hid ((((l.getD m 0).toNat : Int) + 32) % 256 = ((Lib.lowerB (l.getD m 0)).toNat : Int)) := by
          have := low_up hup.1 hup.2
          show _ = _
          omega
        have HXX : Hid (SmAt l g (m + 1) (wr.setCell ⟨g, m, none⟩ (.int .u8 ((((l.getD m 0).toNat : Int) + 32) % 256)))) := HS.out.step hlt _ HN.out
        clear hup
        generalize (l.getD m 0) = c at c0 e1 e2 HN HXX
        go_wp2
        go_roundw
        case rel => exact ⟨m + 1, by omega, by go_num, HXX.out, ⟨HB.out.setCell (p := ⟨g, m, none⟩) HW.out _, by simp; exact HB.le⟩⟩
        case measure => simp [intOf]; omega
      · have hno := low_no hup
        have HX : Hid _ := HS.out.same hno
        clear hno
        rcases Nat.lt_or_ge (l.getD m 0).toNat 65 with h1 | h1
        · have e1 : ((65 : Int) ≤ ((l.getD m 0).toNat : Int)) = False := eq_false (by omega)
          clear hup h1
          generalize (l.getD m 0) = c at c0 e1
          go_wp2
          go_roundw
          case rel => exact ⟨m + 1, by omega, by go_num, HX.out, HB⟩
          case measure => simp [intOf]; omega
        · have e1 : ((65 : Int) ≤ ((l.getD m 0).toNat : Int)) = True := eq_true (by omega)
          have e2 : (((l.getD m 0).toNat : Int) ≤ (90 : Int)) = False := eq_false (by omega)
          clear hup h1
          generalize (l.getD m 0) = c at c0 e1 e2
          go_wp2
          go_roundw
          case rel => exact ⟨m + 1, by omega, by go_num, HX.out, HB⟩
          case measure => simp [intOf]; omega
    · have hend := HS.out.end (cap := cap) hge
      go_wp2
      go_ret
      exact ⟨rfl, HB.out⟩
theorem rwords_any (w : World) : Calls Try.prog 55 #[] w fun e w' => e = .returned (.slice (some ⟨w.heap.size, 0, none⟩) 58 58) ∧ w' = w.alloc (.cells wdV.toArray 9) := by
  go_enter Try.func55, Try.ntmps55
  go_wp2
  go_ret
  exact ⟨rfl, rfl⟩
theorem rid_no (t : List UInt8) (w : World) (hn : s_nameS (bsA t) = false) : Calls Try.prog 26 #[.string (bsA t)] w fun e w' => e = .returned (.bool false) ∧ Below w.heap.size w w' := by
  have h1 := rName_any (bsA t) w
  rw [hn] at h1
  clear hn
  go_enter Try.func26, Try.ntmps26
  go_wp2_with (go_at_call 53; refine h1.mono ?_; rintro e w1 ⟨rfl, rfl⟩; clear h1)
  go_ret
  exact ⟨rfl, Below.refl _ _⟩
theorem rid_yes (t : List UInt8) (w : World) (hn : s_nameS (bsA t) = true) : Calls Try.prog 26 #[.string (bsA t)] w fun e w' => e = .returned (.bool (!inF wdL (Lib.toLowerA t))) ∧ Below w.heap.size w w' := by
  have h1 := rName_any (bsA t) w
  rw [hn] at h1
  have h2 := rsmall_any t w (nameS_len hn)
  clear hn
  have hi : ∀ (W : World), Calls Try.prog 28 #[.string (bsA (Lib.toLowerA t)), .slice (some ⟨W.heap.size, 0, none⟩) 58 58] (W.alloc (.cells wdV.toArray 9)) fun e w' => e = .returned (.bool (inF wdL (Lib.toLowerA t))) ∧ Below W.heap.size W w' := fun W => rin_b (Lib.toLowerA t) wdL W.heap.size 58 58 W wdV.toArray (by rfl) rfl rfl (by decide)
  have HI : Hid _ := hi
  clear hi
  generalize Lib.toLowerA t = u at h2 HI
  generalize inF wdL u = q at HI
  go_enter Try.func26, Try.ntmps26
  go_wp2_with (go_at_call 53; refine h1.mono ?_; rintro e w1 ⟨rfl, rfl⟩; clear h1)
  all_goals go_wp2_with (go_at_call 54; refine h2.mono ?_; rintro e w2 ⟨rfl, hb2⟩; clear h2)
  all_goals go_wp2_with (go_at_call 55; refine (rwords_any _).mono ?_; rintro e w3 ⟨rfl, rfl⟩)
  all_goals go_wp2_with (go_at_call 28; refine (HI.out _).mono ?_; rintro e w4 ⟨rfl, hb4⟩)
  go_ret
  exact ⟨rfl, hb2.trans (hb4.mono hb2.size)⟩
theorem rId_said : RIdSaid := fun t w _ => by
  unfold idC
  cases hn : s_nameS (bsA t) with
  | false => exact rid_no t w hn
  | true =>
    rw [Bool.true_and, ← inF_c]
    exact rid_yes t w hn
end
section
open Go.ChangeShapes Go.WideShapes Go.ChangeAt Go.RowKit
set_option linter.unusedSimpArgs false
set_option maxRecDepth 20000
set_option maxHeartbeats 4000000

theorem expr_col (a : Int) (s : Option Addr) (c : Nat) (W : World) : Calls Try.prog 17 #[nV 6 [97] 0 a (.slice s 0 c)] W fun e w' => e = .returned (.bool true) ∧ Below W.heap.size W w' := by
  have h1 := rId_said [97] (W.alloc (Obj.cells #[Value.int IntKind.i64 6, Value.string (bsA [97]), Value.int IntKind.i64 0, Value.int IntKind.i64 a, Value.slice s 0 c] 26)) ⟨rfl⟩
  rw [show idC [97] = true by kernel_rfl] at h1
  unfold nV
  go_enter Try.func17, Try.ntmps17
  go_wp2_with fail
  refine h1.mono ?_
  rintro e w1 ⟨rfl, hb1⟩
  clear h1
  obtain ⟨y0, y1, y2, y3, y4, _, _, _, _, _⟩ := (Box5.new W (.int .i64 6) (.string (bsA [97])) (.int .i64 0) (.int .i64 a) (.slice s 0 c) 26).below hb1
  have hA : Below W.heap.size W (W.alloc (Obj.cells #[Value.int IntKind.i64 6, Value.string (bsA [97]), Value.int IntKind.i64 0, Value.int IntKind.i64 a, Value.slice s 0 c] 26)) := (Below.refl _ _).alloc (Nat.le_refl _) _
  have HB : Hid (Below W.heap.size W w1) := hA.trans (hb1.mono hA.size)
  clear hb1 hA
  go_wp2
  refine bodyPost_ret (v := .bool true) (by simp [results, Try.results17, go_sem]) rfl ?_
  exact ⟨rfl, HB.out⟩
theorem exprs_one (y : X) (sy : Option Addr) (cy b c : Nat) (W : World) (h0 : W.cell? ⟨b, 0, none⟩ = some (.int .i64 (xk y))) (h1 : W.cell? ⟨b, 1, none⟩ = some (.string (bsA (xt y)))) (h2 : W.cell? ⟨b, 2, none⟩ = some (.int .i64 (xn y))) (h3 : W.cell? ⟨b, 3, none⟩ = some (.int .i64 (xa y))) (h4 : W.cell? ⟨b, 4, none⟩ = some (.slice sy (xl y) cy)) (hy : Calls Try.prog 17 #[xV y sy cy] W fun e w' => e = .returned (.bool true) ∧ Below W.heap.size W w') : Calls Try.prog 29 #[.slice (some ⟨b, 0, none⟩) 1 c] W fun e w' => e = .returned (.bool true) ∧ Below W.heap.size W w' := by
  unfold xV nV at hy
  have HY : Hid (Calls Try.prog 17 #[.agg #[.int .i64 (xk y), .string (bsA (xt y)), .int .i64 (xn y), .int .i64 (xa y), .slice sy (xl y) cy]] W fun e w' => e = .returned (.bool true) ∧ Below W.heap.size W w') := hy
  clear hy
  go_enter Try.func29, Try.ntmps29
  go_wp2
  go_loopg [3] 1 (fun gk v3 wr => (gk = 1 ∧ v3 = .int .i64 0 ∧ wr = W) ∨ (gk = 0 ∧ v3 = .int .i64 1 ∧ Below W.heap.size W wr))
  case atStart => exact Or.inl ⟨rfl, rfl, rfl⟩
  case round =>
    rcases hrel with ⟨rfl, rfl, rfl⟩ | ⟨rfl, rfl, hb⟩
    · have hy : Calls Try.prog 17 #[.agg #[.int .i64 (xk y), .string (bsA (xt y)), .int .i64 (xn y), .int .i64 (xa y), .slice sy (xl y) cy]] _ _ := HY.out
      go_wp2_with fail
      refine hy.mono ?_
      rintro e w1 ⟨rfl, hb1⟩
      clear hy
      have HB : Hid _ := hb1
      clear hb1
      go_wp2
      go_roundg 0
      case measure => omega
      case rel => exact Or.inr ⟨rfl, rfl, HB.out⟩
    · have HB : Hid _ := hb
      clear hb h0 h1 h2 h3 h4
      go_wp2
      refine bodyPost_ret (v := .bool true) (by simp [results, Try.results29, go_sem]) rfl ?_
      exact ⟨rfl, HB.out⟩
theorem rbT_F' {lo : Nat} {w : World} : ∀ (n M : Nat) (h : n ≤ M) (x : Tr n) (sl : Option Addr), NdF lo w M (rbT n M h x) sl → NdF lo w n x sl
  | 0, _, _, x, _, _ => Empty.elim x
  | _ + 1, 0, h, _, _, _ => absurd h (by omega)
  | n + 1, M + 1, h, x, sl, hF => by
    obtain ⟨hl, hF⟩ := hF
    have e : ks (M + 1) (rbT (n + 1) (M + 1) h x) = (ks (n + 1) x).map (rbT n M (Nat.le_of_succ_le_succ h)) := rfl
    refine ⟨by rw [e, List.length_map] at hl; exact hl, ?_⟩
    rcases hF with h0 | ⟨b, off, rfl, hb, hc⟩
    · exact Or.inl (List.map_eq_nil_iff.1 (by rw [← e]; exact h0))
    · refine Or.inr ⟨b, off, rfl, hb, fun i y hi => ?_⟩
      obtain ⟨s, c, hcs, hp⟩ := hc i (rbT n M (Nat.le_of_succ_le_succ h) y) (by rw [e, List.getElem?_map, hi]; rfl)
      rw [rbT_kd, rbT_tx, rbT_nu, rbT_pl, rbT_len] at hcs
      exact ⟨s, c, hcs, rbT_F' n M _ y s hp⟩
theorem XAt.kidx {lo : Nat} {w : World} {k : Int} {t : List UInt8} {m a : Int} {l : List X} {s : Option Addr} (h : XAt lo w (mkX k t m a l) s) {i : Nat} {x : X} (hi : l[i]? = some x) : ∃ b, s = some ⟨b, 0, none⟩ ∧ lo ≤ b ∧ ∃ s' c', (w.cell? ⟨b, i * 5, none⟩ = some (.int .i64 (xk x)) ∧ w.cell? ⟨b, i * 5 + 1, none⟩ = some (.string (bsA (xt x))) ∧ w.cell? ⟨b, i * 5 + 2, none⟩ = some (.int .i64 (xn x)) ∧ w.cell? ⟨b, i * 5 + 3, none⟩ = some (.int .i64 (xa x)) ∧ w.cell? ⟨b, i * 5 + 4, none⟩ = some (.slice s' (xl x) c')) ∧ NdF lo w (mxB l) (rbT x.1 (mxB l) (mxB_le (List.mem_of_getElem? hi)) x.2) s' := by
  have hA := fm_all (rbX (mxB l)) l (mkX_all l)
  obtain ⟨_, h0 | ⟨b, off, rfl, ⟨hlo, rfl, _⟩, hc⟩⟩ := h
  · have h1 : (l.filterMap (rbX (mxB l))).length = 0 := congrArg List.length h0
    rw [hA.1] at h1
    rw [List.length_eq_zero_iff.1 h1] at hi
    cases hi
  · have hm := List.mem_of_getElem? hi
    have e : (l.filterMap (rbX (mxB l)))[i]? = some (rbT x.1 (mxB l) (mxB_le hm) x.2) := by rw [hA.2 i x hi, rbX_some hm]
    obtain ⟨s', c', hcs, hp⟩ := hc i _ e
    rw [rbT_kd, rbT_tx, rbT_nu, rbT_pl, rbT_len, Nat.zero_add] at hcs
    exact ⟨b, rfl, hlo, s', c', hcs, hp⟩
theorem expr_un (u : List UInt8) (hu : u = [45] ∨ u = [110, 111, 116]) (a : Int) (y : X) (lo : Nat) (s : Option Addr) (c : Nat) (W : World) (hx : XAt lo W (mkX 7 u 0 a [y]) s) (ih : ∀ (sy : Option Addr) (cy : Nat) (W' : World), XAt lo W' y sy → Calls Try.prog 17 #[xV y sy cy] W' fun e w' => e = .returned (.bool true) ∧ Below W'.heap.size W' w') : Calls Try.prog 17 #[nV 7 u 0 a (.slice s 1 c)] W fun e w' => e = .returned (.bool true) ∧ Below W.heap.size W w' := by
  have hA : Below W.heap.size W (W.alloc (Obj.cells #[Value.int IntKind.i64 7, Value.string (bsA u), Value.int IntKind.i64 0, Value.int IntKind.i64 a, Value.slice s 1 c] 26)) := (Below.refl _ _).alloc (Nat.le_refl _) _
  have h1 := rin_b u [[45], [110, 111, 116]] ((W.alloc (Obj.cells #[Value.int IntKind.i64 7, Value.string (bsA u), Value.int IntKind.i64 0, Value.int IntKind.i64 a, Value.slice s 1 c] 26))).heap.size 2 2 (W.alloc (Obj.cells #[Value.int IntKind.i64 7, Value.string (bsA u), Value.int IntKind.i64 0, Value.int IntKind.i64 a, Value.slice s 1 c] 26)) #[.string ⟨#[45]⟩, .string ⟨#[110, 111, 116]⟩] rfl rfl rfl (by decide)
  have hin : inF [[45], [110, 111, 116]] u = true := by rcases hu with rfl | rfl <;> kernel_rfl
  rw [hin, World.size_alloc] at h1
  have HX : Hid (XAt lo W (mkX 7 u 0 a [y]) s) := hx
  have HIH : Hid (∀ (sy : Option Addr) (cy : Nat) (W' : World), XAt lo W' y sy → Calls Try.prog 17 #[xV y sy cy] W' fun e w' => e = .returned (.bool true) ∧ Below W'.heap.size W' w') := ih
  have HAA : Hid (Below W.heap.size W (W.alloc (Obj.cells #[Value.int IntKind.i64 7, Value.string (bsA u), Value.int IntKind.i64 0, Value.int IntKind.i64 a, Value.slice s 1 c] 26))) := hA
  clear hx ih hA hin hu
  unfold nV
  go_enter Try.func17, Try.ntmps17
  go_wp2_with fail
  refine h1.mono ?_
  rintro e w1 ⟨rfl, hb1⟩
  clear h1
  have hb1' : Below ((W.alloc (Obj.cells #[Value.int IntKind.i64 7, Value.string (bsA u), Value.int IntKind.i64 0, Value.int IntKind.i64 a, Value.slice s 1 c] 26))).heap.size (W.alloc (Obj.cells #[Value.int IntKind.i64 7, Value.string (bsA u), Value.int IntKind.i64 0, Value.int IntKind.i64 a, Value.slice s 1 c] 26)) w1 := by rw [World.size_alloc]; exact hb1
  obtain ⟨y0, y1, y2, y3, y4, _, _, _, _, _⟩ := (Box5.new W (.int .i64 7) (.string (bsA u)) (.int .i64 0) (.int .i64 a) (.slice s 1 c) 26).below hb1'
  have hBW : Below W.heap.size W w1 := HAA.out.trans (hb1'.mono HAA.out.size)
  obtain ⟨b, rfl, _, sy, cy, ⟨d0, d1, d2, d3, d4⟩, hy⟩ := XAt.kidx (XAt.below HX.out hBW) (i := 0) rfl
  have h2 := exprs_one y sy cy b c w1 d0 d1 d2 d3 d4 (HIH.out sy cy w1 (rbT_F' _ _ _ _ _ hy))
  have HB : Hid (Below W.heap.size W w1) := hBW
  clear hb1 hb1' hBW hy d0 d1 d2 d3 d4
  go_wp2_with fail
  refine h2.mono ?_
  rintro e w2 ⟨rfl, hb2⟩
  clear h2
  have HB2 : Hid (Below W.heap.size W w2) := HB.out.trans (hb2.mono HB.out.size)
  clear hb2
  go_wp2
  refine bodyPost_ret (v := .bool true) (by simp [results, Try.results17, go_sem]) rfl ?_
  exact ⟨rfl, HB2.out⟩
/-- The document's Expr of a name with signs ahead. -/
theorem expr_chn (T : List Tt) (t : Tt) (ht : t.1.2.1 = [97]) : ∀ (m i : Nat), (∀ q, q < m → (tkI T (i + q)).1.2.1 = [45] ∨ (tkI T (i + q)).1.2.1 = [110, 111, 116]) → ∀ (lo : Nat) (s : Option Addr) (c : Nat) (W : World), XAt lo W (unX T i (tnd 6 t []) m) s → Calls Try.prog 17 #[xV (unX T i (tnd 6 t []) m) s c] W fun e w' => e = .returned (.bool true) ∧ Below W.heap.size W w'
  | 0, i, _, lo, s, c, W, _ => by
    have e : xV (unX T i (tnd 6 t []) 0) s c = nV 6 [97] 0 t.2 (.slice s 0 c) := by
      show xV (mkX 6 t.1.2.1 0 t.2 []) s c = _
      rw [mkX_V, ht]
      rfl
    rw [e]
    exact expr_col t.2 s c W
  | m + 1, i, hq, lo, s, c, W, hx => by
    have e : xV (unX T i (tnd 6 t []) (m + 1)) s c = nV 7 (tkI T i).1.2.1 0 (tkI T i).2 (.slice s 1 c) := by
      show xV (mkX 7 (tkI T i).1.2.1 0 (tkI T i).2 [unX T (i + 1) (tnd 6 t []) m]) s c = _
      rw [mkX_V]
      rfl
    rw [e]
    exact expr_un _ (hq 0 (by omega)) _ (unX T (i + 1) (tnd 6 t []) m) lo s c W hx (fun sy cy W' h => expr_chn T t ht m (i + 1) (fun q h => by rw [show i + 1 + q = i + (q + 1) by omega]; exact hq (q + 1) (by omega)) lo sy cy W' h)
theorem form_chn (x : X) (s : Option Addr) (c lo : Nat) (W : World) (h : Chn x) (hx : XAt lo W x s) : Calls Try.prog 10 #[xV x s c] W fun e w' => e = .returned (.int .i64 1) ∧ Below W.heap.size W w' := by
  obtain ⟨T, i, m, t, rfl, ht, hq⟩ := h
  have hA : Below W.heap.size W (W.alloc (Obj.cells #[Value.int IntKind.i64 (xk (unX T i (tnd 6 t []) m)), Value.string (bsA (xt (unX T i (tnd 6 t []) m))), Value.int IntKind.i64 (xn (unX T i (tnd 6 t []) m)), Value.int IntKind.i64 (xa (unX T i (tnd 6 t []) m)), Value.slice s (xl (unX T i (tnd 6 t []) m)) c] 26)) := (Below.refl _ _).alloc (Nat.le_refl _) _
  have h1 := expr_chn T t ht m i hq lo s c _ (XAt.below hx hA)
  generalize unX T i (tnd 6 t []) m = x at h1 hA ⊢
  unfold xV nV at h1 ⊢
  have HA : Hid _ := hA
  clear hA hx
  go_enter Try.func10, Try.ntmps10
  go_wp2_with fail
  refine h1.mono ?_
  rintro e w1 ⟨rfl, hb1⟩
  clear h1
  have HB : Hid (Below W.heap.size W w1) := HA.out.trans (hb1.mono HA.out.size)
  clear hb1
  go_wp2
  refine bodyPost_ret (v := .int .i64 1) (by simp [results, Try.results10, go_sem]) rfl ?_
  exact ⟨rfl, HB.out⟩
/-- The law's walk, whole. -/
theorem deep_all (n k : Int) (w : World) : Calls Try.prog 4 #[.int .i64 n, .int .i64 k] w fun e w' => e = .returned (.bool true) ∧ Below w.heap.size w w' := deep_walk form_chn n k w
end
end Go.Proofs.Ytcicdapccondkaa
