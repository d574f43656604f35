/- The mathematics of a stable sort by runs: turns, merges, insertion, ranks. -/
import Derived.WalkKit
namespace Go.Proofs.YtfjpdflilmcnhaaDoor
namespace Stb
/-- Positions a to b, not with b, are sorted by lt. -/
def Srt (lt : Nat → Nat → Bool) (f : Nat → Nat) (a b : Nat) : Prop := ∀ i j, a ≤ i → i < j → j < b → lt (f i) (f j) = true
/-- v stands at a position of a to b. -/
def Im (f : Nat → Nat) (a b v : Nat) : Prop := ∃ k, a ≤ k ∧ k < b ∧ f k = v
/-- A strict total order of the places below n. -/
structure Lin (lt : Nat → Nat → Bool) (n : Nat) : Prop where
  irr : ∀ x, x < n → lt x x = false
  tr : ∀ x y z, x < n → y < n → z < n → lt x y = true → lt y z = true → lt x z = true
  tot : ∀ x y, x < n → y < n → x ≠ y → lt x y = true ∨ lt y x = true
theorem Lin.asym {lt : Nat → Nat → Bool} {n x y : Nat} (h : Lin lt n) (hx : x < n) (hy : y < n) (hl : lt x y = true) : lt y x = false := by
  cases e : lt y x with
  | false => rfl
  | true => have := h.tr x y x hx hy hx hl e; rw [h.irr x hx] at this; cases this
theorem Lin.ge {lt : Nat → Nat → Bool} {n x y : Nat} (h : Lin lt n) (hx : x < n) (hy : y < n) (hne : x ≠ y) (hl : lt x y = false) : lt y x = true := by
  rcases h.tot x y hx hy hne with h1 | h1
  · rw [hl] at h1; cases h1
  · exact h1
/-- Two positions change places. -/
def swp (f : Nat → Nat) (i j k : Nat) : Nat := if k = i then f j else if k = j then f i else f k
/-- Two ranges of c positions, from a on and from b on, change places. -/
def swr (f : Nat → Nat) (a b c k : Nat) : Nat := if a ≤ k ∧ k < a + c then f (k - a + b) else if b ≤ k ∧ k < b + c then f (k - b + a) else f k
/-- i positions from a on and the j behind them change places. -/
def rot (f : Nat → Nat) (a i j k : Nat) : Nat := if k < a then f k else if k < a + j then f (k + i) else if k < a + i + j then f (k - j) else f k
theorem swr_zero (f : Nat → Nat) (a b : Nat) : swr f a b 0 = f := by
  funext k; simp only [swr]; rw [if_neg (by omega), if_neg (by omega)]
theorem swr_step (f : Nat → Nat) (a b c : Nat) (h : a + c < b) : swp (swr f a b c) (a + c) (b + c) = swr f a b (c + 1) := by
  funext k
  simp only [swp, swr]
  repeat' split
  all_goals first | rfl | omega | (congr 1; omega)
theorem rot_more (f : Nat → Nat) (a i j : Nat) (h : j < i) : rot (swr f a (a + i) j) (a + j) (i - j) j = rot f a i j := by
  funext k
  simp only [rot, swr]
  repeat' split
  all_goals first | rfl | omega | (congr 1; omega)
theorem rot_less (f : Nat → Nat) (a i j : Nat) (h : i < j) : rot (swr f a (a + j) i) a i (j - i) = rot f a i j := by
  funext k
  simp only [rot, swr]
  repeat' split
  all_goals first | rfl | omega | (congr 1; omega)
theorem rot_same (f : Nat → Nat) (a i : Nat) : swr f a (a + i) i = rot f a i i := by
  funext k
  simp only [rot, swr]
  repeat' split
  all_goals first | rfl | omega | (congr 1; omega)
theorem im_swp {f : Nat → Nat} {a b i j v : Nat} (hi : a ≤ i) (hib : i < b) (hj : a ≤ j) (hjb : j < b) : Im (swp f i j) a b v ↔ Im f a b v := by
  constructor
  · rintro ⟨k, h1, h2, h3⟩
    simp only [swp] at h3
    split at h3
    · exact ⟨j, hj, hjb, h3⟩
    · split at h3
      · exact ⟨i, hi, hib, h3⟩
      · exact ⟨k, h1, h2, h3⟩
  · rintro ⟨k, h1, h2, h3⟩
    by_cases hki : k = i
    · refine ⟨j, hj, hjb, ?_⟩
      simp only [swp]
      subst hki
      by_cases h : j = k
      · subst h; simpa using h3
      · rw [if_neg h]; simpa using h3
    · by_cases hkj : k = j
      · refine ⟨i, hi, hib, ?_⟩
        simp only [swp, if_true, ← hkj]; exact h3
      · refine ⟨k, h1, h2, ?_⟩
        simp only [swp]; rw [if_neg hki, if_neg hkj]; exact h3
theorem im_rot {f : Nat → Nat} {a b i j lo hi v : Nat} (h1 : a ≤ lo) (h2 : lo + i + j = hi) (h3 : hi ≤ b) : Im (rot f lo i j) a b v ↔ Im f a b v := by
  constructor
  · rintro ⟨k, ha, hb, hv⟩
    simp only [rot] at hv
    repeat' split at hv
    · exact ⟨_, ha, hb, hv⟩
    · exact ⟨_, by omega, by omega, hv⟩
    · exact ⟨_, by omega, by omega, hv⟩
    · exact ⟨_, ha, hb, hv⟩
  · rintro ⟨k, ha, hb, hv⟩
    by_cases c1 : lo ≤ k ∧ k < lo + i
    · refine ⟨k + j, by omega, by omega, ?_⟩
      simp only [rot]; rw [if_neg (by omega), if_neg (by omega), if_pos (by omega)]; rw [show k + j - j = k by omega]; exact hv
    · by_cases c2 : lo + i ≤ k ∧ k < hi
      · refine ⟨k - i, by omega, by omega, ?_⟩
        simp only [rot]; rw [if_neg (by omega), if_pos (by omega)]; rw [show k - i + i = k by omega]; exact hv
      · refine ⟨k, ha, hb, ?_⟩
        simp only [rot]
        by_cases c3 : k < lo
        · rw [if_pos c3]; exact hv
        · rw [if_neg c3, if_neg (by omega), if_neg (by omega)]; exact hv
/-- Sorted, and of the places between. -/
structure St (lt : Nat → Nat → Bool) (f : Nat → Nat) (lo hi : Nat) : Prop where
  srt : Srt lt f lo hi
  im : ∀ v, Im f lo hi v ↔ lo ≤ v ∧ v < hi
theorem St.at_ {lt : Nat → Nat → Bool} {f : Nat → Nat} {lo hi i : Nat} (h : St lt f lo hi) (h1 : lo ≤ i) (h2 : i < hi) : lo ≤ f i ∧ f i < hi := (h.im _).1 ⟨i, h1, h2, rfl⟩
theorem St.congr {lt : Nat → Nat → Bool} {f g : Nat → Nat} {lo hi : Nat} (h : St lt f lo hi) (he : ∀ k, lo ≤ k → k < hi → g k = f k) : St lt g lo hi := by
  refine ⟨fun i j h1 h2 h3 => ?_, fun v => ⟨fun ⟨k, a, b, c⟩ => (h.im v).1 ⟨k, a, b, by rw [← he k a b]; exact c⟩, fun hv => ?_⟩⟩
  · rw [he i h1 (by omega), he j (by omega) h3]; exact h.srt i j h1 h2 h3
  · obtain ⟨k, a, b, c⟩ := (h.im v).2 hv
    exact ⟨k, a, b, by rw [he k a b]; exact c⟩
/-- What merging does: f' is f merged between a and b. -/
structure Mg (lt : Nat → Nat → Bool) (f f' : Nat → Nat) (a b : Nat) : Prop where
  srt : Srt lt f' a b
  im : ∀ v, Im f' a b v ↔ Im f a b v
  out : ∀ k, k < a ∨ b ≤ k → f' k = f k
/-- Two runs, the first one of elder places. -/
structure Two (lt : Nat → Nat → Bool) (f : Nat → Nat) (a m b n : Nat) : Prop where
  am : a ≤ m
  mb : m ≤ b
  bn : b ≤ n
  s1 : Srt lt f a m
  s2 : Srt lt f m b
  old : ∀ i j, a ≤ i → i < m → m ≤ j → j < b → f i < f j
  lim : ∀ i, a ≤ i → i < b → f i < n
theorem Mg.im2 {lt : Nat → Nat → Bool} {f f' : Nat → Nat} {a b k : Nat} (h : Mg lt f f' a b) (h1 : a ≤ k) (h2 : k < b) : ∃ k', a ≤ k' ∧ k' < b ∧ f' k = f k' := by
  obtain ⟨k', x, y, z⟩ := (h.im (f' k)).1 ⟨k, h1, h2, rfl⟩
  exact ⟨k', x, y, z.symm⟩
/-- Two merges side by side, of which all of the first is ahead of all of the second. -/
theorem Mg.join {lt : Nat → Nat → Bool} {f f1 f2 : Nat → Nat} {a m b : Nat} (ham : a ≤ m) (hmb : m ≤ b) (h1 : Mg lt f f1 a m) (h2 : Mg lt f1 f2 m b) (hx : ∀ i j, a ≤ i → i < m → m ≤ j → j < b → lt (f i) (f j) = true) : Mg lt f f2 a b := by
  have e1 : ∀ k, a ≤ k → k < m → f2 k = f1 k := fun k _ h => h2.out k (Or.inl h)
  have e2 : ∀ k, m ≤ k → k < b → f1 k = f k := fun k h _ => h1.out k (Or.inr h)
  have g1 : ∀ k, a ≤ k → k < m → ∃ k', a ≤ k' ∧ k' < m ∧ f2 k = f k' := fun k x y => by rw [e1 k x y]; exact h1.im2 x y
  have g2 : ∀ k, m ≤ k → k < b → ∃ k', m ≤ k' ∧ k' < b ∧ f2 k = f k' := fun k x y => by
    obtain ⟨k', u, v, z⟩ := h2.im2 x y
    exact ⟨k', u, v, by rw [z, e2 k' u v]⟩
  refine ⟨fun i j hi hij hj => ?_, fun v => ⟨fun ⟨k, x, y, z⟩ => ?_, fun ⟨k, x, y, z⟩ => ?_⟩, fun k hk => ?_⟩
  · by_cases c1 : j < m
    · rw [e1 i hi (by omega), e1 j (by omega) c1]; exact h1.srt i j hi hij c1
    · by_cases c2 : m ≤ i
      · exact h2.srt i j c2 hij hj
      · obtain ⟨i', x1, y1, z1⟩ := g1 i hi (by omega)
        obtain ⟨j', x2, y2, z2⟩ := g2 j (by omega) hj
        rw [z1, z2]; exact hx i' j' x1 y1 x2 y2
  · by_cases c : k < m
    · obtain ⟨k', u, w, t⟩ := g1 k x c
      exact ⟨k', u, by omega, by rw [← t, z]⟩
    · obtain ⟨k', u, w, t⟩ := g2 k (by omega) y
      exact ⟨k', by omega, w, by rw [← t, z]⟩
  · by_cases c : k < m
    · obtain ⟨k', u, w, t⟩ := (h1.im v).2 ⟨k, x, c, z⟩
      exact ⟨k', u, by omega, by rw [e1 k' u w]; exact t⟩
    · obtain ⟨k', u, w, t⟩ := (h2.im v).2 ⟨k, by omega, y, by rw [e2 k (by omega) y]; exact z⟩
      exact ⟨k', by omega, w, t⟩
  · rw [h2.out k (by omega), h1.out k (by omega)]
theorem Mg.refl {lt : Nat → Nat → Bool} {f : Nat → Nat} {a b : Nat} (h : Srt lt f a b) : Mg lt f f a b := ⟨h, fun _ => Iff.rfl, fun _ _ => rfl⟩
theorem Mg.pre {lt : Nat → Nat → Bool} {f g f' : Nat → Nat} {a b : Nat} (h : Mg lt g f' a b) (hi : ∀ v, Im g a b v ↔ Im f a b v) (ho : ∀ k, k < a ∨ b ≤ k → g k = f k) : Mg lt f f' a b :=
  ⟨h.srt, fun v => (h.im v).trans (hi v), fun k hk => (h.out k hk).trans (ho k hk)⟩
/-- What the search for the turn finds: s of the first run stay, and e - m of the second come ahead of the rest. -/
structure Cut (lt : Nat → Nat → Bool) (f : Nat → Nat) (a m b s e : Nat) : Prop where
  as : a ≤ s
  sm : s ≤ m
  me : m ≤ e
  eb : e ≤ b
  lo : s = a ∨ e = b ∨ lt (f (s - 1)) (f e) = true
  hi : e = m ∨ s = m ∨ lt (f (e - 1)) (f s) = true
theorem Two.le1 {lt : Nat → Nat → Bool} {f : Nat → Nat} {a m b n i j : Nat} (h : Two lt f a m b n) (h1 : a ≤ i) (h2 : i ≤ j) (h3 : j < m) : i = j ∨ lt (f i) (f j) = true := by
  by_cases c : i = j
  · exact Or.inl c
  · exact Or.inr (h.s1 i j h1 (by omega) h3)
theorem Two.le2 {lt : Nat → Nat → Bool} {f : Nat → Nat} {a m b n i j : Nat} (h : Two lt f a m b n) (h1 : m ≤ i) (h2 : i ≤ j) (h3 : j < b) : i = j ∨ lt (f i) (f j) = true := by
  by_cases c : i = j
  · exact Or.inl c
  · exact Or.inr (h.s2 i j h1 (by omega) h3)
theorem le_lt {lt : Nat → Nat → Bool} {n : Nat} (hL : Lin lt n) {f : Nat → Nat} {i j k : Nat} (hi : f i < n) (hj : f j < n) (hk : f k < n) (h1 : i = j ∨ lt (f i) (f j) = true) (h2 : lt (f j) (f k) = true) : lt (f i) (f k) = true := by
  rcases h1 with rfl | h1
  · exact h2
  · exact hL.tr _ _ _ hi hj hk h1 h2
theorem lt_le {lt : Nat → Nat → Bool} {n : Nat} (hL : Lin lt n) {f : Nat → Nat} {i j k : Nat} (hi : f i < n) (hj : f j < n) (hk : f k < n) (h1 : lt (f i) (f j) = true) (h2 : j = k ∨ lt (f j) (f k) = true) : lt (f i) (f k) = true := by
  rcases h2 with rfl | h2
  · exact h1
  · exact hL.tr _ _ _ hi hj hk h1 h2
/-- Behind the turn: all of the first half is ahead of all of the second. -/
theorem Cut.apart {lt : Nat → Nat → Bool} {f : Nat → Nat} {a m b s e n : Nat} (hL : Lin lt n) (h : Two lt f a m b n) (c : Cut lt f a m b s e) :
    ∀ i j, a ≤ i → i < s + (e - m) → s + (e - m) ≤ j → j < b → lt (rot f s (m - s) (e - m) i) (rot f s (m - s) (e - m) j) = true := by
  intro i j h1 h2 h3 h4
  have ha := c.as; have hs := c.sm; have hm := c.me; have he := c.eb
  have key : ∀ x y, a ≤ x → (x < s ∨ (m ≤ x ∧ x < e)) → ((s ≤ y ∧ y < m) ∨ (e ≤ y ∧ y < b)) → lt (f x) (f y) = true := by
    intro x y hx hx2 hy
    rcases hx2 with hx2 | ⟨hx2, hx3⟩
    · rcases hy with ⟨hy1, hy2⟩ | ⟨hy1, hy2⟩
      · exact h.s1 x y hx (by omega) hy2
      · rcases c.lo with q | q | q
        · omega
        · omega
        · exact lt_le hL (h.lim _ (by omega) (by omega)) (h.lim _ (by omega) (by omega)) (h.lim _ (by omega) (by omega)) (le_lt hL (h.lim _ (by omega) (by omega)) (h.lim _ (by omega) (by omega)) (h.lim _ (by omega) (by omega)) (h.le1 hx (show x ≤ s - 1 by omega) (by omega)) q) (h.le2 (by omega) hy1 hy2)
    · rcases hy with ⟨hy1, hy2⟩ | ⟨hy1, hy2⟩
      · rcases c.hi with q | q | q
        · omega
        · omega
        · exact lt_le hL (h.lim _ (by omega) (by omega)) (h.lim _ (by omega) (by omega)) (h.lim _ (by omega) (by omega)) (le_lt hL (h.lim _ (by omega) (by omega)) (h.lim _ (by omega) (by omega)) (h.lim _ (by omega) (by omega)) (h.le2 hx2 (show x ≤ e - 1 by omega) (by omega)) q) (h.le1 (by omega) hy1 hy2)
      · exact h.s2 x y hx2 (by omega) hy2
  simp only [rot]
  rw [show s + (m - s) + (e - m) = e by omega]
  by_cases c1 : i < s
  · rw [if_pos c1]
    rw [if_neg (show ¬j < s by omega), if_neg (show ¬j < s + (e - m) by omega)]
    by_cases c2 : j < e
    · rw [if_pos c2]; exact key _ _ h1 (Or.inl c1) (Or.inl ⟨by omega, by omega⟩)
    · rw [if_neg c2]; exact key _ _ h1 (Or.inl c1) (Or.inr ⟨by omega, by omega⟩)
  · rw [if_neg c1, if_pos h2]
    rw [if_neg (show ¬j < s by omega), if_neg (show ¬j < s + (e - m) by omega)]
    by_cases c2 : j < e
    · rw [if_pos c2]; exact key _ _ (by omega) (Or.inr ⟨by omega, by omega⟩) (Or.inl ⟨by omega, by omega⟩)
    · rw [if_neg c2]; exact key _ _ (by omega) (Or.inr ⟨by omega, by omega⟩) (Or.inr ⟨by omega, by omega⟩)
/-- The first half behind the turn is again two runs. -/
theorem Cut.left {lt : Nat → Nat → Bool} {f : Nat → Nat} {a m b s e n : Nat} (h : Two lt f a m b n) (c : Cut lt f a m b s e) : Two lt (rot f s (m - s) (e - m)) a s (s + (e - m)) n := by
  have ha := c.as; have hs := c.sm; have hm := c.me; have he := c.eb; have hb := h.bn
  have r1 : ∀ k, k < s → rot f s (m - s) (e - m) k = f k := fun k hk => by simp only [rot]; rw [if_pos hk]
  have r2 : ∀ k, s ≤ k → k < s + (e - m) → rot f s (m - s) (e - m) k = f (k + (m - s)) := fun k hk hk2 => by simp only [rot]; rw [if_neg (by omega), if_pos hk2]
  refine ⟨ha, by omega, by omega, fun i j h1 h2 h3 => ?_, fun i j h1 h2 h3 => ?_, fun i j h1 h2 h3 h4 => ?_, fun i h1 h2 => ?_⟩
  · rw [r1 i (by omega), r1 j h3]; exact h.s1 i j h1 h2 (by omega)
  · rw [r2 i h1 (by omega), r2 j (by omega) h3]; exact h.s2 _ _ (by omega) (by omega) (by omega)
  · rw [r1 i h2, r2 j h3 h4]; exact h.old _ _ h1 (by omega) (by omega) (by omega)
  · by_cases q : i < s
    · rw [r1 i q]; exact h.lim i h1 (by omega)
    · rw [r2 i (by omega) h2]; exact h.lim _ (by omega) (by omega)
theorem Cut.right {lt : Nat → Nat → Bool} {f g : Nat → Nat} {a m b s e n : Nat} (h : Two lt f a m b n) (c : Cut lt f a m b s e) (hg : ∀ k, s + (e - m) ≤ k → g k = rot f s (m - s) (e - m) k) : Two lt g (s + (e - m)) e b n := by
  have ha := c.as; have hs := c.sm; have hm := c.me; have he := c.eb; have hb := h.bn
  have r1 : ∀ k, s + (e - m) ≤ k → k < e → g k = f (k - (e - m)) := fun k hk hk2 => by rw [hg k hk]; simp only [rot]; rw [if_neg (by omega), if_neg (by omega), if_pos (by omega)]
  have r2 : ∀ k, e ≤ k → g k = f k := fun k hk => by rw [hg k (by omega)]; simp only [rot]; rw [if_neg (by omega), if_neg (by omega), if_neg (by omega)]
  refine ⟨by omega, he, hb, fun i j h1 h2 h3 => ?_, fun i j h1 h2 h3 => ?_, fun i j h1 h2 h3 h4 => ?_, fun i h1 h2 => ?_⟩
  · rw [r1 i h1 (by omega), r1 j (by omega) h3]; exact h.s1 _ _ (by omega) (by omega) (by omega)
  · rw [r2 i h1, r2 j (by omega)]; exact h.s2 i j (by omega) h2 h3
  · rw [r1 i h1 h2, r2 j h3]; exact h.old _ _ (by omega) (by omega) (by omega) h4
  · by_cases q : i < e
    · rw [r1 i h1 q]; exact h.lim _ (by omega) (by omega)
    · rw [r2 i (by omega)]; exact h.lim _ (by omega) h2
/-- One run is merged where the other one is empty. -/
theorem Two.whole1 {lt : Nat → Nat → Bool} {f : Nat → Nat} {a m b n : Nat} (h : Two lt f a m b n) (he : m = a ∨ m = b) : Srt lt f a b := by
  rcases he with rfl | rfl
  · exact h.s2
  · exact h.s1
/-- The whole of a merge: turned, then both halves merged. -/
theorem Cut.all {lt : Nat → Nat → Bool} {f f1 f2 : Nat → Nat} {a m b s e n : Nat} (hL : Lin lt n) (h : Two lt f a m b n) (c : Cut lt f a m b s e) (h1 : Mg lt (rot f s (m - s) (e - m)) f1 a (s + (e - m))) (h2 : Mg lt f1 f2 (s + (e - m)) b) : Mg lt f f2 a b := by
  have ha := c.as; have hs := c.sm; have hm := c.me; have he := c.eb; have hb := h.bn
  refine Mg.pre (Mg.join (by omega) (by omega) h1 h2 (c.apart hL h)) (fun v => im_rot (hi := e) ha (by omega) he) (fun k hk => ?_)
  simp only [rot]
  by_cases q : k < s
  · rw [if_pos q]
  · rw [if_neg q, if_neg (by omega), if_neg (by omega)]

/-- The turn for a first run of one: it goes behind all of the second that are ahead of it. -/
theorem rot1_merge {lt : Nat → Nat → Bool} {f : Nat → Nat} {a b n i : Nat} (hL : Lin lt n) (h : Two lt f a (a + 1) b n) (h1 : a + 1 ≤ i) (h2 : i ≤ b) (hlo : ∀ k, a + 1 ≤ k → k < i → lt (f k) (f a) = true) (hhi : ∀ k, i ≤ k → k < b → lt (f k) (f a) = false) : Mg lt f (rot f a 1 (i - (a + 1))) a b := by
  have hb := h.bn
  refine ⟨fun x y hx hxy hy => ?_, fun v => im_rot (hi := i) (Nat.le_refl _) (by omega) h2, fun k hk => ?_⟩
  · have g : ∀ k, i ≤ k → k < b → lt (f a) (f k) = true := fun k hk hk2 => hL.ge (h.lim k (by omega) hk2) (h.lim a (Nat.le_refl _) (by omega)) (by have := h.old a k (Nat.le_refl _) (by omega) (by omega) hk2; omega) (hhi k hk hk2)
    simp only [rot]
    by_cases c1 : x < i - 1
    · rw [if_neg (by omega), if_pos (show x < a + (i - (a + 1)) by omega), if_neg (show ¬y < a by omega)]
      by_cases c2 : y < i - 1
      · rw [if_pos (by omega)]; exact h.s2 _ _ (by omega) (by omega) (by omega)
      · rw [if_neg (by omega)]
        by_cases c3 : y = i - 1
        · rw [if_pos (by omega), show y - (i - (a + 1)) = a by omega]; exact hlo _ (by omega) (by omega)
        · rw [if_neg (by omega)]; exact h.s2 _ _ (by omega) (by omega) hy
    · rw [if_neg (by omega), if_neg (show ¬x < a + (i - (a + 1)) by omega), if_neg (show ¬y < a by omega), if_neg (show ¬y < a + (i - (a + 1)) by omega), if_neg (show ¬y < a + 1 + (i - (a + 1)) by omega)]
      by_cases c3 : x = i - 1
      · rw [if_pos (by omega), show x - (i - (a + 1)) = a by omega]; exact g y (by omega) hy
      · rw [if_neg (by omega)]; exact h.s2 _ _ (by omega) hxy hy
  · simp only [rot]
    by_cases c : k < a
    · rw [if_pos c]
    · rw [if_neg c, if_neg (by omega), if_neg (by omega)]
/-- The turn for a second run of one: it comes ahead of all of the first that it is ahead of. -/
theorem rot2_merge {lt : Nat → Nat → Bool} {f : Nat → Nat} {a m n i : Nat} (hL : Lin lt n) (h : Two lt f a m (m + 1) n) (h1 : a ≤ i) (h2 : i ≤ m) (hlo : ∀ k, a ≤ k → k < i → lt (f m) (f k) = false) (hhi : ∀ k, i ≤ k → k < m → lt (f m) (f k) = true) : Mg lt f (rot f i (m - i) 1) a (m + 1) := by
  have hb := h.bn
  refine ⟨fun x y hx hxy hy => ?_, fun v => im_rot (hi := m + 1) h1 (by omega) (Nat.le_refl _), fun k hk => ?_⟩
  · have g : ∀ k, a ≤ k → k < i → lt (f k) (f m) = true := fun k hk hk2 => hL.ge (h.lim m (by omega) (by omega)) (h.lim k hk (by omega)) (by have := h.old k m hk (by omega) (Nat.le_refl _) (by omega); omega) (hlo k hk hk2)
    simp only [rot]
    by_cases c1 : x < i
    · rw [if_pos c1]
      by_cases c2 : y < i
      · rw [if_pos c2]; exact h.s1 _ _ hx hxy (by omega)
      · rw [if_neg c2]
        by_cases c3 : y = i
        · rw [if_pos (by omega), show y + (m - i) = m by omega]; exact g x hx c1
        · rw [if_neg (by omega), if_pos (by omega)]; exact h.s1 _ _ hx (by omega) (by omega)
    · rw [if_neg c1, if_neg (show ¬y < i by omega), if_neg (show ¬y < i + 1 by omega), if_pos (show y < i + (m - i) + 1 by omega)]
      by_cases c3 : x = i
      · rw [if_pos (by omega), show x + (m - i) = m by omega]; exact hhi _ (by omega) (by omega)
      · rw [if_neg (by omega), if_pos (by omega)]; exact h.s1 _ _ (by omega) (by omega) (by omega)
  · simp only [rot]
    by_cases c : k < i
    · rw [if_pos c]
    · rw [if_neg c, if_neg (by omega), if_neg (by omega)]
/-- A single one goes on by one place. -/
theorem rot1_step (f : Nat → Nat) (a c : Nat) : swp (rot f a 1 c) (a + c) (a + c + 1) = rot f a 1 (c + 1) := by
  funext k
  simp only [rot, swp]
  repeat' split
  all_goals first | rfl | omega | (congr 1; omega)
theorem rot2_step (f : Nat → Nat) (m c : Nat) (h : c < m) : swp (rot f (m - c) c 1) (m - c) (m - c - 1) = rot f (m - (c + 1)) (c + 1) 1 := by
  funext k
  simp only [rot, swp]
  repeat' split
  all_goals first | rfl | omega | (congr 1; omega)
theorem rot_zero1 (f : Nat → Nat) (a i : Nat) : rot f a i 0 = f := by
  funext k
  simp only [rot]
  repeat' split
  all_goals first | rfl | omega | (congr 1; omega)
theorem rot_zero2 (f : Nat → Nat) (a j : Nat) : rot f a 0 j = f := by
  funext k
  simp only [rot]
  repeat' split
  all_goals first | rfl | omega | (congr 1; omega)
/-- Insertion: all but the one at j are sorted, and that one is ahead of all between j and i. -/
structure Ins (lt : Nat → Nat → Bool) (f : Nat → Nat) (a j i : Nat) : Prop where
  s : ∀ x y, a ≤ x → x < y → y ≤ i → x ≠ j → y ≠ j → lt (f x) (f y) = true
  up : ∀ y, j < y → y ≤ i → lt (f j) (f y) = true
theorem Ins.begin {lt : Nat → Nat → Bool} {f : Nat → Nat} {a i : Nat} (h : Srt lt f a i) : Ins lt f a i i :=
  ⟨fun x y h1 h2 h3 _ h5 => h x y h1 h2 (by omega), fun y h1 h2 => by omega⟩
theorem Ins.step {lt : Nat → Nat → Bool} {f : Nat → Nat} {a j i : Nat} (h : Ins lt f a j i) (_haj : a < j) (hji : j ≤ i) (hl : lt (f j) (f (j - 1)) = true) : Ins lt (swp f j (j - 1)) a (j - 1) i := by
  refine ⟨fun x y h1 h2 h3 h4 h5 => ?_, fun y h1 h2 => ?_⟩
  · simp only [swp]
    rw [if_neg h4, if_neg h5]
    by_cases cx : x = j
    · rw [if_pos cx, if_neg (by omega)]; exact h.s (j - 1) y (by omega) (by omega) h3 (by omega) (by omega)
    · rw [if_neg cx]
      by_cases cy : y = j
      · rw [if_pos cy]; exact h.s x (j - 1) h1 (by omega) (by omega) cx (by omega)
      · rw [if_neg cy]; exact h.s x y h1 h2 h3 cx cy
  · simp only [swp]
    rw [if_neg (show ¬j - 1 = j by omega)]
    simp only [if_true]
    by_cases cy : y = j
    · rw [if_pos cy]; exact hl
    · rw [if_neg cy, if_neg (by omega)]; exact h.up y (by omega) h2
theorem Ins.done {lt : Nat → Nat → Bool} {f : Nat → Nat} {a j i n : Nat} (hL : Lin lt n) (h : Ins lt f a j i) (haj : a ≤ j) (hji : j ≤ i) (hn : ∀ k, a ≤ k → k ≤ i → f k < n) (hne : ∀ k, a ≤ k → k < j → f k ≠ f j) (hl : j = a ∨ lt (f j) (f (j - 1)) = false) : Srt lt f a (i + 1) := by
  intro x y h1 h2 h3
  by_cases cx : x = j
  · subst cx; exact h.up y h2 (by omega)
  · by_cases cy : y = j
    · subst cy
      rcases hl with hl | hl
      · omega
      · have g : lt (f (y - 1)) (f y) = true := hL.ge (hn y haj hji) (hn (y - 1) (by omega) (by omega)) (Ne.symm (hne (y - 1) (by omega) (by omega))) hl
        by_cases c : x = y - 1
        · rw [c]; exact g
        · exact hL.tr _ _ _ (hn x h1 (by omega)) (hn (y - 1) (by omega) (by omega)) (hn y haj hji) (h.s x (y - 1) h1 (by omega) (by omega) cx (by omega)) g
    · exact h.s x y h1 h2 (by omega) cx cy
/-- All blocks of bs places between lo and hi are sorted in themselves. -/
def Seg (lt : Nat → Nat → Bool) (f : Nat → Nat) (bs n lo hi : Nat) : Prop := ∀ k, lo ≤ k * bs → k * bs < hi → St lt f (k * bs) (min (k * bs + bs) n)
theorem Seg.two {lt : Nat → Nat → Bool} {f : Nat → Nat} {n a m b : Nat} (h1 : St lt f a m) (h2 : St lt f m b) (ham : a ≤ m) (hmb : m ≤ b) (hbn : b ≤ n) : Two lt f a m b n :=
  ⟨ham, hmb, hbn, h1.srt, h2.srt, fun i j x1 x2 x3 x4 => by have := (h1.at_ x1 x2).2; have := (h2.at_ x3 x4).1; omega, fun i x1 x2 => by
    by_cases c : i < m
    · have := (h1.at_ x1 c).2; omega
    · have := (h2.at_ (by omega) x2).2; omega⟩
theorem im_split {f : Nat → Nat} {a m b v : Nat} (h1 : a ≤ m) (h2 : m ≤ b) : Im f a b v ↔ Im f a m v ∨ Im f m b v := by
  constructor
  · rintro ⟨k, x, y, z⟩
    by_cases c : k < m
    · exact Or.inl ⟨k, x, c, z⟩
    · exact Or.inr ⟨k, by omega, y, z⟩
  · rintro (⟨k, x, y, z⟩ | ⟨k, x, y, z⟩)
    · exact ⟨k, x, by omega, z⟩
    · exact ⟨k, by omega, y, z⟩
theorem Mg.st {lt : Nat → Nat → Bool} {f f' : Nat → Nat} {a m b : Nat} (h : Mg lt f f' a b) (h1 : St lt f a m) (h2 : St lt f m b) (ham : a ≤ m) (hmb : m ≤ b) : St lt f' a b :=
  ⟨h.srt, fun v => by rw [h.im, im_split ham hmb, h1.im, h2.im]; omega⟩
theorem Seg.keep {lt : Nat → Nat → Bool} {f f' : Nat → Nat} {bs n lo hi : Nat} (h : Seg lt f bs n lo hi) (he : ∀ k, lo ≤ k → k < n → f' k = f k) : Seg lt f' bs n lo hi :=
  fun k h1 h2 => (h k h1 h2).congr fun x hx hx2 => he x (by omega) (by omega)
theorem Seg.less {lt : Nat → Nat → Bool} {f : Nat → Nat} {bs n lo hi lo' hi' : Nat} (h : Seg lt f bs n lo hi) (h1 : lo ≤ lo') (h2 : hi' ≤ hi) : Seg lt f bs n lo' hi' := fun k a b => h k (by omega) (by omega)
theorem Seg.snoc {lt : Nat → Nat → Bool} {f f' : Nat → Nat} {bs n k e : Nat} (h : Seg lt f bs n 0 (k * bs)) (he : ∀ x, x < k * bs → f' x = f x) (hS : St lt f' (k * bs) (min (k * bs + bs) n)) (hx : e = k * bs + bs) : Seg lt f' bs n 0 e := by
  intro j h1 h2
  subst hx
  have c : j ≤ k := by
    rcases Nat.lt_or_ge k j with q | q
    · have := Nat.mul_le_mul_right bs (show k + 1 ≤ j by omega)
      rw [Nat.succ_mul] at this; omega
    · exact q
  by_cases cj : j = k
  · subst cj; exact hS
  · have := Nat.mul_le_mul_right bs (show j + 1 ≤ k by omega)
    rw [Nat.succ_mul] at this
    exact (h j h1 (by omega)).congr fun x hx1 hx2 => he x (by omega)
/-- The rank of a place: how many are ahead of it. -/
def rank (lt : Nat → Nat → Bool) (n p : Nat) : Nat := ((List.range n).filter fun q => lt q p).length
theorem St.inj {lt : Nat → Nat → Bool} {f : Nat → Nat} {n : Nat} (hL : Lin lt n) (h : St lt f 0 n) {i j : Nat} (hi : i < n) (hj : j < n) (he : f i = f j) : i = j := by
  rcases Nat.lt_trichotomy i j with c | c | c
  · have := h.srt i j (Nat.zero_le _) c hj
    rw [he, hL.irr _ (h.at_ (Nat.zero_le _) hj).2] at this; cases this
  · exact c
  · have := h.srt j i (Nat.zero_le _) c hi
    rw [he, hL.irr _ (h.at_ (Nat.zero_le _) hj).2] at this; cases this
theorem nodup_map {f : Nat → Nat} {k : Nat} (h : ∀ i j, i < k → j < k → f i = f j → i = j) : ((List.range k).map f).Nodup := by
  rw [List.Nodup, List.pairwise_map]
  have : (List.range k).Pairwise fun a b => a ≠ b := List.nodup_range
  refine List.Pairwise.imp_of_mem ?_ this
  intro a b ha hb hne he
  exact hne (h a b (by simpa using ha) (by simpa using hb) he)
theorem St.rank {lt : Nat → Nat → Bool} {f : Nat → Nat} {n : Nat} (hL : Lin lt n) (h : St lt f 0 n) {k : Nat} (hk : k < n) : rank lt n (f k) = k := by
  have hp : ((List.range n).filter fun q => lt q (f k)).Perm ((List.range k).map f) := by
    rw [List.perm_ext_iff_of_nodup (List.Pairwise.filter _ List.nodup_range) (nodup_map fun i j hi hj => h.inj hL (by omega) (by omega))]
    intro q
    rw [List.mem_filter, List.mem_range, List.mem_map]
    constructor
    · rintro ⟨hq, hl⟩
      obtain ⟨j, _, hj, rfl⟩ := (h.im q).2 ⟨Nat.zero_le _, hq⟩
      refine ⟨j, ?_, rfl⟩
      rw [List.mem_range]
      rcases Nat.lt_trichotomy j k with c | c | c
      · exact c
      · subst c; rw [hL.irr _ hq] at hl; cases hl
      · have := hL.asym hq (h.at_ (Nat.zero_le _) hk).2 hl
        rw [h.srt k j (Nat.zero_le _) c hj] at this; cases this
    · rintro ⟨j, hj, rfl⟩
      rw [List.mem_range] at hj
      exact ⟨(h.at_ (Nat.zero_le _) (by omega)).2, h.srt j k (Nat.zero_le _) hj hk⟩
  unfold Stb.rank
  rw [hp.length_eq]; simp
/-- The first m of the sorted are those of a rank below m. -/
theorem St.firsts {lt : Nat → Nat → Bool} {f : Nat → Nat} {n m : Nat} (hL : Lin lt n) (h : St lt f 0 n) (hm : m ≤ n) : ((List.range m).map f).Perm ((List.range n).filter fun p => decide (Stb.rank lt n p < m)) := by
  rw [List.perm_ext_iff_of_nodup (nodup_map fun i j hi hj => h.inj hL (by omega) (by omega)) (List.Pairwise.filter _ List.nodup_range)]
  intro p
  rw [List.mem_filter, List.mem_range, List.mem_map]
  constructor
  · rintro ⟨j, hj, rfl⟩
    rw [List.mem_range] at hj
    exact ⟨(h.at_ (Nat.zero_le _) (by omega)).2, by rw [h.rank hL (by omega)]; simpa using hj⟩
  · rintro ⟨hp, hr⟩
    obtain ⟨j, _, hj, rfl⟩ := (h.im p).2 ⟨Nat.zero_le _, hp⟩
    rw [h.rank hL hj] at hr
    exact ⟨j, by simpa using hr, rfl⟩

/-- The same with what a search by halves tells: the last one ahead, the first one not ahead. -/
theorem one_first {lt : Nat → Nat → Bool} {f : Nat → Nat} {a m b n i : Nat} (hL : Lin lt n) (h : Two lt f a m b n) (hm : m = a + 1) (h1 : m ≤ i) (h2 : i ≤ b) (hlo : i = m ∨ lt (f (i - 1)) (f a) = true) (hhi : i = b ∨ lt (f i) (f a) = false) : Mg lt f (rot f a 1 (i - m)) a b := by
  subst hm
  have hb := h.bn
  refine rot1_merge hL h h1 h2 (fun k hk hk2 => ?_) (fun k hk hk2 => ?_)
  · rcases hlo with q | q
    · omega
    · exact le_lt hL (h.lim _ (by omega) (by omega)) (h.lim _ (by omega) (by omega)) (h.lim _ (by omega) (by omega)) (h.le2 hk (show k ≤ i - 1 by omega) (by omega)) q
  · rcases hhi with q | q
    · omega
    · cases e : lt (f k) (f a) with
      | false => rfl
      | true =>
        have := le_lt hL (h.lim _ (by omega) (by omega)) (h.lim _ (by omega) (by omega)) (h.lim _ (by omega) (by omega)) (h.le2 h1 hk hk2) e
        rw [q] at this; cases this
theorem one_last {lt : Nat → Nat → Bool} {f : Nat → Nat} {a m b n i : Nat} (hL : Lin lt n) (h : Two lt f a m b n) (hm : b = m + 1) (h1 : a ≤ i) (h2 : i ≤ m) (hlo : i = a ∨ lt (f m) (f (i - 1)) = false) (hhi : i = m ∨ lt (f m) (f i) = true) : Mg lt f (rot f i (m - i) 1) a b := by
  subst hm
  have hb := h.bn
  refine rot2_merge hL h h1 h2 (fun k hk hk2 => ?_) (fun k hk hk2 => ?_)
  · rcases hlo with q | q
    · omega
    · cases e : lt (f m) (f k) with
      | false => rfl
      | true =>
        have := lt_le hL (h.lim _ (by omega) (by omega)) (h.lim _ (by omega) (by omega)) (h.lim _ (by omega) (by omega)) e (h.le1 hk (show k ≤ i - 1 by omega) (by omega))
        rw [q] at this; cases this
  · rcases hhi with q | q
    · omega
    · exact lt_le hL (h.lim _ (by omega) (by omega)) (h.lim _ (by omega) (by omega)) (h.lim _ (by omega) (by omega)) q (h.le1 h1 hk hk2)
/-- Where the search for the turn stands: the places at its ends. -/
structure Srch (lt : Nat → Nat → Bool) (f : Nat → Nat) (p s0 r0 s r : Nat) : Prop where
  a : s0 ≤ s
  b : s ≤ r
  c : r ≤ r0
  lo : s = s0 ∨ lt (f (s - 1)) (f (p + 1 - s)) = true
  hi : r = r0 ∨ lt (f (p - r)) (f r) = true
theorem Srch.cut {lt : Nat → Nat → Bool} {f : Nat → Nat} {a m b mid s0 r0 s : Nat} (hm1 : a < m) (hm2 : m < b) (hmid : mid = (a + b) / 2) (hs0 : (m > mid ∧ s0 = mid + m - b ∧ r0 = mid) ∨ (m ≤ mid ∧ s0 = a ∧ r0 = m)) (h : Srch lt f (mid + m - 1) s0 r0 s s) : Cut lt f a m b s (mid + m - s) := by
  have h1 := h.a; have h2 := h.c
  have e1 : mid + m - 1 + 1 - s = mid + m - s := by omega
  have e2 : mid + m - 1 - s = mid + m - s - 1 := by omega
  have hlo := h.lo
  have hhi := h.hi
  rw [e1] at hlo
  rw [e2] at hhi
  rcases hs0 with ⟨q1, q2, q3⟩ | ⟨q1, q2, q3⟩
  · refine ⟨by omega, by omega, by omega, by omega, ?_, ?_⟩
    · rcases hlo with q | q
      · exact Or.inr (Or.inl (by omega))
      · exact Or.inr (Or.inr q)
    · rcases hhi with q | q
      · exact Or.inl (by omega)
      · exact Or.inr (Or.inr q)
  · refine ⟨by omega, by omega, by omega, by omega, ?_, ?_⟩
    · rcases hlo with q | q
      · exact Or.inl (by omega)
      · exact Or.inr (Or.inr q)
    · rcases hhi with q | q
      · exact Or.inr (Or.inl (by omega))
      · exact Or.inr (Or.inr q)
/-- An order with draws, and by place where it draws. -/
def ltO (ov : Nat → Nat → Int) (x y : Nat) : Bool := decide (ov x y < 0) || (decide (ov x y = 0) && decide (x < y))
/-- What a comparison must be for the places below n. -/
structure Cmp (ov : Nat → Nat → Int) (n : Nat) : Prop where
  anti : ∀ x y, x < n → y < n → (ov y x < 0 ↔ 0 < ov x y)
  tr : ∀ x y z, x < n → y < n → z < n → ov x y ≤ 0 → ov y z ≤ 0 → ov x z ≤ 0 ∧ (ov x z = 0 → ov x y = 0 ∧ ov y z = 0)
theorem Cmp.zero {ov : Nat → Nat → Int} {n x : Nat} (h : Cmp ov n) (hx : x < n) : ov x x = 0 := by
  have := h.anti x x hx hx; omega
theorem Cmp.lin {ov : Nat → Nat → Int} {n : Nat} (h : Cmp ov n) : Lin (ltO ov) n := by
  refine ⟨fun x hx => ?_, fun x y z hx hy hz h1 h2 => ?_, fun x y hx hy hne => ?_⟩
  · have := h.zero hx
    simp [ltO, this]
  · simp only [ltO, Bool.or_eq_true, Bool.and_eq_true, decide_eq_true_eq] at *
    have := h.tr x y z hx hy hz (by omega) (by omega)
    omega
  · simp only [ltO, Bool.or_eq_true, Bool.and_eq_true, decide_eq_true_eq]
    have h1 := h.anti x y hx hy
    have h2 := h.anti y x hy hx
    omega
theorem ltO_elder {ov : Nat → Nat → Int} {x y : Nat} (h : x < y) : ltO ov y x = decide (ov y x < 0) := by
  have : ¬ y < x := by omega
  simp [ltO, this]

/-- Insertion of place i, that stands at j now. -/
structure InsI (lt : Nat → Nat → Bool) (f h : Nat → Nat) (a j i : Nat) : Prop where
  ins : Ins lt h a j i
  val : h j = i
  low : ∀ k, a ≤ k → k ≤ i → k ≠ j → h k < i
  im : ∀ v, Im h a (i + 1) v ↔ a ≤ v ∧ v < i + 1
  out : ∀ k, k < a ∨ i < k → h k = f k
theorem InsI.begin {lt : Nat → Nat → Bool} {f h : Nat → Nat} {a i : Nat} (hS : St lt h a i) (hai : a ≤ i) (hv : h i = i) (out : ∀ k, k < a ∨ i < k → h k = f k) : InsI lt f h a i i :=
  ⟨Ins.begin hS.srt, hv, fun k h1 h2 h3 => (hS.at_ h1 (by omega)).2, fun v => by
    rw [im_split hai (Nat.le_succ i), hS.im]
    constructor
    · rintro (q | ⟨k, h1, h2, h3⟩)
      · omega
      · obtain rfl : k = i := by omega
        rw [hv] at h3; omega
    · intro q
      by_cases c : v < i
      · exact Or.inl ⟨q.1, c⟩
      · exact Or.inr ⟨i, Nat.le_refl _, by omega, by rw [hv]; omega⟩, out⟩
theorem InsI.step {lt : Nat → Nat → Bool} {f h : Nat → Nat} {a j i : Nat} (hI : InsI lt f h a j i) (haj : a < j) (hji : j ≤ i) (hl : lt (h j) (h (j - 1)) = true) : InsI lt f (swp h j (j - 1)) a (j - 1) i := by
  refine ⟨hI.ins.step haj hji hl, ?_, fun k h1 h2 h3 => ?_, fun v => (im_swp (by omega) (by omega) (by omega) (by omega)).trans (hI.im v), fun k hk => ?_⟩
  · simp only [swp, if_neg (show ¬j - 1 = j by omega), if_true]; exact hI.val
  · simp only [swp]
    rw [if_neg h3]
    split
    · exact hI.low (j - 1) (by omega) (by omega) (by omega)
    · exact hI.low k h1 h2 (by omega)
  · simp only [swp]
    rw [if_neg (by omega), if_neg (by omega)]; exact hI.out k hk
theorem InsI.done {lt : Nat → Nat → Bool} {f h : Nat → Nat} {a j i n : Nat} (hL : Lin lt n) (hin : i < n) (hI : InsI lt f h a j i) (haj : a ≤ j) (hji : j ≤ i) (hl : j = a ∨ lt (h j) (h (j - 1)) = false) : St lt h a (i + 1) :=
  ⟨hI.ins.done hL haj hji (fun k h1 h2 => by have := (hI.im (h k)).1 ⟨k, h1, by omega, rfl⟩; omega) (fun k h1 h2 => by have := hI.low k h1 (by omega) (by omega); have := hI.val; omega) hl, hI.im⟩
theorem St.one {lt : Nat → Nat → Bool} {f : Nat → Nat} {a : Nat} (h : f a = a) : St lt f a (a + 1) := by
  refine ⟨fun i j _ _ _ => by omega, fun v => ⟨fun ⟨k, h1, h2, h3⟩ => ?_, fun hv => ⟨a, Nat.le_refl _, by omega, by rw [h]; omega⟩⟩⟩
  obtain rfl : k = a := by omega
  rw [h] at h3; omega
theorem St.none {lt : Nat → Nat → Bool} {f : Nat → Nat} {a : Nat} : St lt f a a :=
  ⟨fun i j _ _ _ => by omega, fun v => ⟨fun ⟨k, h1, h2, _⟩ => by omega, fun hv => by omega⟩⟩
end Stb
end Go.Proofs.YtfjpdflilmcnhaaDoor
