/- A symbolic run of a program: regions whose order is open: what the one run that was reckoned tells of each operation. -/
import Derived.Test.YtglnljfdkiihbaaGreatDoorSyN
namespace Go.Sy

theorem allP_iff {α : Type} {f : α → Bool} {l : List α} : allP f l = true ↔ ∀ a ∈ l, f a = true := by
  induction l with
  | nil => simp [allP]
  | cons a l ih =>
    unfold allP
    cases h : f a
    · simp [h]
    · simp [h, ih]
theorem imp_ok {a b : Bool} (h : imp a b = true) (ha : a = true) : b = true := by subst ha; exact h

/-- The value of slot s behind those of the mask m. -/
def tv (ops : Array Oper) (t0 : Tm) (V : Nat → Value) (m s : Nat) : Value :=
  match (List.range ops.size).find? (fun j => Nat.testBit m j && dstIs ops j s) with
  | some j => V j
  | none => tget t0 s

theorem upd_same {α : Type} (f : Nat → α) (i : Nat) (v : α) : upd f i v i = v := by
  unfold upd; rw [show Nat.beq i i = true from by simp]
theorem upd_ne {α : Type} (f : Nat → α) {i j : Nat} (v : α) (h : j ≠ i) : upd f i v j = f j := by
  unfold upd
  cases hb : Nat.beq j i
  · rfl
  · exact (h (Nat.eq_of_beq_eq_true hb)).elim

theorem testBit_lor {m i j : Nat} : Nat.testBit (Nat.lor m (2 ^ i)) j = (Nat.testBit m j || Nat.beq i j) := by
  show Nat.testBit (m ||| 2 ^ i) j = _
  rw [Nat.testBit_or, Nat.testBit_two_pow]
  congr 1
  cases h : Nat.beq i j
  · exact decide_eq_false fun e => by rw [e] at h; simp at h
  · exact decide_eq_true (Nat.eq_of_beq_eq_true h)
theorem land_sub {m p j : Nat} (h : Nat.land m p = m) (hj : Nat.testBit m j = true) : Nat.testBit p j = true := by
  have : Nat.testBit (m &&& p) j = true := by show Nat.testBit (Nat.land m p) j = true; rw [h]; exact hj
  rw [Nat.testBit_and] at this
  simp only [Bool.and_eq_true] at this; exact this.2

/-- The plan's facts of one operation. -/
structure PF (ops : Array Oper) (pl : Plan) : Prop where
  idx : ∀ (k : Nat) p, pl.inf[k]? = some p → p.1 = k
  len : pl.inf.length = ops.size
  dst : ∀ p ∈ pl.inf, ∀ o, ops[p.1]? = some o → ∀ q ∈ pl.inf, p.1 ≠ q.1 → ∀ d, o.dst = some d → dstIs ops q.1 d = false
  looks : ∀ p ∈ pl.inf, ∀ o, ops[p.1]? = some o → ∀ d ∈ o.looksAt ops, ∀ q ∈ pl.inf, dstIs ops q.1 d = true → Nat.testBit p.2.m q.1 = true ∨ Nat.testBit q.2.m p.1 = true

theorem PF.mem {ops : Array Oper} {pl : Plan} (h : PF ops pl) {j : Nat} (hj : j < ops.size) : ∃ q ∈ pl.inf, q.1 = j := by
  have hj' : j < pl.inf.length := by rw [h.len]; exact hj
  exact ⟨pl.inf[j], List.getElem_mem hj', h.idx j _ (List.getElem?_eq_getElem hj')⟩
theorem PF.lt {ops : Array Oper} {pl : Plan} (h : PF ops pl) {p : Nat × PI} (hp : p ∈ pl.inf) : p.1 < ops.size := by
  obtain ⟨k, hk⟩ := List.getElem?_of_mem hp
  rw [h.idx k p hk, ← h.len]
  exact (List.getElem?_eq_some_iff.1 hk).1
theorem dstIs_iff {ops : Array Oper} {j d : Nat} : dstIs ops j d = true ↔ ∃ o, ops[j]? = some o ∧ o.dst = some d := by
  unfold dstIs
  cases ho : ops[j]? with
  | none => simp
  | some o =>
    cases he : o.dst with
    | none => simp [he]
    | some e =>
      simp only [he]
      constructor
      · intro h; exact ⟨o, rfl, by rw [he, Nat.eq_of_beq_eq_true h]⟩
      · rintro ⟨o', h1, h2⟩
        cases h1; rw [he] at h2; cases h2; simp
theorem dstIs_lt {ops : Array Oper} {j d : Nat} (h : dstIs ops j d = true) : j < ops.size := by
  obtain ⟨o, ho, _⟩ := dstIs_iff.1 h
  exact (Array.getElem?_eq_some_iff.1 ho).1

/-- The slots that an operation looks at hang on what comes ahead of it alone. -/
theorem tv_looks {ops : Array Oper} {pl : Plan} (h : PF ops pl) {t0 : Tm} {V : Nat → Value} {p : Nat × PI} (hp : p ∈ pl.inf) {o : Oper} (ho : ops[p.1]? = some o) {pm d : Nat} (hs : ∀ j, Nat.testBit p.2.m j = true → Nat.testBit pm j = true) (hN : ∀ q ∈ pl.inf, Nat.testBit q.2.m p.1 = true → Nat.testBit pm q.1 = false) (hd : d ∈ o.looksAt ops) :
    tv ops t0 V pm d = tv ops t0 V p.2.m d := by
  unfold tv
  congr 2
  funext j
  cases hj : dstIs ops j d
  · simp
  · obtain ⟨q, hq, rfl⟩ := h.mem (dstIs_lt hj)
    rcases h.looks p hp o ho d hd q hq hj with this | this
    · simp [this, hs _ this]
    · have h0 := hN q hq this
      have h1 : Nat.testBit p.2.m q.1 = false := by
        cases hb : Nat.testBit p.2.m q.1
        · rfl
        · rw [hs _ hb] at h0; cases h0
      rw [h0, h1]

theorem tv_congr {ops : Array Oper} {t0 : Tm} {V V' : Nat → Value} {m s : Nat} (h : ∀ j, Nat.testBit m j = true → V j = V' j) : tv ops t0 V m s = tv ops t0 V' m s := by
  unfold tv
  split
  · rename_i j hj
    have := List.find?_some hj
    simp only [Bool.and_eq_true] at this
    exact h j this.1
  · rfl

/-- One operation more is put. -/
theorem tv_put {ops : Array Oper} {pl : Plan} (h : PF ops pl) {t0 t : Tm} {V : Nat → Value} {pm nt : Nat} (hnt : nt ≤ 512) (hi : ∀ s, s < nt → tget t s = tv ops t0 V pm s) {p : Nat × PI} (hp : p ∈ pl.inf) {o : Oper} (ho : ops[p.1]? = some o) (hd : okDst nt o.dst = true) (hb : Nat.testBit pm p.1 = false) (v : Value) :
    ∀ s, s < nt → tget (putT t o.dst v) s = tv ops t0 (upd V p.1 v) (Nat.lor pm (2 ^ p.1)) s := by
  intro s hs
  have hother : ∀ s, dstIs ops p.1 s = false → tv ops t0 (upd V p.1 v) (Nat.lor pm (2 ^ p.1)) s = tv ops t0 V pm s := by
    intro s hds
    have e1 : tv ops t0 (upd V p.1 v) (Nat.lor pm (2 ^ p.1)) s = tv ops t0 (upd V p.1 v) pm s := by
      unfold tv
      congr 2
      funext j
      rw [testBit_lor]
      cases hj : dstIs ops j s
      · simp
      · have : p.1 ≠ j := fun e => by rw [e, hj] at hds; cases hds
        have : Nat.beq p.1 j = false := by
          cases hq : Nat.beq p.1 j
          · rfl
          · exact (this (Nat.eq_of_beq_eq_true hq)).elim
        rw [this]; simp
    rw [e1]
    refine (tv_congr fun j hj => ?_)
    exact upd_ne _ _ (fun e => by rw [e] at hj; rw [hj] at hb; cases hb)
  cases hdst : o.dst with
  | none =>
    rw [hother s]
    · exact hi s hs
    · cases hq : dstIs ops p.1 s
      · rfl
      · obtain ⟨o', h1, h2⟩ := dstIs_iff.1 hq
        rw [ho] at h1; cases h1; rw [hdst] at h2; cases h2
  | some d =>
    rw [hdst] at hd
    have hdn : d < nt := blt_iff.1 hd
    have hd5 : d < 512 := Nat.lt_of_lt_of_le hdn hnt
    simp only [putT]
    rw [tget_tset _ _ _ _ hd5 (Nat.lt_of_lt_of_le hs hnt)]
    by_cases e : d = s
    · subst e
      rw [if_pos rfl]
      have hds : dstIs ops p.1 d = true := dstIs_iff.2 ⟨o, ho, hdst⟩
      unfold tv
      have : (List.range ops.size).find? (fun j => Nat.testBit (Nat.lor pm (2 ^ p.1)) j && dstIs ops j d) = some p.1 := by
        have huniq : ∀ j, dstIs ops j d = true → j = p.1 := fun j hj => by
          rcases Nat.decEq j p.1 with e | e
          · obtain ⟨q, hq, rfl⟩ := h.mem (dstIs_lt hj)
            have := h.dst p hp o ho q hq (fun x => e x.symm) d hdst
            rw [hj] at this; cases this
          · exact e
        cases hf : (List.range ops.size).find? (fun j => Nat.testBit (Nat.lor pm (2 ^ p.1)) j && dstIs ops j d) with
        | none =>
          rw [List.find?_eq_none] at hf
          have := hf p.1 (List.mem_range.2 (h.lt hp))
          rw [testBit_lor] at this
          simp [hds] at this
        | some j =>
          have := List.find?_some hf
          simp only [Bool.and_eq_true] at this
          rw [huniq j this.2]
      rw [this]
      exact (upd_same _ _ _).symm
    · rw [if_neg e, hother s]
      · exact hi s hs
      · cases hq : dstIs ops p.1 s
        · rfl
        · obtain ⟨o', h1, h2⟩ := dstIs_iff.1 hq
          rw [ho] at h1; cases h1; rw [hdst] at h2; cases h2; exact (e rfl).elim
end Go.Sy
