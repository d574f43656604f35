/- A symbolic run of a program: regions whose order is open: whatever the order, the end is the one that was reckoned. -/
import Derived.Test.YtglnljfdkiihbaaGreatDoorSyR
namespace Go.Sy

theorem ord_pm {P : Program} {ec : Caller} {nt : Nat} {ops : Array Oper} {al : List (Nat × PI)} {nx : Nat} : ∀ (l : List (Nat × PI)) (d D : DD), evOrd P ec nt ops al nx l d = some D → ∀ j, Nat.testBit D.pm j = true → Nat.testBit d.pm j = true ∨ ∃ p ∈ l, p.1 = j
  | [], d, D, he, j, hj => by simp only [evOrd, Option.some.injEq] at he; subst he; exact .inl hj
  | p :: l, d, D, he, j, hj => by
    have key : ∀ d' : DD, d'.pm = Nat.lor d.pm (2 ^ p.1) → evOrd P ec nt ops al nx l d' = some D → Nat.testBit d.pm j = true ∨ ∃ q ∈ p :: l, q.1 = j := by
      intro d' hd' h
      rcases ord_pm l d' D h j hj with h1 | ⟨q, hq, e⟩
      · rw [hd', testBit_lor] at h1
        simp only [Bool.or_eq_true] at h1
        rcases h1 with h1 | h1
        · exact .inl h1
        · exact .inr ⟨p, by simp, Nat.eq_of_beq_eq_true h1⟩
      · exact .inr ⟨q, by simp [hq], e⟩
    simp only [evOrd] at he
    repeat' split at he
    all_goals first
      | cases he; done
      | (rw [insGK_eq, stepD_eq] at he; exact key _ rfl he)
      | (rw [insGK_eq] at he
         split at he
         · rw [stepD_eq] at he; exact key _ rfl he
         · cases he)
      | (rw [stepD_eq] at he; exact key _ rfl he)
      | (rw [fent_eq, stepD_eq] at he; exact key _ rfl he)

/-- All that a plan keeps. -/
structure PG (ops : Array Oper) (pl : Plan) : Prop extends PF ops pl where
  edge : ∀ p ∈ pl.inf, ∀ o, ops[p.1]? = some o → ∀ e ∈ o.after.toList, Region.binds .any e = true → e.on < p.1
  mask : ∀ p ∈ pl.inf, ∀ o, ops[p.1]? = some o → ∀ q ∈ pl.inf, Nat.testBit p.2.m q.1 = true → ∃ e ∈ o.after.toList, Region.binds .any e = true ∧ (e.on = q.1 ∨ ∃ r, pl.inf[e.on]? = some r ∧ Nat.testBit r.2.m q.1 = true)
  mlt : ∀ p ∈ pl.inf, p.2.m < 2 ^ ops.size
  hv : ∀ p ∈ pl.inf, heavyAt ops p.1 = true → p.2.kx < pl.hs ∧ ∀ q ∈ pl.inf, (heavyAt ops q.1 = true → (p.1 ≠ q.1 → p.2.kx ≠ q.2.kx) ∧ (q.2.kx < p.2.kx → Nat.testBit p.2.m q.1 = true)) ∧ (heavyAt ops q.1 = false → (Nat.testBit p.2.m q.1 = true ↔ q.2.kx ≤ p.2.kx))
  fl : ∀ p ∈ pl.inf, heavyAt ops p.1 = false → p.2.kx ≤ pl.hs ∧ (p.2.kn = 0 ∨ ∃ q ∈ pl.inf, heavyAt ops q.1 = true ∧ q.2.kx + 1 = p.2.kn ∧ Nat.testBit p.2.m q.1 = true)
  st : ∀ k, k < pl.hs → ∃ q ∈ pl.inf, heavyAt ops q.1 = true ∧ q.2.kx = k
  rk : ∀ p ∈ pl.al, p.2.rk < pl.al.length ∧ ∀ q ∈ pl.al, p.1 ≠ q.1 → p.2.rk ≠ q.2.rk
  al : ∀ p, p ∈ pl.al ↔ p ∈ pl.inf ∧ alAt ops p.1 = true
  ord : ∀ p ∈ pl.ord, p ∈ pl.inf

theorem beq_false {a b : Nat} (h : Nat.beq a b = false) : a ≠ b := fun e => by subst e; simp at h
theorem beq_false' {a b : Nat} (h : a ≠ b) : Nat.beq a b = false := by
  cases hq : Nat.beq a b
  · rfl
  · exact (h (Nat.eq_of_beq_eq_true hq)).elim

theorem idxOk_get : ∀ (l : List (Nat × PI)) (i : Nat), idxOk l i = true → ∀ (k : Nat) p, l[k]? = some p → p.1 = i + k
  | [], _, _, k, p, h => by simp at h
  | q :: l, i, h, k, p, hk => by
    simp only [idxOk] at h
    split at h
    · rename_i hb
      cases k with
      | zero => simp at hk; subst hk; simpa using Nat.eq_of_beq_eq_true hb
      | succ k => have := idxOk_get l (i + 1) h k p (by simpa using hk); omega
    · cases h

theorem stages_mem {ops : Array Oper} {l : List (Nat × PI)} : ∀ {n : Nat} {p : Nat × PI}, p ∈ stagesOf ops l n → p ∈ l
  | 0, p, h => by cases h
  | n + 1, p, h => by
    simp only [stagesOf, stageOf, List.mem_append, List.mem_filter] at h
    rcases h with h | h | h
    · exact stages_mem h
    · exact h.1
    · exact h.1

theorem plan_ok {ops : Array Oper} {pl : Plan} (hp : planOf ops = some pl) (h : planOk ops pl = true) : PG ops pl := by
  unfold planOk at h
  simp only [Bool.and_eq_true] at h
  obtain ⟨⟨⟨⟨hlen, hidx⟩, hall⟩, hst⟩, hrk⟩ := h
  have hall' := fun p hp => allP_iff.1 hall p hp
  have hop : ∀ p ∈ pl.inf, ∃ o, ops[p.1]? = some o := fun p hp => by
    have := hall' p hp
    cases ho : ops[p.1]? with
    | none => rw [ho] at this; cases this
    | some o => exact ⟨o, rfl⟩
  have hplan : pl.al = pl.inf.filter (fun p => alAt ops p.1) ∧ ∃ n, pl.ord = stagesOf ops pl.inf n := by
    unfold planOf at hp
    split at hp
    · cases hp
    · simp only [Option.some.injEq] at hp; subst hp; exact ⟨rfl, _, rfl⟩
  have conj : ∀ p ∈ pl.inf, ∀ o, ops[p.1]? = some o → _ := fun p hp o ho => by
    have := hall' p hp
    rw [ho] at this
    simp only [Bool.and_eq_true] at this
    exact this
  refine ⟨⟨fun k p hk => by have := idxOk_get pl.inf 0 hidx k p hk; omega, Nat.eq_of_beq_eq_true hlen, fun p hp o ho q hq hne d hd => ?_, fun p hp o ho d hd q hq hdq => ?_⟩, fun p hp o ho e he hb => ?_, fun p hp o ho q hq hb => ?_, fun p hp => ?_, fun p hp hh => ?_, fun p hp hh => ?_, fun k hk => ?_, fun p hp => ?_, fun p => ?_, fun p hp => ?_⟩
  · have := allP_iff.1 (conj p hp o ho).1.1.2 q hq
    have := imp_ok this (by rw [beq_false' hne]; rfl)
    rw [hd] at this
    simpa using this
  · have := allP_iff.1 (conj p hp o ho).1.2 d hd
    have := imp_ok (allP_iff.1 this q hq) hdq
    simpa only [Bool.or_eq_true] using this
  · exact blt_iff.1 (imp_ok (allP_iff.1 (conj p hp o ho).1.1.1.1.1 e he) hb)
  · have := imp_ok (allP_iff.1 (conj p hp o ho).1.1.1.1.2 q hq) hb
    rw [List.any_eq_true] at this
    obtain ⟨e, he, h1⟩ := this
    simp only [Bool.and_eq_true, Bool.or_eq_true] at h1
    refine ⟨e, he, h1.1, ?_⟩
    rcases h1.2 with h2 | h2
    · exact .inl (Nat.eq_of_beq_eq_true h2)
    · split at h2
      · rename_i r hr; exact .inr ⟨r, hr, h2⟩
      · cases h2
  · obtain ⟨o, ho⟩ := hop p hp
    exact blt_iff.1 (conj p hp o ho).1.1.1.2
  · obtain ⟨o, ho⟩ := hop p hp
    have hho : isHeavy o.op = true := by unfold heavyAt at hh; rw [ho] at hh; exact hh
    have := (conj p hp o ho).2
    rw [hho] at this
    simp only [Bool.and_eq_true] at this
    refine ⟨blt_iff.1 this.1, fun q hq => ?_⟩
    have := allP_iff.1 this.2 q hq
    constructor
    · intro hq2
      rw [hq2] at this
      simp only [Bool.and_eq_true] at this
      refine ⟨fun hne => ?_, fun hlt => imp_ok this.2 (blt_iff.2 hlt)⟩
      have h3 := imp_ok this.1 (by rw [beq_false' hne]; rfl)
      exact beq_false (by simpa using h3)
    · intro hq2
      rw [hq2] at this
      simp only at this
      cases hb : Nat.testBit p.2.m q.1
      · rw [hb] at this
        have := blt_iff.1 this
        constructor
        · intro h; cases h
        · intro h; omega
      · rw [hb] at this
        exact ⟨fun _ => Nat.le_of_ble_eq_true this, fun _ => rfl⟩
  · obtain ⟨o, ho⟩ := hop p hp
    have hho : isHeavy o.op = false := by unfold heavyAt at hh; rw [ho] at hh; exact hh
    have := (conj p hp o ho).2
    rw [hho] at this
    simp only [Bool.and_eq_true, Bool.or_eq_true] at this
    refine ⟨Nat.le_of_ble_eq_true this.1, ?_⟩
    rcases this.2 with h | h
    · exact .inl (Nat.eq_of_beq_eq_true h)
    · rw [List.any_eq_true] at h
      obtain ⟨q, hq, h1⟩ := h
      simp only [Bool.and_eq_true] at h1
      exact .inr ⟨q, hq, h1.1.1, Nat.eq_of_beq_eq_true h1.1.2, h1.2⟩
  · have := allP_iff.1 hst k (List.mem_range.2 hk)
    rw [List.any_eq_true] at this
    obtain ⟨q, hq, h1⟩ := this
    simp only [Bool.and_eq_true] at h1
    exact ⟨q, hq, h1.1, Nat.eq_of_beq_eq_true h1.2⟩
  · have := allP_iff.1 hrk p hp
    simp only [Bool.and_eq_true] at this
    refine ⟨blt_iff.1 this.1, fun q hq hne => ?_⟩
    have h3 := imp_ok (allP_iff.1 this.2 q hq) (by rw [beq_false' hne]; rfl)
    exact beq_false (by simpa using h3)
  · rw [hplan.1, List.mem_filter]
  · obtain ⟨n, hn⟩ := hplan.2
    rw [hn] at hp
    exact stages_mem hp
end Go.Sy
