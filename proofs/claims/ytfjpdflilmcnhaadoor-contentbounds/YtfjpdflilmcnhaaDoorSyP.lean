/- A symbolic run of a program: regions whose order is open: the facts of each operation out of the one run that was reckoned. -/
import Derived.Test.YtfjpdflilmcnhaaDoorMgQ
namespace Go.Sy

theorem stepD_eq {β : Type} (d : DD) (i : Nat) (dst : Option Nat) (v : Value) (K : DD → β) : stepD d i dst v K = K { d with V := upd d.V i v, t := putT d.t dst v, pm := Nat.lor d.pm (2 ^ i) } := by
  unfold stepD; rw [fv_eq, putK_eq, fnat_eq]

theorem insG_congr {nx m k : Nat} {EN EN' : Nat → Option Ent} (h : ∀ j, Nat.testBit m j = true → EN j = EN' j) : ∀ (l : List (Nat × PI)) (s : Hp), insG nx m k EN l s = insG nx m k EN' l s
  | [], s => rfl
  | p :: l, s => by
    simp only [insG]
    rw [insG_congr h l s]
    split
    · rename_i hb
      simp only [Bool.and_eq_true] at hb
      rw [h _ hb.1]
    · rfl

theorem sameSt_ok {P : Program} {nt : Nat} {al : List (Nat × PI)} {nx : Nat} {d : DD} {p : Nat × PI} {o : Oper} {v : Value} {en : Option Ent} : ∀ {n : Nat}, sameSt P nt al nx d p o v en n = true → ∀ q, p.2.kn ≤ q → q < p.2.kn + n → evFl P (insG nx p.2.m q d.EN al (d.S q)) (nx + p.2.rk) nt d.t o = some (v, en)
  | 0, _, q, h1, h2 => by omega
  | n + 1, h, q, h1, h2 => by
    simp only [sameSt] at h
    rw [insGK_eq] at h
    split at h
    · rename_i v' en' he
      split at h
      · rename_i hq
        simp only [Bool.and_eq_true] at hq
        by_cases e : q = p.2.kn + n
        · subst e
          rw [he, veqN_ok 3 _ _ hq.1, entEq_ok hq.2]
        · exact sameSt_ok h q h1 (by omega)
      · cases h
    · cases h
theorem freeSt_ok {d : DD} {id : Nat} : ∀ {n : Nat}, freeSt d id n = true → ∀ q, q < n → hget (d.S q) id = none
  | 0, _, q, h => by omega
  | n + 1, h, q, hq => by
    simp only [freeSt] at h
    split at h
    · rename_i hn
      by_cases e : q = n
      · rw [e]; exact hn
      · exact freeSt_ok h q (by omega)
    · cases h

/-- What is told of an operation. -/
structure Fact (P : Program) (ec : Caller) (nt : Nat) (ops : Array Oper) (al : List (Nat × PI)) (nx : Nat) (t0 : Tm) (D : DD) (p : Nat × PI) (o : Oper) : Prop where
  dst : okDst nt o.dst = true
  told : ∃ b, (∀ t, (∀ d ∈ o.looksAt ops, d < nt → tget t d = tv ops t0 D.V p.2.m d) → want nt ops t o = some b ∧
      (isHeavy o.op = true → b = true → evHv P ec (insG nx p.2.m p.2.kx D.EN al (D.S p.2.kx)) (D.A p.2.kx) nt t o = some (D.V p.1, D.S (p.2.kx + 1), D.A (p.2.kx + 1))) ∧
      (isHeavy o.op = false → b = true → ∀ k, p.2.kn ≤ k → k ≤ p.2.kx → evFl P (insG nx p.2.m k D.EN al (D.S k)) (nx + p.2.rk) nt t o = some (D.V p.1, D.EN p.1))) ∧
    (isHeavy o.op = true → b = false → D.V p.1 = undef ∧ D.S (p.2.kx + 1) = insG nx p.2.m p.2.kx D.EN al (D.S p.2.kx) ∧ D.A (p.2.kx + 1) = D.A p.2.kx) ∧
    (isHeavy o.op = false → b = false → D.V p.1 = undef ∧ D.EN p.1 = none)
  at_ : ∃ t, ∀ s ∈ o.looksAt ops, s < nt → tget t s = tv ops t0 D.V p.2.m s
  free : isHeavy o.op = false → D.EN p.1 ≠ none → isAl o.op = true ∧ ∀ k, k ≤ p.2.kx → hget (D.S k) (nx + p.2.rk) = none

structure ExtD (d D : DD) : Prop where
  V : ∀ j, Nat.testBit d.pm j = true → D.V j = d.V j
  EN : ∀ j, Nat.testBit d.pm j = true → D.EN j = d.EN j
  S : ∀ q, q ≤ d.k → D.S q = d.S q
  A : ∀ q, q ≤ d.k → D.A q = d.A q
  pm : ∀ j, Nat.testBit d.pm j = true → Nat.testBit D.pm j = true
  k : d.k ≤ D.k

theorem ExtD.refl (d : DD) : ExtD d d := ⟨fun _ _ => rfl, fun _ _ => rfl, fun _ _ => rfl, fun _ _ => rfl, fun _ h => h, Nat.le_refl _⟩

theorem ord_ok {P : Program} {ec : Caller} {nt : Nat} (hnt : nt ≤ 512) {ops : Array Oper} {pl : Plan} (hpf : PF ops pl) {al : List (Nat × PI)} {nx : Nat} {t0 : Tm} : ∀ (l : List (Nat × PI)) (d D : DD), evOrd P ec nt ops al nx l d = some D → (∀ p ∈ l, p ∈ pl.inf) → (∀ s, s < nt → tget d.t s = tv ops t0 d.V d.pm s) → (∀ q ∈ pl.inf, Nat.testBit d.pm q.1 = true → ∀ j, Nat.testBit q.2.m j = true → Nat.testBit d.pm j = true) →
    ExtD d D ∧ (∀ s, s < nt → tget D.t s = tv ops t0 D.V D.pm s) ∧ ∀ p ∈ l, ∃ o, ops[p.1]? = some o ∧ Fact P ec nt ops al nx t0 D p o
  | [], d, D, he, _, hi, _ => by
    simp only [evOrd, Option.some.injEq] at he; subst he
    exact ⟨ExtD.refl d, hi, fun p hp => by cases hp⟩
  | p :: l, d, D, he, hl, hi, hcl => by
    simp only [evOrd] at he
    split at he
    · cases he
    · rename_i o ho
      split at he
      · cases he
      · rename_i hc
        simp only [Bool.and_eq_true, Bool.not_eq_true'] at hc
        obtain ⟨⟨⟨hdst, hsub⟩, hnew⟩, hkx⟩ := hc
        have hsub' : ∀ j, Nat.testBit p.2.m j = true → Nat.testBit d.pm j = true := fun j hj => land_sub (Nat.eq_of_beq_eq_true hsub) hj
        have hkx' := Nat.eq_of_beq_eq_true hkx
        have hp : p ∈ pl.inf := hl p (by simp)
        have hN : ∀ q ∈ pl.inf, Nat.testBit q.2.m p.1 = true → Nat.testBit d.pm q.1 = false := fun q hq hb => by
          cases h1 : Nat.testBit d.pm q.1
          · rfl
          · rw [hcl q hq h1 p.1 hb] at hnew; cases hnew
        -- behind the step
        have step : ∀ (v : Value) (EN' : Nat → Option Ent) (S' : Nat → Hp) (A' : Nat → Nat) (k' : Nat), (∀ j, j ≠ p.1 → EN' j = d.EN j) → (∀ q, q ≤ d.k → S' q = d.S q) → (∀ q, q ≤ d.k → A' q = d.A q) → d.k ≤ k' →
            evOrd P ec nt ops al nx l ⟨upd d.V p.1 v, EN', S', A', putT d.t o.dst v, k', Nat.lor d.pm (2 ^ p.1)⟩ = some D →
            ExtD d D ∧ (∀ s, s < nt → tget D.t s = tv ops t0 D.V D.pm s) ∧ (∀ p ∈ l, ∃ o, ops[p.1]? = some o ∧ Fact P ec nt ops al nx t0 D p o) ∧ D.V p.1 = v ∧ D.EN p.1 = EN' p.1 ∧ (∀ q, q ≤ k' → D.S q = S' q) ∧ (∀ q, q ≤ k' → D.A q = A' q) := by
          intro v EN' S' A' k' h1 h2 h3 h4 hev
          obtain ⟨e1, e2, e3⟩ := ord_ok hnt hpf l _ D hev (fun q hq => hl q (by simp [hq])) (tv_put hpf hnt hi hp ho hdst hnew v) (fun q hq hb j hj => by
            rw [testBit_lor, Bool.or_eq_true] at hb ⊢
            rcases hb with hb | hb
            · exact .inl (hcl q hq hb j hj)
            · have e : q = p := by
                obtain ⟨i, hi⟩ := List.getElem?_of_mem hp
                obtain ⟨k, hk⟩ := List.getElem?_of_mem hq
                have e1 := hpf.idx i p hi
                have e2 := hpf.idx k q hk
                have e3 := Nat.eq_of_beq_eq_true hb
                have : i = k := by omega
                subst this
                rw [hi] at hk; exact (Option.some.inj hk).symm
              subst e
              exact .inl (hsub' j hj))
          have hbit : ∀ j, Nat.testBit d.pm j = true → Nat.testBit (Nat.lor d.pm (2 ^ p.1)) j = true := fun j hj => by rw [testBit_lor, hj]; rfl
          have hne : ∀ j, Nat.testBit d.pm j = true → j ≠ p.1 := fun j hj e => by rw [e, hnew] at hj; cases hj
          have hself : Nat.testBit (Nat.lor d.pm (2 ^ p.1)) p.1 = true := by rw [testBit_lor]; simp
          refine ⟨⟨fun j hj => ?_, fun j hj => ?_, fun q hq => ?_, fun q hq => ?_, fun j hj => e1.pm j (hbit j hj), Nat.le_trans h4 e1.k⟩, e2, e3, ?_, e1.EN p.1 hself, e1.S, e1.A⟩
          · rw [e1.V j (hbit j hj)]; exact upd_ne _ _ (hne j hj)
          · rw [e1.EN j (hbit j hj)]; exact h1 j (hne j hj)
          · rw [e1.S q (Nat.le_trans hq h4)]; exact h2 q hq
          · rw [e1.A q (Nat.le_trans hq h4)]; exact h3 q hq
          · rw [e1.V p.1 hself]; exact upd_same _ _ _
        have agr : ∀ {t : Tm}, ExtD d D → (∀ s ∈ o.looksAt ops, s < nt → tget t s = tv ops t0 D.V p.2.m s) → Agr nt ops o t d.t := by
          intro t hx ht s hs hsn
          rw [ht s hs hsn, hi s hsn, tv_looks hpf hp ho hsub' hN hs]
          exact tv_congr fun j hj => hx.V j (hsub' j hj)
        have atE : ExtD d D → ∃ t, ∀ s ∈ o.looksAt ops, s < nt → tget t s = tv ops t0 D.V p.2.m s := fun hx => ⟨d.t, fun s hs hsn => by
          rw [hi s hsn, tv_looks hpf hp ho hsub' hN hs]
          exact tv_congr fun j hj => (hx.V j (hsub' j hj)).symm⟩
        have insE : ∀ {k : Nat} {s : Hp}, ExtD d D → insG nx p.2.m k D.EN al s = insG nx p.2.m k d.EN al s := fun hx => insG_congr (fun j hj => hx.EN j (hsub' j hj)) _ _
        have fin : (∃ o, ops[p.1]? = some o ∧ Fact P ec nt ops al nx t0 D p o) → ExtD d D → (∀ s, s < nt → tget D.t s = tv ops t0 D.V D.pm s) → (∀ p ∈ l, ∃ o, ops[p.1]? = some o ∧ Fact P ec nt ops al nx t0 D p o) →
            ExtD d D ∧ (∀ s, s < nt → tget D.t s = tv ops t0 D.V D.pm s) ∧ ∀ q ∈ p :: l, ∃ o, ops[q.1]? = some o ∧ Fact P ec nt ops al nx t0 D q o := by
          intro h0 h1 h2 h3
          refine ⟨h1, h2, fun q hq => ?_⟩
          rcases List.mem_cons.1 hq with rfl | hq
          · exact h0
          · exact h3 q hq
        split at he
        · cases he
        · rename_i b hw
          split at he
          · rename_i hhv
            rw [insGK_eq] at he
            split at he
            · -- heavy, not wanted
              rw [stepD_eq] at he
              obtain ⟨x1, x2, x3, x4, x5, x6, x7⟩ := step undef d.EN (upd d.S (d.k + 1) (insG nx p.2.m d.k d.EN al (d.S d.k))) (upd d.A (d.k + 1) (d.A d.k)) (d.k + 1) (fun _ _ => rfl) (fun q hq => upd_ne _ _ (by omega)) (fun q hq => upd_ne _ _ (by omega)) (by omega) he
              refine fin ⟨o, ho, hdst, ⟨false, fun t ht => ⟨by rw [want_congr (agr x1 ht)]; exact hw, fun _ h => (by cases h), fun _ h => (by cases h)⟩, fun _ _ => ?_, fun h => (by rw [hhv] at h; cases h)⟩, atE x1, fun h => (by rw [hhv] at h; cases h)⟩ x1 x2 x3
              rw [hkx', x6 (d.k + 1) (Nat.le_refl _), x7 (d.k + 1) (Nat.le_refl _), upd_same, upd_same, insE x1, x1.S d.k (Nat.le_refl _), x1.A d.k (Nat.le_refl _)]
              exact ⟨x4, rfl, rfl⟩
            · -- heavy
              split at he
              · rename_i v h' a' hev
                rw [stepD_eq] at he
                obtain ⟨x1, x2, x3, x4, x5, x6, x7⟩ := step v d.EN (upd d.S (d.k + 1) h') (upd d.A (d.k + 1) a') (d.k + 1) (fun _ _ => rfl) (fun q hq => upd_ne _ _ (by omega)) (fun q hq => upd_ne _ _ (by omega)) (by omega) he
                refine fin ⟨o, ho, hdst, ⟨true, fun t ht => ⟨by rw [want_congr (agr x1 ht)]; exact hw, fun _ _ => ?_, fun h => (by rw [hhv] at h; cases h)⟩, fun _ h => (by cases h), fun _ h => (by cases h)⟩, atE x1, fun h => (by rw [hhv] at h; cases h)⟩ x1 x2 x3
                rw [hkx', x6 (d.k + 1) (Nat.le_refl _), x7 (d.k + 1) (Nat.le_refl _), upd_same, upd_same, insE x1, x1.S d.k (Nat.le_refl _), x1.A d.k (Nat.le_refl _), x4, hv_congr (agr x1 ht)]
                exact hev
              · cases he
          · rename_i hhv
            split at he
            · -- not wanted
              rw [stepD_eq] at he
              obtain ⟨x1, x2, x3, x4, x5, x6, x7⟩ := step undef (upd d.EN p.1 none) d.S d.A d.k (fun j hj => upd_ne _ _ hj) (fun _ _ => rfl) (fun _ _ => rfl) (Nat.le_refl _) he
              rw [upd_same] at x5
              exact fin ⟨o, ho, hdst, ⟨false, fun t ht => ⟨by rw [want_congr (agr x1 ht)]; exact hw, fun h => (by rw [hhv] at h; cases h), fun _ h => (by cases h)⟩, fun h => (by rw [hhv] at h; cases h), fun _ _ => ⟨x4, x5⟩⟩, atE x1, fun _ h => (h x5).elim⟩ x1 x2 x3
            · rw [insGK_eq] at he
              have stages : ∀ {v : Value} {en : Option Ent}, evFl P (insG nx p.2.m d.k d.EN al (d.S d.k)) (nx + p.2.rk) nt d.t o = some (v, en) → sameSt P nt al nx d p o v en (d.k - p.2.kn) = true → ExtD d D → D.V p.1 = v → D.EN p.1 = en → ∀ t, (∀ s ∈ o.looksAt ops, s < nt → tget t s = tv ops t0 D.V p.2.m s) →
                  ∀ k, p.2.kn ≤ k → k ≤ p.2.kx → evFl P (insG nx p.2.m k D.EN al (D.S k)) (nx + p.2.rk) nt t o = some (D.V p.1, D.EN p.1) := by
                intro v en hev hst x1 x4 x5 t ht k hk1 hk2
                rw [hkx'] at hk2
                rw [insE x1, x1.S k hk2, fl_congr (agr x1 ht), x4, x5]
                by_cases e : k = d.k
                · subst e; exact hev
                · exact sameSt_ok hst k hk1 (by omega)
              split at he
              · rename_i v hev
                split at he
                · rename_i hst
                  rw [stepD_eq] at he
                  obtain ⟨x1, x2, x3, x4, x5, x6, x7⟩ := step v (upd d.EN p.1 none) d.S d.A d.k (fun j hj => upd_ne _ _ hj) (fun _ _ => rfl) (fun _ _ => rfl) (Nat.le_refl _) he
                  rw [upd_same] at x5
                  exact fin ⟨o, ho, hdst, ⟨true, fun t ht => ⟨by rw [want_congr (agr x1 ht)]; exact hw, fun h => (by rw [hhv] at h; cases h), fun _ _ => stages hev hst x1 x4 x5 t ht⟩, fun h => (by rw [hhv] at h; cases h), fun _ h => (by cases h)⟩, atE x1, fun _ h => (h x5).elim⟩ x1 x2 x3
                · cases he
              · rename_i v e hev
                split at he
                · rename_i hst
                  simp only [Bool.and_eq_true] at hst
                  rw [fent_eq, stepD_eq] at he
                  obtain ⟨x1, x2, x3, x4, x5, x6, x7⟩ := step v (upd d.EN p.1 (some e)) d.S d.A d.k (fun j hj => upd_ne _ _ hj) (fun _ _ => rfl) (fun _ _ => rfl) (Nat.le_refl _) he
                  rw [upd_same] at x5
                  exact fin ⟨o, ho, hdst, ⟨true, fun t ht => ⟨by rw [want_congr (agr x1 ht)]; exact hw, fun h => (by rw [hhv] at h; cases h), fun _ _ => stages hev hst.1.2 x1 x4 x5 t ht⟩, fun h => (by rw [hhv] at h; cases h), fun _ h => (by cases h)⟩, atE x1, fun _ _ => ⟨hst.1.1, fun k hk => by rw [hkx'] at hk; rw [x1.S k hk]; exact freeSt_ok hst.2 k (by omega)⟩⟩ x1 x2 x3
                · cases he
              · cases he
end Go.Sy
