/- A symbolic run of a program: regions whose order is open: memory beside what an operation sees. -/
import Derived.Test.YtfjpdflilmcnhaaDoorSyP
namespace Go.Sy

def ov (x g : Nat → Option Ent) : Nat → Option Ent := fun i => match x i with
  | some e => some e
  | none => g i

theorem ov_g {x g : Nat → Option Ent} {i : Nat} (h : x i = none) : ov x g i = g i := by unfold ov; rw [h]
theorem ov_x {x g : Nat → Option Ent} {i : Nat} {e : Ent} (h : x i = some e) : ov x g i = some e := by unfold ov; rw [h]

theorem Post.frame {E E' : Env} {x g g' : Nat → Option Ent} {a b : Nat} {w w' : World} (hs : Sat E (ov x g) w) (hd : ∀ i e, g i = some e → x i = none) (hp : Post E g g' a b w w' E') : Post E (ov x g) (ov x g') a b w w' E' := by
  have hE : ∀ {i e p}, x i = some e → E'.pl i = some p → E.pl i = some p ∧ EntOK E e p w := by
    intro i e p hx hq
    obtain ⟨p0, h0, ok⟩ := hs.ent i e (ov_x hx)
    have := hp.le.pl i p0 h0
    rw [hq] at this; cases this
    exact ⟨h0, ok⟩
  have hg : ∀ {j f}, g j = some f → ov x g j = some f := fun hj => by rw [ov_g (hd _ _ hj)]; exact hj
  have hxg : ∀ {i e j f}, x i = some e → g j = some f → i ≠ j := fun hx hj e' => by rw [e', hd _ _ hj] at hx; cases hx
  refine ⟨hp.le, hp.oq, ⟨fun i e hi => ?_, fun i j e f p q hi hj hij ho hk hp' hq' => ?_⟩, ⟨hp.frm.os, hp.frm.tape, hp.frm.output, hp.frm.size, fun k hk hne => hp.frm.block k hk fun i e p h1 h2 h3 => hne i e p (hg h1) h2 h3⟩, hp.mono, hp.dom, fun i e p hi hk hq => ?_⟩
  · cases hx : x i with
    | some e0 =>
      rw [ov_x hx] at hi; cases hi
      obtain ⟨p, h0, ok⟩ := hs.ent i e (ov_x hx)
      refine ⟨p, hp.le.pl i p h0, ?_⟩
      by_cases h3 : e.kd = 3
      · exact ok.gone h3
      · refine (ok.up hp.le).ext (hp.frm.block p.1 (ok.lt h3) fun j f q h1 h2 h4 h5 => ?_)
        exact hs.sep j i f e q p (hg h1) (ov_x hx) (fun e' => hxg hx h1 e'.symm) h2 h3 h4 h0 h5
    | none =>
      rw [ov_g hx] at hi
      exact hp.sat.ent i e hi
  · cases hx : x i with
    | some e0 =>
      rw [ov_x hx] at hi; cases hi
      obtain ⟨a1, a2⟩ := hE hx hp'
      cases hy : x j with
      | some f0 =>
        rw [ov_x hy] at hj; cases hj
        exact hs.sep i j e f p q (ov_x hx) (ov_x hy) hij ho hk a1 (hE hy hq').1
      | none =>
        rw [ov_g hy] at hj
        rcases hp.src j f q hj hk hq' with h | ⟨j0, f0, q0, b1, b2, b3, b4, b5⟩
        · have := a2.lt (own_ne ho)
          omega
        · have := hs.sep i j0 e f0 p q0 (ov_x hx) (hg b1) (hxg hx b1) ho b2 a1 b4
          omega
    | none =>
      rw [ov_g hx] at hi
      cases hy : x j with
      | some f0 =>
        rw [ov_x hy] at hj; cases hj
        obtain ⟨a1, a2⟩ := hE hy hq'
        rcases hp.src i e p hi (own_ne ho) hp' with h | ⟨j0, f0, q0, b1, b2, b3, b4, b5⟩
        · have := a2.lt hk
          omega
        · have := hs.sep j0 j f0 f q0 q (hg b1) (ov_x hy) (fun e' => hxg hy b1 e'.symm) (b3 ho) hk b4 a1
          omega
      | none =>
        rw [ov_g hy] at hj
        exact hp.sat.sep i j e f p q hi hj hij ho hk hp' hq'
  · cases hx : x i with
    | some e0 =>
      rw [ov_x hx] at hi; cases hi
      exact .inr ⟨i, e, p, ov_x hx, hk, id, (hE hx hq).1, rfl⟩
    | none =>
      rw [ov_g hx] at hi
      rcases hp.src i e p hi hk hq with h | ⟨j0, f0, q0, b1, b2, b3, b4, b5⟩
      · exact .inl h
      · exact .inr ⟨j0, f0, q0, hg b1, b2, b3, b4, b5⟩

theorem Post.then {E E1 E2 : Env} {h h1 h2 : Nat → Option Ent} {n n' a b : Nat} {w w1 w2 : World} (p : Post E h h1 n n' w w1 E1) (q : Post E1 h1 h2 a b w1 w2 E2) (ha : n ≤ a) (hb : b ≤ n') : Post E h h2 n n' w w2 E2 := by
  have p2 : Post E h h1 n n' w w1 E1 := p
  refine ⟨p.le.trans q.le, q.oq.trans p.oq, q.sat, ⟨q.frm.os.trans p.frm.os, q.frm.tape.trans p.frm.tape, q.frm.output.trans p.frm.output, Nat.le_trans p.frm.size q.frm.size, fun k hk hne => ?_⟩, p.mono, fun i hi => ?_, fun i e r x1 x2 x3 => ?_⟩
  · rw [q.frm.block k (Nat.lt_of_lt_of_le hk p.frm.size) ?_, p.frm.block k hk hne]
    intro i e r x y z e'
    rcases p.src i e r x (own_ne y) z with u | ⟨j, f, u, u1, u2, u3, u4, u5⟩
    · omega
    · exact hne j f u u1 (u3 y) u4 (u5.trans e')
  · rcases q.dom i hi with u | ⟨u1, u2⟩
    · exact p.dom i u
    · exact .inr ⟨by omega, by omega⟩
  · rcases q.src i e r x1 x2 x3 with u | ⟨j, f, u, u1, u2, u3, u4, u5⟩
    · exact .inl (Nat.le_trans p.frm.size u)
    · rcases p.src j f u u1 u2 u4 with v | ⟨j', f', v, v1, v2, v3, v4, v5⟩
      · exact .inl (by omega)
      · exact .inr ⟨j', f', v, v1, v2, fun o => v3 (u3 o), v4, v5.trans u5⟩

/-- Which of those that made blocks has the name id. -/
def xs (al : List (Nat × PI)) (nx m k : Nat) (EN : Nat → Option Ent) (id : Nat) : Option (Nat × PI) :=
  al.find? fun p => Nat.testBit m p.1 && Nat.ble k p.2.kx && (EN p.1).isSome && Nat.beq (nx + p.2.rk) id
def xg (al : List (Nat × PI)) (nx m k : Nat) (EN : Nat → Option Ent) : Nat → Option Ent := fun id => match xs al nx m k EN id with
  | some p => EN p.1
  | none => none

theorem insG_get {nx m k : Nat} {EN : Nat → Option Ent} : ∀ {al : List (Nat × PI)} {s : Hp}, (∀ p ∈ al, nx + p.2.rk < 8192) → hget (insG nx m k EN al s) = ov (xg al nx m k EN) (hget s)
  | [], s, _ => by funext id; rfl
  | p :: l, s, hl => by
    have ih := insG_get (nx := nx) (m := m) (k := k) (EN := EN) (al := l) (s := s) (fun q hq => hl q (by simp [hq]))
    funext id
    simp only [insG]
    have hx : ∀ c, (Nat.testBit m p.1 && Nat.ble k p.2.kx && (EN p.1).isSome && Nat.beq (nx + p.2.rk) id) = c → xs (p :: l) nx m k EN id = if c then some p else xs l nx m k EN id := by
      intro c hc
      unfold xs
      rw [List.find?_cons]
      rw [hc]; cases c <;> rfl
    split
    · rename_i hb
      cases he : EN p.1 with
      | none =>
        simp only
        rw [ih]
        have := hx false (by rw [he]; simp)
        unfold ov xg
        rw [this]; rfl
      | some e =>
        simp only
        rw [hget_hset _ _ _ _ (hl p (by simp)), ih]
        by_cases e' : nx + p.2.rk = id
        · have := hx true (by rw [he, hb]; simp [e'])
          rw [if_pos e']
          unfold ov xg
          rw [this]; simp [he]
        · have hne : Nat.beq (nx + p.2.rk) id = false := by
            cases hq : Nat.beq (nx + p.2.rk) id
            · rfl
            · exact (e' (Nat.eq_of_beq_eq_true hq)).elim
          have := hx false (by rw [hne]; simp)
          rw [if_neg e']
          unfold ov xg
          rw [this]; rfl
    · rename_i hb
      rw [ih]
      have := hx false (by rw [hb]; simp)
      unfold ov xg
      rw [this]; rfl
end Go.Sy

/- A symbolic run of a program: regions whose order is open: whatever the order, the end is the one that was reckoned. -/
namespace Go.Sy

theorem ord_pm {P : Program} {ec : Caller} {nt : Nat} {ops : Array Oper} {al : List (Nat × PI)} {nx : Nat} : ∀ (l : List (Nat × PI)) (d D : DD), evOrd P ec nt ops al nx l d = some D → ∀ j, Nat.testBit D.pm j = true → Nat.testBit d.pm j = true ∨ ∃ p ∈ l, p.1 = j
  | [], d, D, he, j, hj => by simp only [evOrd, Option.some.injEq] at he; subst he; exact .inl hj
  | p :: l, d, D, he, j, hj => by
    have key : ∀ d' : DD, d'.pm = Nat.lor d.pm (2 ^ p.1) → evOrd P ec nt ops al nx l d' = some D → Nat.testBit d.pm j = true ∨ ∃ q ∈ p :: l, q.1 = j := by
      intro d' hd' h
      rcases ord_pm l d' D h j hj with h1 | ⟨q, hq, e⟩
      · rw [hd', testBit_lor] at h1
        simp only [Bool.or_eq_true] at h1
        rcases h1 with h1 | h1
        · exact .inl h1
        · exact .inr ⟨p, by simp, Nat.eq_of_beq_eq_true h1⟩
      · exact .inr ⟨q, by simp [hq], e⟩
    simp only [evOrd] at he
    repeat' split at he
    all_goals first
      | cases he; done
      | (rw [insGK_eq, stepD_eq] at he; exact key _ rfl he)
      | (rw [insGK_eq] at he
         split at he
         · rw [stepD_eq] at he; exact key _ rfl he
         · cases he)
      | (rw [stepD_eq] at he; exact key _ rfl he)
      | (rw [fent_eq, stepD_eq] at he; exact key _ rfl he)

/-- All that a plan keeps. -/
structure PG (ops : Array Oper) (pl : Plan) : Prop extends PF ops pl where
  edge : ∀ p ∈ pl.inf, ∀ o, ops[p.1]? = some o → ∀ e ∈ o.after.toList, Region.binds .any e = true → e.on < p.1
  mask : ∀ p ∈ pl.inf, ∀ o, ops[p.1]? = some o → ∀ q ∈ pl.inf, Nat.testBit p.2.m q.1 = true → ∃ e ∈ o.after.toList, Region.binds .any e = true ∧ (e.on = q.1 ∨ ∃ r, pl.inf[e.on]? = some r ∧ Nat.testBit r.2.m q.1 = true)
  mlt : ∀ p ∈ pl.inf, p.2.m < 2 ^ ops.size
  hv : ∀ p ∈ pl.inf, heavyAt ops p.1 = true → p.2.kx < pl.hs ∧ ∀ q ∈ pl.inf, (heavyAt ops q.1 = true → (p.1 ≠ q.1 → p.2.kx ≠ q.2.kx) ∧ (q.2.kx < p.2.kx → Nat.testBit p.2.m q.1 = true)) ∧ (heavyAt ops q.1 = false → (Nat.testBit p.2.m q.1 = true ↔ q.2.kx ≤ p.2.kx))
  fl : ∀ p ∈ pl.inf, heavyAt ops p.1 = false → p.2.kx ≤ pl.hs ∧ (p.2.kn = 0 ∨ ∃ q ∈ pl.inf, heavyAt ops q.1 = true ∧ q.2.kx + 1 = p.2.kn ∧ Nat.testBit p.2.m q.1 = true)
  st : ∀ k, k < pl.hs → ∃ q ∈ pl.inf, heavyAt ops q.1 = true ∧ q.2.kx = k
  rk : ∀ p ∈ pl.al, p.2.rk < pl.al.length ∧ ∀ q ∈ pl.al, p.1 ≠ q.1 → p.2.rk ≠ q.2.rk
  al : ∀ p, p ∈ pl.al ↔ p ∈ pl.inf ∧ alAt ops p.1 = true
  ord : ∀ p ∈ pl.ord, p ∈ pl.inf

theorem beq_false {a b : Nat} (h : Nat.beq a b = false) : a ≠ b := fun e => by subst e; simp at h
theorem beq_false' {a b : Nat} (h : a ≠ b) : Nat.beq a b = false := by
  cases hq : Nat.beq a b
  · rfl
  · exact (h (Nat.eq_of_beq_eq_true hq)).elim

theorem idxOk_get : ∀ (l : List (Nat × PI)) (i : Nat), idxOk l i = true → ∀ (k : Nat) p, l[k]? = some p → p.1 = i + k
  | [], _, _, k, p, h => by simp at h
  | q :: l, i, h, k, p, hk => by
    simp only [idxOk] at h
    split at h
    · rename_i hb
      cases k with
      | zero => simp at hk; subst hk; simpa using Nat.eq_of_beq_eq_true hb
      | succ k => have := idxOk_get l (i + 1) h k p (by simpa using hk); omega
    · cases h

theorem stages_mem {ops : Array Oper} {l : List (Nat × PI)} : ∀ {n : Nat} {p : Nat × PI}, p ∈ stagesOf ops l n → p ∈ l
  | 0, p, h => by cases h
  | n + 1, p, h => by
    simp only [stagesOf, stageOf, List.mem_append, List.mem_filter] at h
    rcases h with h | h | h
    · exact stages_mem h
    · exact h.1
    · exact h.1

theorem plan_ok {ops : Array Oper} {pl : Plan} (hp : planOf ops = some pl) (h : planOk ops pl = true) : PG ops pl := by
  unfold planOk at h
  simp only [Bool.and_eq_true] at h
  obtain ⟨⟨⟨⟨hlen, hidx⟩, hall⟩, hst⟩, hrk⟩ := h
  have hall' := fun p hp => allP_iff.1 hall p hp
  have hop : ∀ p ∈ pl.inf, ∃ o, ops[p.1]? = some o := fun p hp => by
    have := hall' p hp
    cases ho : ops[p.1]? with
    | none => rw [ho] at this; cases this
    | some o => exact ⟨o, rfl⟩
  have hplan : pl.al = pl.inf.filter (fun p => alAt ops p.1) ∧ ∃ n, pl.ord = stagesOf ops pl.inf n := by
    unfold planOf at hp
    split at hp
    · cases hp
    · simp only [Option.some.injEq] at hp; subst hp; exact ⟨rfl, _, rfl⟩
  have conj : ∀ p ∈ pl.inf, ∀ o, ops[p.1]? = some o → _ := fun p hp o ho => by
    have := hall' p hp
    rw [ho] at this
    simp only [Bool.and_eq_true] at this
    exact this
  refine ⟨⟨fun k p hk => by have := idxOk_get pl.inf 0 hidx k p hk; omega, Nat.eq_of_beq_eq_true hlen, fun p hp o ho q hq hne d hd => ?_, fun p hp o ho d hd q hq hdq => ?_⟩, fun p hp o ho e he hb => ?_, fun p hp o ho q hq hb => ?_, fun p hp => ?_, fun p hp hh => ?_, fun p hp hh => ?_, fun k hk => ?_, fun p hp => ?_, fun p => ?_, fun p hp => ?_⟩
  · have := allP_iff.1 (conj p hp o ho).1.1.2 q hq
    have := imp_ok this (by rw [beq_false' hne]; rfl)
    rw [hd] at this
    simpa using this
  · have := allP_iff.1 (conj p hp o ho).1.2 d hd
    have := imp_ok (allP_iff.1 this q hq) hdq
    simpa only [Bool.or_eq_true] using this
  · exact blt_iff.1 (imp_ok (allP_iff.1 (conj p hp o ho).1.1.1.1.1 e he) hb)
  · have := imp_ok (allP_iff.1 (conj p hp o ho).1.1.1.1.2 q hq) hb
    rw [List.any_eq_true] at this
    obtain ⟨e, he, h1⟩ := this
    simp only [Bool.and_eq_true, Bool.or_eq_true] at h1
    refine ⟨e, he, h1.1, ?_⟩
    rcases h1.2 with h2 | h2
    · exact .inl (Nat.eq_of_beq_eq_true h2)
    · split at h2
      · rename_i r hr; exact .inr ⟨r, hr, h2⟩
      · cases h2
  · obtain ⟨o, ho⟩ := hop p hp
    exact blt_iff.1 (conj p hp o ho).1.1.1.2
  · obtain ⟨o, ho⟩ := hop p hp
    have hho : isHeavy o.op = true := by unfold heavyAt at hh; rw [ho] at hh; exact hh
    have := (conj p hp o ho).2
    rw [hho] at this
    simp only [Bool.and_eq_true] at this
    refine ⟨blt_iff.1 this.1, fun q hq => ?_⟩
    have := allP_iff.1 this.2 q hq
    constructor
    · intro hq2
      rw [hq2] at this
      simp only [Bool.and_eq_true] at this
      refine ⟨fun hne => ?_, fun hlt => imp_ok this.2 (blt_iff.2 hlt)⟩
      have h3 := imp_ok this.1 (by rw [beq_false' hne]; rfl)
      exact beq_false (by simpa using h3)
    · intro hq2
      rw [hq2] at this
      simp only at this
      cases hb : Nat.testBit p.2.m q.1
      · rw [hb] at this
        have := blt_iff.1 this
        constructor
        · intro h; cases h
        · intro h; omega
      · rw [hb] at this
        exact ⟨fun _ => Nat.le_of_ble_eq_true this, fun _ => rfl⟩
  · obtain ⟨o, ho⟩ := hop p hp
    have hho : isHeavy o.op = false := by unfold heavyAt at hh; rw [ho] at hh; exact hh
    have := (conj p hp o ho).2
    rw [hho] at this
    simp only [Bool.and_eq_true, Bool.or_eq_true] at this
    refine ⟨Nat.le_of_ble_eq_true this.1, ?_⟩
    rcases this.2 with h | h
    · exact .inl (Nat.eq_of_beq_eq_true h)
    · rw [List.any_eq_true] at h
      obtain ⟨q, hq, h1⟩ := h
      simp only [Bool.and_eq_true] at h1
      exact .inr ⟨q, hq, h1.1.1, Nat.eq_of_beq_eq_true h1.1.2, h1.2⟩
  · have := allP_iff.1 hst k (List.mem_range.2 hk)
    rw [List.any_eq_true] at this
    obtain ⟨q, hq, h1⟩ := this
    simp only [Bool.and_eq_true] at h1
    exact ⟨q, hq, h1.1, Nat.eq_of_beq_eq_true h1.2⟩
  · have := allP_iff.1 hrk p hp
    simp only [Bool.and_eq_true] at this
    refine ⟨blt_iff.1 this.1, fun q hq hne => ?_⟩
    have h3 := imp_ok (allP_iff.1 this.2 q hq) (by rw [beq_false' hne]; rfl)
    exact beq_false (by simpa using h3)
  · rw [hplan.1, List.mem_filter]
  · obtain ⟨n, hn⟩ := hplan.2
    rw [hn] at hp
    exact stages_mem hp
end Go.Sy

/- A symbolic run of a program: regions whose order is open, whole. -/
namespace Go.Sy

theorem filter_lt {p q : Nat → Bool} : ∀ {l : List Nat}, (∀ j, q j = true → p j = true) → (∃ i ∈ l, p i = true ∧ q i = false) → (l.filter q).length < (l.filter p).length
  | [], _, ⟨i, hi, _⟩ => by cases hi
  | a :: l, hpq, ⟨i, hi, h1, h2⟩ => by
    have hle : (l.filter q).length ≤ (l.filter p).length := by
      clear h1 h2 hi
      induction l with
      | nil => simp
      | cons b l ih =>
        simp only [List.filter_cons]
        cases hq : q b
        · cases hp : p b <;> simp <;> omega
        · rw [hpq b hq]; simp; omega
    simp only [List.filter_cons]
    rcases List.mem_cons.1 hi with rfl | hi'
    · rw [h1, h2]; simp; omega
    · have := filter_lt (l := l) hpq ⟨i, hi', h1, h2⟩
      cases hq : q a
      · cases hp : p a <;> simp <;> omega
      · rw [hpq a hq]; simp; omega

theorem wpAny_by {P : Program} {ops : Array Oper} {Q : Exit → Act → World → Prop} (I : Array Bool → Act → World → Prop) (hsz : ∀ {l a w}, I l a w → l.size = ops.size)
    (hstep : ∀ {l a w i}, I l a w → i ∈ Region.ready .any ops l → wpOp P ops Q i (fun a' w' => I (l.setIfInBounds i true) a' w') a w) (hend : ∀ {l a w}, I l a w → Region.ready .any ops l = [] → Q .normal a w) :
    ∀ (f : Nat) (l : Array Bool) (a : Act) (w : World), I l a w → ((List.range ops.size).filter fun j => !l.getD j true).length ≤ f → wpAny P .any ops Q f l a w := by
  intro f
  induction f with
  | zero =>
    intro l a w hi hf
    have hr : Region.ready .any ops l = [] := by
      have h0 : (List.range ops.size).filter (fun j => !l.getD j true) = [] := List.eq_nil_of_length_eq_zero (by omega)
      unfold Region.ready
      rw [List.filter_eq_nil_iff] at h0 ⊢
      intro j hj
      have := h0 j hj
      simp only [Bool.and_eq_true, not_and]
      intro h; exact absurd h this
    exact ⟨hr, hend hi hr⟩
  | succ f ih =>
    intro l a w hi hf
    refine ⟨fun hr => hend hi hr, fun i hr => ?_⟩
    refine wpOp_mono (fun a' w' h => ih _ a' w' h ?_) (hstep hi hr)
    have hm : i ∈ List.range ops.size ∧ (!l.getD i true) = true := by
      unfold Region.ready at hr
      rw [List.mem_filter] at hr
      simp only [Bool.and_eq_true] at hr
      exact ⟨hr.1, hr.2.1⟩
    have hil : i < l.size := by rw [hsz hi]; exact List.mem_range.1 hm.1
    have : ((List.range ops.size).filter fun j => !(l.setIfInBounds i true).getD j true).length < ((List.range ops.size).filter fun j => !l.getD j true).length := by
      refine filter_lt (fun j hj => ?_) ⟨i, hm.1, hm.2, ?_⟩
      · simp only [Bool.not_eq_true'] at hj ⊢
        rw [Array.getD_eq_getD_getElem?] at hj ⊢
        by_cases e : i = j
        · subst e; simp [hil] at hj
        · rwa [Array.getElem?_setIfInBounds_ne e] at hj
      · rw [Array.getD_eq_getD_getElem?]; simp [hil]
    omega

/-- p is one of the mask m that made the block of the name id, still to be seen at stage k. -/
def Cx (al : List (Nat × PI)) (nx : Nat) (EN : Nat → Option Ent) (m k id : Nat) (p : Nat × PI) : Prop := p ∈ al ∧ Nat.testBit m p.1 = true ∧ k ≤ p.2.kx ∧ (EN p.1).isSome = true ∧ nx + p.2.rk = id

theorem xs_cx {al : List (Nat × PI)} {nx m k id : Nat} {EN : Nat → Option Ent} {p : Nat × PI} (h : xs al nx m k EN id = some p) : Cx al nx EN m k id p := by
  unfold xs at h
  have h1 := List.find?_some h
  simp only [Bool.and_eq_true] at h1
  exact ⟨List.mem_of_find?_eq_some h, h1.1.1.1, Nat.le_of_ble_eq_true h1.1.1.2, h1.1.2, Nat.eq_of_beq_eq_true h1.2⟩
theorem xg_of {al : List (Nat × PI)} {nx m k id : Nat} {EN : Nat → Option Ent} {p : Nat × PI} (hinj : ∀ p ∈ al, ∀ q ∈ al, p.1 ≠ q.1 → p.2.rk ≠ q.2.rk) (h : Cx al nx EN m k id p) : xg al nx m k EN id = EN p.1 := by
  unfold xg
  cases hx : xs al nx m k EN id with
  | some q =>
    have hq := xs_cx hx
    have : p.1 = q.1 := by
      rcases Nat.decEq p.1 q.1 with e | e
      · have := hinj p h.1 q hq.1 e
        have a := h.2.2.2.2; have b := hq.2.2.2.2
        omega
      · exact e
    rw [this]
  | none =>
    unfold xs at hx
    rw [List.find?_eq_none] at hx
    have := hx p h.1
    simp [h.2.1, h.2.2.2.1, h.2.2.2.2, Nat.ble_eq_true_of_le h.2.2.1] at this
theorem xg_none {al : List (Nat × PI)} {nx m k id : Nat} {EN : Nat → Option Ent} (h : ∀ p, ¬ Cx al nx EN m k id p) : xg al nx m k EN id = none := by
  unfold xg
  cases hx : xs al nx m k EN id with
  | some q => exact (h q (xs_cx hx)).elim
  | none => rfl
theorem xg_some {al : List (Nat × PI)} {nx m k id : Nat} {EN : Nat → Option Ent} {e : Ent} (h : xg al nx m k EN id = some e) : ∃ p, Cx al nx EN m k id p ∧ EN p.1 = some e := by
  unfold xg at h
  cases hx : xs al nx m k EN id with
  | some q => rw [hx] at h; exact ⟨q, xs_cx hx, h⟩
  | none => rw [hx] at h; cases h
theorem xg_congr {al : List (Nat × PI)} {nx m m' k k' : Nat} {EN : Nat → Option Ent} (hinj : ∀ p ∈ al, ∀ q ∈ al, p.1 ≠ q.1 → p.2.rk ≠ q.2.rk) (h : ∀ id p, Cx al nx EN m k id p ↔ Cx al nx EN m' k' id p) : xg al nx m k EN = xg al nx m' k' EN := by
  funext id
  by_cases he : ∃ p, Cx al nx EN m k id p
  · obtain ⟨p, hp⟩ := he
    rw [xg_of hinj hp, xg_of hinj ((h id p).1 hp)]
  · rw [xg_none fun p hp => he ⟨p, hp⟩, xg_none fun p hp => he ⟨p, (h id p).2 hp⟩]

theorem tv_zero {ops : Array Oper} {t : Tm} {V : Nat → Value} {s : Nat} : tv ops t V 0 s = tget t s := by
  unfold tv
  have : (List.range ops.size).find? (fun j => Nat.testBit 0 j && dstIs ops j s) = none := by
    rw [List.find?_eq_none]; intro j _; simp
  rw [this]
end Go.Sy
