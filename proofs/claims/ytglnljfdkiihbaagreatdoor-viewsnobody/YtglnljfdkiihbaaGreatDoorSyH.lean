/- A symbolic run of a program: stores and appends. -/
import Derived.Test.YtglnljfdkiihbaaGreatDoorSyZ
import Derived.Deep.AppendSrc
namespace Go.Sy

/-- What is not our own stays as it was. -/
structure Frm (E : Env) (h : Nat → Option Ent) (w w' : World) : Prop where
  os : w'.os = w.os
  tape : w'.tape = w.tape
  output : w'.output = w.output
  size : w.heap.size ≤ w'.heap.size
  block : ∀ b, b < w.heap.size → (∀ i e p, h i = some e → own e → E.pl i = some p → p.1 ≠ b) → w'.heap[b]? = w.heap[b]?

/-- A step from h to h', names from nx to nx'. -/
structure Post (E : Env) (h h' : Nat → Option Ent) (nx nx' : Nat) (w w' : World) (E' : Env) : Prop where
  le : Le E E'
  oq : E'.oq = E.oq
  sat : Sat E' h' w'
  frm : Frm E h w w'
  mono : nx ≤ nx'
  dom : ∀ i, E'.pl i ≠ none → E.pl i ≠ none ∨ (nx ≤ i ∧ i < nx')
  src : ∀ i e p, h' i = some e → e.kd ≠ 3 → E'.pl i = some p → w.heap.size ≤ p.1 ∨ ∃ j f q, h j = some f ∧ f.kd ≠ 3 ∧ (own e → own f) ∧ E.pl j = some q ∧ q.1 = p.1

theorem Post.refl {E : Env} {h : Nat → Option Ent} {nx : Nat} {w : World} (hs : Sat E h w) : Post E h h nx nx w w E :=
  ⟨Le.refl E, rfl, hs, ⟨rfl, rfl, rfl, Nat.le_refl _, fun _ _ _ => rfl⟩, Nat.le_refl _, fun _ h => .inl h, fun i e p a b c => .inr ⟨i, e, p, a, b, id, c, rfl⟩⟩

theorem Post.trans {E E1 E2 : Env} {h h1 h2 : Nat → Option Ent} {n n1 n2 : Nat} {w w1 w2 : World} (a : Post E h h1 n n1 w w1 E1) (b : Post E1 h1 h2 n1 n2 w1 w2 E2) : Post E h h2 n n2 w w2 E2 := by
  refine ⟨a.le.trans b.le, b.oq.trans a.oq, b.sat, ⟨b.frm.os.trans a.frm.os, b.frm.tape.trans a.frm.tape, b.frm.output.trans a.frm.output, Nat.le_trans a.frm.size b.frm.size, fun k hk hne => ?_⟩, Nat.le_trans a.mono b.mono, fun i hi => ?_, fun i e p h1' h2' h3' => ?_⟩
  · rw [b.frm.block k (Nat.lt_of_lt_of_le hk a.frm.size) ?_, a.frm.block k hk hne]
    intro i e p x y z e'
    rcases a.src i e p x (own_ne y) z with q | ⟨j, f, q, q1, q2, q3, q4, q5⟩
    · omega
    · exact hne j f q q1 (q3 y) q4 (q5.trans e')
  · rcases b.dom i hi with q | ⟨q1, q2⟩
    · rcases a.dom i q with r | ⟨r1, r2⟩
      · exact .inl r
      · exact .inr ⟨r1, Nat.lt_of_lt_of_le r2 b.mono⟩
    · exact .inr ⟨Nat.le_trans a.mono q1, q2⟩
  · rcases b.src i e p h1' h2' h3' with q | ⟨j, f, q, q1, q2, q3, q4, q5⟩
    · exact .inl (Nat.le_trans a.frm.size q)
    · rcases a.src j f q q1 q2 q4 with r | ⟨j', f', r, r1, r2, r3, r4, r5⟩
      · exact .inl (by omega)
      · exact .inr ⟨j', f', r, r1, r2, fun o => r3 (q3 o), r4, r5.trans q5⟩

/-- One entry more. -/
theorem Post.add {E : Env} {h : Nat → Option Ent} {nx : Nat} {w w' : World} {e : Ent} {p : Nat × Nat × Nat} (hs : Sat E h w) (hn : E.pl nx = none) (hx : Ext w w') (ok : EntOK (E.add nx p) e p w') (hp : e.kd ≠ 3 → w.heap.size ≤ p.1) :
    Post E h (fun i => if nx = i then some e else h i) nx (nx + 1) w w' (E.add nx p) := by
  have hne : ∀ {i f}, h i = some f → nx ≠ i := fun hi e => by
    obtain ⟨q, hq, _⟩ := hs.ent _ _ hi
    rw [← e, hn] at hq; cases hq
  have hpl : ∀ {i q}, nx ≠ i → (E.add nx p).pl i = some q → E.pl i = some q := fun {i q} hi hq => by
    have : (if i = nx then some p else E.pl i) = some q := hq
    rwa [if_neg (fun e => hi e.symm)] at this
  refine ⟨le_add hn, rfl, ⟨fun i f hi => ?_, fun i j f g q r hi hj hij ho hk hq hr => ?_⟩, ⟨hx.os, hx.tape, hx.output, hx.size, fun b hb _ => hx.block b hb⟩, by omega, fun i hi => ?_, fun i f q hi hk hq => ?_⟩
  · by_cases hi' : nx = i
    · simp only [hi', if_true, Option.some.injEq] at hi; subst hi
      exact ⟨p, by rw [← hi']; exact add_self _ _ _, ok⟩
    · simp only [hi', if_false] at hi
      obtain ⟨q, hq, o⟩ := hs.ent i f hi
      refine ⟨q, (le_add hn).pl i q hq, ?_⟩
      by_cases h3 : f.kd = 3
      · exact o.gone h3
      · exact (o.up (le_add hn)).ext (hx.block _ (o.lt h3))
  · by_cases hi' : nx = i
    · by_cases hj' : nx = j
      · omega
      · simp only [hi', if_true, Option.some.injEq] at hi; subst hi
        simp only [hj', if_false] at hj
        have hq' : q = p := by rw [← hi', add_self] at hq; exact (Option.some.inj hq).symm
        obtain ⟨r', hr', o⟩ := hs.ent j g hj
        have : r' = r := by have := hpl hj' hr; rw [this] at hr'; exact (Option.some.inj hr').symm
        subst this; subst hq'
        have := o.lt hk
        have := hp (own_ne ho)
        omega
    · simp only [hi', if_false] at hi
      obtain ⟨q', hq', o⟩ := hs.ent i f hi
      have hqq : q' = q := by have := hpl hi' hq; rw [this] at hq'; exact (Option.some.inj hq').symm
      subst hqq
      by_cases hj' : nx = j
      · simp only [hj', if_true, Option.some.injEq] at hj; subst hj
        have hr' : r = p := by rw [← hj', add_self] at hr; exact (Option.some.inj hr).symm
        subst hr'
        have := o.lt (own_ne ho)
        have := hp hk
        omega
      · simp only [hj', if_false] at hj
        exact hs.sep i j f g _ _ hi hj hij ho hk (hpl hi' hq) (hpl hj' hr)
  · by_cases hi' : nx = i
    · exact .inr ⟨by omega, by omega⟩
    · refine .inl fun e => hi ?_
      show (if i = nx then some p else E.pl i) = none
      rw [if_neg (fun e => hi' e.symm)]; exact e
  · by_cases hi' : nx = i
    · simp only [hi', if_true, Option.some.injEq] at hi; subst hi
      have hq' : q = p := by rw [← hi', add_self] at hq; exact (Option.some.inj hq).symm
      exact .inl (by rw [hq']; exact hp hk)
    · simp only [hi', if_false] at hi
      exact .inr ⟨i, f, q, hi, hk, id, hpl hi' hq, rfl⟩

theorem hget_add {h : Hp} {nx : Nat} {e : Ent} (hlt : nx < 8192) : hget (hset h nx (some e)) = fun i => if nx = i then some e else hget h i := funext fun i => hget_hset h nx i (some e) hlt

/-- An operation that writes nothing old, as a step. -/
theorem fl_post {P : Program} {E : Env} {nx : Nat} {w : World} {m : Sem Value} {v : Value} {en : Option Ent} (hp : FlPost P E nx w m v en) :
    ∃ v' w' E', m.run P w = .ok v' w' ∧ Rn E' v v' ∧ Ext w w' ∧ (match en with
      | none => E' = E ∧ w' = w
      | some e => ∃ p, E' = E.add nx p ∧ EntOK (E.add nx p) e p w' ∧ (e.kd ≠ 3 → w.heap.size ≤ p.1)) := by
  cases en with
  | none => obtain ⟨v', a, b⟩ := hp; exact ⟨v', w, E, a, b, Ext.refl w, rfl, rfl⟩
  | some e => obtain ⟨v', w', p, a, b, c, d, f⟩ := hp; exact ⟨v', w', E.add nx p, a, c, b, p, rfl, d, f⟩

theorem setCells_obj {b : Nat} {el : TypeId} {fr : Nat × Nat} : ∀ (vs : List Value) (o : Nat) (w : World) (c : Array Value), w.heap[b]? = some (.cells c el fr) →
    ∃ c', (w.setCells b o vs).heap[b]? = some (.cells c' el fr) ∧ c'.size = c.size ∧ (∀ i, i < o ∨ o + vs.length ≤ i → c'[i]? = c[i]?) ∧ (∀ j v, vs[j]? = some v → o + j < c.size → c'[o + j]? = some v)
  | [], o, w, c, h => ⟨c, h, rfl, fun _ _ => rfl, fun j v hv => by simp at hv⟩
  | v :: r, o, w, c, h => by
    have h1 : (w.setCell ⟨b, o, none⟩ v).heap[b]? = some (.cells (c.setIfInBounds o v) el fr) := by
      simp [World.setCell, Array.getElem?_modify, h]
    obtain ⟨c', a1, a2, a3, a4⟩ := setCells_obj r (o + 1) _ _ h1
    refine ⟨c', a1, by simpa using a2, fun i hi => ?_, fun j u hu hj => ?_⟩
    · rw [a3 i (by simp at hi; omega), Array.getElem?_setIfInBounds_ne (by simp at hi; omega)]
    · cases j with
      | zero =>
        simp at hu; subst hu
        have := a3 o (by omega)
        rw [Nat.add_zero, this]
        simp at hj
        simp [hj]
      | succ j =>
        have := a4 j u (by simpa using hu) (by simp; omega)
        rwa [show o + 1 + j = o + (j + 1) by omega] at this

theorem setCells_size (b : Nat) : ∀ (vs : List Value) (o : Nat) (w : World), (w.setCells b o vs).heap.size = w.heap.size
  | [], _, _ => rfl
  | v :: r, o, w => by rw [World.setCells, setCells_size b r]; simp [World.setCell]
theorem setCells_other (b : Nat) : ∀ (vs : List Value) (o : Nat) (w : World) (k : Nat), k ≠ b → (w.setCells b o vs).heap[k]? = w.heap[k]?
  | [], _, _, _, _ => rfl
  | v :: r, o, w, k, hk => by
    rw [World.setCells, setCells_other b r _ _ k hk]
    simp only [World.setCell, Array.getElem?_modify]
    rw [if_neg (fun e => hk e.symm)]
theorem setCells_os (b : Nat) : ∀ (vs : List Value) (o : Nat) (w : World), (w.setCells b o vs).os = w.os ∧ (w.setCells b o vs).tape = w.tape ∧ (w.setCells b o vs).output = w.output
  | [], _, _ => ⟨rfl, rfl, rfl⟩
  | v :: r, o, w => setCells_os b r (o + 1) (w.setCell ⟨b, o, none⟩ v)

theorem splice_len : ∀ (l cs : List Value) (off : Nat), (spliceAt cs off l).length = cs.length
  | [], cs, off => by cases off <;> rfl
  | v :: l, cs, off => by rw [spliceAt, splice_len l]; simp
theorem splice_out : ∀ (l cs : List Value) (off i : Nat), (i < off ∨ off + l.length ≤ i) → (spliceAt cs off l)[i]? = cs[i]?
  | [], cs, off, i, _ => by cases off <;> rfl
  | v :: l, cs, off, i, h => by
    rw [spliceAt, splice_out l _ _ i (by simp at h; omega), List.getElem?_set_ne (by simp at h; omega)]
theorem splice_in : ∀ (l cs : List Value) (off j : Nat), j < l.length → off + j < cs.length → (spliceAt cs off l)[off + j]? = l[j]?
  | [], cs, off, j, h, _ => by simp at h
  | v :: l, cs, off, j, h, h' => by
    rw [spliceAt]
    cases j with
    | zero => rw [splice_out l _ _ _ (by omega)]; simp at h'; simp [h']
    | succ j => rw [show off + (j + 1) = off + 1 + j by omega, splice_in l _ _ j (by simpa using h) (by simp; omega)]; rfl
end Go.Sy
