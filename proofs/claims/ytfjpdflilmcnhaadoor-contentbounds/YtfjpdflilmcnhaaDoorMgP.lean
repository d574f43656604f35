/- A symbolic run of a program: every operation that writes nothing old. -/
import Derived.Test.YtfjpdflilmcnhaaDoorSyMp
import Derived.Deep.AppendSrc
namespace Go.Sy

theorem andThen_assoc {α β γ : Type} (r : Result α) (f : α → World → Result β) (g : β → World → Result γ) : (r.andThen f).andThen g = r.andThen fun a w => (f a w).andThen g := by cases r <;> rfl

theorem args_map {a : Act} (c : Call) : c.args.map a.eval = ⟨c.args.toList.map a.eval⟩ := by
  apply Array.ext'; simp

theorem fl_ok {P : Program} {E : Env} {h : Hp} {nx nt : Nat} {t : Tm} {o : Oper} {a : Act} {w : World} {v : Value} {en : Option Ent} (hn : en.isSome = true → E.pl nx = none) (hs : Sat E (hget h) w) (ht : TR E nt t a.tmps) (hg : GE E) (he : evFl P h nx nt t o = some (v, en)) :
    ∃ m : Sem Value, (execOp a.eval o).run P w = (m.run P w).andThen (fun v w' => .ok (.value v) w') ∧ FlPost P E nx w m v en := by
  unfold evFl at he
  split at he
  · rename_i x ho
    obtain ⟨h1, rfl⟩ := plainV_ok he
    exact ⟨pure (a.eval x), by simp [execOp, ho], _, by simp, opd_ok ht hg h1⟩
  · rename_i x ho
    obtain ⟨h1, rfl⟩ := plainV_ok he
    exact ⟨pure (a.eval x), by simp [execOp, ho], _, by simp, opd_ok ht hg h1⟩
  · rename_i c x y ho
    split at he
    · rename_i q1 q2 q3 h1 h2 h3
      exact ⟨do pure (if ← asBool (a.eval c) then a.eval x else a.eval y), by simp [execOp, ho, andThen_assoc], pick_ok (opd_ok ht hg h1) (opd_ok ht hg h2) (opd_ok ht hg h3) he⟩
    · cases he
  · rename_i e ho
    split at he
    · rename_i z hz
      simp only [Option.some.injEq, Prod.mk.injEq] at he; obtain ⟨rfl, rfl⟩ := he
      exact ⟨Instr.alloc e true (.tuple #[]), by simp [execOp, ho], alloc_ok (hn rfl) hz⟩
    · cases he
  · rename_i e x ho
    split at he
    · rename_i u hu
      exact ⟨Instr.box e (a.eval x), by simp [execOp, ho], box_ok hn (opd_ok ht hg hu) he⟩
    · cases he
  · rename_i ty ps ho
    split at he
    · rename_i l hl
      have hp := parts_ok ht hg hl
      refine ⟨Instr.build ty ⟨ps.toList.map fun (i, x) => (i, a.eval x)⟩, ?_, build_ok hp he⟩
      have : (ps.map fun (i, x) => (i, a.eval x)) = ⟨ps.toList.map fun (i, x) => (i, a.eval x)⟩ := by apply Array.ext'; simp
      simp [execOp, ho, this]
    · cases he
  · rename_i ty len ps ho
    split at he
    · rename_i l hl
      have hp := parts_ok ht hg hl
      refine ⟨Instr.buildSlice ty len ⟨ps.toList.map fun (i, x) => (i, a.eval x)⟩, ?_, buildSlice_ok hn hp he⟩
      have : (ps.map fun (i, x) => (i, a.eval x)) = ⟨ps.toList.map fun (i, x) => (i, a.eval x)⟩ := by apply Array.ext'; simp
      simp [execOp, ho, this]
    · cases he
  · rename_i ty x ho
    split at he
    · rename_i u hu
      exact ⟨Instr.loadAt ty (a.eval x), by simp [execOp, ho], load_ok hs (opd_ok ht hg hu) he⟩
    · cases he
  · rename_i x ho
    split at he
    · rename_i u hu
      have hr := opd_ok ht hg hu
      unfold evNil at he
      split at he
      · simp only [Option.some.injEq, Prod.mk.injEq] at he; obtain ⟨rfl, rfl⟩ := he
        obtain ⟨p, hp, hx⟩ := rn_ptr.1 hr
        exact ⟨pure (a.eval x), by simp [execOp, ho, hx], _, by simp, hr⟩
      · simp only [Option.some.injEq, Prod.mk.injEq] at he; obtain ⟨rfl, rfl⟩ := he
        obtain ⟨f', c', hx, _⟩ := rn_func.1 hr
        exact ⟨pure (a.eval x), by simp [execOp, ho, hx], _, by simp, hr⟩
      · simp only [Option.some.injEq, Prod.mk.injEq] at he; obtain ⟨rfl, rfl⟩ := he
        obtain ⟨f', hx, _⟩ := rn_iface.1 hr
        exact ⟨pure (a.eval x), by simp [execOp, ho, hx], _, by simp, hr⟩
      · cases he
    · cases he
  · rename_i op ty x y yt ho
    split at he
    · rename_i u1 u2 h1 h2
      obtain ⟨h3, rfl⟩ := plainV_ok he
      exact ⟨do eqGuard op ty x y (a.eval x) (a.eval y); binOp op ty (a.eval x) (a.eval y), by simp [execOp, ho, andThen_assoc], bin_ok (opd_ok ht hg h1) (opd_ok ht hg h2) h3⟩
    · cases he
  · rename_i op ty x ho
    split at he
    · rename_i u hu
      split at he
      · rename_i hf
        exact ⟨Op.unary op (a.eval x), by simp [execOp, ho], un_ok (opd_ok ht hg hu) hf he⟩
      · cases he
    · cases he
  · rename_i s d x ho
    split at he
    · rename_i u hu
      exact ⟨convert s d (a.eval x), by simp [execOp, ho], conv_ok hs (opd_ok ht hg hu) he⟩
    · cases he
  · rename_i ty x ho
    split at he
    · rename_i u hu
      exact ⟨Instr.makeInterface ty (a.eval x), by simp [execOp, ho], iface_ok (opd_ok ht hg hu) he⟩
    · cases he
  · rename_i fn first captured ho
    split at he
    · split at he
      · rename_i f c h1 h2
        simp only [Option.some.injEq, Prod.mk.injEq] at he; obtain ⟨rfl, rfl⟩ := he
        refine ⟨Instr.makeFunc fn (first.map a.eval) (captured.map a.eval), by simp [execOp, ho], .func fn (first.map a.eval) (captured.map a.eval), by simp [Instr.makeFunc], rn_func.2 ⟨first.map a.eval, captured.map a.eval, rfl, ?_, ?_⟩⟩
        · simpa using opds_ok ht hg h1
        · simpa using opds_ok ht hg h2
      · cases he
    · cases he
  · rename_i ty l c ho
    split at he
    · rename_i u1 u2 h1 h2
      exact ⟨Instr.makeSlice ty (a.eval l) (a.eval c), by simp [execOp, ho], makeSlice_ok hn (opd_ok ht hg h1) (opd_ok ht hg h2) he⟩
    · cases he
  · rename_i ty x lo hi mx ho
    split at he
    · rename_i u u1 u2 u3 h0 h1 h2 h3
      exact ⟨Instr.sliceAt ty (a.eval x) (lo.map a.eval) (hi.map a.eval) (mx.map a.eval), by simp [execOp, ho], slice_ok hs (opd_ok ht hg h0) (optOpd_ok ht hg h1) (optOpd_ok ht hg h2) (optOpd_ok ht hg h3) he⟩
    · cases he
  · rename_i s x f ho
    split at he
    · rename_i u hu
      exact ⟨Instr.fieldAt s (a.eval x) f, by simp [execOp, ho], fieldAddr_ok (opd_ok ht hg hu) he⟩
    · cases he
  · rename_i s x f ho
    split at he
    · rename_i u hu
      exact ⟨Instr.field s (a.eval x) f, by simp [execOp, ho], field_ok (opd_ok ht hg hu) he⟩
    · cases he
  · rename_i ty x ix ho
    split at he
    · rename_i u1 u2 h1 h2
      exact ⟨Instr.indexAt ty (a.eval x) (a.eval ix), by simp [execOp, ho], indexAddr_ok (opd_ok ht hg h1) (opd_ok ht hg h2) he⟩
    · cases he
  · rename_i ty x ix ho
    split at he
    · rename_i u1 u2 h1 h2
      exact ⟨Instr.index ty (a.eval x) (a.eval ix), by simp [execOp, ho], index_ok (opd_ok ht hg h1) (opd_ok ht hg h2) he⟩
    · cases he
  · rename_i tp ix ho
    split at he
    · rename_i u hu
      exact ⟨Instr.extract (a.eval tp) ix, by simp [execOp, ho], extract_ok (opd_ok ht hg hu) he⟩
    · cases he
  · rename_i ty r ho
    split at he
    · rename_i u hu
      exact ⟨Instr.makeMap ty (r.map a.eval), by simp [execOp, ho], makeMap_ok hn (optOpd_ok ht hg hu) he⟩
    · cases he
  · rename_i ty x k ok ho
    split at he
    · rename_i u1 u2 h1 h2
      exact ⟨Instr.lookup ty (a.eval x) (a.eval k) ok, by simp [execOp, ho], lookup_ok hs (opd_ok ht hg h1) (opd_ok ht hg h2) he⟩
    · cases he
  · rename_i c ho
    have hex : ∀ {b : Builtin}, c.callee = .builtin b → ∀ {m : Sem Value}, (∀ cs, builtin b c.argTypes o.type cs (c.args.map a.eval) = (do pure (.value (← m)))) → (execOp a.eval o).run P w = (m.run P w).andThen (fun v w' => .ok (.value v) w') := by
      intro b hc m hm
      simp [execOp, ho, resolve, hc, invoke, hm]
    have hargs : ∀ {l : List Value}, opds nt t c.args.toList = some l → Rns E l (c.args.map a.eval).toList := fun hl => by simpa using opds_ok ht hg hl
    split at he
    · rename_i hc
      cases hl : opds nt t c.args.toList with
      | none => rw [hl] at he; simp [evLen] at he
      | some l =>
        rw [hl] at he
        exact ⟨_, hex hc (m := Builtin.len_ c.argTypes o.type (c.args.map a.eval)) (fun _ => rfl), len_ok (l' := (c.args.map a.eval).toList) (hargs hl) hs he⟩
    · rename_i hc
      cases hl : opds nt t c.args.toList with
      | none => rw [hl] at he; simp [evMM] at he
      | some l =>
        rw [hl] at he
        exact ⟨_, hex hc (m := Builtin.max_ c.argTypes o.type (c.args.map a.eval)) (fun _ => rfl), mm_ok (l' := (c.args.map a.eval).toList) (hargs hl) he _ (.inl ⟨rfl, rfl⟩)⟩
    · rename_i hc
      cases hl : opds nt t c.args.toList with
      | none => rw [hl] at he; simp [evMM] at he
      | some l =>
        rw [hl] at he
        exact ⟨_, hex hc (m := Builtin.min_ c.argTypes o.type (c.args.map a.eval)) (fun _ => rfl), mm_ok (l' := (c.args.map a.eval).toList) (hargs hl) he _ (.inr ⟨rfl, rfl⟩)⟩
    · cases he
  · cases he
end Go.Sy

/- A symbolic run of a program: stores and appends. -/
namespace Go.Sy

/-- What is not our own stays as it was. -/
structure Frm (E : Env) (h : Nat → Option Ent) (w w' : World) : Prop where
  os : w'.os = w.os
  tape : w'.tape = w.tape
  output : w'.output = w.output
  size : w.heap.size ≤ w'.heap.size
  block : ∀ b, b < w.heap.size → (∀ i e p, h i = some e → own e → E.pl i = some p → p.1 ≠ b) → w'.heap[b]? = w.heap[b]?

/-- A step from h to h', names from nx to nx'. -/
structure Post (E : Env) (h h' : Nat → Option Ent) (nx nx' : Nat) (w w' : World) (E' : Env) : Prop where
  le : Le E E'
  oq : E'.oq = E.oq
  sat : Sat E' h' w'
  frm : Frm E h w w'
  mono : nx ≤ nx'
  dom : ∀ i, E'.pl i ≠ none → E.pl i ≠ none ∨ (nx ≤ i ∧ i < nx')
  src : ∀ i e p, h' i = some e → e.kd ≠ 3 → E'.pl i = some p → w.heap.size ≤ p.1 ∨ ∃ j f q, h j = some f ∧ f.kd ≠ 3 ∧ (own e → own f) ∧ E.pl j = some q ∧ q.1 = p.1

theorem Post.refl {E : Env} {h : Nat → Option Ent} {nx : Nat} {w : World} (hs : Sat E h w) : Post E h h nx nx w w E :=
  ⟨Le.refl E, rfl, hs, ⟨rfl, rfl, rfl, Nat.le_refl _, fun _ _ _ => rfl⟩, Nat.le_refl _, fun _ h => .inl h, fun i e p a b c => .inr ⟨i, e, p, a, b, id, c, rfl⟩⟩

theorem Post.trans {E E1 E2 : Env} {h h1 h2 : Nat → Option Ent} {n n1 n2 : Nat} {w w1 w2 : World} (a : Post E h h1 n n1 w w1 E1) (b : Post E1 h1 h2 n1 n2 w1 w2 E2) : Post E h h2 n n2 w w2 E2 := by
  refine ⟨a.le.trans b.le, b.oq.trans a.oq, b.sat, ⟨b.frm.os.trans a.frm.os, b.frm.tape.trans a.frm.tape, b.frm.output.trans a.frm.output, Nat.le_trans a.frm.size b.frm.size, fun k hk hne => ?_⟩, Nat.le_trans a.mono b.mono, fun i hi => ?_, fun i e p h1' h2' h3' => ?_⟩
  · rw [b.frm.block k (Nat.lt_of_lt_of_le hk a.frm.size) ?_, a.frm.block k hk hne]
    intro i e p x y z e'
    rcases a.src i e p x (own_ne y) z with q | ⟨j, f, q, q1, q2, q3, q4, q5⟩
    · omega
    · exact hne j f q q1 (q3 y) q4 (q5.trans e')
  · rcases b.dom i hi with q | ⟨q1, q2⟩
    · rcases a.dom i q with r | ⟨r1, r2⟩
      · exact .inl r
      · exact .inr ⟨r1, Nat.lt_of_lt_of_le r2 b.mono⟩
    · exact .inr ⟨Nat.le_trans a.mono q1, q2⟩
  · rcases b.src i e p h1' h2' h3' with q | ⟨j, f, q, q1, q2, q3, q4, q5⟩
    · exact .inl (Nat.le_trans a.frm.size q)
    · rcases a.src j f q q1 q2 q4 with r | ⟨j', f', r, r1, r2, r3, r4, r5⟩
      · exact .inl (by omega)
      · exact .inr ⟨j', f', r, r1, r2, fun o => r3 (q3 o), r4, r5.trans q5⟩

/-- One entry more. -/
theorem Post.add {E : Env} {h : Nat → Option Ent} {nx : Nat} {w w' : World} {e : Ent} {p : Nat × Nat × Nat} (hs : Sat E h w) (hn : E.pl nx = none) (hx : Ext w w') (ok : EntOK (E.add nx p) e p w') (hp : e.kd ≠ 3 → w.heap.size ≤ p.1) :
    Post E h (fun i => if nx = i then some e else h i) nx (nx + 1) w w' (E.add nx p) := by
  have hne : ∀ {i f}, h i = some f → nx ≠ i := fun hi e => by
    obtain ⟨q, hq, _⟩ := hs.ent _ _ hi
    rw [← e, hn] at hq; cases hq
  have hpl : ∀ {i q}, nx ≠ i → (E.add nx p).pl i = some q → E.pl i = some q := fun {i q} hi hq => by
    have : (if i = nx then some p else E.pl i) = some q := hq
    rwa [if_neg (fun e => hi e.symm)] at this
  refine ⟨le_add hn, rfl, ⟨fun i f hi => ?_, fun i j f g q r hi hj hij ho hk hq hr => ?_⟩, ⟨hx.os, hx.tape, hx.output, hx.size, fun b hb _ => hx.block b hb⟩, by omega, fun i hi => ?_, fun i f q hi hk hq => ?_⟩
  · by_cases hi' : nx = i
    · simp only [hi', if_true, Option.some.injEq] at hi; subst hi
      exact ⟨p, by rw [← hi']; exact add_self _ _ _, ok⟩
    · simp only [hi', if_false] at hi
      obtain ⟨q, hq, o⟩ := hs.ent i f hi
      refine ⟨q, (le_add hn).pl i q hq, ?_⟩
      by_cases h3 : f.kd = 3
      · exact o.gone h3
      · exact (o.up (le_add hn)).ext (hx.block _ (o.lt h3))
  · by_cases hi' : nx = i
    · by_cases hj' : nx = j
      · omega
      · simp only [hi', if_true, Option.some.injEq] at hi; subst hi
        simp only [hj', if_false] at hj
        have hq' : q = p := by rw [← hi', add_self] at hq; exact (Option.some.inj hq).symm
        obtain ⟨r', hr', o⟩ := hs.ent j g hj
        have : r' = r := by have := hpl hj' hr; rw [this] at hr'; exact (Option.some.inj hr').symm
        subst this; subst hq'
        have := o.lt hk
        have := hp (own_ne ho)
        omega
    · simp only [hi', if_false] at hi
      obtain ⟨q', hq', o⟩ := hs.ent i f hi
      have hqq : q' = q := by have := hpl hi' hq; rw [this] at hq'; exact (Option.some.inj hq').symm
      subst hqq
      by_cases hj' : nx = j
      · simp only [hj', if_true, Option.some.injEq] at hj; subst hj
        have hr' : r = p := by rw [← hj', add_self] at hr; exact (Option.some.inj hr).symm
        subst hr'
        have := o.lt (own_ne ho)
        have := hp hk
        omega
      · simp only [hj', if_false] at hj
        exact hs.sep i j f g _ _ hi hj hij ho hk (hpl hi' hq) (hpl hj' hr)
  · by_cases hi' : nx = i
    · exact .inr ⟨by omega, by omega⟩
    · refine .inl fun e => hi ?_
      show (if i = nx then some p else E.pl i) = none
      rw [if_neg (fun e => hi' e.symm)]; exact e
  · by_cases hi' : nx = i
    · simp only [hi', if_true, Option.some.injEq] at hi; subst hi
      have hq' : q = p := by rw [← hi', add_self] at hq; exact (Option.some.inj hq).symm
      exact .inl (by rw [hq']; exact hp hk)
    · simp only [hi', if_false] at hi
      exact .inr ⟨i, f, q, hi, hk, id, hpl hi' hq, rfl⟩

theorem hget_add {h : Hp} {nx : Nat} {e : Ent} (hlt : nx < 8192) : hget (hset h nx (some e)) = fun i => if nx = i then some e else hget h i := funext fun i => hget_hset h nx i (some e) hlt

/-- An operation that writes nothing old, as a step. -/
theorem fl_post {P : Program} {E : Env} {nx : Nat} {w : World} {m : Sem Value} {v : Value} {en : Option Ent} (hp : FlPost P E nx w m v en) :
    ∃ v' w' E', m.run P w = .ok v' w' ∧ Rn E' v v' ∧ Ext w w' ∧ (match en with
      | none => E' = E ∧ w' = w
      | some e => ∃ p, E' = E.add nx p ∧ EntOK (E.add nx p) e p w' ∧ (e.kd ≠ 3 → w.heap.size ≤ p.1)) := by
  cases en with
  | none => obtain ⟨v', a, b⟩ := hp; exact ⟨v', w, E, a, b, Ext.refl w, rfl, rfl⟩
  | some e => obtain ⟨v', w', p, a, b, c, d, f⟩ := hp; exact ⟨v', w', E.add nx p, a, c, b, p, rfl, d, f⟩

theorem setCells_obj {b : Nat} {el : TypeId} {fr : Nat × Nat} : ∀ (vs : List Value) (o : Nat) (w : World) (c : Array Value), w.heap[b]? = some (.cells c el fr) →
    ∃ c', (w.setCells b o vs).heap[b]? = some (.cells c' el fr) ∧ c'.size = c.size ∧ (∀ i, i < o ∨ o + vs.length ≤ i → c'[i]? = c[i]?) ∧ (∀ j v, vs[j]? = some v → o + j < c.size → c'[o + j]? = some v)
  | [], o, w, c, h => ⟨c, h, rfl, fun _ _ => rfl, fun j v hv => by simp at hv⟩
  | v :: r, o, w, c, h => by
    have h1 : (w.setCell ⟨b, o, none⟩ v).heap[b]? = some (.cells (c.setIfInBounds o v) el fr) := by
      simp [World.setCell, Array.getElem?_modify, h]
    obtain ⟨c', a1, a2, a3, a4⟩ := setCells_obj r (o + 1) _ _ h1
    refine ⟨c', a1, by simpa using a2, fun i hi => ?_, fun j u hu hj => ?_⟩
    · rw [a3 i (by simp at hi; omega), Array.getElem?_setIfInBounds_ne (by simp at hi; omega)]
    · cases j with
      | zero =>
        simp at hu; subst hu
        have := a3 o (by omega)
        rw [Nat.add_zero, this]
        simp at hj
        simp [hj]
      | succ j =>
        have := a4 j u (by simpa using hu) (by simp; omega)
        rwa [show o + 1 + j = o + (j + 1) by omega] at this

theorem setCells_size (b : Nat) : ∀ (vs : List Value) (o : Nat) (w : World), (w.setCells b o vs).heap.size = w.heap.size
  | [], _, _ => rfl
  | v :: r, o, w => by rw [World.setCells, setCells_size b r]; simp [World.setCell]
theorem setCells_other (b : Nat) : ∀ (vs : List Value) (o : Nat) (w : World) (k : Nat), k ≠ b → (w.setCells b o vs).heap[k]? = w.heap[k]?
  | [], _, _, _, _ => rfl
  | v :: r, o, w, k, hk => by
    rw [World.setCells, setCells_other b r _ _ k hk]
    simp only [World.setCell, Array.getElem?_modify]
    rw [if_neg (fun e => hk e.symm)]
theorem setCells_os (b : Nat) : ∀ (vs : List Value) (o : Nat) (w : World), (w.setCells b o vs).os = w.os ∧ (w.setCells b o vs).tape = w.tape ∧ (w.setCells b o vs).output = w.output
  | [], _, _ => ⟨rfl, rfl, rfl⟩
  | v :: r, o, w => setCells_os b r (o + 1) (w.setCell ⟨b, o, none⟩ v)

theorem splice_len : ∀ (l cs : List Value) (off : Nat), (spliceAt cs off l).length = cs.length
  | [], cs, off => by cases off <;> rfl
  | v :: l, cs, off => by rw [spliceAt, splice_len l]; simp
theorem splice_out : ∀ (l cs : List Value) (off i : Nat), (i < off ∨ off + l.length ≤ i) → (spliceAt cs off l)[i]? = cs[i]?
  | [], cs, off, i, _ => by cases off <;> rfl
  | v :: l, cs, off, i, h => by
    rw [spliceAt, splice_out l _ _ i (by simp at h; omega), List.getElem?_set_ne (by simp at h; omega)]
theorem splice_in : ∀ (l cs : List Value) (off j : Nat), j < l.length → off + j < cs.length → (spliceAt cs off l)[off + j]? = l[j]?
  | [], cs, off, j, h, _ => by simp at h
  | v :: l, cs, off, j, h, h' => by
    rw [spliceAt]
    cases j with
    | zero => rw [splice_out l _ _ _ (by omega)]; simp at h'; simp [h']
    | succ j => rw [show off + (j + 1) = off + 1 + j by omega, splice_in l _ _ j (by simpa using h) (by simp; omega)]; rfl
end Go.Sy

/- A symbolic run of a program: a store, an append. -/
namespace Go.Sy

/-- Cells of a block of our own, written over. -/
theorem cells_post {P : Program} {E : Env} {h : Hp} {nx : Nat} {w : World} {b off : Nat} {e : Ent} {p : Nat × Nat × Nat} {news news' : List Value} (hs : Sat E (hget h) w) (hb : hget h b = some e) (hp : E.pl b = some p) (hk : e.kd = 1 ∨ e.kd = 2) (hfit : off + news.length ≤ e.cs.length) (hcr : Rns E news news') (hone : ∀ v ∈ news, v.oneCell' = true) :
    ∃ w', (storeCells ⟨p.1, p.2.1 + off, none⟩ news').run P w = .ok () w' ∧ Post E (hget h) (hget (hset h b (some ⟨e.kd, e.sz, spliceAt e.cs off news, []⟩))) nx nx w w' E := by
  have hown : own e := by rcases hk with q | q; exact .inl q; exact .inr (.inl q)
  have hk3 : e.kd ≠ 3 := own_ne hown
  have hk4 : e.kd ≠ 4 := by rcases hk with q | q <;> rw [q] <;> decide
  have hlt := hget_lt hb
  obtain ⟨p', hp', ok⟩ := hs.ent b e hb
  rw [hp] at hp'; cases hp'
  obtain ⟨c, el, fr, hobj, hcell, hfro, hspare, hel⟩ := ok.obj hk3 hk4
  have hl2 : news'.length = news.length := hcr.1.symm
  have hone' := rns_ones hone hcr
  have hin : ∀ i, i < e.cs.length → p.2.1 + i < c.size := fun i hi => by
    obtain ⟨x, hx, _⟩ := hcell i e.cs[i] (List.getElem?_eq_getElem hi)
    exact (Array.getElem?_eq_some_iff.1 hx).1
  let w' := w.setCells p.1 (p.2.1 + off) news'
  have hrun : (storeCells ⟨p.1, p.2.1 + off, none⟩ news').run P w = .ok () w' := by
    have := run_storeCells_cells (P := P) p.1 (p.2.1 + off) news' 0 w (fun j hj => by
      rw [hl2] at hj
      have := hin (off + j) (by omega)
      simp [World.cell?, hobj]; omega) (fun j hj => by
      rw [hl2] at hj
      have h1 := hin (off + j) (by omega)
      have h2 := hfro hown (p.2.1 + (off + j)) h1
      simp only [World.frozen?, hobj, Nat.add_zero]
      rw [Bool.eq_false_iff]
      simp only [ne_eq, Bool.and_eq_true, decide_eq_true_eq]
      rw [Nat.add_assoc]; exact h2) hone'
    simpa using this
  obtain ⟨c', o1, o2, o3, o4⟩ := setCells_obj news' (p.2.1 + off) w c hobj
  have hother : ∀ k, k ≠ p.1 → w'.heap[k]? = w.heap[k]? := fun k hk => setCells_other p.1 _ _ w k hk
  obtain ⟨s1, s2, s3⟩ := setCells_os p.1 news' (p.2.1 + off) w
  refine ⟨w', hrun, ⟨Le.refl E, rfl, ⟨fun i f hi => ?_, fun i j f g q r hi hj hij ho hk' hq hr => ?_⟩, ⟨s1, s2, s3, by rw [setCells_size]; exact Nat.le_refl _, fun k hk hne => ?_⟩, Nat.le_refl _, fun _ h => .inl h, fun i f q hi hk' hq => ?_⟩⟩
  · rw [hget_hset h b i _ hlt] at hi
    by_cases hbi : b = i
    · simp only [hbi, if_true, Option.some.injEq] at hi; subst hi
      subst hbi
      refine ⟨p, hp, .cells hk3 hk4 (fun h => ok.spare h hk3) ⟨c', el, fr, o1, fun i u hu => ?_, fun ho i hi => hfro hown i (by omega), (fun hk2 => by simp only [splice_len]; have := hspare hk2; omega), hel⟩⟩
      by_cases hio : i < off ∨ off + news.length ≤ i
      · rw [splice_out _ _ _ _ hio] at hu
        obtain ⟨x, hx, r1, r2⟩ := hcell i u hu
        exact ⟨x, by rw [o3 _ (by rw [hl2]; omega)]; exact hx, r1, r2⟩
      · obtain ⟨j, rfl⟩ : ∃ j, i = off + j := ⟨i - off, by omega⟩
        rw [splice_in _ _ _ _ (by omega) (by omega)] at hu
        obtain ⟨x, hx, r1⟩ := hcr.2 j u hu
        refine ⟨x, ?_, r1, hone' x (List.mem_of_getElem? hx)⟩
        have := o4 j x hx (by have := hin (off + j) (by omega); omega)
        rwa [Nat.add_assoc] at this
    · simp only [hbi, if_false] at hi
      obtain ⟨q, hq, o⟩ := hs.ent i f hi
      refine ⟨q, hq, ?_⟩
      by_cases h3 : f.kd = 3
      · exact o.gone h3
      · exact o.ext (hother _ fun e' => hs.sep b i e f p q hb hi hbi hown h3 hp hq e'.symm)
  · have back : ∀ {i f}, hget (hset h b (some ⟨e.kd, e.sz, spliceAt e.cs off news, []⟩)) i = some f → ∃ f', hget h i = some f' ∧ f'.kd = f.kd := by
      intro i f hi
      rw [hget_hset h b i _ hlt] at hi
      by_cases hbi : b = i
      · simp only [hbi, if_true, Option.some.injEq] at hi; subst hi; subst hbi; exact ⟨e, hb, rfl⟩
      · simp only [hbi, if_false] at hi; exact ⟨f, hi, rfl⟩
    obtain ⟨f', hf', kf⟩ := back hi
    obtain ⟨g', hg', kg⟩ := back hj
    exact hs.sep i j f' g' q r hf' hg' hij (by unfold own at ho ⊢; rw [kf]; exact ho) (by rw [kg]; exact hk') hq hr
  · exact hother k fun e' => hne b e p hb hown hp e'.symm
  · rw [hget_hset h b i _ hlt] at hi
    by_cases hbi : b = i
    · simp only [hbi, if_true, Option.some.injEq] at hi; subst hi; subst hbi
      exact .inr ⟨b, e, q, hb, hk', id, hq, rfl⟩
    · simp only [hbi, if_false] at hi
      exact .inr ⟨i, f, q, hi, hk', id, hq, rfl⟩

theorem store_ok {P : Program} {E : Env} {h h' : Hp} {nx nx' : Nat} {w : World} {ty : TypeId} {a a' v v' u : Value} (hs : Sat E (hget h) w) (ha : Rn E a a') (hv : Rn E v v') (he : evStore P ty h nx a v = some (u, h', nx')) :
    ∃ w', (Instr.storeAt ty a' v').run P w = .ok () w' ∧ u = undef ∧ Post E (hget h) (hget h') nx nx' w w' E := by
  unfold evStore at he
  split at he
  · rename_i b off
    split at he
    · rename_i e n hb hn
      split at he
      · rename_i hc
        rw [fent_eq, hsetK_eq] at he
        simp only [Option.some.injEq, Prod.mk.injEq] at he
        obtain ⟨rfl, rfl, rfl⟩ := he
        simp only [Bool.and_eq_true, Bool.or_eq_true, Bool.not_eq_true'] at hc
        obtain ⟨⟨⟨⟨hk, hlen⟩, hfit⟩, hone⟩, htu⟩ := hc
        have hlen' := Nat.eq_of_beq_eq_true hlen
        obtain ⟨p', hp', rfl⟩ := rn_ptr.1 ha
        have hcr := rn_cells (not_tuple htu) hv
        obtain ⟨w', hrun, hpost⟩ := cells_post (P := P) (nx := nx) hs hb hp' (by rcases hk with q | q; exact .inl (Nat.eq_of_beq_eq_true q); exact .inr (Nat.eq_of_beq_eq_true q)) (by rw [hlen']; exact Nat.le_of_ble_eq_true hfit) hcr (ones_iff.1 hone)
        refine ⟨w', ?_, rfl, hpost⟩
        have hl2 : v'.cells.toList.length = n := by rw [← hcr.1]; exact hlen'
        have hsz : v'.cells.size = n := by simpa using hl2
        simp only [Instr.storeAt, Instr.sureAddr, Sem.run_bind, Sem.run_pure, Result.andThen_ok, storeVar, peel_run hn, hsz, ne_eq, not_true_eq_false, if_false]
        exact hrun
      · cases he
    · cases he
  · cases he
end Go.Sy
