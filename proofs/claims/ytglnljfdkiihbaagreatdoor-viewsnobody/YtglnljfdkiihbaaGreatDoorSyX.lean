/- A symbolic run of a program: conversions, lengths, structs and rows that are built. -/
import Derived.Test.YtglnljfdkiihbaaGreatDoorSyW
import Derived.Laws.BytesString
import Derived.MapKept
namespace Go.Sy

theorem un_ok {P : Program} {E : Env} {nx : Nat} {w : World} {op : UnOp} {x x' v : Value} {en : Option Ent} (hx : Rn E x x') (hf : flatN 4 x = true) (h : plainV (flatR (peel P (Op.unary op x))) = some (v, en)) : FlPost P E nx w (Op.unary op x') v en := by
  obtain ⟨h1, rfl⟩ := plainV_ok h
  obtain ⟨h2, h3⟩ := flatR_ok h1
  rw [flat_eq 4 _ _ hf hx]
  exact ⟨v, peel_run h2 w, flat_rn 4 v h3⟩

theorem rns_flat {E : Env} {l l' : List Value} (hf : l.all (flatN 1) = true) (r : Rns E l l') : l' = l :=
  rns_eq_of (fun v hv v' hr => flat_eq 1 v v' (List.all_eq_true.1 hf v hv) hr) r

theorem mm_ok {P : Program} {E : Env} {nx : Nat} {w : World} {b : Builtin} {tys : Array TypeId} {ty : TypeId} {l l' : List Value} {v : Value} {en : Option Ent} (hr : Rns E l l') (h : evMM P b tys ty (some l) = some (v, en)) (m : Sem Value)
    (hm : (b = .max ∧ m = Builtin.max_ tys ty ⟨l'⟩) ∨ (b = .min ∧ m = Builtin.min_ tys ty ⟨l'⟩)) : FlPost P E nx w m v en := by
  simp only [evMM] at h
  split at h
  · rename_i hf
    have e := rns_flat hf hr
    subst e
    rcases hm with ⟨rfl, rfl⟩ | ⟨rfl, rfl⟩
    · obtain ⟨h1, rfl⟩ := plainV_ok h
      obtain ⟨h2, h3⟩ := flatR_ok h1
      exact ⟨v, peel_run h2 w, flat_rn 4 v h3⟩
    · obtain ⟨h1, rfl⟩ := plainV_ok h
      obtain ⟨h2, h3⟩ := flatR_ok h1
      exact ⟨v, peel_run h2 w, flat_rn 4 v h3⟩
  · cases h

theorem Mps.len {E : Env} : ∀ {l : List (Value × Value)} {es : List MapEntry}, Mps E l es → l.length = es.length
  | [], [], _ => rfl
  | _ :: _, _ :: _, h => by simp [Mps.len h.2.2]
  | [], _ :: _, h => h.elim
  | _ :: _, [], h => h.elim
theorem len_ok {P : Program} {E : Env} {hp : Hp} {nx : Nat} {w : World} {tys : Array TypeId} {ty : TypeId} {l l' : List Value} {v : Value} {en : Option Ent} (hr : Rns E l l') (hs : Sat E (hget hp) w) (h : evLen P hp tys (some l) = some (v, en)) : FlPost P E nx w (Builtin.len_ tys ty ⟨l'⟩) v en := by
  unfold evLen at h
  have hty : ∀ {d : TypeDesc}, (tys[0]?).bind P.underlying = some d → ∃ t, tys[0]? = some t ∧ P.underlying t = some d := by
    intro d hd
    cases ht : tys[0]? with
    | none => rw [ht] at hd; cases hd
    | some t => rw [ht] at hd; exact ⟨t, rfl, hd⟩
  split at h
  · rename_i k e hu hl
    simp only [Option.some.injEq, Prod.mk.injEq] at h hl; obtain ⟨rfl, rfl⟩ := h
    subst hl
    obtain ⟨t, h0, h1⟩ := hty hu
    obtain ⟨x', m', rfl, hx, hm⟩ := hr.inv_cons
    rw [hm.inv_nil, rn_mnil.1 hx]
    exact ⟨_, by simp [Builtin.len_, h0, run_underlying h1, goInt], rn_int.2 rfl⟩
  · rename_i k e r hu hl
    simp only [Option.some.injEq] at hl
    subst hl
    obtain ⟨t, h0, h1⟩ := hty hu
    obtain ⟨x', m', rfl, hx, hm⟩ := hr.inv_cons
    rw [hm.inv_nil]
    split at h
    · rename_i en0 he
      split at h
      · rename_i h4
        simp only [Option.some.injEq, Prod.mk.injEq] at h; obtain ⟨rfl, rfl⟩ := h
        obtain ⟨p, hp1, rfl⟩ := rn_map.1 hx
        obtain ⟨q, hq, ok⟩ := hs.ent _ _ he
        rw [hp1] at hq; cases hq
        obtain ⟨es, c, a, b⟩ := ok.map (Nat.eq_of_beq_eq_true h4)
        exact ⟨.int .i64 es.size, by simp [Builtin.len_, h0, run_underlying h1, goInt, run_getObj_map (P := P) _ _ _ _ a], rn_int.2 (by rw [Mps.len b]; simp)⟩
      · cases h
    · cases h
  · rename_i s hu hl
    simp only [Option.some.injEq, Prod.mk.injEq] at h hl; obtain ⟨rfl, rfl⟩ := h
    subst hl
    obtain ⟨t, h0, h1⟩ := hty hu
    obtain ⟨x', m', rfl, hx, hm⟩ := hr.inv_cons
    rw [hm.inv_nil, rn_string.1 hx]
    exact ⟨_, by simp [Builtin.len_, h0, run_underlying h1, goInt], rn_int.2 rfl⟩
  · rename_i e a n c hu hl
    simp only [Option.some.injEq, Prod.mk.injEq] at h hl; obtain ⟨rfl, rfl⟩ := h
    subst hl
    obtain ⟨t, h0, h1⟩ := hty hu
    obtain ⟨x', m', rfl, hx, hm⟩ := hr.inv_cons
    rw [hm.inv_nil]
    cases a with
    | none => rw [rn_snil.1 hx]; exact ⟨_, by simp [Builtin.len_, h0, run_underlying h1, goInt], rn_int.2 rfl⟩
    | some a => obtain ⟨p, _, rfl⟩ := rn_slice.1 hx; exact ⟨_, by simp [Builtin.len_, h0, run_underlying h1, goInt], rn_int.2 rfl⟩
  · rename_i n e x hu hl
    simp only [Option.some.injEq, Prod.mk.injEq] at h hl; obtain ⟨rfl, rfl⟩ := h
    subst hl
    obtain ⟨t, h0, h1⟩ := hty hu
    obtain ⟨x', m', rfl, hx, hm⟩ := hr.inv_cons
    rw [hm.inv_nil]
    exact ⟨_, by simp [Builtin.len_, h0, run_underlying h1, goInt], rn_int.2 rfl⟩
  · cases h

/-- Parts, place by place. -/
def RnsP (E : Env) (l l' : List (Nat × Value)) : Prop := l.length = l'.length ∧ ∀ (i : Nat) k v, l[i]? = some (k, v) → ∃ v', l'[i]? = some (k, v') ∧ Rn E v v'
theorem RnsP.inv_nil {E : Env} {l'} (h : RnsP E [] l') : l' = [] := by
  have := h.1; simp at this; exact List.eq_nil_of_length_eq_zero this.symm
theorem RnsP.inv_cons {E : Env} {k v l l'} (h : RnsP E ((k, v) :: l) l') : ∃ v' m, l' = (k, v') :: m ∧ Rn E v v' ∧ RnsP E l m := by
  cases l' with
  | nil => have := h.1; simp at this
  | cons q m =>
    obtain ⟨x, hx, r⟩ := h.2 0 k v rfl
    simp at hx; subst hx
    exact ⟨x, m, rfl, r, by simpa using h.1, fun i k u hu => by simpa using h.2 (i + 1) k u (by simpa using hu)⟩
theorem parts_ok {E : Env} {nt : Nat} {t : Tm} {a : Act} (ht : TR E nt t a.tmps) (hg : GE E) : ∀ {l : List (Nat × Operand)} {vs : List (Nat × Value)}, parts nt t l = some vs → RnsP E vs (l.map fun (i, x) => (i, a.eval x))
  | [], vs, h => by simp only [parts, Option.some.injEq] at h; subst h; exact ⟨rfl, fun i k v h => by simp at h⟩
  | (j, x) :: l, vs, h => by
    simp only [parts] at h
    split at h
    · cases h
    · rename_i v hv
      split at h
      · cases h
      · rename_i us hu
        simp only [Option.some.injEq] at h; subst h
        have ih := parts_ok ht hg hu
        refine ⟨by simp [ih.1], fun i k u hk => ?_⟩
        cases i with
        | zero => simp at hk; obtain ⟨rfl, rfl⟩ := hk; exact ⟨_, rfl, opd_ok ht hg hv⟩
        | succ i => simpa using ih.2 i k u (by simpa using hk)

theorem fold_rel {E : Env} (off : Nat) : ∀ (l l' : List Value) (k : Nat) (cs cs' : Array Value), Rns E l l' → Rns E cs.toList cs'.toList →
    Rns E ((l.zipIdx k).foldl (fun cs (c, j) => cs.setIfInBounds (off + j) c) cs).toList ((l'.zipIdx k).foldl (fun cs (c, j) => cs.setIfInBounds (off + j) c) cs').toList
  | [], l', k, cs, cs', hl, hc => by rw [hl.inv_nil]; exact hc
  | v :: l, l', k, cs, cs', hl, hc => by
    obtain ⟨v', m, rfl, hv, hm⟩ := hl.inv_cons
    simp only [List.zipIdx_cons, List.foldl_cons]
    refine fold_rel off l m (k + 1) _ _ hm ?_
    simp only [Array.toList_setIfInBounds]
    exact hc.set _ hv

theorem fill_rel {E : Env} {place : Nat → Option (Nat × Nat)} : ∀ (l l' : List (Nat × Value)) (cs cs' out : Array Value), RnsP E l l' → l.all (fun p => !isTuple p.2) = true → Rns E cs.toList cs'.toList → Instr.fill place cs l = some out →
    ∃ out', Instr.fill place cs' l' = some out' ∧ Rns E out.toList out'.toList
  | [], l', cs, cs', out, hl, _, hc, h => by
    rw [hl.inv_nil]; simp only [Instr.fill, Option.some.injEq] at h; subst h; exact ⟨cs', rfl, hc⟩
  | (i, v) :: l, l', cs, cs', out, hl, ht, hc, h => by
    obtain ⟨v', m, rfl, hv, hm⟩ := hl.inv_cons
    simp only [List.all_cons, Bool.and_eq_true, Bool.not_eq_true'] at ht
    have hcell := rn_cells (not_tuple ht.1) hv
    have hsz : v.cells.size = v'.cells.size := by simpa using hcell.1
    have hcs : cs.size = cs'.size := by simpa using hc.1
    simp only [Instr.fill] at h ⊢
    cases hp : place i with
    | none => rw [hp] at h; cases h
    | some q =>
      obtain ⟨off, size⟩ := q
      rw [hp] at h
      simp only [hsz, hcs] at h ⊢
      split at h
      · cases h
      · rename_i hq
        rw [if_neg hq]
        refine fill_rel l m _ _ out hm (by simpa using ht.2) ?_ h
        have := fold_rel (E := E) off v.cells.toList v'.cells.toList 0 cs cs' hcell hc
        rw [← Array.foldl_toList, ← Array.foldl_toList, Array.toList_zipIdx, Array.toList_zipIdx]
        exact this

theorem build_ok {P : Program} {E : Env} {nx : Nat} {w : World} {ty : TypeId} {l l' : List (Nat × Value)} {v : Value} {en : Option Ent} (hl : RnsP E l l') (h : evBuild P ty l = some (v, en)) : FlPost P E nx w (Instr.build ty ⟨l'⟩) v en := by
  unfold evBuild at h
  split at h
  · rename_i z hz
    split at h
    · rename_i hc
      simp only [Bool.and_eq_true, Bool.not_eq_true'] at hc
      have hzr : Rns E z.cells.toList z.cells.toList := rn_cells (not_tuple hc.1.2) (flat_rn 4 z hc.1.1)
      split at h
      · rename_i fields hu
        split at h
        · rename_i places hp
          split at h
          · rename_i cells hf
            simp only [Option.some.injEq, Prod.mk.injEq] at h; obtain ⟨rfl, rfl⟩ := h
            obtain ⟨out', h1, h2⟩ := fill_rel l l' _ _ _ hl hc.2 hzr hf
            refine ⟨.agg out', ?_, rn_agg.2 ⟨_, rfl, h2⟩⟩
            unfold placesOf at hp
            simp only [Instr.build, Sem.run_bind, peel_run hz, run_underlying hu, Result.andThen_ok, peel_run hp, h1, Sem.run_pure]
          · cases h
        · cases h
      · rename_i n elem hu
        split at h
        · rename_i sz hp
          split at h
          · rename_i cells hf
            simp only [Option.some.injEq, Prod.mk.injEq] at h; obtain ⟨rfl, rfl⟩ := h
            obtain ⟨out', h1, h2⟩ := fill_rel l l' _ _ _ hl hc.2 hzr hf
            refine ⟨.agg out', ?_, rn_agg.2 ⟨_, rfl, h2⟩⟩
            simp [Instr.build, peel_run hz, run_underlying hu, peel_run hp, h1]
          · cases h
        · cases h
      · cases h
    · cases h
  · cases h
end Go.Sy
