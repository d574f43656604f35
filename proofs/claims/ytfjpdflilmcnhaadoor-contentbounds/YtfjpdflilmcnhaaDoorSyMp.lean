/- A symbolic run of a program: maps of our own, made and looked into. -/
import Derived.Test.YtfjpdflilmcnhaaDoorSyY
import Derived.MapKept
namespace Go.Sy

theorem keyDesc_same {E : Env} {d : TypeDesc} {k k' : Value} (h : keyDesc d k = true) (r : Rn E k k') : k' = k := by
  unfold keyDesc at h
  split at h
  · exact rn_int.1 r
  · exact rn_string.1 r
  · exact rn_bool.1 r
  · cases h
theorem checkKey_ok {P : Program} {d : TypeDesc} {k : Value} {t : TypeId} {e : Bool} (h : keyDesc d k = true) (hu : P.underlying t = some d) (w : World) : (Instr.checkKey e 10000 t k).run P w = .ok () w := by
  show (Instr.checkKey e (9999 + 1) t k).run P w = _
  unfold keyDesc at h
  split at h <;> first
    | (cases h; done)
    | (unfold Instr.checkKey; simp only [Sem.run_bind, run_underlying hu, Result.andThen_ok]; rfl)
theorem keyEq_ok {E : Env} {d : TypeDesc} {k u u' : Value} {b : Bool} (h : keyEq d k u = some b) (r : Rn E u u') : Instr.sameNow d k u' = some b ∧ (b = true → u' = k) := by
  unfold keyEq at h
  split at h
  · simp only [Option.some.injEq] at h; rw [rn_int.1 r]; subst h; rw [ieq_eq]; refine ⟨by simp [Instr.sameNow], fun h => by rw [eq_of_beq h]⟩
  · simp only [Option.some.injEq] at h; rw [rn_int.1 r]; subst h; rw [ieq_eq]; refine ⟨by simp [Instr.sameNow], fun h => by rw [eq_of_beq h]⟩
  · simp only [Option.some.injEq] at h; rw [rn_int.1 r]; subst h; rw [ieq_eq]; refine ⟨by simp [Instr.sameNow], fun h => by rw [eq_of_beq h]⟩
  · simp only [Option.some.injEq] at h; rw [rn_int.1 r]; subst h; rw [ieq_eq]; refine ⟨by simp [Instr.sameNow], fun h => by rw [eq_of_beq h]⟩
  · rename_i x y
    simp only [Option.some.injEq] at h; rw [rn_string.1 r]; subst h
    rw [beqL_eq]
    have hxy : ∀ x y : ByteArray, (x == y) = (x.data.toList == y.data.toList) := fun x y => by
      have : (x == y) = (x.data == y.data) := rfl
      rw [this, Bool.eq_iff_iff, beq_iff_eq, beq_iff_eq]
      exact ⟨fun e => by rw [e], fun e => Array.ext' e⟩
    refine ⟨by simp only [Instr.sameNow]; rw [hxy], fun h => ?_⟩
    congr 1; exact (ByteArray.ext (Array.ext' (eq_of_beq h))).symm
  · rename_i b0
    simp only [Option.some.injEq] at h; rw [rn_bool.1 r]; subst h
    exact ⟨by cases b0 <;> rfl, fun h => by rw [h]⟩
  · rename_i b0
    simp only [Option.some.injEq] at h; rw [rn_bool.1 r]; subst h
    exact ⟨by cases b0 <;> rfl, fun h => by cases b0 <;> simp at h ⊢⟩
  · cases h

theorem fkey_ok {E : Env} {d : TypeDesc} {k : Value} : ∀ {mp : List (Value × Value)} {es : List MapEntry} {i : Nat} {r : Option (Nat × Value)}, fkey d k mp i = some r → Mps E mp es → match r with
    | none => Instr.findNow d k es i = some none
    | some (j, v) => ∃ v', Instr.findNow d k es i = some (some (j, v')) ∧ Rn E v v' ∧ i ≤ j ∧ j - i < mp.length ∧ ∃ m, es[j - i]? = some m ∧ m.key = k
  | [], [], i, r, h, _ => by simp only [fkey, Option.some.injEq] at h; subst h; rfl
  | (u, v) :: l, m :: es, i, r, h, hm => by
    obtain ⟨a, b, c⟩ := hm
    simp only [fkey] at h
    split at h
    · rename_i hk
      obtain ⟨h1, h2⟩ := keyEq_ok hk a
      simp only [Option.some.injEq] at h; subst h
      exact ⟨m.val, by simp [Instr.findNow, h1], b, Nat.le_refl _, by simp, m, by simp, h2 rfl⟩
    · rename_i hk
      obtain ⟨h1, _⟩ := keyEq_ok hk a
      have ih := fkey_ok h c
      cases r with
      | none => simp only at ih ⊢; simp [Instr.findNow, h1, ih]
      | some p =>
        obtain ⟨j, x⟩ := p
        obtain ⟨v', i1, i2, i3, i4, m', i5, i6⟩ := ih
        refine ⟨v', by simp [Instr.findNow, h1, i1], i2, by omega, by simp; omega, m', ?_, i6⟩
        rw [show j - i = (j - (i + 1)) + 1 by omega]
        simpa using i5
    · cases h
  | [], _ :: _, _, _, _, hm => hm.elim
  | _ :: _, [], _, _, _, hm => hm.elim

theorem findKey_ok {P : Program} {E : Env} {d : TypeDesc} {k : Value} {t : TypeId} {mp : List (Value × Value)} {es : List MapEntry} {r : Option (Nat × Value)} (hu : P.underlying t = some d) (h : fkey d k mp 0 = some r) (hm : Mps E mp es) (w : World) : ∃ r', (Instr.findKey t k es).run P w = .ok r' w ∧ match r with
    | none => r' = none
    | some (j, v) => ∃ v', r' = some (j, v') ∧ Rn E v v' ∧ j < mp.length ∧ ∃ m, es[j]? = some m ∧ m.key = k := by
  have := fkey_ok h hm
  cases r with
  | none =>
    simp only at this ⊢
    exact ⟨none, by simp [Instr.findKey, run_underlying hu, this], rfl⟩
  | some p =>
    obtain ⟨j, v⟩ := p
    obtain ⟨v', h1, h2, _, h3, m, h4, h5⟩ := this
    exact ⟨some (j, v'), by simp [Instr.findKey, run_underlying hu, h1], v', rfl, h2, by simpa using h3, m, by simpa using h4, h5⟩

theorem makeMap_ok {P : Program} {E : Env} {nx : Nat} {w : World} {t : TypeId} {r r' : Option Value} {v : Value} {en : Option Ent} (hn : en.isSome = true → E.pl nx = none) (hr : RnO E r r') (h : evMakeMap P t nx r = some (v, en)) : FlPost P E nx w (Instr.makeMap t r') v en := by
  have fin : E.pl nx = none → (Instr.makeMap t r').run P w = .ok (.map (some w.heap.size)) { w with heap := w.heap.push (.map #[] 0) } → FlPost P E nx w (Instr.makeMap t r') (.map (some nx)) (some ⟨4, 0, [], []⟩) := fun hn he =>
    ⟨.map (some w.heap.size), _, (w.heap.size, 0, 0), he, Ext.push _ _, rn_map.2 ⟨_, add_self _ _ _, rfl⟩, ⟨fun _ h => (h rfl).elim, fun _ _ => rfl, fun _ => rfl, fun _ => ⟨#[], 0, by simp, trivial⟩⟩, fun _ => Nat.le_refl _⟩
  unfold evMakeMap at h
  split at h
  · simp only [Option.some.injEq, Prod.mk.injEq] at h; obtain ⟨rfl, rfl⟩ := h
    cases r' with
    | some x => exact hr.elim
    | none => exact fin (hn rfl) (by simp [Instr.makeMap])
  · split at h
    · rename_i k n _ _ hu
      simp only [Option.some.injEq, Prod.mk.injEq] at h; obtain ⟨rfl, rfl⟩ := h
      cases r' with
      | none => exact hr.elim
      | some x =>
        have e := rn_int.1 hr
        subst e
        exact fin (hn rfl) (by simp [Instr.makeMap, run_underlying hu, asInt, asIntOf])
    · cases h
  · cases h

theorem lookR_rn {E : Env} {ok : Bool} {v v' : Value} {b : Bool} (h : Rn E v v') : Rn E (lookR ok v b) (if ok then .tuple #[v', .bool b] else v') := by
  cases ok
  · exact h
  · exact rn_tuple.2 ⟨_, rfl, .cons h (.cons (rn_bool.2 rfl) .nil)⟩
theorem lookZ_ok {P : Program} {elem : TypeId} {ok : Bool} {v : Value} {en : Option Ent} (h : lookZ P elem ok = some (v, en)) : ∃ z, peel P (zeroValue elem) = some z ∧ flatN 4 z = true ∧ v = lookR ok z false ∧ en = none := by
  unfold lookZ at h
  split at h
  · rename_i z hz
    split at h
    · rename_i hf
      simp only [Option.some.injEq, Prod.mk.injEq] at h; obtain ⟨rfl, rfl⟩ := h
      exact ⟨z, hz, hf, rfl, rfl⟩
    · cases h
  · cases h
theorem lookup_ok {P : Program} {E : Env} {hp : Hp} {nx : Nat} {w : World} {ty : TypeId} {x x' k k' v : Value} {ok : Bool} {en : Option Ent} (hs : Sat E (hget hp) w) (hx : Rn E x x') (hk : Rn E k k') (h : evLookup P ty hp x k ok = some (v, en)) : FlPost P E nx w (Instr.lookup ty x' k' ok) v en := by
  unfold evLookup at h
  split at h
  · rename_i kt elem hu
    split at h
    · rename_i d hd
      split at h
      · cases h
      · rename_i hkd
        have e := keyDesc_same hkd hk
        subst e
        split at h
        · obtain ⟨z, hz, hf, rfl, rfl⟩ := lookZ_ok h
          rw [rn_mnil.1 hx]
          refine ⟨if ok then .tuple #[z, .bool false] else z, ?_, lookR_rn (flat_rn 4 z hf)⟩
          simp only [Instr.lookup, Sem.run_bind, run_underlying hu, Result.andThen_ok, Sem.run_pure, checkKey_ok hkd hd]
          simp [Instr.findKey, run_underlying hd, Instr.findNow, peel_run hz]
        · rename_i r
          split at h
          · rename_i e he
            split at h
            · rename_i h4
              obtain ⟨p, hp1, rfl⟩ := rn_map.1 hx
              obtain ⟨q, hq, eok⟩ := hs.ent _ _ he
              rw [hp1] at hq; cases hq
              obtain ⟨es, c, a, b⟩ := eok.map (Nat.eq_of_beq_eq_true h4)
              split at h
              · rename_i j u hf
                simp only [Option.some.injEq, Prod.mk.injEq] at h; obtain ⟨rfl, rfl⟩ := h
                obtain ⟨r', h1, v', rfl, h2, _⟩ := findKey_ok hd hf b w
                refine ⟨if ok then .tuple #[v', .bool true] else v', ?_, lookR_rn h2⟩
                simp only [Instr.lookup, Sem.run_bind, run_underlying hu, Result.andThen_ok, Sem.run_pure, checkKey_ok hkd hd, run_getObj_map (P := P) _ _ _ _ a, h1]
              · rename_i hf
                obtain ⟨z, hz, hfl, rfl, rfl⟩ := lookZ_ok h
                obtain ⟨r', h1, rfl⟩ := findKey_ok hd hf b w
                refine ⟨if ok then .tuple #[z, .bool false] else z, ?_, lookR_rn (flat_rn 4 z hfl)⟩
                simp only [Instr.lookup, Sem.run_bind, run_underlying hu, Result.andThen_ok, Sem.run_pure, checkKey_ok hkd hd, run_getObj_map (P := P) _ _ _ _ a, h1, peel_run hz]
              · cases h
            · cases h
          · cases h
        · cases h
    · cases h
  · cases h
end Go.Sy
