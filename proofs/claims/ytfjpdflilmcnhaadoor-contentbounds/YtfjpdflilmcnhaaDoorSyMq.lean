/- A symbolic run of a program: maps of our own, written; rows cleared. -/
import Derived.Test.YtfjpdflilmcnhaaDoorMgP
namespace Go.Sy
open Go.MapKept (run_setObj_map)

theorem setMp_len (v : Value) : ∀ (l : List (Value × Value)) (i : Nat), (setMp l i v).length = l.length
  | [], _ => rfl
  | (_, _) :: _, 0 => rfl
  | _ :: l, i + 1 => by simp [setMp, setMp_len v l i]
theorem Mps.set {E : Env} {v v' : Value} (hv : Rn E v v') : ∀ {l : List (Value × Value)} {es : List MapEntry} {i : Nat} {m : MapEntry}, Mps E l es → es[i]? = some m → Mps E (setMp l i v) (es.set i { m with val := v' })
  | (_, _) :: _, _ :: _, 0, m, ⟨a, _, c⟩, h => by
    simp at h; subst h
    exact ⟨a, hv, c⟩
  | (_, _) :: _, _ :: _, i + 1, m, ⟨a, b, c⟩, h => ⟨a, b, Mps.set hv c (by simpa using h)⟩
  | [], [], _, _, _, h => by simp at h
  | [], _ :: _, _, _, h, _ => h.elim
  | _ :: _, [], _, _, h, _ => h.elim
theorem Mps.push {E : Env} {k k' v v' : Value} {n : Nat} (hk : Rn E k k') (hv : Rn E v v') : ∀ {l : List (Value × Value)} {es : List MapEntry}, Mps E l es → Mps E (l ++ [(k, v)]) (es ++ [{ key := k', val := v', born := n }])
  | [], [], _ => ⟨hk, hv, trivial⟩
  | (_, _) :: _, _ :: _, ⟨a, b, c⟩ => ⟨a, b, Mps.push hk hv c⟩
  | [], _ :: _, h => h.elim
  | _ :: _, [], h => h.elim
theorem Mps.del {E : Env} : ∀ {l : List (Value × Value)} {es : List MapEntry} {i : Nat}, Mps E l es → Mps E (delMp l i) (es.eraseIdx i)
  | [], [], _, _ => trivial
  | (_, _) :: _, _ :: _, 0, ⟨_, _, c⟩ => c
  | (_, _) :: _, _ :: _, _ + 1, ⟨a, b, c⟩ => ⟨a, b, Mps.del c⟩
  | [], _ :: _, _, h => h.elim
  | _ :: _, [], _, h => h.elim

/-- A map of our own holds other entries now. -/
theorem mp_post {E : Env} {h : Hp} {nx r : Nat} {w : World} {e : Ent} {p : Nat × Nat × Nat} {es : Array MapEntry} {clock : Nat} {mp : List (Value × Value)} (hs : Sat E (hget h) w) (hb : hget h r = some e) (hk : e.kd = 4) (hp : E.pl r = some p) (hm : Mps E mp es.toList) (hsz : p.1 < w.heap.size) :
    Post E (hget h) (hget (hset h r (some ⟨4, 0, [], mp⟩))) nx nx w { w with heap := w.heap.setIfInBounds p.1 (.map es clock) } E := by
  have hown : own e := .inr (.inr hk)
  have hlt := hget_lt hb
  obtain ⟨p', hp', ok⟩ := hs.ent r e hb
  rw [hp] at hp'; cases hp'
  have hother : ∀ k, k ≠ p.1 → ({ w with heap := w.heap.setIfInBounds p.1 (.map es clock) } : World).heap[k]? = w.heap[k]? := fun k hk => by
    show (w.heap.setIfInBounds p.1 _)[k]? = _
    rw [Array.getElem?_setIfInBounds_ne (fun e => hk e.symm)]
  refine ⟨Le.refl E, rfl, ⟨fun i f hi => ?_, fun i j f g q u hi hj hij ho hk' hq hr => ?_⟩, ⟨rfl, rfl, rfl, by simp, fun k hk hne => ?_⟩, Nat.le_refl _, fun _ h => .inl h, fun i f q hi hk' hq => ?_⟩
  · rw [hget_hset h r i _ hlt] at hi
    by_cases hbi : r = i
    · simp only [hbi, if_true, Option.some.injEq] at hi; subst hi
      subst hbi
      refine ⟨p, hp, ⟨fun _ h => (h rfl).elim, fun _ _ => ok.spare (by rw [hk]; decide) (by rw [hk]; decide), fun _ => rfl, fun _ => ⟨es, clock, ?_, hm⟩⟩⟩
      show (w.heap.setIfInBounds p.1 _)[p.1]? = _
      simp [hsz]
    · simp only [hbi, if_false] at hi
      obtain ⟨q, hq, o⟩ := hs.ent i f hi
      refine ⟨q, hq, ?_⟩
      by_cases h3 : f.kd = 3
      · exact o.gone h3
      · exact o.ext (hother _ fun e' => hs.sep r i e f p q hb hi hbi hown h3 hp hq e'.symm)
  · have back : ∀ {i f}, hget (hset h r (some ⟨4, 0, [], mp⟩)) i = some f → ∃ f', hget h i = some f' ∧ f'.kd = f.kd := by
      intro i f hi
      rw [hget_hset h r i _ hlt] at hi
      by_cases hbi : r = i
      · simp only [hbi, if_true, Option.some.injEq] at hi; subst hi; subst hbi; exact ⟨e, hb, hk⟩
      · simp only [hbi, if_false] at hi; exact ⟨f, hi, rfl⟩
    obtain ⟨f', hf', kf⟩ := back hi
    obtain ⟨g', hg', kg⟩ := back hj
    exact hs.sep i j f' g' q u hf' hg' hij (by unfold own at ho ⊢; rw [kf]; exact ho) (by rw [kg]; exact hk') hq hr
  · exact hother k fun e' => hne r e p hb hown hp e'.symm
  · rw [hget_hset h r i _ hlt] at hi
    by_cases hbi : r = i
    · simp only [hbi, if_true, Option.some.injEq] at hi; subst hi; subst hbi
      exact .inr ⟨r, e, q, hb, own_ne hown, fun _ => hown, hq, rfl⟩
    · simp only [hbi, if_false] at hi
      exact .inr ⟨i, f, q, hi, hk', id, hq, rfl⟩

theorem putMp_eq {h : Hp} {nx r : Nat} {u : Value} {mp : List (Value × Value)} {x : Value × Hp × Nat} (he : putMp h nx r u mp = some x) : x = (u, hset h r (some ⟨4, 0, [], mp⟩), nx) := by
  unfold putMp at he
  rw [fent_eq, hsetK_eq] at he
  exact (Option.some.inj he).symm

theorem bs_refl (x : ByteArray) : (x == x) = true := by
  have : (x == x) = (x.data == x.data) := rfl
  rw [this]; exact beq_self_eq_true _
theorem sameBits_key {d : TypeDesc} {k : Value} (h : keyDesc d k = true) : Instr.sameBits 10000 k k = true := by
  unfold keyDesc at h
  split at h <;> first
    | (cases h; done)
    | simp [Instr.sameBits, bs_refl]

theorem mapUpdate_ok {P : Program} {E : Env} {h h' : Hp} {nx nx' : Nat} {w : World} {ty : TypeId} {x x' k k' v v' u : Value} (hs : Sat E (hget h) w) (hx : Rn E x x') (hk : Rn E k k') (hv : Rn E v v') (he : evMapUpdate P ty h nx x k v = some (u, h', nx')) :
    ∃ w', (Instr.mapUpdate ty x' k' v').run P w = .ok () w' ∧ u = undef ∧ Post E (hget h) (hget h') nx nx' w w' E := by
  unfold evMapUpdate at he
  split at he
  · rename_i kt elem hu
    split at he
    · rename_i d hd
      split at he
      · rename_i r hkd
        have ek := keyDesc_same hkd hk
        subst ek
        split at he
        · rename_i e hb
          split at he
          · rename_i h4
            have h4' := Nat.eq_of_beq_eq_true h4
            obtain ⟨p, hp, rfl⟩ := rn_map.1 hx
            obtain ⟨q, hq, ok⟩ := hs.ent _ _ hb
            rw [hp] at hq; cases hq
            obtain ⟨es, clock, a, b⟩ := ok.map h4'
            have hsz := ok.lt (by rw [h4']; decide)
            split at he
            · rename_i i y hf
              have hq := putMp_eq he
              simp only [Prod.mk.injEq] at hq
              obtain ⟨rfl, rfl, rfl⟩ := hq
              obtain ⟨r', h1, y', rfl, h2, h3, m, h5, h6⟩ := findKey_ok hd hf b w
              have h5' : es[i]? = some m := by simpa using h5
              have hm := Mps.set hv b h5
              have hi : i < es.size := (Array.getElem?_eq_some_iff.1 h5').1
              have hes : (es.modify i fun e => { e with key := k', val := v' }).toList = es.toList.set i { m with val := v' } := by
                apply List.ext_getElem?
                intro j
                rw [List.getElem?_set, Array.getElem?_toList, Array.getElem?_modify]
                by_cases hij : i = j
                · subst hij
                  have hm' : es[i] = m := by have := (Array.getElem?_eq_some_iff.1 h5').2; exact this
                  simp [h6, hi, hm']
                · simp [hij]
              refine ⟨_, ?_, rfl, mp_post hs hb h4' hp (es := es.modify i fun e => { e with key := k', val := v' }) (clock := clock) (by rw [hes]; exact hm) hsz⟩
              simp only [Instr.mapUpdate, Sem.run_bind, run_underlying hu, Result.andThen_ok, checkKey_ok hkd hd, run_getObj_map (P := P) _ _ _ _ a, h1, Instr.keyThatStays, h5', Option.map_some, Option.getD_some, h6, sameBits_key hkd, if_true, Sem.run_pure]
              exact run_setObj_map _ a
            · rename_i hf
              have hq := putMp_eq he
              simp only [Prod.mk.injEq] at hq
              obtain ⟨rfl, rfl, rfl⟩ := hq
              obtain ⟨r', h1, rfl⟩ := findKey_ok hd hf b w
              refine ⟨_, ?_, rfl, mp_post hs hb h4' hp (es := es.push { key := k', val := v', born := clock }) (clock := clock + 1) (by simpa using Mps.push (n := clock) hk hv b) hsz⟩
              simp only [Instr.mapUpdate, Sem.run_bind, run_underlying hu, Result.andThen_ok, checkKey_ok hkd hd, run_getObj_map (P := P) _ _ _ _ a, h1]
              exact run_setObj_map _ a
            · cases he
          · cases he
        · cases he
      · cases he
    · cases he
  · cases he

theorem tyOpt {P : Program} {o : Option TypeId} {d : TypeDesc} (h : o.bind P.underlying = some d) : ∃ t, o = some t ∧ P.underlying t = some d := by
  cases o with
  | none => cases h
  | some t => exact ⟨t, rfl, h⟩
theorem delete_ok {P : Program} {E : Env} {h h' : Hp} {nx nx' : Nat} {w : World} {tys : Array TypeId} {ty : TypeId} {x x' k k' u : Value} (hs : Sat E (hget h) w) (hx : Rn E x x') (hk : Rn E k k') (he : evDelete P h nx tys[0]? x k = some (u, h', nx')) :
    ∃ w', (Builtin.delete_ tys ty #[x', k']).run P w = .ok (.tuple #[]) w' ∧ u = .tuple #[] ∧ Post E (hget h) (hget h') nx nx' w w' E := by
  unfold evDelete at he
  split at he
  · rename_i kt elem hu
    obtain ⟨t, h0, hu⟩ := tyOpt hu
    split at he
    · rename_i d hd
      split at he
      · rename_i hkd
        have ek := keyDesc_same hkd hk
        subst ek
        simp only [Option.some.injEq, Prod.mk.injEq] at he; obtain ⟨rfl, rfl, rfl⟩ := he
        refine ⟨w, ?_, rfl, Post.refl hs⟩
        rw [rn_mnil.1 hx]
        simp [Builtin.delete_, h0, run_underlying hu, checkKey_ok hkd hd]
      · rename_i r hkd
        have ek := keyDesc_same hkd hk
        subst ek
        split at he
        · rename_i e hb
          split at he
          · rename_i h4
            have h4' := Nat.eq_of_beq_eq_true h4
            obtain ⟨p, hp, rfl⟩ := rn_map.1 hx
            obtain ⟨q, hq, ok⟩ := hs.ent _ _ hb
            rw [hp] at hq; cases hq
            obtain ⟨es, clock, a, b⟩ := ok.map h4'
            have hsz := ok.lt (by rw [h4']; decide)
            split at he
            · rename_i i y hf
              have hq := putMp_eq he
              simp only [Prod.mk.injEq] at hq
              obtain ⟨rfl, rfl, rfl⟩ := hq
              obtain ⟨r', h1, y', rfl, _, _⟩ := findKey_ok hd hf b w
              have hes : (es.eraseIdxIfInBounds i).toList = es.toList.eraseIdx i := by simp
              refine ⟨_, ?_, rfl, mp_post hs hb h4' hp (es := es.eraseIdxIfInBounds i) (clock := clock) (by rw [hes]; exact Mps.del b) hsz⟩
              simp only [Builtin.delete_, h0, Sem.run_bind, run_underlying hu, Result.andThen_ok, checkKey_ok hkd hd, run_getObj_map (P := P) _ _ _ _ a, h1, List.getElem?_toArray, List.getElem?_cons_zero, List.getElem?_cons_succ, run_setObj_map _ a, Sem.run_pure]
            · rename_i hf
              have hq := putMp_eq he
              simp only [Prod.mk.injEq] at hq
              obtain ⟨rfl, rfl, rfl⟩ := hq
              obtain ⟨r', h1, rfl⟩ := findKey_ok hd hf b w
              refine ⟨_, ?_, rfl, mp_post hs hb h4' hp (es := es) (clock := clock) b hsz⟩
              simp only [Builtin.delete_, h0, Sem.run_bind, run_underlying hu, Result.andThen_ok, checkKey_ok hkd hd, run_getObj_map (P := P) _ _ _ _ a, h1, List.getElem?_toArray, List.getElem?_cons_zero, List.getElem?_cons_succ, run_setObj_map _ a, Sem.run_pure]
            · cases he
          · cases he
        · cases he
      · cases he
    · cases he
  · cases he

theorem zeroCells_rep {zv : Value} {z : List Value} (h : z = zv.cells.toList) (n : Nat) : (Builtin.zeroCells zv.cells n).toList = rep z n := by
  have := rep_eq zv.cells zv.cells.size n rfl
  subst h
  have e : Builtin.zeroCells zv.cells n = (Array.range (n * zv.cells.size)).map (fun i => zv.cells[i % zv.cells.size]!) := by
    unfold Builtin.zeroCells; rfl
  rw [e, this]
theorem clear_ok {P : Program} {E : Env} {h h' : Hp} {nx nx' : Nat} {w : World} {tys : Array TypeId} {ty : TypeId} {x x' u : Value} (hs : Sat E (hget h) w) (hx : Rn E x x') (he : evClear P h nx tys[0]? x = some (u, h', nx')) :
    ∃ w', (Builtin.clear_ tys ty #[x']).run P w = .ok (.tuple #[]) w' ∧ u = .tuple #[] ∧ Post E (hget h) (hget h') nx nx' w w' E := by
  unfold evClear at he
  split at he
  · rename_i kt elem hu
    obtain ⟨t, h0, hu⟩ := tyOpt hu
    simp only [Option.some.injEq, Prod.mk.injEq] at he; obtain ⟨rfl, rfl, rfl⟩ := he
    refine ⟨w, ?_, rfl, Post.refl hs⟩
    rw [rn_mnil.1 hx]
    simp [Builtin.clear_, h0, run_underlying hu]
  · rename_i kt elem r hu
    obtain ⟨t, h0, hu⟩ := tyOpt hu
    split at he
    · rename_i e hb
      split at he
      · rename_i h4
        have h4' := Nat.eq_of_beq_eq_true h4
        obtain ⟨p, hp, rfl⟩ := rn_map.1 hx
        obtain ⟨q, hq, ok⟩ := hs.ent _ _ hb
        rw [hp] at hq; cases hq
        obtain ⟨es, clock, a, b⟩ := ok.map h4'
        have hsz := ok.lt (by rw [h4']; decide)
        have hq := putMp_eq he
        simp only [Prod.mk.injEq] at hq
        obtain ⟨rfl, rfl, rfl⟩ := hq
        refine ⟨_, ?_, rfl, mp_post hs hb h4' hp (es := #[]) (clock := clock) trivial hsz⟩
        simp only [Builtin.clear_, h0, Sem.run_bind, run_underlying hu, Result.andThen_ok, run_getObj_map (P := P) _ _ _ _ a, List.getElem?_toArray, List.getElem?_cons_zero, run_setObj_map _ a, Sem.run_pure]
      · cases he
    · cases he
  · rename_i elem l c hu
    obtain ⟨t, h0, hu⟩ := tyOpt hu
    simp only [Option.some.injEq, Prod.mk.injEq] at he; obtain ⟨rfl, rfl, rfl⟩ := he
    refine ⟨w, ?_, rfl, Post.refl hs⟩
    rw [rn_snil.1 hx]
    simp [Builtin.clear_, h0, run_underlying hu]
  · rename_i elem a c hu
    obtain ⟨t, h0, hu⟩ := tyOpt hu
    simp only [Option.some.injEq, Prod.mk.injEq] at he; obtain ⟨rfl, rfl, rfl⟩ := he
    refine ⟨w, ?_, rfl, Post.refl hs⟩
    obtain ⟨p, _, rfl⟩ := rn_slice.1 hx
    simp [Builtin.clear_, h0, run_underlying hu]
  · rename_i elem b off n c hu
    obtain ⟨t, h0, hu⟩ := tyOpt hu
    split at he
    · rename_i z hz
      split at he
      · unfold putCs at he
        split at he
        · rename_i e hb
          split at he
          · rename_i hc
            rw [fent_eq, hsetK_eq] at he
            simp only [Option.some.injEq, Prod.mk.injEq] at he
            obtain ⟨rfl, rfl, rfl⟩ := he
            simp only [Bool.and_eq_true, Bool.or_eq_true] at hc
            obtain ⟨hk, hfit⟩ := hc
            obtain ⟨p, hp, rfl⟩ := rn_slice.1 hx
            obtain ⟨zv, hzv, hze, _, h1, _⟩ := zeros_ok hz
            obtain ⟨w', hrun, hpost⟩ := cells_post (P := P) hs hb hp (by rcases hk with q | q; exact .inl (Nat.eq_of_beq_eq_true q); exact .inr (Nat.eq_of_beq_eq_true q)) (Nat.le_of_ble_eq_true hfit) (rep_rns (zeros_rns hz) (n + 1)) (fun v hv => h1 v (rep_mem hv))
            refine ⟨w', ?_, rfl, hpost⟩
            simp [Builtin.clear_, h0, run_underlying hu, peel_run hzv, zeroCells_rep hze, hrun]
          · cases he
        · cases he
      · cases he
    · cases he
  · cases he
end Go.Sy
