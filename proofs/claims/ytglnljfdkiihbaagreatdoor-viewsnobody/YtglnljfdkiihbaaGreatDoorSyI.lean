/- A symbolic run of a program: a store, an append. -/
import Derived.Test.YtglnljfdkiihbaaGreatDoorSyH
namespace Go.Sy

/-- Cells of a block of our own, written over. -/
theorem cells_post {P : Program} {E : Env} {h : Hp} {nx : Nat} {w : World} {b off : Nat} {e : Ent} {p : Nat × Nat × Nat} {news news' : List Value} (hs : Sat E (hget h) w) (hb : hget h b = some e) (hp : E.pl b = some p) (hk : e.kd = 1 ∨ e.kd = 2) (hfit : off + news.length ≤ e.cs.length) (hcr : Rns E news news') (hone : ∀ v ∈ news, v.oneCell' = true) :
    ∃ w', (storeCells ⟨p.1, p.2.1 + off, none⟩ news').run P w = .ok () w' ∧ Post E (hget h) (hget (hset h b (some ⟨e.kd, e.sz, spliceAt e.cs off news, []⟩))) nx nx w w' E := by
  have hown : own e := by rcases hk with q | q; exact .inl q; exact .inr (.inl q)
  have hk3 : e.kd ≠ 3 := own_ne hown
  have hk4 : e.kd ≠ 4 := by rcases hk with q | q <;> rw [q] <;> decide
  have hlt := hget_lt hb
  obtain ⟨p', hp', ok⟩ := hs.ent b e hb
  rw [hp] at hp'; cases hp'
  obtain ⟨c, el, fr, hobj, hcell, hfro, hspare, hel⟩ := ok.obj hk3 hk4
  have hl2 : news'.length = news.length := hcr.1.symm
  have hone' := rns_ones hone hcr
  have hin : ∀ i, i < e.cs.length → p.2.1 + i < c.size := fun i hi => by
    obtain ⟨x, hx, _⟩ := hcell i e.cs[i] (List.getElem?_eq_getElem hi)
    exact (Array.getElem?_eq_some_iff.1 hx).1
  let w' := w.setCells p.1 (p.2.1 + off) news'
  have hrun : (storeCells ⟨p.1, p.2.1 + off, none⟩ news').run P w = .ok () w' := by
    have := run_storeCells_cells (P := P) p.1 (p.2.1 + off) news' 0 w (fun j hj => by
      rw [hl2] at hj
      have := hin (off + j) (by omega)
      simp [World.cell?, hobj]; omega) (fun j hj => by
      rw [hl2] at hj
      have h1 := hin (off + j) (by omega)
      have h2 := hfro hown (p.2.1 + (off + j)) h1
      simp only [World.frozen?, hobj, Nat.add_zero]
      rw [Bool.eq_false_iff]
      simp only [ne_eq, Bool.and_eq_true, decide_eq_true_eq]
      rw [Nat.add_assoc]; exact h2) hone'
    simpa using this
  obtain ⟨c', o1, o2, o3, o4⟩ := setCells_obj news' (p.2.1 + off) w c hobj
  have hother : ∀ k, k ≠ p.1 → w'.heap[k]? = w.heap[k]? := fun k hk => setCells_other p.1 _ _ w k hk
  obtain ⟨s1, s2, s3⟩ := setCells_os p.1 news' (p.2.1 + off) w
  refine ⟨w', hrun, ⟨Le.refl E, rfl, ⟨fun i f hi => ?_, fun i j f g q r hi hj hij ho hk' hq hr => ?_⟩, ⟨s1, s2, s3, by rw [setCells_size]; exact Nat.le_refl _, fun k hk hne => ?_⟩, Nat.le_refl _, fun _ h => .inl h, fun i f q hi hk' hq => ?_⟩⟩
  · rw [hget_hset h b i _ hlt] at hi
    by_cases hbi : b = i
    · simp only [hbi, if_true, Option.some.injEq] at hi; subst hi
      subst hbi
      refine ⟨p, hp, .cells hk3 hk4 (fun h => ok.spare h hk3) ⟨c', el, fr, o1, fun i u hu => ?_, fun ho i hi => hfro hown i (by omega), (fun hk2 => by simp only [splice_len]; have := hspare hk2; omega), hel⟩⟩
      by_cases hio : i < off ∨ off + news.length ≤ i
      · rw [splice_out _ _ _ _ hio] at hu
        obtain ⟨x, hx, r1, r2⟩ := hcell i u hu
        exact ⟨x, by rw [o3 _ (by rw [hl2]; omega)]; exact hx, r1, r2⟩
      · obtain ⟨j, rfl⟩ : ∃ j, i = off + j := ⟨i - off, by omega⟩
        rw [splice_in _ _ _ _ (by omega) (by omega)] at hu
        obtain ⟨x, hx, r1⟩ := hcr.2 j u hu
        refine ⟨x, ?_, r1, hone' x (List.mem_of_getElem? hx)⟩
        have := o4 j x hx (by have := hin (off + j) (by omega); omega)
        rwa [Nat.add_assoc] at this
    · simp only [hbi, if_false] at hi
      obtain ⟨q, hq, o⟩ := hs.ent i f hi
      refine ⟨q, hq, ?_⟩
      by_cases h3 : f.kd = 3
      · exact o.gone h3
      · exact o.ext (hother _ fun e' => hs.sep b i e f p q hb hi hbi hown h3 hp hq e'.symm)
  · have back : ∀ {i f}, hget (hset h b (some ⟨e.kd, e.sz, spliceAt e.cs off news, []⟩)) i = some f → ∃ f', hget h i = some f' ∧ f'.kd = f.kd := by
      intro i f hi
      rw [hget_hset h b i _ hlt] at hi
      by_cases hbi : b = i
      · simp only [hbi, if_true, Option.some.injEq] at hi; subst hi; subst hbi; exact ⟨e, hb, rfl⟩
      · simp only [hbi, if_false] at hi; exact ⟨f, hi, rfl⟩
    obtain ⟨f', hf', kf⟩ := back hi
    obtain ⟨g', hg', kg⟩ := back hj
    exact hs.sep i j f' g' q r hf' hg' hij (by unfold own at ho ⊢; rw [kf]; exact ho) (by rw [kg]; exact hk') hq hr
  · exact hother k fun e' => hne b e p hb hown hp e'.symm
  · rw [hget_hset h b i _ hlt] at hi
    by_cases hbi : b = i
    · simp only [hbi, if_true, Option.some.injEq] at hi; subst hi; subst hbi
      exact .inr ⟨b, e, q, hb, hk', id, hq, rfl⟩
    · simp only [hbi, if_false] at hi
      exact .inr ⟨i, f, q, hi, hk', id, hq, rfl⟩

theorem store_ok {P : Program} {E : Env} {h h' : Hp} {nx nx' : Nat} {w : World} {ty : TypeId} {a a' v v' u : Value} (hs : Sat E (hget h) w) (ha : Rn E a a') (hv : Rn E v v') (he : evStore P ty h nx a v = some (u, h', nx')) :
    ∃ w', (Instr.storeAt ty a' v').run P w = .ok () w' ∧ u = undef ∧ Post E (hget h) (hget h') nx nx' w w' E := by
  unfold evStore at he
  split at he
  · rename_i b off
    split at he
    · rename_i e n hb hn
      split at he
      · rename_i hc
        rw [fent_eq, hsetK_eq] at he
        simp only [Option.some.injEq, Prod.mk.injEq] at he
        obtain ⟨rfl, rfl, rfl⟩ := he
        simp only [Bool.and_eq_true, Bool.or_eq_true, Bool.not_eq_true'] at hc
        obtain ⟨⟨⟨⟨hk, hlen⟩, hfit⟩, hone⟩, htu⟩ := hc
        have hlen' := Nat.eq_of_beq_eq_true hlen
        obtain ⟨p', hp', rfl⟩ := rn_ptr.1 ha
        have hcr := rn_cells (not_tuple htu) hv
        obtain ⟨w', hrun, hpost⟩ := cells_post (P := P) (nx := nx) hs hb hp' (by rcases hk with q | q; exact .inl (Nat.eq_of_beq_eq_true q); exact .inr (Nat.eq_of_beq_eq_true q)) (by rw [hlen']; exact Nat.le_of_ble_eq_true hfit) hcr (ones_iff.1 hone)
        refine ⟨w', ?_, rfl, hpost⟩
        have hl2 : v'.cells.toList.length = n := by rw [← hcr.1]; exact hlen'
        have hsz : v'.cells.size = n := by simpa using hl2
        simp only [Instr.storeAt, Instr.sureAddr, Sem.run_bind, Sem.run_pure, Result.andThen_ok, storeVar, peel_run hn, hsz, ne_eq, not_true_eq_false, if_false]
        exact hrun
      · cases he
    · cases he
  · cases he
end Go.Sy
