/- A symbolic run of a program: functions. -/
import Derived.Test.YtglnljfdkiihbaaGreatDoorSyL
namespace Go.Sy

theorem tget_temp (i : Nat) : tget temp i = undef := ge9 undef i
theorem hget_emp (i : Nat) : hget hemp i = none := by
  unfold hget hemp; split
  · exact ge13 none i
  · rfl

theorem putArgs_get : ∀ (l : List Value) (t : Tm) (k i : Nat), k + l.length ≤ 512 → i < 512 → tget (putArgs t k l) i = if k ≤ i ∧ i < k + l.length then l.getD (i - k) undef else tget t i
  | [], t, k, i, _, _ => by rw [if_neg (by simp only [List.length_nil]; omega)]; rfl
  | v :: l, t, k, i, hk, hi => by
    simp only [List.length_cons] at hk
    rw [putArgs, putArgs_get l _ (k + 1) i (by omega) hi]
    by_cases h1 : k = i
    · subst h1
      rw [if_neg (by omega), if_pos (by simp), tget_tset _ _ _ _ (by omega) hi, if_pos rfl]
      simp
    · by_cases h2 : k + 1 ≤ i ∧ i < k + 1 + l.length
      · rw [if_pos h2, if_pos (by simp; omega)]
        rw [show i - k = (i - (k + 1)) + 1 by omega]
        simp
      · rw [if_neg h2, if_neg (by simp; omega), tget_tset _ _ _ _ (by omega) hi, if_neg h1]

theorem args_TR {E : Env} {nt : Nat} {args args' : List Value} (h : Rns E args args') (hn : args.length ≤ nt) (hm : nt ≤ 512) : TR E nt (putArgs temp 0 args) (⟨args'⟩ ++ Array.replicate (nt - args'.length) undef) := by
  have hl := h.1
  refine ⟨by simp; omega, hm, fun i hi => ?_⟩
  rw [putArgs_get args temp 0 i (by omega) (by omega), Array.getD_eq_getD_getElem?]
  by_cases hlt : i < args.length
  · rw [if_pos ⟨by omega, by omega⟩]
    obtain ⟨v', a, b⟩ := h.2 i args[i] (List.getElem?_eq_getElem hlt)
    have e1 : (((⟨args'⟩ : Array Value) ++ Array.replicate (nt - args'.length) undef)[i]?) = some v' := by
      rw [Array.getElem?_append_left (by simp; omega)]; simpa using a
    rw [e1]
    simpa [List.getD, List.getElem?_eq_getElem hlt] using b
  · rw [if_neg (by omega), tget_temp]
    have e1 : (((⟨args'⟩ : Array Value) ++ Array.replicate (nt - args'.length) undef)[i]?) = some undef := by
      rw [Array.getElem?_append_right (by simp; omega), Array.getElem?_replicate, if_pos (by simp; omega)]
    rw [e1]; exact rn_undef E

def resSem (tmps : Array Value) : ResultVar → Sem Value
  | .tmp t => pure (tmps.getD t undef)
  | .cell a t => do loadVar t (← asAddr (tmps.getD a undef))

theorem res_ok {P : Program} {E : Env} {h : Hp} {nt : Nat} {t : Tm} {tmps : Array Value} {w : World} {r : ResultVar} {v : Value} (hs : Sat E (hget h) w) (ht : TR E nt t tmps) (he : resOf P h nt t r = some v) : ∃ v', (resSem tmps r).run P w = .ok v' w ∧ Rn E v v' := by
  unfold resOf at he
  split at he
  · split at he
    · rename_i i hi
      simp only [Option.some.injEq] at he; subst he
      exact ⟨_, rfl, ht.val _ (blt_iff.1 hi)⟩
    · cases he
  · split at he
    · rename_i a ty hi
      have hv := ht.val _ (blt_iff.1 hi)
      split at he
      · rename_i b off hb
        rw [hb] at hv
        split at he
        · rename_i e hbe
          obtain ⟨p, v', hp, hr, hrn⟩ := loadE_ok hs hbe he
          obtain ⟨q, hq, hx⟩ := rn_ptr.1 hv
          rw [hp] at hq; cases hq
          exact ⟨v', by simp only [resSem, hx, asAddr, Sem.run_bind, Sem.run_pure, Result.andThen_ok]; exact hr, hrn⟩
        · cases he
      · cases he
    · cases he

theorem ress_ok {P : Program} {E : Env} {h : Hp} {nt : Nat} {t : Tm} {tmps : Array Value} {w : World} (hs : Sat E (hget h) w) (ht : TR E nt t tmps) : ∀ {l : List ResultVar} {vs : List Value}, ress P h nt t l = some vs → ∃ vs', (l.mapM (resSem tmps)).run P w = .ok vs' w ∧ Rns E vs vs'
  | [], vs, he => by simp only [ress, Option.some.injEq] at he; subst he; exact ⟨[], by simp, .nil⟩
  | r :: l, vs, he => by
    simp only [ress] at he
    split at he
    · cases he
    · rename_i v hv
      split at he
      · cases he
      · rename_i us hu
        simp only [Option.some.injEq] at he; subst he
        obtain ⟨v', a, b⟩ := res_ok hs ht hv
        obtain ⟨us', c, d⟩ := ress_ok hs ht hu
        exact ⟨v' :: us', by simp [List.mapM_cons, a, c], .cons b d⟩

theorem ret_ok {P : Program} {E : Env} {h : Hp} {nt : Nat} {t : Tm} {tmps : Array Value} {w : World} {fn : Func} {vs : List Value} (hs : Sat E (hget h) w) (ht : TR E nt t tmps) (he : ress P h nt t fn.results.toList = some vs) : ∃ v', (results fn tmps).run P w = .ok v' w ∧ Rn E (retOf vs) v' := by
  obtain ⟨vs', hr, hrn⟩ := ress_ok hs ht he
  have hres : (results fn tmps).run P w = .ok (if h : vs'.toArray.size = 1 then vs'.toArray[0] else .tuple vs'.toArray) w := by
    have hf : results fn tmps = (fn.results.mapM (resSem tmps) >>= fun vs => pure (if h : vs.size = 1 then vs[0] else .tuple vs)) := by
      have key : ∀ g : ResultVar → Sem Value, (∀ r, g r = resSem tmps r) → (fn.results.mapM g >>= fun vs => pure (if h : vs.size = 1 then vs[0] else Value.tuple vs)) = (fn.results.mapM (resSem tmps) >>= fun vs => pure (if h : vs.size = 1 then vs[0] else Value.tuple vs)) := fun g hg => by
        rw [show g = resSem tmps from funext hg]
      exact key _ fun r => by cases r <;> rfl
    rw [hf, Array.mapM_eq_mapM_toList]
    simp only [Sem.run_bind, Sem.run_map, hr, Result.andThen_ok, Sem.run_pure]
  refine ⟨_, hres, ?_⟩
  unfold retOf
  split
  · rename_i v
    obtain ⟨v', m, rfl, a, b⟩ := hrn.inv_cons
    rw [b.inv_nil]
    simpa using a
  · rename_i hne
    have hl : vs'.toArray.size ≠ 1 := fun e => by
      have : vs.length = 1 := by rw [hrn.1]; simpa using e
      match vs, this with
      | [v], _ => exact hne v rfl
    rw [dif_neg hl]
    exact rn_tuple.2 ⟨_, rfl, by simpa using hrn⟩

theorem f_ok {P : Program} {O : Caller} (hO : CallOK P O) (hOm : CallMono O) (hdr : ∀ ec, CallOK P ec → CallMono ec → DrawOK P ec) : ∀ n, CallOK P (evF P O n) ∧ CallMono (evF P O n) := by
  intro n
  induction n with
  | zero => exact ⟨fun f args h nx v h' nx' he => by simp [evF] at he, fun f args h nx v h' nx' he => by simp [evF] at he⟩
  | succ n ih =>
    obtain ⟨ih1, ih2⟩ := ih
    have hd := hdr _ ih1 ih2
    constructor
    · intro f args h nx v h' nx' he E w args' hs hg hfr hr
      simp only [evF] at he
      split at he
      · rename_i r hor
        simp only [Option.some.injEq] at he; subst he
        exact hO _ _ _ _ _ _ _ hor E w args' hs hg hfr hr
      split at he
      · rename_i fn hf
        split at he
        · rename_i c hb
          split at he
          · rename_i hc
            simp only [Bool.and_eq_true] at hc
            have hc1 := Nat.le_of_ble_eq_true hc.1
            have hc2 := Nat.le_of_ble_eq_true hc.2
            rw [putArgsK_eq] at he
            have hTR := args_TR hr hc1 hc2
            have go : ∀ {e : Exit} {t : Tm} {h2 : Hp} {nx2 : Nat} {vs : List Value}, evC P (evF P O n) fn.ntmps n none c (putArgs temp 0 args) h nx = some (e, t, h2, nx2) → ress P h2 fn.ntmps t fn.results.toList = some vs → (e = .normal ∨ e = .ret) → v = retOf vs → h' = h2 → nx' = nx2 →
                Calls P f ⟨args'⟩ w (fun e w' => ∃ v' E', e = .returned v' ∧ Rn E' v v' ∧ Post E (hget h) (hget h') nx nx' w w' E') := by
              intro e t h2 nx2 vs h1 h2e hee hv hh hn
              subst hv; subst hh; subst hn
              refine calls_of_wp hf hb ?_
              refine (c_ok ih1 ih2 hd n).1.1 h1 hs (by simpa using hTR) hg rfl hfr fun E1 a1 w1 q1 q2 q3 => ?_
              obtain ⟨v', r1, r2⟩ := ret_ok (fn := fn) q3.sat q1 h2e
              rcases hee with rfl | rfl
              · exact ⟨q2, v', r1, v', E1, rfl, r2, q3⟩
              · exact ⟨q2, v', r1, v', E1, rfl, r2, q3⟩
            split at he
            · rename_i h1
              split at he
              · rename_i h2e
                simp only [Option.some.injEq, Prod.mk.injEq] at he; obtain ⟨e1, e2, e3⟩ := he
                exact go h1 h2e (.inl rfl) e1.symm e2.symm e3.symm
              · cases he
            · rename_i h1
              split at he
              · rename_i h2e
                simp only [Option.some.injEq, Prod.mk.injEq] at he; obtain ⟨e1, e2, e3⟩ := he
                exact go h1 h2e (.inr rfl) e1.symm e2.symm e3.symm
              · cases he
            · cases he
          · cases he
        · cases he
      · cases he
    · intro f args h nx v h' nx' he
      simp only [evF] at he
      split at he
      · rename_i r hor
        simp only [Option.some.injEq] at he; subst he
        exact hOm _ _ _ _ _ _ _ hor
      split at he
      · split at he
        · split at he
          · rw [putArgsK_eq] at he
            split at he
            · rename_i h1
              split at he
              · simp only [Option.some.injEq, Prod.mk.injEq] at he; obtain ⟨_, _, rfl⟩ := he; exact c_mono ih2 hd n h1
              · cases he
            · rename_i h1
              split at he
              · simp only [Option.some.injEq, Prod.mk.injEq] at he; obtain ⟨_, _, rfl⟩ := he; exact c_mono ih2 hd n h1
              · cases he
            · cases he
          · cases he
        · cases he
      · cases he
end Go.Sy
