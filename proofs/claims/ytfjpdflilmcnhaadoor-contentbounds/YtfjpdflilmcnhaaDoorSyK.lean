/- A symbolic run of a program: one operation, and rows of them. -/
import Derived.Test.YtfjpdflilmcnhaaDoorSyJ
import Derived.Test.YtfjpdflilmcnhaaDoorSyMq
import Derived.Orders
namespace Go.Sy

/-- A caller that tells the truth. -/
def CallOK (P : Program) (ec : Caller) : Prop := ∀ f args h nx v h' nx', ec f args h nx = some (v, h', nx') → ∀ (E : Env) (w : World) (args' : List Value), Sat E (hget h) w → GE E → (∀ i, nx ≤ i → i < nx' → E.pl i = none) → Rns E args args' →
  Calls P f ⟨args'⟩ w (fun e w' => ∃ v' E', e = .returned v' ∧ Rn E' v v' ∧ Post E (hget h) (hget h') nx nx' w w' E')

theorem GE.up {E E' : Env} (h : GE E) (k : Le E E') : GE E' := fun g hg => k.pl g _ (h g hg)

theorem rn_undef (E : Env) : Rn E undef undef := flat_rn 4 undef rfl

theorem put_TR {E : Env} {nt : Nat} {t : Tm} {a : Act} {d : Option Nat} {v v' : Value} (h : TR E nt t a.tmps) (hr : Rn E v v') (hd : okDst nt d = true) : TR E nt (putT t d v) (a.put d v').tmps := by
  cases d with
  | none => exact h
  | some d =>
    have hd' : d < nt := blt_iff.1 hd
    have hm := h.max
    refine ⟨by simp [Act.put, h.size], h.max, fun i hi => ?_⟩
    simp only [putT, Act.put]
    rw [tget_tset _ _ _ _ (by omega) (by omega)]
    by_cases e : d = i
    · subst e
      rw [if_pos rfl]
      have : d < a.tmps.size := by rw [h.size]; exact hd'
      simp [Array.getD, this]; exact hr
    · rw [if_neg e]
      have := h.val i hi
      rw [Array.getD_eq_getD_getElem?] at this ⊢
      rw [Array.getElem?_setIfInBounds_ne e]
      exact this

theorem want_ok {E : Env} {nt : Nat} {t : Tm} {a : Act} {ops : Array Oper} {o : Oper} {b : Bool} (h : TR E nt t a.tmps) (hw : want nt ops t o = some b) : Region.wanted o (yielded ops a.tmps) = b := by
  unfold want at hw
  unfold Region.wanted
  split at hw
  · rename_i hg; rw [hg]; simp only [Option.some.injEq] at hw; exact hw
  · rename_i j w hg
    rw [hg]
    split at hw
    · rename_i d hd
      split at hw
      · rename_i hlt
        have hlt' := blt_iff.1 hlt
        have hv := h.val d hlt'
        have hsz : d < a.tmps.size := by rw [h.size]; exact hlt'
        have hget : a.tmps[d]? = some (a.tmps.getD d undef) := by simp [Array.getD, hsz]
        have hy : ∀ {x : Value}, a.tmps.getD d undef = x → yielded ops a.tmps j = (match x with | .bool b => some b | _ => none) := by
          intro x hx
          unfold yielded
          rw [hd]
          simp only [Option.bind_some, hget, hx]
          cases x <;> rfl
        split at hw
        · rename_i hb
          rw [hb] at hv
          simp only [Option.some.injEq] at hw; subst hw
          simp only [hy (rn_bool.1 hv)]
          cases w <;> rfl
        · rename_i hb
          rw [hb] at hv
          simp only [Option.some.injEq] at hw; subst hw
          simp only [hy (rn_bool.1 hv)]
          cases w <;> rfl
        · rename_i cs hb
          rw [hb] at hv
          simp only [Option.some.injEq] at hw; subst hw
          obtain ⟨cs', hx, _⟩ := rn_tuple.1 hv
          simp only [hy hx]
          cases w <;> rfl
        · cases hw
      · cases hw
    · cases hw

theorem mayEnter_run {P : Program} {f : FuncId} {args : Array Value} (h : mayEnter P f = true) (w : World) : (callFunc f args).run P w = .ok (.enter f args) w := by
  unfold mayEnter at h
  split at h
  · rename_i fn hf
    simp only [Bool.and_eq_true, Bool.not_eq_true'] at h
    have hb : fn.body ≠ none := fun e => by rw [e] at h; simp at h
    have hne : fn.name ≠ "runtime.NumGoroutine" := by simpa using h.2
    simp [callFunc, hf, hne, hb]
  · cases h

theorem methFn_run {P : Program} {t : TypeId} {name : String} {k : FuncId} (h : methFn P t name = some k) (v : Value) (w : World) : (method (P.types.size + Made.depth) t v name).run P w = .ok (k, v) w := by
  unfold methFn at h
  split at h
  · rename_i info hi
    split at h
    · rename_i m hm
      obtain ⟨n, hn⟩ : ∃ n, P.types.size + Made.depth = n + 1 := ⟨P.types.size + Made.depth - 1, by unfold Made.depth; omega⟩
      rw [hn]
      split at h
      · rename_i f e hpath hf hu
        simp only [Option.some.injEq] at h; subst h
        simp [method, typeInfo, hi, hm, hpath, follow, hf, receiverAt, run_underlying hu, Place.get]
      · cases h
      · rename_i f d hne hpath hf hu
        simp only [Option.some.injEq] at h; subst h
        cases d <;> first
          | exact (hne _ rfl).elim
          | simp [method, typeInfo, hi, hm, hpath, follow, hf, receiverAt, run_underlying hu, Place.get]
      · cases h
    · cases h
  · cases h
theorem byteOf_run {P : Program} {w : World} {b : Nat} {c : Array Value} {el : TypeId} {fr : Nat × Nat} (h : w.heap[b]? = some (.cells c el fr)) (off : Nat) (hb : byteAt P el off = true) : ∃ n, (byteOf ⟨b, off, none⟩).run P w = .ok n w := by
  have hsh : w.shape? b = some (el, c.size) := by simp [World.shape?, h]
  have hv : (noView ⟨b, off, none⟩).run P w = .ok () w := by simp [noView, viewAt, shape, Sem.run, hsh]
  unfold byteAt at hb
  split at hb
  · rename_i h0
    exact ⟨0, by simp [byteOf, hv, shape, Sem.run, run_program, hsh, h0]⟩
  · rename_i s h0
    obtain ⟨x, hx⟩ := Option.isSome_iff_exists.1 hb
    exact ⟨off / (s + 1) * P.bytesOf el + x, by simp [byteOf, hv, shape, Sem.run, run_program, hsh, h0, hx]⟩
theorem methPro_run {P : Program} {E : Env} {h : Hp} {w : World} (hs : Sat E (hget h) w) {t : TypeId} {name : String} {k : FuncId} {v v' : Value} (hk : methPro P h t name v = some k) (hr : Rn E v v') : (method (P.types.size + Made.depth) t v' name).run P w = .ok (k, .agg #[]) w := by
  unfold methPro at hk
  split at hk
  · rename_i info hi
    split at hk
    · rename_i m hm
      obtain ⟨n, hn⟩ : ∃ n, P.types.size + Made.depth = n + 1 := ⟨P.types.size + Made.depth - 1, by unfold Made.depth; omega⟩
      rw [hn]
      split at hk
      · rename_i s f hpath hf
        split at hk
        · rename_i fields hu
          split at hk
          · rename_i fl hfl
            split at hk
            · rename_i d fi hu2 hfi
              split at hk
              · rename_i hsz
                split at hk
                · rename_i cs hd
                  simp only [Option.some.injEq] at hk; subst hk
                  obtain ⟨cs', rfl, _⟩ := rn_agg.1 hr
                  simp [method, typeInfo, hi, hm, hpath, follow, hf, receiverAt, run_underlying hu, run_underlying hu2, Place.get, hfl, hd, part, isAgg, sizeOf, hfi, hsz]
                  omega
                · rename_i b hd
                  split at hk
                  · rename_i el cs mp he
                    split at hk
                    · rename_i hb
                      simp only [Option.some.injEq] at hk; subst hk
                      rw [Bool.and_eq_true] at hb
                      obtain ⟨p, hp, rfl⟩ := rn_ptr.1 hr
                      obtain ⟨p', hp', ok⟩ := hs.ent b _ he
                      obtain rfl : p = p' := Option.some.inj (hp.symm.trans hp')
                      obtain ⟨c, el', fr, hc, _, _, _, hel⟩ := ok.obj (fun h => by cases h) (fun h => by cases h)
                      obtain ⟨e1, e2⟩ := hel rfl (by simp)
                      have e3 : el' = el := Nat.succ.inj e1
                      subst e3
                      rw [e2]
                      obtain ⟨n1, hn1⟩ := byteOf_run hc 0 hb.1
                      obtain ⟨n2, hn2⟩ := byteOf_run hc fl.offset hb.2
                      simp [method, typeInfo, hi, hm, hpath, follow, hf, receiverAt, run_underlying hu, run_underlying hu2, Place.get, hfl, hd, isAgg, sizeOf, hfi, hsz, asAddr, fieldPlace, partAt, hn1, hn2, loadVar, loadCells, loadCellsFrom]
                    · cases hk
                  · cases hk
                · cases hk
              · cases hk
            · cases hk
          · cases hk
        · cases hk
      · cases hk
    · cases hk
  · cases hk
/-- An operation that may write. -/
theorem hv_ok {P : Program} {ec : Caller} (hec : CallOK P ec) {E : Env} {h h' : Hp} {nx nx' nt : Nat} {t : Tm} {o : Oper} {a : Act} {w : World} {v : Value} {K : Act → World → Prop} {Q : Exit → Act → World → Prop} (hs : Sat E (hget h) w) (ht : TR E nt t a.tmps) (hg : GE E)
    (hfr : ∀ i, nx ≤ i → i < nx' → E.pl i = none) (he : evHv P ec h nx nt t o = some (v, h', nx')) (hK : ∀ v' w' E', Rn E' v v' → Post E (hget h) (hget h') nx nx' w w' E' → K (a.put o.dst v') w') : o.wp P a w K Q := by
  unfold evHv at he
  split at he
  · rename_i ty x y ho
    split at he
    · rename_i u1 u2 h1 h2
      obtain ⟨w', hr, rfl, hp⟩ := store_ok hs (opd_ok ht hg h1) (opd_ok ht hg h2) he
      have : (execOp a.eval o).run P w = .ok .skip w' := by simp [execOp, ho, hr]
      unfold Oper.wp
      rw [this]
      exact hK undef w' E (rn_undef E) hp
    · cases he
  · rename_i ty x k y ho
    split at he
    · rename_i u1 u2 u3 h1 h2 h3
      obtain ⟨w', hr, rfl, hp⟩ := mapUpdate_ok hs (opd_ok ht hg h1) (opd_ok ht hg h2) (opd_ok ht hg h3) he
      have : (execOp a.eval o).run P w = .ok .skip w' := by simp [execOp, ho, hr]
      unfold Oper.wp
      rw [this]
      exact hK undef w' E (rn_undef E) hp
    · cases he
  · rename_i c ho
    split at he
    · rename_i hc
      split at he
      · rename_i x k hl
        have hargs := opds_ok ht hg hl
        obtain ⟨x', m1, e1, r1, hm⟩ := hargs.inv_cons
        obtain ⟨k', m2, rfl, r2, hm2⟩ := hm.inv_cons
        rw [hm2.inv_nil] at e1
        obtain ⟨w', hr, rfl, hp⟩ := delete_ok (ty := o.type) hs r1 r2 he
        have harr : c.args.map a.eval = #[x', k'] := by apply Array.ext'; simpa using e1
        have : (execOp a.eval o).run P w = .ok (.value (.tuple #[])) w' := by
          simp [execOp, ho, resolve, hc, invoke, builtin, harr, hr]
        unfold Oper.wp
        rw [this]
        exact hK (.tuple #[]) w' E (rn_tuple.2 ⟨_, rfl, .nil⟩) hp
      · cases he
    · rename_i hc
      split at he
      · rename_i x hl
        have hargs := opds_ok ht hg hl
        obtain ⟨x', m1, e1, r1, hm⟩ := hargs.inv_cons
        rw [hm.inv_nil] at e1
        obtain ⟨w', hr, rfl, hp⟩ := clear_ok (ty := o.type) hs r1 he
        have harr : c.args.map a.eval = #[x'] := by apply Array.ext'; simpa using e1
        have : (execOp a.eval o).run P w = .ok (.value (.tuple #[])) w' := by
          simp [execOp, ho, resolve, hc, invoke, builtin, harr, hr]
        unfold Oper.wp
        rw [this]
        exact hK (.tuple #[]) w' E (rn_tuple.2 ⟨_, rfl, .nil⟩) hp
      · cases he
    · rename_i hc
      split at he
      · rename_i sTy q s x h0 hq hl
        have hargs := opds_ok ht hg hl
        obtain ⟨s', m1, e1, r1, hm⟩ := hargs.inv_cons
        obtain ⟨x', m2, rfl, r2, hm2⟩ := hm.inv_cons
        rw [hm2.inv_nil] at e1
        obtain ⟨tx, ht1⟩ : ∃ tx, c.argTypes[1]? = some tx := by
          cases hq1 : c.argTypes[1]? with
          | none => rw [hq1] at hq; simp [isStr] at hq
          | some tx => exact ⟨tx, rfl⟩
        rw [ht1] at hq
        obtain ⟨v', w', E', hr, hrn, hp⟩ := append_ok (P := P) (ty := o.type) hs hfr r1 r2 hq he
        have harr : c.args.map a.eval = #[s', x'] := by apply Array.ext'; simpa using e1
        have : (execOp a.eval o).run P w = .ok (.value v') w' := by
          simp [execOp, ho, resolve, hc, invoke, builtin, append_args h0 ht1 harr, hr]
        unfold Oper.wp
        rw [this]
        exact hK v' w' E' hrn hp
      · cases he
    · rename_i f hc
      split at he
      · rename_i k first captured args hf hl
        split at he
        · rename_i hm
          obtain ⟨f', c', e1, r1, r2⟩ := rn_func.1 (opd_ok ht hg hf)
          have hargs := opds_ok ht hg hl
          have hrr := (r1.append hargs).append r2
          have hcall := hec _ _ _ _ _ _ _ he E w _ hs hg hfr hrr
          have harr : (f' ++ c.args.map a.eval) ++ c' = ⟨f'.toList ++ c.args.toList.map a.eval ++ c'.toList⟩ := by apply Array.ext'; simp
          have : (execOp a.eval o).run P w = .ok (.enter k ⟨f'.toList ++ c.args.toList.map a.eval ++ c'.toList⟩) w := by
            simp only [execOp, ho, resolve, hc, e1, Deferred.ofValue, Sem.run_bind, Sem.run_pure, Result.andThen_ok, invoke]
            rw [harr]
            exact mayEnter_run hm w
          unfold Oper.wp
          rw [this]
          refine hcall.mono ?_
          rintro e w' ⟨v', E', rfl, hrn, hp⟩
          exact hK v' w' E' hrn hp
        · cases he
      · cases he
    · rename_i r name hc
      split at he
      · rename_i rt v0 args hf hl
        split at he
        · rename_i k hk
          split at he
          · rename_i hm
            obtain ⟨v1, e1, r1⟩ := rn_iface.1 (opd_ok ht hg hf)
            have hargs := opds_ok ht hg hl
            have hcall := hec _ _ _ _ _ _ _ he E w _ hs hg hfr (.cons r1 hargs)
            have hmeth := methFn_run hk v1 w
            have : (execOp a.eval o).run P w = .ok (.enter k ⟨v1 :: c.args.toList.map a.eval⟩) w := by
              have harr : (#[Value.iface rt v1] ++ c.args.map a.eval).extract 1 (#[Value.iface rt v1] ++ c.args.map a.eval).size = c.args.map a.eval := by
                apply Array.ext'
                simp [List.take_of_length_le]
              have h0 : (#[Value.iface rt v1] ++ c.args.map a.eval)[0]? = some (.iface rt v1) := by rw [Array.getElem?_append_left (by simp)]; rfl
              simp only [execOp, ho, resolve, hc, e1, Sem.run_bind, Sem.run_pure, Result.andThen_ok, invoke, h0, harr, callMethod, run_program, hmeth]
              have harr2 : #[v1] ++ c.args.map a.eval = ⟨v1 :: c.args.toList.map a.eval⟩ := Array.toList_inj.1 (by rw [Array.toList_append, Array.toList_map]; rfl)
              rw [harr2]
              exact mayEnter_run hm w
            unfold Oper.wp
            rw [this]
            refine hcall.mono ?_
            rintro e w' ⟨v', E', rfl, hrn, hp⟩
            exact hK v' w' E' hrn hp
          · cases he
        · split at he
          · rename_i k hk
            split at he
            · rename_i hm
              obtain ⟨v1, e1, r1⟩ := rn_iface.1 (opd_ok ht hg hf)
              have hargs := opds_ok ht hg hl
              have hcall := hec _ _ _ _ _ _ _ he E w _ hs hg hfr (.cons (rn_agg.2 ⟨#[], rfl, .nil⟩) hargs)
              have hmeth := methPro_run hs hk r1
              have : (execOp a.eval o).run P w = .ok (.enter k ⟨.agg #[] :: c.args.toList.map a.eval⟩) w := by
                have harr : (#[Value.iface rt v1] ++ c.args.map a.eval).extract 1 (#[Value.iface rt v1] ++ c.args.map a.eval).size = c.args.map a.eval := by
                  apply Array.ext'
                  simp [List.take_of_length_le]
                have h0 : (#[Value.iface rt v1] ++ c.args.map a.eval)[0]? = some (.iface rt v1) := by rw [Array.getElem?_append_left (by simp)]; rfl
                simp only [execOp, ho, resolve, hc, e1, Sem.run_bind, Sem.run_pure, Result.andThen_ok, invoke, h0, harr, callMethod, run_program, hmeth]
                have harr2 : #[Value.agg #[]] ++ c.args.map a.eval = ⟨Value.agg #[] :: c.args.toList.map a.eval⟩ := Array.toList_inj.1 (by rw [Array.toList_append, Array.toList_map]; rfl)
                rw [harr2]
                exact mayEnter_run hm w
              unfold Oper.wp
              rw [this]
              refine hcall.mono ?_
              rintro e w' ⟨v', E', rfl, hrn, hp⟩
              exact hK v' w' E' hrn hp
            · cases he
          · cases he
      · cases he
    · cases he
  · cases he

theorem one_ok {P : Program} {ec : Caller} (hec : CallOK P ec) {E : Env} {h h' : Hp} {nx nx' nt : Nat} {t : Tm} {ops : Array Oper} {i : Nat} {o : Oper} (ho : ops[i]? = some o) {a : Act} {w : World} {v : Value} {K : Act → World → Prop} {Q : Exit → Act → World → Prop} (hs : Sat E (hget h) w) (ht : TR E nt t a.tmps) (hg : GE E)
    (hfr : ∀ i, nx ≤ i → i < nx' → E.pl i = none) (he : evOne P ec nt ops o t h nx = some (v, h', nx')) (hK : ∀ v' w' E', Rn E' v v' → Post E (hget h) (hget h') nx nx' w w' E' → K (a.put o.dst v') w') : wpOp P ops Q i K a w := by
  unfold wpOp
  rw [ho]
  unfold evOne at he
  split at he
  · rename_i hw
    simp only [want_ok ht hw, if_true]
    refine .inl ?_
    split at he
    · exact hv_ok hec hs ht hg hfr he hK
    · split at he
      · rename_i u hu
        simp only [Option.some.injEq, Prod.mk.injEq] at he; obtain ⟨rfl, rfl, rfl⟩ := he
        obtain ⟨m, hm, hp⟩ := fl_ok (a := a) (fun e => by cases e) hs ht hg hu
        obtain ⟨v', w', E', r1, r2, r3, rfl, rfl⟩ := fl_post hp
        unfold Oper.wp
        rw [hm, r1]
        exact hK v' w' _ r2 (Post.refl hs)
      · rename_i u e hu
        split at he
        · rename_i hlt
          rw [fent_eq, hsetK_eq, fnat_eq] at he
          simp only [Option.some.injEq, Prod.mk.injEq] at he; obtain ⟨rfl, rfl, rfl⟩ := he
          have hn : E.pl nx = none := hfr nx (Nat.le_refl _) (by omega)
          obtain ⟨m, hm, hp⟩ := fl_ok (a := a) (fun _ => hn) hs ht hg hu
          obtain ⟨v', w', E', r1, r2, r3, p, rfl, r4, r5⟩ := fl_post hp
          unfold Oper.wp
          rw [hm, r1]
          refine hK v' w' _ r2 ?_
          rw [hget_add (blt_iff.1 hlt)]
          exact Post.add hs hn r3 r4 r5
        · cases he
      · cases he
  · rename_i hw
    simp only [Option.some.injEq, Prod.mk.injEq] at he; obtain ⟨rfl, rfl, rfl⟩ := he
    simp only [want_ok ht hw, Bool.false_eq_true, if_false]
    exact hK undef w E (rn_undef E) (Post.refl hs)
  · cases he
end Go.Sy
