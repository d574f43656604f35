/- A symbolic run of a program: regions whose order is open: whatever the order, the end is the one that was reckoned; and so every call. -/
import Derived.Test.YtfjpdflilmcnhaaDoorMgR
namespace Go.Sy

theorem draw_ok {P : Program} (hmix : P.follows .mixedOrders = true) (ec : Caller) (hec : CallOK P ec) (hmo : CallMono ec) : DrawOK P ec := by
  intro nt ops t t' h h' nx nx' he
  unfold evDraw at he
  split at he
  · cases he
  · rename_i pl hpl
    split at he
    · cases he
    · rename_i hc
      simp only [Bool.and_eq_true] at hc
      have PGx := plan_ok hpl hc.1.1
      have h8 := Nat.le_of_ble_eq_true hc.1.2
      have hnt := Nat.le_of_ble_eq_true hc.2
      rw [fnat_eq] at he
      split at he
      · cases he
      · rename_i D hD
        split at he
        · rename_i hkp
          simp only [Bool.and_eq_true] at hkp
          have hk := Nat.eq_of_beq_eq_true hkp.1
          have hpm := Nat.eq_of_beq_eq_true hkp.2
          rw [insGK_eq] at he
          simp only [Option.some.injEq, Prod.mk.injEq] at he
          obtain ⟨rfl, rfl, rfl⟩ := he
          rw [hk]
          have hinj : ∀ p ∈ pl.al, ∀ q ∈ pl.al, p.1 ≠ q.1 → p.2.rk ≠ q.2.rk := fun p hp q hq hne => (PGx.rk p hp).2 q hq hne
          have hid : ∀ p ∈ pl.al, nx + p.2.rk < 8192 := fun p hp => by have := (PGx.rk p hp).1; omega
          have uniq : ∀ p ∈ pl.inf, ∀ q ∈ pl.inf, p.1 = q.1 → p = q := fun p hp q hq e => by
            obtain ⟨i, hi⟩ := List.getElem?_of_mem hp
            obtain ⟨j, hj⟩ := List.getElem?_of_mem hq
            have e1 := PGx.idx i p hi
            have e2 := PGx.idx j q hj
            have : i = j := by omega
            subst this
            rw [hi] at hj; exact Option.some.inj hj
          have cover : ∀ j, j < ops.size → ∃ p ∈ pl.inf, p ∈ pl.ord ∧ p.1 = j := fun j hj => by
            have hb : Nat.testBit D.pm j = true := by rw [hpm, Nat.testBit_two_pow_sub_one]; simpa using hj
            rcases ord_pm _ _ _ hD j hb with h1 | ⟨p, hp, e⟩
            · simp at h1
            · exact ⟨p, PGx.ord p hp, hp, e⟩
          obtain ⟨x1, x2, x3⟩ := ord_ok (t0 := t) hnt PGx.toPF pl.ord _ D hD PGx.ord (fun s _ => tv_zero.symm) (fun q _ hb => by simp at hb)
          have fact : ∀ p ∈ pl.inf, ∃ o, ops[p.1]? = some o ∧ Fact P ec nt ops pl.al nx t D p o := fun p hp => by
            obtain ⟨q, hq, hqo, e⟩ := cover p.1 (PGx.lt hp)
            rw [← uniq q hq p hp e]
            exact x3 q hqo
          have hS0 : D.S 0 = h := x1.S 0 (Nat.zero_le _)
          have hA0 : D.A 0 = nx + pl.al.length := x1.A 0 (Nat.zero_le _)
          have msub : ∀ p ∈ pl.inf, ∀ j, Nat.testBit p.2.m j = true → j < ops.size := fun p hp j hj => by
            rcases Nat.lt_or_ge j ops.size with a | a
            · exact a
            · rw [Nat.testBit_lt_two_pow (Nat.lt_of_lt_of_le (PGx.mlt p hp) (Nat.pow_le_pow_right (by omega) a))] at hj; cases hj
          have Amono : ∀ k, k < pl.hs → D.A k ≤ D.A (k + 1) := fun k hk => by
            obtain ⟨q, hq, hqh, hqk⟩ := PGx.st k hk
            obtain ⟨o, ho, hf⟩ := fact q hq
            have hhv : isHeavy o.op = true := by unfold heavyAt at hqh; rw [ho] at hqh; exact hqh
            obtain ⟨b, h1, h2, _⟩ := hf.told
            obtain ⟨tq, htq⟩ := hf.at_
            obtain ⟨_, h4, _⟩ := h1 tq htq
            cases b with
            | true => have := hv_mono hmo (h4 hhv rfl); rw [hqk] at this; exact this
            | false => have := (h2 hhv rfl).2.2; rw [hqk] at this; omega
          have Ale : ∀ j k, j + k ≤ pl.hs → D.A j ≤ D.A (j + k) := fun j k => by
            induction k with
            | zero => intro _; exact Nat.le_refl _
            | succ k ih => intro hk; exact Nat.le_trans (ih (by omega)) (Amono (j + k) (by omega))
          have Ale' : ∀ {j k}, j ≤ k → k ≤ pl.hs → D.A j ≤ D.A k := fun {j k} h1 h2 => by
            have := Ale j (k - j) (by omega); rwa [show j + (k - j) = k by omega] at this
          have hAnx : ∀ {k}, k ≤ pl.hs → nx + pl.al.length ≤ D.A k := fun hk => by rw [← hA0]; exact Ale' (Nat.zero_le _) hk
          refine ⟨by have := hAnx (Nat.le_refl pl.hs); omega, fun Q E a w id hs ht hg hd hfr hQ => ?_⟩
          refine wp_region_any hmix ?_
          -- the state at the mask lm and the stage k
          let st : Nat → Nat → Nat → Option Ent := fun lm k => hget (insG nx lm k D.EN pl.al (D.S k))
          have stE : ∀ lm k, st lm k = ov (xg pl.al nx lm k D.EN) (hget (D.S k)) := fun lm k => insG_get hid
          let w0 : World := { w with drawn := w.drawn + 1 }
          let I : Array Bool → Act → World → Prop := fun l a1 w1 => ∃ (lm k : Nat) (E1 : Env) (t1 : Tm), l.size = ops.size ∧ (∀ j, j < ops.size → l.getD j true = Nat.testBit lm j) ∧ (∀ j, Nat.testBit lm j = true → j < ops.size) ∧
            (∀ p ∈ pl.inf, Nat.testBit lm p.1 = true → ∀ j, Nat.testBit p.2.m j = true → Nat.testBit lm j = true) ∧ k ≤ pl.hs ∧ (∀ p ∈ pl.inf, heavyAt ops p.1 = true → (Nat.testBit lm p.1 = true ↔ p.2.kx < k)) ∧
            Post E (hget h) (st lm k) nx (D.A pl.hs) w0 w1 E1 ∧ (∀ p ∈ pl.al, Nat.testBit lm p.1 = false → E1.pl (nx + p.2.rk) = none) ∧ (∀ i, D.A k ≤ i → i < D.A pl.hs → E1.pl i = none) ∧
            (∀ s, s < nt → tget t1 s = tv ops t D.V lm s) ∧ TR E1 nt t1 a1.tmps ∧ a1.defers = []
          refine wpAny_by I (fun hI => ?_) (fun {l a1 w1 i} hI hr => ?_) (fun {l a1 w1} hI hr => ?_) ops.size _ a w0 ?_ ?_
          · obtain ⟨_, _, _, _, h1, _⟩ := hI; exact h1
          · -- a step
            obtain ⟨lm, k, E1, t1, i1, i2, i3, i4, i5, i6, i7, i8, i9, i10, i11, i12⟩ := hI
            have hr1 : i < ops.size ∧ l.getD i true = false ∧ ∀ o, ops[i]? = some o → ∀ e ∈ o.after.toList, Region.binds .any e = true → l.getD e.on false = true := by
              unfold Region.ready at hr
              rw [List.mem_filter] at hr
              obtain ⟨h1, h2⟩ := hr
              simp only [Bool.and_eq_true, Bool.not_eq_true'] at h2
              refine ⟨List.mem_range.1 h1, h2.1, fun o ho e he hbd => ?_⟩
              rw [ho] at h2
              simp only [Option.map_some, Option.getD_some] at h2
              have h3 := h2.2
              rw [← Array.all_toList, List.all_eq_true] at h3
              have := h3 e he
              rw [hbd] at this
              simpa using this
            obtain ⟨hin, hul, hedge⟩ := hr1
            obtain ⟨p, hp, rfl⟩ := PGx.mem hin
            obtain ⟨o, ho, hf⟩ := fact p hp
            have hnl : Nat.testBit lm p.1 = false := by rw [← i2 _ hin]; exact hul
            have hM : ∀ j, Nat.testBit p.2.m j = true → Nat.testBit lm j = true := fun j hj => by
              obtain ⟨q, hq, rfl⟩ := PGx.mem (msub p hp j hj)
              obtain ⟨e, hem, hbd, hor⟩ := PGx.mask p hp o ho q hq hj
              have h1 := hedge o ho e hem hbd
              have hlt := PGx.edge p hp o ho e hem hbd
              have hel : Nat.testBit lm e.on = true := by
                rw [← i2 e.on (by omega)]
                have hls : e.on < l.size := by rw [i1]; omega
                rw [Array.getD_eq_getD_getElem?] at h1 ⊢
                simp [hls] at h1 ⊢
                exact h1
              rcases hor with h2 | ⟨r, hr2, h2⟩
              · rw [← h2]; exact hel
              · have := PGx.idx e.on r hr2
                exact i4 r (List.mem_of_getElem? hr2) (by rw [this]; exact hel) _ h2
            obtain ⟨b, hb1, hb2, hb3⟩ := hf.told
            have hN : ∀ q ∈ pl.inf, Nat.testBit q.2.m p.1 = true → Nat.testBit lm q.1 = false := fun q hq hb => by
              cases h1 : Nat.testBit lm q.1
              · rfl
              · have := i4 q hq h1 p.1 hb
                rw [hnl] at this; cases this
            obtain ⟨hw, hh, hfl⟩ := hb1 t1 fun s hs hsn => by rw [i10 s hsn]; exact tv_looks PGx.toPF hp ho hM hN hs
            have bitS : ∀ j, Nat.testBit (Nat.lor lm (2 ^ p.1)) j = (Nat.testBit lm j || Nat.beq p.1 j) := fun j => testBit_lor
            have bitP : Nat.testBit (Nat.lor lm (2 ^ p.1)) p.1 = true := by rw [bitS]; simp
            have bitN : ∀ j, p.1 ≠ j → Nat.testBit (Nat.lor lm (2 ^ p.1)) j = Nat.testBit lm j := fun j hj => by rw [bitS, beq_false' hj]; simp
            have mk : ∀ (v' : Value) (w' : World) (E2 : Env) (k' : Nat), Rn E2 (D.V p.1) v' → Le E1 E2 → k' ≤ pl.hs → (∀ q ∈ pl.inf, heavyAt ops q.1 = true → (Nat.testBit (Nat.lor lm (2 ^ p.1)) q.1 = true ↔ q.2.kx < k')) → Post E (hget h) (st (Nat.lor lm (2 ^ p.1)) k') nx (D.A pl.hs) w0 w' E2 →
                (∀ q ∈ pl.al, p.1 ≠ q.1 → Nat.testBit lm q.1 = false → E2.pl (nx + q.2.rk) = none) → (∀ i, D.A k' ≤ i → i < D.A pl.hs → E2.pl i = none) → I (l.setIfInBounds p.1 true) (a1.put o.dst v') w' := by
              intro v' w' E2 k' j1 j2 j3 j4 j5 j6 j7
              refine ⟨Nat.lor lm (2 ^ p.1), k', E2, putT t1 o.dst (D.V p.1), by simp [i1], fun j hj => ?_, fun j hj => ?_, fun q hq hbq j hj => ?_, j3, j4, j5, fun q hq hbq => ?_, j7, fun s hs => ?_, put_TR (i11.up j2) j1 hf.dst, ?_⟩
              · rw [Array.getD_eq_getD_getElem?]
                by_cases e : p.1 = j
                · subst e
                  have : p.1 < l.size := by rw [i1]; exact hin
                  rw [bitP]; simp [this]
                · rw [Array.getElem?_setIfInBounds_ne e, bitN j e, ← i2 j hj, Array.getD_eq_getD_getElem?]
              · by_cases e : p.1 = j
                · rw [← e]; exact hin
                · rw [bitN j e] at hj; exact i3 j hj
              · by_cases e : p.1 = q.1
                · have := uniq p hp q hq e
                  subst this
                  have h1 := hM j hj
                  by_cases e2 : p.1 = j
                  · rw [← e2]; exact bitP
                  · rw [bitN j e2]; exact h1
                · rw [bitN _ e] at hbq
                  have h1 := i4 q hq hbq j hj
                  by_cases e2 : p.1 = j
                  · rw [← e2]; exact bitP
                  · rw [bitN j e2]; exact h1
              · by_cases e : p.1 = q.1
                · rw [← e, bitP] at hbq; cases hbq
                · rw [bitN _ e] at hbq; exact j6 q hq e hbq
              · have := tv_put PGx.toPF hnt i10 hp ho hf.dst hnl (D.V p.1) s hs
                rw [this]
                exact tv_congr fun j _ => by
                  by_cases e : j = p.1
                  · rw [e]; exact upd_same _ _ _
                  · exact upd_ne _ _ e
              · cases hdd : o.dst <;> simp [Act.put, i12]
            have alF : ∀ q ∈ pl.al, q ∈ pl.inf ∧ heavyAt ops q.1 = false := fun q hq => by
              obtain ⟨h1, h2⟩ := (PGx.al q).1 hq
              refine ⟨h1, ?_⟩
              unfold alAt at h2
              unfold heavyAt
              cases hoq : ops[q.1]? with
              | none => rfl
              | some oq => rw [hoq] at h2; simp only [Bool.and_eq_true, Bool.not_eq_true'] at h2; exact h2.1
            have freeF : ∀ q ∈ pl.al, (D.EN q.1).isSome = true → ∀ k0, k0 ≤ q.2.kx → hget (D.S k0) (nx + q.2.rk) = none := fun q hq hen k0 hk0 => by
              obtain ⟨oq, hoq, hfq⟩ := fact q (alF q hq).1
              have hhv : isHeavy oq.op = false := by have := (alF q hq).2; unfold heavyAt at this; rw [hoq] at this; exact this
              exact (hfq.free hhv (fun e => by rw [e] at hen; cases hen)).2 k0 hk0
            have same1 : ∀ q r, q ∈ pl.al → r ∈ pl.al → nx + q.2.rk = nx + r.2.rk → q = r := fun q r hq hr2 e => by
              have : q.1 = r.1 := by
                rcases Nat.decEq q.1 r.1 with e2 | e2
                · have := hinj q hq r hr2 e2; omega
                · exact e2
              exact uniq q (alF q hq).1 r (alF r hr2).1 this
            unfold wpOp
            rw [ho]
            simp only [want_ok i11 hw]
            cases hhv : isHeavy o.op with
            | true =>
              have hph : heavyAt ops p.1 = true := by unfold heavyAt; rw [ho]; exact hhv
              have hkx : p.2.kx = k := by
                have h1 : ¬ p.2.kx < k := fun e => by have := (i6 p hp hph).2 e; rw [hnl] at this; cases this
                rcases Nat.lt_or_ge k p.2.kx with h2 | h2
                · have hlt := (PGx.hv p hp hph).1
                  obtain ⟨q, hq, hqh, hqk⟩ := PGx.st k (by omega)
                  have h3 := (((PGx.hv p hp hph).2 q hq).1 hqh).2 (by omega)
                  have := (i6 q hq hqh).1 (hM _ h3)
                  omega
                · omega
              have hks : k < pl.hs := by rw [← hkx]; exact (PGx.hv p hp hph).1
              have hheavy : ∀ q ∈ pl.inf, heavyAt ops q.1 = true → (Nat.testBit (Nat.lor lm (2 ^ p.1)) q.1 = true ↔ q.2.kx < k + 1) := fun q hq hqh => by
                by_cases e : p.1 = q.1
                · have := uniq p hp q hq e
                  subst this
                  rw [bitP]; simp [hkx]
                · rw [bitN _ e, i6 q hq hqh]
                  have := (((PGx.hv p hp hph).2 q hq).1 hqh).1 e
                  omega
              let x := xg pl.al nx lm (k + 1) D.EN
              let g := insG nx p.2.m k D.EN pl.al (D.S k)
              have gE : hget g = ov (xg pl.al nx p.2.m k D.EN) (hget (D.S k)) := insG_get hid
              have inM : ∀ q ∈ pl.al, (Nat.testBit p.2.m q.1 = true ↔ q.2.kx ≤ k) := fun q hq => by
                have := ((PGx.hv p hp hph).2 q (alF q hq).1).2 (alF q hq).2
                rw [hkx] at this; exact this
              have claim1 : st lm k = ov x (hget g) := by
                rw [stE, gE]
                funext id
                by_cases hex : ∃ q, Cx pl.al nx D.EN lm k id q
                · obtain ⟨q, hq⟩ := hex
                  have e1 := xg_of hinj hq
                  obtain ⟨e0, he0⟩ := Option.isSome_iff_exists.1 hq.2.2.2.1
                  rw [ov_x (e1.trans he0)]
                  by_cases hkq : k + 1 ≤ q.2.kx
                  · have : x id = D.EN q.1 := xg_of hinj ⟨hq.1, hq.2.1, hkq, hq.2.2.2⟩
                    rw [ov_x (this.trans he0)]
                  · have hx0 : x id = none := xg_none fun r hr2 => by
                      have := same1 r q hr2.1 hq.1 (by rw [hr2.2.2.2.2, hq.2.2.2.2])
                      subst this
                      exact hkq hr2.2.2.1
                    rw [ov_g hx0]
                    have := hq.2.2.1
                    have : xg pl.al nx p.2.m k D.EN id = D.EN q.1 := xg_of hinj ⟨hq.1, (inM q hq.1).2 (by omega), hq.2.2⟩
                    rw [ov_x (this.trans he0)]
                · have e1 : xg pl.al nx lm k D.EN id = none := xg_none fun q hq => hex ⟨q, hq⟩
                  have e2 : x id = none := xg_none fun q hq => hex ⟨q, hq.1, hq.2.1, by have := hq.2.2.1; omega, hq.2.2.2⟩
                  have e3 : xg pl.al nx p.2.m k D.EN id = none := xg_none fun q hq => hex ⟨q, hq.1, hM _ hq.2.1, hq.2.2⟩
                  rw [ov_g e1, ov_g e2, ov_g e3]
              have claim2 : ∀ s : Hp, hget (insG nx (Nat.lor lm (2 ^ p.1)) (k + 1) D.EN pl.al s) = ov x (hget s) := fun s => by
                rw [insG_get hid]
                have : xg pl.al nx (Nat.lor lm (2 ^ p.1)) (k + 1) D.EN = x := xg_congr hinj fun id q => by
                  have hne : q ∈ pl.al → p.1 ≠ q.1 := fun hq e => by have := (alF q hq).2; rw [← e, hph] at this; cases this
                  unfold Cx
                  constructor
                  · rintro ⟨h1, h2, h3⟩; exact ⟨h1, by rw [← bitN _ (hne h1)]; exact h2, h3⟩
                  · rintro ⟨h1, h2, h3⟩; exact ⟨h1, by rw [bitN _ (hne h1)]; exact h2, h3⟩
                rw [this]
              have hdis : ∀ id e, hget g id = some e → x id = none := fun id e hge => by
                cases hx : x id with
                | none => rfl
                | some e0 =>
                  exfalso
                  obtain ⟨q, hq, he0⟩ := xg_some hx
                  have hfr1 := freeF q hq.1 hq.2.2.2.1 k (by have := hq.2.2.1; omega)
                  rw [hq.2.2.2.2] at hfr1
                  rw [gE, ov_g (xg_none fun r hr2 => ?_)] at hge
                  · rw [hfr1] at hge; cases hge
                  · have := same1 r q hr2.1 hq.1 (by rw [hr2.2.2.2.2, hq.2.2.2.2])
                    subst this
                    have := (inM r hr2.1).1 hr2.2.1
                    have := hq.2.2.1
                    omega
              have i7' := i7
              rw [claim1] at i7'
              have hAk := hAnx i5
              have hAk1 : D.A (k + 1) ≤ D.A pl.hs := Ale' (by omega) (Nat.le_refl _)
              cases b with
              | false =>
                simp only [Bool.false_eq_true, if_false]
                obtain ⟨y1, y2, y3⟩ := hb2 hhv rfl
                rw [hkx] at y2 y3
                refine mk undef w1 E1 (k + 1) (by rw [y1]; exact rn_undef E1) (Le.refl E1) (by omega) hheavy ?_ (fun q hq _ hbq => i8 q hq hbq) (fun j h1 h2 => i9 j (by omega) h2)
                have : st (Nat.lor lm (2 ^ p.1)) (k + 1) = ov x (hget g) := by
                  show hget (insG nx _ (k + 1) D.EN pl.al (D.S (k + 1))) = _
                  rw [y2]; exact claim2 g
                rw [this]; exact i7'
              | true =>
                simp only [if_true]
                have hev := hh hhv rfl
                rw [hkx] at hev
                have hsg : Sat E1 (hget g) w1 := (Post.drop (nx := 0) i7'.sat fun j e hj => by rw [ov_g (hdis j e hj)]; exact hj).sat
                refine .inl (hv_ok hec hsg i11 (hg.up i7.le) (fun j h1 h2 => i9 j h1 (by omega)) hev fun v' w' E2 r1 r2 => ?_)
                have r3 := Post.frame i7'.sat hdis r2
                refine mk v' w' E2 (k + 1) r1 r2.le (by omega) hheavy ?_ (fun q hq _ hbq => ?_) (fun j h1 h2 => ?_)
                · have : st (Nat.lor lm (2 ^ p.1)) (k + 1) = ov x (hget (D.S (k + 1))) := claim2 (D.S (k + 1))
                  rw [this]
                  exact i7'.then r3 (by omega) hAk1
                · rcases Option.eq_none_or_eq_some (E2.pl (nx + q.2.rk)) with hq2 | ⟨pp, hq2⟩
                  · exact hq2
                  · rcases r2.dom _ (by rw [hq2]; simp) with u | ⟨u1, _⟩
                    · exact (u (i8 q hq hbq)).elim
                    · have := (PGx.rk q hq).1; omega
                · rcases Option.eq_none_or_eq_some (E2.pl j) with hq2 | ⟨pp, hq2⟩
                  · exact hq2
                  · rcases r2.dom _ (by rw [hq2]; simp) with u | ⟨_, u2⟩
                    · exact (u (i9 j (by have := Amono k hks; omega) h2)).elim
                    · omega
            | false =>
              have hpf : heavyAt ops p.1 = false := by unfold heavyAt; rw [ho]; exact hhv
              have hkx : k ≤ p.2.kx := by
                rcases Nat.lt_or_ge p.2.kx k with h1 | h1
                · obtain ⟨q, hq, hqh, hqk⟩ := PGx.st p.2.kx (by omega)
                  have h2 := (((PGx.hv q hq hqh).2 p hp).2 hpf).2 (by omega)
                  have h3 := i4 q hq ((i6 q hq hqh).2 (by omega)) _ h2
                  rw [hnl] at h3; cases h3
                · exact h1
              have hkn : p.2.kn ≤ k := by
                rcases (PGx.fl p hp hpf).2 with h1 | ⟨q, hq, hqh, hqk, hqb⟩
                · omega
                · have := (i6 q hq hqh).1 (hM _ hqb); omega
              have hheavy : ∀ q ∈ pl.inf, heavyAt ops q.1 = true → (Nat.testBit (Nat.lor lm (2 ^ p.1)) q.1 = true ↔ q.2.kx < k) := fun q hq hqh => by
                have hne : p.1 ≠ q.1 := fun e => by rw [e, hqh] at hpf; cases hpf
                rw [bitN _ hne]; exact i6 q hq hqh
              have stay : D.EN p.1 = none → st (Nat.lor lm (2 ^ p.1)) k = st lm k := fun hen => by
                rw [stE, stE, xg_congr hinj fun id q => ?_]
                have hne : (D.EN q.1).isSome = true → p.1 ≠ q.1 := fun h1 e => by rw [← e, hen] at h1; cases h1
                unfold Cx
                constructor
                · rintro ⟨h1, h2, h3, h4, h5⟩; exact ⟨h1, by rw [← bitN _ (hne h4)]; exact h2, h3, h4, h5⟩
                · rintro ⟨h1, h2, h3, h4, h5⟩; exact ⟨h1, by rw [bitN _ (hne h4)]; exact h2, h3, h4, h5⟩
              cases b with
              | false =>
                simp only [Bool.false_eq_true, if_false]
                obtain ⟨y1, y2⟩ := hb3 hhv rfl
                refine mk undef w1 E1 k (by rw [y1]; exact rn_undef E1) (Le.refl E1) i5 hheavy ?_ (fun q hq _ hbq => i8 q hq hbq) i9
                rw [stay y2]; exact i7
              | true =>
                simp only [if_true]
                have hev := hfl hhv rfl k hkn hkx
                let g := insG nx p.2.m k D.EN pl.al (D.S k)
                have gE : hget g = ov (xg pl.al nx p.2.m k D.EN) (hget (D.S k)) := insG_get hid
                have hsg : Sat E1 (hget g) w1 := (Post.drop (nx := 0) i7.sat fun j e hj => by
                  rw [gE] at hj
                  rw [stE]
                  cases hx : xg pl.al nx p.2.m k D.EN j with
                  | some e0 =>
                    rw [ov_x hx] at hj; cases hj
                    obtain ⟨q, hq, he0⟩ := xg_some hx
                    exact ov_x ((xg_of hinj ⟨hq.1, hM _ hq.2.1, hq.2.2⟩).trans he0)
                  | none =>
                    rw [ov_g hx] at hj
                    rw [ov_g (xg_none fun q hq => ?_)]
                    · exact hj
                    · have := freeF q hq.1 hq.2.2.2.1 k hq.2.2.1
                      rw [hq.2.2.2.2, hj] at this; cases this).sat
                have alP : (D.EN p.1).isSome = true → p ∈ pl.al := fun hen => by
                  have := (hf.free hhv (fun e => by rw [e] at hen; cases hen)).1
                  refine (PGx.al p).2 ⟨hp, ?_⟩
                  unfold alAt; rw [ho]; simp [hhv, this]
                obtain ⟨m, hm1, hm2⟩ := fl_ok (a := a1) (fun hen => i8 p (alP hen) hnl) hsg i11 (hg.up i7.le) hev
                refine .inl ?_
                unfold Oper.wp
                rw [hm1]
                cases hen : D.EN p.1 with
                | none =>
                  rw [hen] at hm2
                  obtain ⟨v', r1, r2⟩ := hm2
                  rw [r1]
                  show I _ _ _
                  refine mk v' w1 E1 k r2 (Le.refl _) i5 hheavy ?_ (fun q hq _ hbq => i8 q hq hbq) i9
                  rw [stay hen]; exact i7
                | some e =>
                  rw [hen] at hm2
                  obtain ⟨v', w', pp, r1, r3, r2, r5, r6⟩ := hm2
                  rw [r1]
                  show I _ _ _
                  have hpal := alP (by rw [hen]; rfl)
                  have hrk := (PGx.rk p hpal).1
                  have hfresh := i8 p hpal hnl
                  have hAk := hAnx i5
                  have hAh := Ale' i5 (Nat.le_refl pl.hs)
                  have hadd := Post.add i7.sat hfresh r3 r5 r6
                  have hst2 : st (Nat.lor lm (2 ^ p.1)) k = fun id => if nx + p.2.rk = id then some e else st lm k id := by
                    rw [stE, stE]
                    funext id
                    by_cases e2 : nx + p.2.rk = id
                    · rw [if_pos e2]
                      exact ov_x ((xg_of hinj ⟨hpal, bitP, hkx, by rw [hen]; rfl, e2⟩).trans hen)
                    · rw [if_neg e2]
                      have hne : ∀ q, nx + q.2.rk = id → p.1 ≠ q.1 ∨ q ∉ pl.al := fun q hq => by
                        by_cases hqa : q ∈ pl.al
                        · refine .inl fun e3 => e2 ?_
                          rw [uniq p hp q (alF q hqa).1 e3]; exact hq
                        · exact .inr hqa
                      have hsame : xg pl.al nx (Nat.lor lm (2 ^ p.1)) k D.EN id = xg pl.al nx lm k D.EN id := by
                        by_cases hex : ∃ q, Cx pl.al nx D.EN lm k id q
                        · obtain ⟨q, hq⟩ := hex
                          have hq2 : Cx pl.al nx D.EN (Nat.lor lm (2 ^ p.1)) k id q := ⟨hq.1, by rw [bitN _ ((hne q hq.2.2.2.2).resolve_right (fun h => h hq.1))]; exact hq.2.1, hq.2.2⟩
                          rw [xg_of hinj hq, xg_of hinj hq2]
                        · rw [xg_none fun q hq => hex ⟨q, hq⟩, xg_none fun q hq => hex ⟨q, hq.1, by rw [← bitN _ ((hne q hq.2.2.2.2).resolve_right (fun h => h hq.1))]; exact hq.2.1, hq.2.2⟩]
                      unfold ov
                      rw [hsame]
                  refine mk v' w' _ k r2 hadd.le i5 hheavy ?_ (fun q hq hne hbq => ?_) (fun j h1 h2 => ?_)
                  · rw [hst2]
                    exact i7.then hadd (by omega) (by omega)
                  · have h1 := i8 q hq hbq
                    have h2 := hinj p hpal q hq hne
                    show (if nx + q.2.rk = nx + p.2.rk then _ else E1.pl (nx + q.2.rk)) = none
                    rw [if_neg (by omega)]; exact h1
                  · show (if j = nx + p.2.rk then _ else E1.pl j) = none
                    rw [if_neg (by omega)]; exact i9 j h1 h2
          · -- the end
            obtain ⟨lm, k, E1, t1, i1, i2, i3, i4, i5, i6, i7, i8, i9, i10, i11, i12⟩ := hI
            have all : ∀ j, j < ops.size → Nat.testBit lm j = true := by
              intro j
              induction j using Nat.strongRecOn with
              | _ j ih =>
                intro hj
                cases hb : Nat.testBit lm j
                · exfalso
                  have : j ∈ Region.ready .any ops l := by
                    unfold Region.ready
                    rw [List.mem_filter]
                    refine ⟨List.mem_range.2 hj, ?_⟩
                    obtain ⟨p, hp, rfl⟩ := PGx.mem hj
                    obtain ⟨o, ho, _⟩ := fact p hp
                    rw [i2 _ hj, hb, ho]
                    simp only [Bool.not_false, Bool.true_and, Option.map_some, Option.getD_some]
                    rw [← Array.all_toList, List.all_eq_true]
                    intro e hem
                    cases hbd : Region.binds .any e
                    · rfl
                    · have hlt := PGx.edge p hp o ho e hem hbd
                      have h1 := ih e.on hlt (by omega)
                      have h2 := i2 e.on (by omega)
                      rw [h1] at h2
                      have hls : e.on < l.size := by rw [i1]; omega
                      rw [Array.getD_eq_getD_getElem?] at h2 ⊢
                      simp [hls] at h2 ⊢
                      exact h2
                  rw [hr] at this; cases this
                · rfl
            have hkk : k = pl.hs := by
              rcases Nat.lt_or_ge k pl.hs with hlt | hge
              · obtain ⟨q, hq, hqh, hqk⟩ := PGx.st k hlt
                have := (i6 q hq hqh).1 (all q.1 (PGx.lt hq))
                omega
              · omega
            subst hkk
            have hst : st lm pl.hs = hget (insG nx (2 ^ ops.size - 1) pl.hs D.EN pl.al (D.S pl.hs)) := by
              rw [stE, insG_get hid, xg_congr hinj (m' := 2 ^ ops.size - 1) (k' := pl.hs) fun id p => ?_]
              have : p ∈ pl.al → (Nat.testBit lm p.1 = true ↔ Nat.testBit (2 ^ ops.size - 1) p.1 = true) := fun hp => by
                have hlt := PGx.lt ((PGx.al p).1 hp).1
                rw [Nat.testBit_two_pow_sub_one]
                simp [all p.1 hlt, hlt]
              unfold Cx
              constructor
              · rintro ⟨h1, h2, h3⟩; exact ⟨h1, (this h1).1 h2, h3⟩
              · rintro ⟨h1, h2, h3⟩; exact ⟨h1, (this h1).2 h2, h3⟩
            refine hQ E1 a1 w1 ⟨i11.size, i11.max, fun s hs => ?_⟩ i12 ?_
            · have e1 := i11.val s hs
              rw [i10 s hs] at e1
              rw [x2 s hs]
              have : tv ops t D.V D.pm s = tv ops t D.V lm s := by
                unfold tv
                congr 2
                funext j
                cases hj : dstIs ops j s
                · simp
                · have := dstIs_lt hj
                  rw [hpm, Nat.testBit_two_pow_sub_one, all j this]
                  simp [this]
              rw [this]; exact e1
            · rw [← hst]
              exact ⟨i7.le, i7.oq, i7.sat, ⟨i7.frm.os, i7.frm.tape, i7.frm.output, i7.frm.size, i7.frm.block⟩, i7.mono, i7.dom, i7.src⟩
          · refine ⟨0, 0, E, t, by simp, fun j hj => by simp [Array.getD, hj], fun j hj => by simp at hj, fun p _ hb => by simp at hb, Nat.zero_le _, fun p _ _ => by simp, ?_, fun p hp _ => ?_, fun i h1 h2 => hfr i (by rw [hA0] at h1; omega) h2, fun s _ => tv_zero.symm, ht, hd⟩
            · have : st 0 0 = hget h := by
                rw [stE, hS0]
                funext id
                rw [ov_g]
                exact xg_none fun p hp => by have := hp.2.1; simp at this
              rw [this]
              refine ⟨Le.refl E, rfl, ⟨fun i e hi => ?_, hs.sep⟩, ⟨rfl, rfl, rfl, Nat.le_refl _, fun _ _ _ => rfl⟩, by have := hAnx (Nat.le_refl pl.hs); omega, fun _ h => .inl h, fun i e p h1 h2 h3 => .inr ⟨i, e, p, h1, h2, fun o => o, h3, rfl⟩⟩
              obtain ⟨p, hp, ok⟩ := hs.ent i e hi
              exact ⟨p, hp, ok.ext rfl⟩
            · have := (PGx.rk p hp).1
              have := hAnx (Nat.le_refl pl.hs)
              exact hfr _ (by omega) (by omega)
          · exact Nat.le_trans (List.length_filter_le _ _) (by simp)
        · cases he

def noO : Caller := fun _ _ _ _ => none
theorem noO_ok (P : Program) : CallOK P noO := fun f args h nx v h' nx' he => by cases he
theorem noO_mono : CallMono noO := fun f args h nx v h' nx' he => by cases he
/-- What is reckoned of a call holds in every memory that reads so. -/
theorem calls_ok {P : Program} {O : Caller} (hO : CallOK P O) (hOm : CallMono O) (hmix : P.follows .mixedOrders = true) (n : Nat) : CallOK P (evF P O n) := (f_ok hO hOm (fun ec h1 h2 => draw_ok hmix ec h1 h2) n).1
end Go.Sy
