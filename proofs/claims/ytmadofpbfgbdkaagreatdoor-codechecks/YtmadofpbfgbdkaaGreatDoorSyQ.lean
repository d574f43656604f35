/- A symbolic run of a program: calls that were reckoned by themselves hold where they come up. -/
import Derived.Test.YtmadofpbfgbdkaaGreatDoorSyC
namespace Go.Sy

theorem mapO_get {f : Value → Option Value} : ∀ {l m : List Value}, mapO f l = some m → m.length = l.length ∧ ∀ (i : Nat) u, m[i]? = some u → ∃ v, l[i]? = some v ∧ f v = some u
  | [], m, h => by simp only [mapO, Option.some.injEq] at h; subst h; exact ⟨rfl, fun i u hu => by simp at hu⟩
  | v :: l, m, h => by
    simp only [mapO] at h
    split at h
    · cases h
    · rename_i u hu
      split at h
      · cases h
      · rename_i m0 hm
        simp only [Option.some.injEq] at h; subst h
        obtain ⟨a, b⟩ := mapO_get hm
        refine ⟨by simp [a], fun i x hx => ?_⟩
        cases i with
        | zero => simp at hx; subst hx; exact ⟨v, rfl, hu⟩
        | succ i => simpa using b i x (by simpa using hx)

theorem shB_ge {k i : Nat} (h : 64 ≤ i) : shB k i = i + k := by
  unfold shB
  cases hb : Nat.blt i 64
  · rfl
  · have := blt_iff.1 hb; omega
theorem shB_lt {k i : Nat} (h : i < 64) : shB k i = i := by unfold shB; rw [blt_iff.2 h]

theorem orc_ok {P : Program} {gs : List (Nat × Ent)} {tbl : List Orc} (hgs : gOk gs = true) (ht : ∀ o ∈ tbl, OrcOK P gs o) : CallOK P (orcC gs tbl) := by
  intro f args h nx v h' nx' he E w args' hs hge hfr hr
  unfold orcC at he
  split at he
  · cases he
  · rename_i o ho
    split at he
    · cases he
    · rename_i hc
      split at he
      · rename_i v0 h0 hv0 hh0
        rw [fnat_eq] at he
        simp only [Option.some.injEq, Prod.mk.injEq] at he
        obtain ⟨rfl, rfl, rfl⟩ := he
        simp only [Bool.and_eq_true] at hc
        have h64 := Nat.le_of_ble_eq_true hc.1
        have hG := hasG_ok hc.2
        have hom := List.mem_of_find?_eq_some ho
        have hoe := List.find?_some ho
        simp only [Bool.and_eq_true] at hoe
        have ef := Nat.eq_of_beq_eq_true hoe.1
        have ea := listEq_ok (veqN_ok 4) _ _ hoe.2
        subst ef; subst ea
        have OK := ht o hom
        have hargs : args' = o.args := rns_eq_of (fun v hv v' hr' => flat_eq 4 v v' (List.all_eq_true.1 OK.args v hv) hr') hr
        subst hargs
        -- the variables alone
        let E0 : Env := ⟨fun i => if i < 64 then E.pl i else none, E.oq⟩
        have hE0 : ∀ {i p}, E0.pl i = some p → i < 64 ∧ p = (i, 0, 0) := fun {i p} hi => by
          have : (if i < 64 then E.pl i else none) = some p := hi
          split at this
          · rename_i hlt; rw [hge i hlt] at this; exact ⟨hlt, (Option.some.inj this).symm⟩
          · cases this
        have hge0 : GE E0 := fun g hg => by show (if g < 64 then E.pl g else none) = _; rw [if_pos hg]; exact hge g hg
        have hs0 : Sat E0 (hget (gHp gs)) w := by
          refine ⟨fun i e hi => ?_, fun i j e f p q hi _ _ ho => ?_⟩
          · obtain ⟨a1, a2, a3, a4⟩ := gHp_get hgs hi
            have hh := hG _ a1
            obtain ⟨p, hp, ok⟩ := hs.ent i e hh
            refine ⟨p, by show (if i < 64 then E.pl i else none) = _; rw [if_pos a2]; exact hp, .cells (by rw [a3]; decide) (by rw [a3]; decide) (fun h => ok.spare h (by rw [a3]; decide)) ?_⟩
            obtain ⟨c, el, fr, b1, b2, b3⟩ := ok.obj (by rw [a3]; decide) (by rw [a3]; decide)
            refine ⟨c, el, fr, b1, fun j u hu => ?_, b3⟩
            obtain ⟨u', c1, c2, c3⟩ := b2 j u hu
            have hfl := List.all_eq_true.1 a4 u (List.mem_of_getElem? hu)
            rw [flat_eq 4 u u' hfl c2] at c1 c3
            exact ⟨u, c1, flat_rn 4 u hfl, c3⟩
          · obtain ⟨_, _, a3, _⟩ := gHp_get hgs hi
            exact (own_n0 ho a3).elim
        have hfr0 : ∀ i, 64 ≤ i → i < 64 + o.n → E0.pl i = none := fun i h1 _ => by show (if i < 64 then E.pl i else none) = none; rw [if_neg (by omega)]
        refine (OK.call E0 w hs0 hge0 hfr0).mono ?_
        rintro e w' ⟨v', E', h1, rfl, hrn, hes, hp⟩
        -- the names moved on
        let E2 : Env := ⟨fun i => if nx ≤ i ∧ i < nx + o.n then E'.pl (i - nx + 64) else E.pl i, E.oq⟩
        have hpl : ∀ {i}, ¬ (nx ≤ i ∧ i < nx + o.n) → E2.pl i = E.pl i := fun hi => if_neg hi
        have hpn : ∀ {i}, nx ≤ i → i < nx + o.n → E2.pl i = E'.pl (i - nx + 64) := fun h1 h2 => if_pos ⟨h1, h2⟩
        have hle : Le E E2 := ⟨fun i p hi => by
          rw [hpl fun hb => by rw [hfr i hb.1 hb.2] at hi; cases hi]; exact hi, fun _ _ h => h⟩
        have hmap : ∀ i p, E'.pl i = some p → E2.pl (shB (nx - 64) i) = some p := fun i p hi => by
          rcases hp.dom i (by rw [hi]; simp) with a | ⟨a1, a2⟩
          · rcases Option.eq_none_or_eq_some (E0.pl i) with b | ⟨q, b⟩
            · exact (a b).elim
            · obtain ⟨hlt, rfl⟩ := hE0 b
              have := hp.le.pl i _ b
              rw [hi] at this; cases this
              rw [shB_lt hlt, hpl (by omega)]
              exact hge i hlt
          · rw [shB_ge a1, hpn (by omega) (by omega), show i + (nx - 64) - nx + 64 = i by omega]; exact hi
        have hoq : E2.oq = E'.oq := hp.oq.symm
        have hold : ∀ k, k < w.heap.size → w'.heap[k]? = w.heap[k]? := fun k hk => hp.frm.block k hk fun i e p hi ho _ => by
          obtain ⟨_, _, a3, _⟩ := gHp_get hgs hi
          exact (own_n0 ho a3).elim
        -- an entry that came by the call
        have new : ∀ {i e}, (∃ p ∈ o.es, p.1 + (nx - 64) = i ∧ e.kd = p.2.kd ∧ e.sz = p.2.sz ∧ mapO (shV 3 (nx - 64)) p.2.cs = some e.cs) → ∃ j q f, nx ≤ i ∧ i < nx + o.n ∧ j + (nx - 64) = i ∧ h1 j = some f ∧ E'.pl j = some q ∧ E2.pl i = some q ∧ EntOK E2 e q w' ∧ e.kd = f.kd ∧ ((f.kd = 1 ∨ f.kd = 2) ∨ f.kd = 3) ∧ (e.kd ≠ 3 → w.heap.size ≤ q.1) := by
          rintro i e ⟨p, hpm, rfl, ek, es, ec⟩
          obtain ⟨b1, b2, b3⟩ := OK.es p hpm
          have hh := hes p hpm
          obtain ⟨q, hq, ok⟩ := hp.sat.ent p.1 p.2 hh
          have h2 := hmap p.1 q hq
          rw [shB_ge b1] at h2
          refine ⟨p.1, q, p.2, by omega, by omega, rfl, hh, hq, h2, ⟨fun hk hk4 => ?_, fun a b => ok.spare (by rw [← ek]; exact a) (by rw [← ek]; exact b), fun hk => ?_, fun hk => ?_⟩, ek, b3, fun hk => ?_⟩
          · obtain ⟨c, el, fr, c1, c2, c3, c4⟩ := ok.obj (by rw [← ek]; exact hk) (by rw [← ek]; exact hk4)
            obtain ⟨ml, mg⟩ := mapO_get ec
            refine ⟨c, el, fr, c1, fun j u hu => ?_, fun ho => c3 (by unfold own at ho ⊢; rw [← ek]; exact ho), fun hk2 => by rw [ml, es]; exact c4 (by rw [← ek]; exact hk2)⟩
            obtain ⟨u0, d1, d2⟩ := mg j u hu
            obtain ⟨u', d3, d4, d5⟩ := c2 j u0 d1
            exact ⟨u', d3, shV_rn hmap hoq 3 u0 u u' d2 d4, d5⟩
          · have := ok.empty (by rw [← ek]; exact hk)
            rw [this] at ec; simp only [mapO, Option.some.injEq] at ec; exact ec.symm
          · rw [ek] at hk; rw [hk] at b3; rcases b3 with (b | b) | b <;> cases b
          · rcases hp.src p.1 p.2 q hh (by rw [← ek]; exact hk) hq with a | ⟨j, f, r, d1, d2, d3, d4, d5⟩
            · exact a
            · obtain ⟨_, _, a3, _⟩ := gHp_get hgs d1
              have : own p.2 := by rcases b3.resolve_right (by rw [← ek]; exact hk) with b | b; exact .inl b; exact .inr (.inl b)
              exact (own_n0 (d3 this) a3).elim
        have old : ∀ {i e}, hget h i = some e → ∃ p, E.pl i = some p ∧ E2.pl i = some p ∧ EntOK E2 e p w' ∧ (e.kd ≠ 3 → p.1 < w.heap.size) := fun {i e} hi => by
          obtain ⟨p, hp1, ok⟩ := hs.ent i e hi
          refine ⟨p, hp1, hle.pl i p hp1, ?_, fun hk => ok.lt hk⟩
          by_cases h3 : e.kd = 3
          · exact ok.gone h3
          · exact (ok.up hle).ext (hold _ (ok.lt h3))
        refine ⟨v', E2, rfl, shV_rn hmap hoq 4 _ _ _ hv0 hrn, ⟨hle, rfl, ⟨fun i e hi => ?_, fun i j e f p q hi hj hij ho hk hp1 hq1 => ?_⟩, ⟨hp.frm.os, hp.frm.tape, hp.frm.output, hp.frm.size, fun k hk _ => hold k hk⟩, by omega, fun i hi => ?_, fun i e p hi hk hp1 => ?_⟩⟩
        · rcases insS_get hh0 i e hi with a | a
          · obtain ⟨j, q, f, _, _, _, _, _, b, c, _⟩ := new a
            exact ⟨q, b, c⟩
          · obtain ⟨p, _, b, c, _⟩ := old a
            exact ⟨p, b, c⟩
        · rcases insS_get hh0 i e hi with a | a
          · obtain ⟨j1, q1, f1, n1, n2, n3, n4, n5, n6, n7, n8, n9, n10⟩ := new a
            rw [n6] at hp1; cases hp1
            rcases insS_get hh0 j f hj with b | b
            · obtain ⟨j2, q2, f2, m1, m2, m3, m4, m5, m6, m7, m8, m9, m10⟩ := new b
              rw [m6] at hq1; cases hq1
              exact hp.sat.sep j1 j2 f1 f2 p q n4 m4 (by omega) (by unfold own at ho ⊢; rw [← n8]; exact ho) (by rw [← m8]; exact hk) n5 m5
            · obtain ⟨p2, m1, m2, m3, m4⟩ := old b
              rw [m2] at hq1; cases hq1
              have := m4 hk
              have := n10 (own_ne ho)
              omega
          · obtain ⟨p2, m1, m2, m3, m4⟩ := old a
            rw [m2] at hp1; cases hp1
            rcases insS_get hh0 j f hj with b | b
            · obtain ⟨j1, q1, f1, n1, n2, n3, n4, n5, n6, n7, n8, n9, n10⟩ := new b
              rw [n6] at hq1; cases hq1
              have := m4 (own_ne ho)
              have := n10 hk
              omega
            · obtain ⟨p3, k1, k2, k3, k4⟩ := old b
              rw [k2] at hq1; cases hq1
              exact hs.sep i j e f p q a b hij ho hk m1 k1
        · by_cases hb : nx ≤ i ∧ i < nx + o.n
          · exact .inr hb
          · rw [hpl hb] at hi; exact .inl hi
        · rcases insS_get hh0 i e hi with a | a
          · obtain ⟨j1, q1, f1, n1, n2, n3, n4, n5, n6, n7, n8, n9, n10⟩ := new a
            rw [n6] at hp1; cases hp1
            exact .inl (n10 hk)
          · obtain ⟨p2, m1, m2, m3, m4⟩ := old a
            rw [m2] at hp1; cases hp1
            exact .inr ⟨i, e, p, a, hk, id, m1, rfl⟩
      · cases he

theorem orc_mono {gs : List (Nat × Ent)} {tbl : List Orc} : CallMono (orcC gs tbl) := by
  intro f args h nx v h' nx' he
  unfold orcC at he
  repeat' split at he
  all_goals first
    | cases he; done
    | (rw [fnat_eq] at he; simp only [Option.some.injEq, Prod.mk.injEq] at he; omega)

/-- A call that was reckoned by itself. -/
theorem orc_of {P : Program} {O : Caller} (hO : CallOK P O) (hOm : CallMono O) (hmix : P.follows .mixedOrders = true) {gs : List (Nat × Ent)} {o : Orc} {n : Nat} (ha : o.args.all (flatN 4) = true)
    (h : (match evF P O n o.f o.args (gHp gs) 64 with
      | some (v, h', nx') => veqN 4 o.v v && Nat.beq nx' (64 + o.n) && allP (fun p => Nat.ble 64 p.1 && Nat.blt p.1 (64 + o.n) && (Nat.beq p.2.kd 1 || Nat.beq p.2.kd 2 || Nat.beq p.2.kd 3) && entEq (hget h' p.1) (some p.2)) o.es
      | none => false) = true) : OrcOK P gs o := by
  split at h
  · rename_i v h' nx' he
    simp only [Bool.and_eq_true] at h
    obtain ⟨⟨h1, h2⟩, h3⟩ := h
    have e1 := veqN_ok 4 _ _ h1
    have e2 := Nat.eq_of_beq_eq_true h2
    have h3' := fun p hp => by
      have := allP_iff.1 h3 p hp
      simp only [Bool.and_eq_true, Bool.or_eq_true] at this
      exact this
    subst e1; subst e2
    refine ⟨ha, fun p hp => ?_, fun E w hs hg hfr => ?_⟩
    · obtain ⟨⟨⟨a, b⟩, c⟩, d⟩ := h3' p hp
      refine ⟨Nat.le_of_ble_eq_true a, blt_iff.1 b, ?_⟩
      rcases c with (c | c) | c
      · exact .inl (.inl (Nat.eq_of_beq_eq_true c))
      · exact .inl (.inr (Nat.eq_of_beq_eq_true c))
      · exact .inr (Nat.eq_of_beq_eq_true c)
    · have hr : Rns E o.args o.args := rns_refl_of fun v hv => flat_rn 4 v (List.all_eq_true.1 ha v hv)
      refine ((calls_ok hO hOm hmix n) _ _ _ _ _ _ _ he E w o.args hs hg hfr hr).mono ?_
      rintro e w' ⟨v', E', rfl, a, b⟩
      exact ⟨v', E', hget h', rfl, a, fun p hp => entEq_ok (h3' p hp).2, b⟩
  · cases h
end Go.Sy
