/- A symbolic run of a program: rows of operations, code, functions. -/
import Derived.Test.YtfjpdflilmcnhaaDoorSyK
import Derived.LoopN
import Derived.Scope
namespace Go.Sy

def CallMono (ec : Caller) : Prop := ∀ f args h nx v h' nx', ec f args h nx = some (v, h', nx') → nx ≤ nx'

theorem grown_mono {h : Hp} {nx sz n : Nat} {cs : List Value} {v : Value} {h' : Hp} {nx' : Nat} (he : grown h nx sz n cs = some (v, h', nx')) : nx ≤ nx' := by
  unfold grown at he
  split at he
  · rw [fent_eq, hsetK_eq, fnat_eq] at he
    simp only [Option.some.injEq, Prod.mk.injEq] at he; omega
  · cases he

theorem append_mono {P : Program} {h h' : Hp} {nx nx' : Nat} {t : TypeId} {q : Bool} {s x v : Value} (he : evAppend P h nx t s x q = some (v, h', nx')) : nx ≤ nx' := by
  unfold evAppend at he
  repeat' split at he
  all_goals first
    | cases he; done
    | (simp only [Option.some.injEq, Prod.mk.injEq] at he; omega)
    | exact grown_mono he
    | (rw [hsetK_eq] at he; exact grown_mono he)

theorem store_mono {P : Program} {h h' : Hp} {nx nx' : Nat} {t : TypeId} {a v u : Value} (he : evStore P t h nx a v = some (u, h', nx')) : nx ≤ nx' := by
  unfold evStore at he
  repeat' split at he
  all_goals first
    | cases he; done
    | (rw [fent_eq, hsetK_eq] at he; simp only [Option.some.injEq, Prod.mk.injEq] at he; omega)

theorem putMp_mono {h h' : Hp} {nx nx' r : Nat} {u v : Value} {mp : List (Value × Value)} (he : putMp h nx r u mp = some (v, h', nx')) : nx ≤ nx' := by
  have := putMp_eq he
  simp only [Prod.mk.injEq] at this; omega
theorem map_mono {P : Program} {h h' : Hp} {nx nx' : Nat} {ty : TypeId} {x k v u : Value} (he : evMapUpdate P ty h nx x k v = some (u, h', nx')) : nx ≤ nx' := by
  unfold evMapUpdate at he
  repeat' split at he
  all_goals first
    | cases he; done
    | exact putMp_mono he
theorem delete_mono {P : Program} {h h' : Hp} {nx nx' : Nat} {ty : Option TypeId} {x k u : Value} (he : evDelete P h nx ty x k = some (u, h', nx')) : nx ≤ nx' := by
  unfold evDelete at he
  repeat' split at he
  all_goals first
    | cases he; done
    | exact putMp_mono he
    | (simp only [Option.some.injEq, Prod.mk.injEq] at he; omega)
theorem clear_mono {P : Program} {h h' : Hp} {nx nx' : Nat} {ty : Option TypeId} {x u : Value} (he : evClear P h nx ty x = some (u, h', nx')) : nx ≤ nx' := by
  unfold evClear putCs at he
  repeat' split at he
  all_goals first
    | cases he; done
    | exact putMp_mono he
    | (rw [fent_eq, hsetK_eq] at he; simp only [Option.some.injEq, Prod.mk.injEq] at he; omega)
    | (simp only [Option.some.injEq, Prod.mk.injEq] at he; omega)

theorem hv_mono {P : Program} {ec : Caller} (hm : CallMono ec) {h h' : Hp} {nx nx' nt : Nat} {t : Tm} {o : Oper} {v : Value} (he : evHv P ec h nx nt t o = some (v, h', nx')) : nx ≤ nx' := by
  unfold evHv at he
  repeat' split at he
  all_goals first
    | cases he; done
    | exact store_mono he
    | exact append_mono he
    | exact map_mono he
    | exact delete_mono he
    | exact clear_mono he
    | exact hm _ _ _ _ _ _ _ he

theorem one_mono {P : Program} {ec : Caller} (hm : CallMono ec) {h h' : Hp} {nx nx' nt : Nat} {ops : Array Oper} {t : Tm} {o : Oper} {v : Value} (he : evOne P ec nt ops o t h nx = some (v, h', nx')) : nx ≤ nx' := by
  unfold evOne at he
  repeat' split at he
  all_goals first
    | cases he; done
    | exact hv_mono hm he
    | (simp only [Option.some.injEq, Prod.mk.injEq] at he; omega)
    | (rw [fent_eq, hsetK_eq, fnat_eq] at he; simp only [Option.some.injEq, Prod.mk.injEq] at he; omega)

theorem seq_mono {P : Program} {ec : Caller} (hm : CallMono ec) {nt : Nat} {ops : Array Oper} : ∀ {l : List Oper} {t t' : Tm} {h h' : Hp} {nx nx' : Nat}, evSeq P ec nt ops l t h nx = some (t', h', nx') → nx ≤ nx'
  | [], t, t', h, h', nx, nx', he => by simp only [evSeq, Option.some.injEq, Prod.mk.injEq] at he; omega
  | o :: l, t, t', h, h', nx, nx', he => by
    simp only [evSeq] at he
    split at he
    · split at he
      · rename_i h1
        rw [fv_eq, putK_eq] at he
        exact Nat.le_trans (one_mono hm h1) (seq_mono hm he)
      · cases he
    · cases he

theorem seq_ok {P : Program} {ec : Caller} (hec : CallOK P ec) (hm : CallMono ec) {nt : Nat} {ops : Array Oper} {Q : Exit → Act → World → Prop} : ∀ (l : List Oper) (k : Nat) {t t' : Tm} {h h' : Hp} {nx nx' : Nat} {E : Env} {a : Act} {w : World}, ops.toList.drop k = l → evSeq P ec nt ops l t h nx = some (t', h', nx') →
    Sat E (hget h) w → TR E nt t a.tmps → GE E → a.defers = [] → (∀ i, nx ≤ i → i < nx' → E.pl i = none) → (∀ E' a' w', TR E' nt t' a'.tmps → a'.defers = [] → Post E (hget h) (hget h') nx nx' w w' E' → Q .normal a' w') → wpOps P ops Q (List.range' k l.length) a w
  | [], k, t, t', h, h', nx, nx', E, a, w, _, he, hs, ht, hg, hd, _, hQ => by
    simp only [evSeq, Option.some.injEq, Prod.mk.injEq] at he; obtain ⟨rfl, rfl, rfl⟩ := he
    exact hQ E a w ht hd (Post.refl hs)
  | o :: l, k, t, t', h, h', nx, nx', E, a, w, hk, he, hs, ht, hg, hd, hfr, hQ => by
    simp only [evSeq] at he
    split at he
    · rename_i hdst
      split at he
      · rename_i v h1 nx1 h1e
        rw [fv_eq, putK_eq] at he
        have ho : ops[k]? = some o := by
          have : (ops.toList.drop k)[0]? = some o := by rw [hk]; rfl
          rw [List.getElem?_drop] at this
          simpa using this
        have hk' : ops.toList.drop (k + 1) = l := by
          have := congrArg List.tail hk
          rw [List.tail_drop] at this
          exact this
        have m2 := seq_mono hm he
        have m1 := one_mono hm h1e
        rw [List.length_cons, List.range'_succ, wpOps_cons]
        refine one_ok hec ho hs ht hg (fun i a b => hfr i a (by omega)) h1e fun v' w' E' hrn hp => ?_
        have hdd : (a.put o.dst v').defers = [] := by cases hh : o.dst <;> simp [Act.put, hd]
        refine seq_ok hec hm l (k + 1) hk' he hp.sat (put_TR (ht.up hp.le) hrn hdst) (hg.up hp.le) hdd (fun i a b => ?_) fun E2 a2 w2 q1 q2 q3 => hQ E2 a2 w2 q1 q2 (hp.trans q3)
        rcases Option.eq_none_or_eq_some (E'.pl i) with hq | ⟨p, hq⟩
        · exact hq
        · rcases hp.dom i (by rw [hq]; simp) with r | ⟨_, r⟩
          · exact (r (hfr i (by omega) b)).elim
          · omega
      · cases he
    · cases he

/-- What is said of operations whose order is open. -/
def DrawOK (P : Program) (ec : Caller) : Prop := ∀ (nt : Nat) (ops : Array Oper) (t t' : Tm) (h h' : Hp) (nx nx' : Nat), evDraw P ec nt ops t h nx = some (t', h', nx') → nx ≤ nx' ∧ ∀ (Q : Exit → Act → World → Prop) (E : Env) (a : Act) (w : World) (id : Nat),
    Sat E (hget h) w → TR E nt t a.tmps → GE E → a.defers = [] → (∀ i, nx ≤ i → i < nx' → E.pl i = none) → (∀ E' a' w', TR E' nt t' a'.tmps → a'.defers = [] → Post E (hget h) (hget h') nx nx' w w' E' → Q .normal a' w') → (Code.region id ops true).wp P Q a w

theorem c_mono {P : Program} {ec : Caller} (hm : CallMono ec) (hdr : DrawOK P ec) {nt : Nat} : ∀ (n : Nat) {sc : Option Code} {c : Code} {t t' : Tm} {h h' : Hp} {nx nx' : Nat} {e : Exit}, evC P ec nt n sc c t h nx = some (e, t', h', nx') → nx ≤ nx' := by
  intro n
  induction n with
  | zero => intro sc c t t' h h' nx nx' e he; simp [evC] at he
  | succ n ih =>
    intro sc c t t' h h' nx nx' e he
    cases sc with
    | some body =>
      simp only [evC] at he
      split at he
      · rename_i h1
        split at he
        · exact Nat.le_trans (ih h1) (ih he)
        · simp only [Option.some.injEq, Prod.mk.injEq] at he; have := ih h1; omega
      · exact ih he
    | none =>
    cases c with
    | skip => simp only [evC, Option.some.injEq, Prod.mk.injEq] at he; omega
    | label l => simp only [evC, Option.some.injEq, Prod.mk.injEq] at he; omega
    | ret => simp only [evC, Option.some.injEq, Prod.mk.injEq] at he; omega
    | exit id => simp only [evC, Option.some.injEq, Prod.mk.injEq] at he; omega
    | goto id => simp only [evC, Option.some.injEq, Prod.mk.injEq] at he; omega
    | scope c => simp only [evC] at he; exact ih he
    | region id ops d =>
      simp only [evC] at he
      split at he
      · rename_i t1 h1 nx1 h2
        simp only [Option.some.injEq, Prod.mk.injEq] at he
        obtain ⟨_, _, _, rfl⟩ := he
        split at h2
        · exact (hdr _ _ _ _ _ _ _ _ h2).1
        · exact seq_mono hm h2
      · cases he
    | seq x y =>
      simp only [evC] at he
      split at he
      · rename_i h1; exact Nat.le_trans (ih h1) (ih he)
      · exact ih he
    | cond c x y =>
      simp only [evC] at he
      split at he
      · exact ih he
      · exact ih he
      · cases he
    | block id c =>
      simp only [evC] at he
      split at he
      · rename_i h1
        split at he <;> simp only [Option.some.injEq, Prod.mk.injEq] at he <;> (have := ih h1; omega)
      · exact ih he
    | loop c =>
      simp only [evC] at he
      split at he
      · rename_i h1; exact Nat.le_trans (ih h1) (ih he)
      · exact ih he
    | _ => simp [evC] at he

/-- What a stretch of code comes to. -/
def CodeOK (P : Program) (ec : Caller) (nt n : Nat) : Prop := ∀ {c : Code} {t t' : Tm} {h h' : Hp} {nx nx' : Nat} {e : Exit}, evC P ec nt n none c t h nx = some (e, t', h', nx') → ∀ {Q : Exit → Act → World → Prop} {E : Env} {a : Act} {w : World},
    Sat E (hget h) w → TR E nt t a.tmps → GE E → a.defers = [] → (∀ i, nx ≤ i → i < nx' → E.pl i = none) → (∀ E' a' w', TR E' nt t' a'.tmps → a'.defers = [] → Post E (hget h) (hget h') nx nx' w w' E' → Q e a' w') → c.wp P Q a w

theorem fresh_next {E E' : Env} {h h' : Nat → Option Ent} {nx nx1 nx' : Nat} {w w' : World} (hp : Post E h h' nx nx1 w w' E') (hfr : ∀ i, nx ≤ i → i < nx' → E.pl i = none) : ∀ i, nx1 ≤ i → i < nx' → E'.pl i = none := fun i a b => by
  rcases Option.eq_none_or_eq_some (E'.pl i) with hq | ⟨p, hq⟩
  · exact hq
  · rcases hp.dom i (by rw [hq]; simp) with r | ⟨_, r⟩
    · exact (r (hfr i (by have := hp.mono; omega) b)).elim
    · omega

/-- A piece of code that lies in a scope: what is behind a jump to one of the scope's labels is in it. -/
def ScopeRun (P : Program) (body code : Code) (Q : Exit → Act → World → Prop) (a : Act) (w : World) : Prop :=
  ∀ (b : Frame) (k : List Item) (cs : List Frame), ∃ e a' w', Q e a' w' ∧ Arrives P (lone (b.at a (.code code :: .inScope body :: k)) cs w) b k cs e a' w'

theorem scopeRun_of {P : Program} {body code : Code} {Q Q' : Exit → Act → World → Prop} {a : Act} {w : World} (h : code.wp P Q' a w)
    (hq : ∀ e a' w', Q' e a' w' → (∃ l rest, e = .goto l ∧ findLabel body l = some rest ∧ ScopeRun P body rest Q a' w') ∨ (Q e a' w' ∧ ∀ l, e = .goto l → findLabel body l = none)) : ScopeRun P body code Q a w := by
  intro b k cs
  obtain ⟨e, a₁, w₁, hq1, harr⟩ := h b (.inScope body :: k) cs
  rcases hq e a₁ w₁ hq1 with ⟨l, rest, rfl, hf, hrun⟩ | ⟨hQ, hno⟩
  · obtain ⟨e₂, a₂, w₂, hq₂, harr₂⟩ := hrun b k cs
    exact ⟨e₂, a₂, w₂, hq₂, .of_steps (harr _ (by simp [gotoIn, hf])) harr₂⟩
  · cases e with
    | normal => exact ⟨.normal, a₁, w₁, hQ, Steps.trans harr (.one step_inScope)⟩
    | exit id => exact ⟨.exit id, a₁, w₁, hQ, fun k' hk => harr k' (by simp [exitTo, hk])⟩
    | goto l => exact ⟨.goto l, a₁, w₁, hQ, fun k' hk => harr k' (by simp [gotoIn, hno l rfl, hk])⟩
    | ret => exact ⟨_, a₁, w₁, hQ, harr⟩
    | panic ch => exact ⟨_, a₁, w₁, hQ, harr⟩
    | outgrown => exact ⟨_, a₁, w₁, hQ, harr⟩
theorem wp_scope_run {P : Program} {c : Code} {Q : Exit → Act → World → Prop} {a : Act} {w : World} (h : ScopeRun P c c Q a w) : (Code.scope c).wp P Q a w := fun b k cs =>
  let ⟨e, a', w', q, r⟩ := h b k cs
  ⟨e, a', w', q, .of_steps (.one step_scope) r⟩

/-- .. of code in a scope. -/
def ScopeOK (P : Program) (ec : Caller) (nt n : Nat) : Prop := ∀ {body c : Code} {t t' : Tm} {h h' : Hp} {nx nx' : Nat} {e : Exit}, evC P ec nt n (some body) c t h nx = some (e, t', h', nx') → ∀ {Q : Exit → Act → World → Prop} {E : Env} {a : Act} {w : World},
    Sat E (hget h) w → TR E nt t a.tmps → GE E → a.defers = [] → (∀ i, nx ≤ i → i < nx' → E.pl i = none) → (∀ E' a' w', TR E' nt t' a'.tmps → a'.defers = [] → Post E (hget h) (hget h') nx nx' w w' E' → Q e a' w') → ScopeRun P body c Q a w

theorem c_ok {P : Program} {ec : Caller} (hec : CallOK P ec) (hm : CallMono ec) (hdr : DrawOK P ec) {nt : Nat} : ∀ (n : Nat), (CodeOK P ec nt n ∧ ScopeOK P ec nt n) ∧
    ∀ {c : Code} {t t' : Tm} {h h' : Hp} {nx nx' : Nat} {e : Exit}, evC P ec nt n none (.loop c) t h nx = some (e, t', h', nx') → ∀ {Q : Exit → Act → World → Prop} {E : Env} {a : Act} {w : World},
      Sat E (hget h) w → TR E nt t a.tmps → GE E → a.defers = [] → (∀ i, nx ≤ i → i < nx' → E.pl i = none) → (∀ E' a' w', TR E' nt t' a'.tmps → a'.defers = [] → Post E (hget h) (hget h') nx nx' w w' E' → Q e a' w') → Code.rounds P c Q n a w := by
  intro n
  induction n with
  | zero => exact ⟨⟨fun he => by simp [evC] at he, fun he => by simp [evC] at he⟩, fun he => by simp [evC] at he⟩
  | succ n ih =>
    obtain ⟨⟨ihA, ihC⟩, ihB⟩ := ih
    have key : ∀ {c : Code} {t t' : Tm} {h h' : Hp} {nx nx' : Nat} {e : Exit}, evC P ec nt (n + 1) none (.loop c) t h nx = some (e, t', h', nx') → ∀ {Q : Exit → Act → World → Prop} {E : Env} {a : Act} {w : World},
      Sat E (hget h) w → TR E nt t a.tmps → GE E → a.defers = [] → (∀ i, nx ≤ i → i < nx' → E.pl i = none) → (∀ E' a' w', TR E' nt t' a'.tmps → a'.defers = [] → Post E (hget h) (hget h') nx nx' w w' E' → Q e a' w') → Code.rounds P c Q (n + 1) a w := by
      intro c t t' h h' nx nx' e he Q E a w hs ht hg hd hfr hQ
      rw [rounds_succ]
      simp only [evC] at he
      split at he
      · rename_i t1 h1 nx1 h1e
        have m1 := c_mono hm hdr n h1e
        have m2 := c_mono hm hdr n he
        refine ihA h1e hs ht hg hd (fun i a b => hfr i a (by omega)) fun E1 a1 w1 q1 q2 q3 => ?_
        exact ihB he q3.sat q1 (hg.up q3.le) q2 (fresh_next q3 hfr) fun E2 a2 w2 r1 r2 r3 => hQ E2 a2 w2 r1 r2 (q3.trans r3)
      · rename_i hne
        refine ihA he hs ht hg hd hfr fun E1 a1 w1 q1 q2 q3 => ?_
        have := hQ E1 a1 w1 q1 q2 q3
        cases e with
        | normal => exact (hne _ _ _ he).elim
        | _ => exact this
    refine ⟨⟨?_, ?_⟩, key⟩
    rotate_left
    · intro body c t t' h h' nx nx' e he Q E a w hs ht hg hd hfr hQ
      simp only [evC] at he
      split at he
      · rename_i l t1 h1 nx1 h1e
        have m1 := c_mono hm hdr n h1e
        split at he
        · rename_i rest hrest
          have m2 := c_mono hm hdr n he
          refine scopeRun_of (Q' := fun e a1 w1 => e = .goto l ∧ ScopeRun P body rest Q a1 w1) (ihA h1e hs ht hg hd (fun i a b => hfr i a (by omega)) fun E1 a1 w1 q1 q2 q3 => ⟨rfl, ?_⟩) ?_
          · exact ihC he q3.sat q1 (hg.up q3.le) q2 (fresh_next q3 hfr) fun E2 a2 w2 r1 r2 r3 => hQ E2 a2 w2 r1 r2 (q3.trans r3)
          · rintro e a1 w1 ⟨rfl, hrun⟩
            exact .inl ⟨l, rest, rfl, hrest, hrun⟩
        · rename_i hnone
          simp only [Option.some.injEq, Prod.mk.injEq] at he; obtain ⟨rfl, rfl, rfl, rfl⟩ := he
          refine scopeRun_of (Q' := fun e a1 w1 => e = .goto l ∧ Q (.goto l) a1 w1) (ihA h1e hs ht hg hd hfr fun E1 a1 w1 q1 q2 q3 => ⟨rfl, hQ E1 a1 w1 q1 q2 q3⟩) ?_
          rintro e a1 w1 ⟨rfl, hq⟩
          exact .inr ⟨hq, fun l' e => by cases e; exact hnone⟩
      · rename_i hne
        refine scopeRun_of (Q' := fun e1 a1 w1 => e1 = e ∧ Q e a1 w1) (ihA he hs ht hg hd hfr fun E1 a1 w1 q1 q2 q3 => ⟨rfl, hQ E1 a1 w1 q1 q2 q3⟩) ?_
        rintro e1 a1 w1 ⟨rfl, hq⟩
        exact .inr ⟨hq, fun l' e => by subst e; exact (hne _ _ _ _ he).elim⟩
    intro c t t' h h' nx nx' e he Q E a w hs ht hg hd hfr hQ
    cases c with
    | skip => simp only [evC, Option.some.injEq, Prod.mk.injEq] at he; obtain ⟨rfl, rfl, rfl, rfl⟩ := he; exact wp_skip (hQ E a w ht hd (Post.refl hs))
    | label l => simp only [evC, Option.some.injEq, Prod.mk.injEq] at he; obtain ⟨rfl, rfl, rfl, rfl⟩ := he; exact wp_label (hQ E a w ht hd (Post.refl hs))
    | ret => simp only [evC, Option.some.injEq, Prod.mk.injEq] at he; obtain ⟨rfl, rfl, rfl, rfl⟩ := he; exact wp_ret (hQ E a w ht hd (Post.refl hs))
    | exit id => simp only [evC, Option.some.injEq, Prod.mk.injEq] at he; obtain ⟨rfl, rfl, rfl, rfl⟩ := he; exact wp_exit (hQ E a w ht hd (Post.refl hs))
    | goto id => simp only [evC, Option.some.injEq, Prod.mk.injEq] at he; obtain ⟨rfl, rfl, rfl, rfl⟩ := he; exact wp_goto (hQ E a w ht hd (Post.refl hs))
    | scope c => simp only [evC] at he; exact wp_scope_run (ihC he hs ht hg hd hfr hQ)
    | region id ops d =>
      simp only [evC] at he
      split at he
      · rename_i t1 h1 nx1 h2
        simp only [Option.some.injEq, Prod.mk.injEq] at he; obtain ⟨rfl, rfl, rfl, rfl⟩ := he
        split at h2
        · exact (hdr _ _ _ _ _ _ _ _ h2).2 Q E a w id hs ht hg hd hfr hQ
        · refine wp_region ?_
          have := seq_ok hec hm (Q := Q) ops.toList 0 (by simp) h2 hs ht hg hd hfr hQ
          rwa [Array.length_toList, ← List.range_eq_range'] at this
      · cases he
    | seq x y =>
      simp only [evC] at he
      refine wp_seq ?_
      split at he
      · rename_i t1 h1 nx1 h1e
        have m1 := c_mono hm hdr n h1e
        have m2 := c_mono hm hdr n he
        refine ihA h1e hs ht hg hd (fun i a b => hfr i a (by omega)) fun E1 a1 w1 q1 q2 q3 => ?_
        exact ihA he q3.sat q1 (hg.up q3.le) q2 (fresh_next q3 hfr) fun E2 a2 w2 r1 r2 r3 => hQ E2 a2 w2 r1 r2 (q3.trans r3)
      · rename_i hne
        refine ihA he hs ht hg hd hfr fun E1 a1 w1 q1 q2 q3 => ?_
        have := hQ E1 a1 w1 q1 q2 q3
        cases e with
        | normal => exact (hne _ _ _ he).elim
        | _ => exact this
    | cond c x y =>
      simp only [evC] at he
      split at he
      · rename_i hc
        exact wp_cond_true (rn_bool.1 (opd_ok ht hg hc)) (ihA he hs ht hg hd hfr hQ)
      · rename_i hc
        exact wp_cond_false (rn_bool.1 (opd_ok ht hg hc)) (ihA he hs ht hg hd hfr hQ)
      · cases he
    | block id c =>
      simp only [evC] at he
      refine wp_block ?_
      split at he
      · rename_i j t1 h1 nx1 h1e
        split at he
        · rename_i hj
          simp only [Option.some.injEq, Prod.mk.injEq] at he; obtain ⟨rfl, rfl, rfl, rfl⟩ := he
          refine ihA h1e hs ht hg hd hfr fun E1 a1 w1 q1 q2 q3 => ?_
          simp only [Exit.inBlock, hj, if_true]
          exact hQ E1 a1 w1 q1 q2 q3
        · rename_i hj
          simp only [Option.some.injEq, Prod.mk.injEq] at he; obtain ⟨rfl, rfl, rfl, rfl⟩ := he
          refine ihA h1e hs ht hg hd hfr fun E1 a1 w1 q1 q2 q3 => ?_
          simp only [Exit.inBlock, hj, if_false]
          exact hQ E1 a1 w1 q1 q2 q3
      · rename_i hne
        refine ihA he hs ht hg hd hfr fun E1 a1 w1 q1 q2 q3 => ?_
        have := hQ E1 a1 w1 q1 q2 q3
        cases e with
        | exit j => exact (hne _ _ _ _ he).elim
        | _ => exact this
    | loop c => exact wp_loop_rounds (n + 1) (key he hs ht hg hd hfr hQ)
    | _ => simp [evC] at he
end Go.Sy
