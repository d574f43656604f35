/- A symbolic run of a program: calls that were reckoned by themselves, used where they come up. -/
import Derived.Test.YtglnljfdkiihbaaGreatDoorSyE
namespace Go.Sy

def shB (k i : Nat) : Nat := match Nat.blt i 64 with
  | true => i
  | false => i + k
def shA (k : Nat) (a : Addr) : Addr := ⟨shB k a.block, a.off, a.spot⟩
def mapO (f : Value → Option Value) : List Value → Option (List Value)
  | [] => some []
  | v :: l => match f v with
    | none => none
    | some u => match mapO f l with
      | none => none
      | some m => some (u :: m)
/-- The value with its names moved on by k. -/
def shV : Nat → Nat → Value → Option Value
  | n, k, v => match v with
    | .pointer (some a) => some (.pointer (some (shA k a)))
    | .slice (some a) l c => some (.slice (some (shA k a)) l c)
    | .map (some r) => some (.map (some (shB k r)))
    | .iface t x => match n with
      | n + 1 => match shV n k x with
        | some y => some (.iface t y)
        | none => none
      | 0 => none
    | .agg ⟨cs⟩ => match n with
      | n + 1 => match mapO (shV n k) cs with
        | some m => some (.agg ⟨m⟩)
        | none => none
      | 0 => none
    | .tuple ⟨cs⟩ => match n with
      | n + 1 => match mapO (shV n k) cs with
        | some m => some (.tuple ⟨m⟩)
        | none => none
      | 0 => none
    | .func fn ⟨p⟩ ⟨q⟩ => match n with
      | n + 1 => match mapO (shV n k) p, mapO (shV n k) q with
        | some p', some q' => some (.func fn ⟨p'⟩ ⟨q'⟩)
        | _, _ => none
      | 0 => none
    | .chan _ => none
    | v => some v

theorem mapO_rns {E E' : Env} {f : Value → Option Value} (hf : ∀ v u v', f v = some u → Rn E v v' → Rn E' u v') : ∀ {l m l' : List Value}, mapO f l = some m → Rns E l l' → Rns E' m l'
  | [], m, l', h, r => by simp only [mapO, Option.some.injEq] at h; subst h; rw [r.inv_nil]; exact .nil
  | v :: l, m, l', h, r => by
    simp only [mapO] at h
    split at h
    · cases h
    · rename_i u hu
      split at h
      · cases h
      · rename_i m0 hm
        simp only [Option.some.injEq] at h; subst h
        obtain ⟨v', k, rfl, a, b⟩ := r.inv_cons
        exact .cons (hf v u v' hu a) (mapO_rns hf hm b)

theorem shV_rn {E E' : Env} {k : Nat} (hp : ∀ i p, E.pl i = some p → E'.pl (shB k i) = some p) (ho : E'.oq = E.oq) : ∀ (n : Nat) (v u v' : Value), shV n k v = some u → Rn E v v' → Rn E' u v' := by
  intro n
  induction n with
  | zero =>
    intro v u v' h r
    unfold shV at h
    split at h
    all_goals first
      | (simp only [Option.some.injEq] at h; subst h; obtain ⟨p, hq, e⟩ := rn_ptr.1 r; exact rn_ptr.2 ⟨p, hp _ _ hq, e⟩)
      | (simp only [Option.some.injEq] at h; subst h; obtain ⟨p, hq, e⟩ := rn_slice.1 r; exact rn_slice.2 ⟨p, hp _ _ hq, e⟩)
      | (simp only [Option.some.injEq] at h; subst h; obtain ⟨p, hq, e⟩ := rn_map.1 r; exact rn_map.2 ⟨p, hp _ _ hq, e⟩)
      | (cases h; done)
      | skip
    rename_i h1 h2 h3 h4 h5 h6 h7 h8
    simp only [Option.some.injEq] at h; subst h
    cases v with
    | bool b => rw [rn_bool] at *; exact r
    | int k n => rw [rn_int] at *; exact r
    | float k n => rw [rn_float] at *; exact r
    | string s => rw [rn_string] at *; exact r
    | complex a b c => rw [rn_opq] at *; rw [ho]; exact r
    | nilFunc => rw [rn_fnil] at *; exact r
    | nilIface => rw [rn_inil] at *; exact r
    | pointer a => cases a with | none => rw [rn_nil] at *; exact r | some a => exact (h1 a rfl).elim
    | slice a l c => cases a with | none => rw [rn_snil] at *; exact r | some a => exact (h2 a l c rfl).elim
    | map a => cases a with | none => rw [rn_mnil] at *; exact r | some a => exact (h3 a rfl).elim
    | chan c => exact (h8 c rfl).elim
    | iface t x => exact (h4 t x rfl).elim
    | agg cs => exact (h5 cs.toList rfl).elim
    | tuple cs => exact (h6 cs.toList rfl).elim
    | func fn p q => exact (h7 fn p.toList q.toList rfl).elim
  | succ n ih =>
    intro v u v' h r
    unfold shV at h
    split at h
    all_goals first
      | (simp only [Option.some.injEq] at h; subst h; obtain ⟨p, hq, e⟩ := rn_ptr.1 r; exact rn_ptr.2 ⟨p, hp _ _ hq, e⟩)
      | (simp only [Option.some.injEq] at h; subst h; obtain ⟨p, hq, e⟩ := rn_slice.1 r; exact rn_slice.2 ⟨p, hp _ _ hq, e⟩)
      | (simp only [Option.some.injEq] at h; subst h; obtain ⟨p, hq, e⟩ := rn_map.1 r; exact rn_map.2 ⟨p, hp _ _ hq, e⟩)
      | (simp only at h
         split at h
         · rename_i y hy
           simp only [Option.some.injEq] at h; subst h
           obtain ⟨y', e, q⟩ := rn_iface.1 r
           exact rn_iface.2 ⟨y', e, ih _ _ _ hy q⟩
         · cases h)
      | (simp only at h
         split at h
         · rename_i y hy
           simp only [Option.some.injEq] at h; subst h
           obtain ⟨y', e, q⟩ := rn_agg.1 r
           exact rn_agg.2 ⟨y', e, mapO_rns (fun v u v' => ih v u v') hy q⟩
         · cases h)
      | (simp only at h
         split at h
         · rename_i y hy
           simp only [Option.some.injEq] at h; subst h
           obtain ⟨y', e, q⟩ := rn_tuple.1 r
           exact rn_tuple.2 ⟨y', e, mapO_rns (fun v u v' => ih v u v') hy q⟩
         · cases h)
      | (simp only at h
         split at h
         · rename_i y z hy hz
           simp only [Option.some.injEq] at h; subst h
           obtain ⟨f', c', e, q1, q2⟩ := rn_func.1 r
           exact rn_func.2 ⟨f', c', e, mapO_rns (fun v u v' => ih v u v') hy q1, mapO_rns (fun v u v' => ih v u v') hz q2⟩
         · cases h)
      | (cases h; done)
      | skip
    rename_i h1 h2 h3 h4 h5 h6 h7 h8
    simp only [Option.some.injEq] at h; subst h
    cases v with
    | bool b => rw [rn_bool] at *; exact r
    | int k n => rw [rn_int] at *; exact r
    | float k n => rw [rn_float] at *; exact r
    | string s => rw [rn_string] at *; exact r
    | complex a b c => rw [rn_opq] at *; rw [ho]; exact r
    | nilFunc => rw [rn_fnil] at *; exact r
    | nilIface => rw [rn_inil] at *; exact r
    | pointer a => cases a with | none => rw [rn_nil] at *; exact r | some a => exact (h1 a rfl).elim
    | slice a l c => cases a with | none => rw [rn_snil] at *; exact r | some a => exact (h2 a l c rfl).elim
    | map a => cases a with | none => rw [rn_mnil] at *; exact r | some a => exact (h3 a rfl).elim
    | chan c => exact (h8 c rfl).elim
    | iface t x => exact (h4 t x rfl).elim
    | agg cs => exact (h5 cs.toList rfl).elim
    | tuple cs => exact (h6 cs.toList rfl).elim
    | func fn p q => exact (h7 fn p.toList q.toList rfl).elim

/-- A call that was reckoned by itself, from the package's variables gs alone: its value, some of its blocks, how many names it took. -/
structure Orc where
  f : Nat
  args : List Value
  v : Value
  es : List (Nat × Ent)
  n : Nat

def gHp : List (Nat × Ent) → Hp
  | [] => hemp
  | p :: l => hset (gHp l) p.1 (some p.2)
def gOk (gs : List (Nat × Ent)) : Bool := allP (fun p => Nat.blt p.1 64 && Nat.beq p.2.kd 0 && p.2.cs.all (flatN 4)) gs
def hasG (h : Hp) : List (Nat × Ent) → Bool
  | [] => true
  | p :: l => match entEq (hget h p.1) (some p.2) with
    | true => hasG h l
    | false => false
def insS (k : Nat) : List (Nat × Ent) → Hp → Option Hp
  | [], h => some h
  | p :: l, h => match insS k l h with
    | none => none
    | some h' => match mapO (shV 3 k) p.2.cs, Nat.blt (p.1 + k) 8192 with
      | some cs, true => fvs cs fun cs => hsetK h' (p.1 + k) (some ⟨p.2.kd, p.2.sz, cs, []⟩) fun h' => some h'
      | _, _ => none
def orcC (gs : List (Nat × Ent)) (tbl : List Orc) : Caller := fun f args h nx =>
  match tbl.find? (fun o => Nat.beq o.f f && listEq (veqN 4) o.args args) with
  | none => none
  | some o => match Nat.ble 64 nx && hasG h gs with
    | false => none
    | true => match shV 4 (nx - 64) o.v, insS (nx - 64) o.es h with
      | some v, some h' => fnat (nx + o.n) fun nx' => some (v, h', nx')
      | _, _ => none

/-- It does so in every memory that has the variables. -/
structure OrcOK (P : Program) (gs : List (Nat × Ent)) (o : Orc) : Prop where
  args : o.args.all (flatN 4) = true
  es : ∀ p ∈ o.es, 64 ≤ p.1 ∧ p.1 < 64 + o.n ∧ ((p.2.kd = 1 ∨ p.2.kd = 2) ∨ p.2.kd = 3)
  call : ∀ (E : Env) (w : World), Sat E (hget (gHp gs)) w → GE E → (∀ i, 64 ≤ i → i < 64 + o.n → E.pl i = none) →
    Calls P o.f ⟨o.args⟩ w (fun e w' => ∃ v' E' h', e = .returned v' ∧ Rn E' o.v v' ∧ (∀ p ∈ o.es, h' p.1 = some p.2) ∧ Post E (hget (gHp gs)) h' 64 (64 + o.n) w w' E')

theorem gHp_get {gs : List (Nat × Ent)} (hg : gOk gs = true) : ∀ {i e}, hget (gHp gs) i = some e → (i, e) ∈ gs ∧ i < 64 ∧ e.kd = 0 ∧ e.cs.all (flatN 4) = true := by
  have hall := allP_iff.1 hg
  clear hg
  induction gs with
  | nil => intro i e h; rw [gHp, hget_emp] at h; cases h
  | cons p l ih =>
    intro i e h
    have hp := hall p (by simp)
    simp only [Bool.and_eq_true] at hp
    have hlt := blt_iff.1 hp.1.1
    rw [gHp, hget_hset _ _ _ _ (by omega)] at h
    by_cases e' : p.1 = i
    · rw [if_pos e'] at h; cases h
      exact ⟨by rw [← e']; simp, by omega, Nat.eq_of_beq_eq_true hp.1.2, hp.2⟩
    · rw [if_neg e'] at h
      obtain ⟨a, b⟩ := ih (fun q hq => hall q (by simp [hq])) h
      exact ⟨by simp [a], b⟩
theorem hasG_ok {h : Hp} : ∀ {gs : List (Nat × Ent)}, hasG h gs = true → ∀ p ∈ gs, hget h p.1 = some p.2
  | [], _, p, hp => by cases hp
  | q :: l, hh, p, hp => by
    simp only [hasG] at hh
    split at hh
    · rename_i hq
      rcases List.mem_cons.1 hp with rfl | hp
      · exact entEq_ok hq
      · exact hasG_ok hh p hp
    · cases hh
theorem insS_get {k : Nat} : ∀ {es : List (Nat × Ent)} {h h' : Hp}, insS k es h = some h' → ∀ i e, hget h' i = some e → (∃ p ∈ es, p.1 + k = i ∧ e.kd = p.2.kd ∧ e.sz = p.2.sz ∧ mapO (shV 3 k) p.2.cs = some e.cs) ∨ hget h i = some e
  | [], h, h', he, i, e, hi => by simp only [insS, Option.some.injEq] at he; subst he; exact .inr hi
  | p :: l, h, h', he, i, e, hi => by
    simp only [insS] at he
    split at he
    · cases he
    · rename_i h1 h1e
      split at he
      · rename_i cs hcs hlt
        rw [fvs_eq, hsetK_eq] at he
        simp only [Option.some.injEq] at he; subst he
        rw [hget_hset _ _ _ _ (blt_iff.1 hlt)] at hi
        by_cases e' : p.1 + k = i
        · rw [if_pos e'] at hi; cases hi
          exact .inl ⟨p, by simp, e', rfl, rfl, hcs⟩
        · rw [if_neg e'] at hi
          rcases insS_get h1e i e hi with ⟨q, hq, a⟩ | a
          · exact .inl ⟨q, by simp [hq], a⟩
          · exact .inr a
      · cases he
end Go.Sy
