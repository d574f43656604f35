/- A symbolic run of a program: calls that were reckoned by themselves, used where they come up. -/
import Derived.Test.YtfjpdflilmcnhaaDoorSyE
import Derived.Test.YtfjpdflilmcnhaaDoorChecked
import Derived.Test.YtfjpdflilmcnhaaDoorMgN
import Derived.Laws.StructEq
namespace Go.Sy

def shB (k i : Nat) : Nat := match Nat.blt i 64 with
  | true => i
  | false => i + k
def shA (k : Nat) (a : Addr) : Addr := ⟨shB k a.block, a.off, a.spot⟩
def mapO (f : Value → Option Value) : List Value → Option (List Value)
  | [] => some []
  | v :: l => match f v with
    | none => none
    | some u => match mapO f l with
      | none => none
      | some m => some (u :: m)
/-- The value with its names moved on by k. -/
def shV : Nat → Nat → Value → Option Value
  | n, k, v => match v with
    | .pointer (some a) => some (.pointer (some (shA k a)))
    | .slice (some a) l c => some (.slice (some (shA k a)) l c)
    | .map (some r) => some (.map (some (shB k r)))
    | .iface t x => match n with
      | n + 1 => match shV n k x with
        | some y => some (.iface t y)
        | none => none
      | 0 => none
    | .agg ⟨cs⟩ => match n with
      | n + 1 => match mapO (shV n k) cs with
        | some m => some (.agg ⟨m⟩)
        | none => none
      | 0 => none
    | .tuple ⟨cs⟩ => match n with
      | n + 1 => match mapO (shV n k) cs with
        | some m => some (.tuple ⟨m⟩)
        | none => none
      | 0 => none
    | .func fn ⟨p⟩ ⟨q⟩ => match n with
      | n + 1 => match mapO (shV n k) p, mapO (shV n k) q with
        | some p', some q' => some (.func fn ⟨p'⟩ ⟨q'⟩)
        | _, _ => none
      | 0 => none
    | .chan _ => none
    | v => some v

theorem mapO_rns {E E' : Env} {f : Value → Option Value} (hf : ∀ v u v', f v = some u → Rn E v v' → Rn E' u v') : ∀ {l m l' : List Value}, mapO f l = some m → Rns E l l' → Rns E' m l'
  | [], m, l', h, r => by simp only [mapO, Option.some.injEq] at h; subst h; rw [r.inv_nil]; exact .nil
  | v :: l, m, l', h, r => by
    simp only [mapO] at h
    split at h
    · cases h
    · rename_i u hu
      split at h
      · cases h
      · rename_i m0 hm
        simp only [Option.some.injEq] at h; subst h
        obtain ⟨v', k, rfl, a, b⟩ := r.inv_cons
        exact .cons (hf v u v' hu a) (mapO_rns hf hm b)

theorem shV_rn {E E' : Env} {k : Nat} (hp : ∀ i p, E.pl i = some p → E'.pl (shB k i) = some p) (ho : E'.oq = E.oq) : ∀ (n : Nat) (v u v' : Value), shV n k v = some u → Rn E v v' → Rn E' u v' := by
  intro n
  induction n with
  | zero =>
    intro v u v' h r
    unfold shV at h
    split at h
    all_goals first
      | (simp only [Option.some.injEq] at h; subst h; obtain ⟨p, hq, e⟩ := rn_ptr.1 r; exact rn_ptr.2 ⟨p, hp _ _ hq, e⟩)
      | (simp only [Option.some.injEq] at h; subst h; obtain ⟨p, hq, e⟩ := rn_slice.1 r; exact rn_slice.2 ⟨p, hp _ _ hq, e⟩)
      | (simp only [Option.some.injEq] at h; subst h; obtain ⟨p, hq, e⟩ := rn_map.1 r; exact rn_map.2 ⟨p, hp _ _ hq, e⟩)
      | (cases h; done)
      | skip
    rename_i h1 h2 h3 h4 h5 h6 h7 h8
    simp only [Option.some.injEq] at h; subst h
    cases v with
    | bool b => rw [rn_bool] at *; exact r
    | int k n => rw [rn_int] at *; exact r
    | float k n => rw [rn_float] at *; exact r
    | string s => rw [rn_string] at *; exact r
    | complex a b c => rw [rn_opq] at *; rw [ho]; exact r
    | nilFunc => rw [rn_fnil] at *; exact r
    | nilIface => rw [rn_inil] at *; exact r
    | pointer a => cases a with | none => rw [rn_nil] at *; exact r | some a => exact (h1 a rfl).elim
    | slice a l c => cases a with | none => rw [rn_snil] at *; exact r | some a => exact (h2 a l c rfl).elim
    | map a => cases a with | none => rw [rn_mnil] at *; exact r | some a => exact (h3 a rfl).elim
    | chan c => exact (h8 c rfl).elim
    | iface t x => exact (h4 t x rfl).elim
    | agg cs => exact (h5 cs.toList rfl).elim
    | tuple cs => exact (h6 cs.toList rfl).elim
    | func fn p q => exact (h7 fn p.toList q.toList rfl).elim
  | succ n ih =>
    intro v u v' h r
    unfold shV at h
    split at h
    all_goals first
      | (simp only [Option.some.injEq] at h; subst h; obtain ⟨p, hq, e⟩ := rn_ptr.1 r; exact rn_ptr.2 ⟨p, hp _ _ hq, e⟩)
      | (simp only [Option.some.injEq] at h; subst h; obtain ⟨p, hq, e⟩ := rn_slice.1 r; exact rn_slice.2 ⟨p, hp _ _ hq, e⟩)
      | (simp only [Option.some.injEq] at h; subst h; obtain ⟨p, hq, e⟩ := rn_map.1 r; exact rn_map.2 ⟨p, hp _ _ hq, e⟩)
      | (simp only at h
         split at h
         · rename_i y hy
           simp only [Option.some.injEq] at h; subst h
           obtain ⟨y', e, q⟩ := rn_iface.1 r
           exact rn_iface.2 ⟨y', e, ih _ _ _ hy q⟩
         · cases h)
      | (simp only at h
         split at h
         · rename_i y hy
           simp only [Option.some.injEq] at h; subst h
           obtain ⟨y', e, q⟩ := rn_agg.1 r
           exact rn_agg.2 ⟨y', e, mapO_rns (fun v u v' => ih v u v') hy q⟩
         · cases h)
      | (simp only at h
         split at h
         · rename_i y hy
           simp only [Option.some.injEq] at h; subst h
           obtain ⟨y', e, q⟩ := rn_tuple.1 r
           exact rn_tuple.2 ⟨y', e, mapO_rns (fun v u v' => ih v u v') hy q⟩
         · cases h)
      | (simp only at h
         split at h
         · rename_i y z hy hz
           simp only [Option.some.injEq] at h; subst h
           obtain ⟨f', c', e, q1, q2⟩ := rn_func.1 r
           exact rn_func.2 ⟨f', c', e, mapO_rns (fun v u v' => ih v u v') hy q1, mapO_rns (fun v u v' => ih v u v') hz q2⟩
         · cases h)
      | (cases h; done)
      | skip
    rename_i h1 h2 h3 h4 h5 h6 h7 h8
    simp only [Option.some.injEq] at h; subst h
    cases v with
    | bool b => rw [rn_bool] at *; exact r
    | int k n => rw [rn_int] at *; exact r
    | float k n => rw [rn_float] at *; exact r
    | string s => rw [rn_string] at *; exact r
    | complex a b c => rw [rn_opq] at *; rw [ho]; exact r
    | nilFunc => rw [rn_fnil] at *; exact r
    | nilIface => rw [rn_inil] at *; exact r
    | pointer a => cases a with | none => rw [rn_nil] at *; exact r | some a => exact (h1 a rfl).elim
    | slice a l c => cases a with | none => rw [rn_snil] at *; exact r | some a => exact (h2 a l c rfl).elim
    | map a => cases a with | none => rw [rn_mnil] at *; exact r | some a => exact (h3 a rfl).elim
    | chan c => exact (h8 c rfl).elim
    | iface t x => exact (h4 t x rfl).elim
    | agg cs => exact (h5 cs.toList rfl).elim
    | tuple cs => exact (h6 cs.toList rfl).elim
    | func fn p q => exact (h7 fn p.toList q.toList rfl).elim

/-- A call that was reckoned by itself, from the package's variables gs alone: its value, some of its blocks, how many names it took. -/
structure Orc where
  f : Nat
  args : List Value
  v : Value
  es : List (Nat × Ent)
  n : Nat

def gHp : List (Nat × Ent) → Hp
  | [] => hemp
  | p :: l => hset (gHp l) p.1 (some p.2)
def gOk (gs : List (Nat × Ent)) : Bool := allP (fun p => Nat.blt p.1 64 && Nat.beq p.2.kd 0 && p.2.cs.all (flatN 4)) gs
def hasG (h : Hp) : List (Nat × Ent) → Bool
  | [] => true
  | p :: l => match entEq (hget h p.1) (some p.2) with
    | true => hasG h l
    | false => false
def insS (k : Nat) : List (Nat × Ent) → Hp → Option Hp
  | [], h => some h
  | p :: l, h => match insS k l h with
    | none => none
    | some h' => match mapO (shV 3 k) p.2.cs, Nat.blt (p.1 + k) 8192 with
      | some cs, true => fvs cs fun cs => hsetK h' (p.1 + k) (some ⟨p.2.kd, p.2.sz, cs, []⟩) fun h' => some h'
      | _, _ => none
def orcC (gs : List (Nat × Ent)) (tbl : List Orc) : Caller := fun f args h nx =>
  match tbl.find? (fun o => Nat.beq o.f f && listEq (veqN 4) o.args args) with
  | none => none
  | some o => match Nat.ble 64 nx && hasG h gs with
    | false => none
    | true => match shV 4 (nx - 64) o.v, insS (nx - 64) o.es h with
      | some v, some h' => fnat (nx + o.n) fun nx' => some (v, h', nx')
      | _, _ => none

/-- It does so in every memory that has the variables. -/
structure OrcOK (P : Program) (gs : List (Nat × Ent)) (o : Orc) : Prop where
  args : o.args.all (flatN 4) = true
  es : ∀ p ∈ o.es, 64 ≤ p.1 ∧ p.1 < 64 + o.n ∧ ((p.2.kd = 1 ∨ p.2.kd = 2) ∨ p.2.kd = 3)
  call : ∀ (E : Env) (w : World), Sat E (hget (gHp gs)) w → GE E → (∀ i, 64 ≤ i → i < 64 + o.n → E.pl i = none) →
    Calls P o.f ⟨o.args⟩ w (fun e w' => ∃ v' E' h', e = .returned v' ∧ Rn E' o.v v' ∧ (∀ p ∈ o.es, h' p.1 = some p.2) ∧ Post E (hget (gHp gs)) h' 64 (64 + o.n) w w' E')

theorem gHp_get {gs : List (Nat × Ent)} (hg : gOk gs = true) : ∀ {i e}, hget (gHp gs) i = some e → (i, e) ∈ gs ∧ i < 64 ∧ e.kd = 0 ∧ e.cs.all (flatN 4) = true := by
  have hall := allP_iff.1 hg
  clear hg
  induction gs with
  | nil => intro i e h; rw [gHp, hget_emp] at h; cases h
  | cons p l ih =>
    intro i e h
    have hp := hall p (by simp)
    simp only [Bool.and_eq_true] at hp
    have hlt := blt_iff.1 hp.1.1
    rw [gHp, hget_hset _ _ _ _ (by omega)] at h
    by_cases e' : p.1 = i
    · rw [if_pos e'] at h; cases h
      exact ⟨by rw [← e']; simp, by omega, Nat.eq_of_beq_eq_true hp.1.2, hp.2⟩
    · rw [if_neg e'] at h
      obtain ⟨a, b⟩ := ih (fun q hq => hall q (by simp [hq])) h
      exact ⟨by simp [a], b⟩
theorem hasG_ok {h : Hp} : ∀ {gs : List (Nat × Ent)}, hasG h gs = true → ∀ p ∈ gs, hget h p.1 = some p.2
  | [], _, p, hp => by cases hp
  | q :: l, hh, p, hp => by
    simp only [hasG] at hh
    split at hh
    · rename_i hq
      rcases List.mem_cons.1 hp with rfl | hp
      · exact entEq_ok hq
      · exact hasG_ok hh p hp
    · cases hh
theorem insS_get {k : Nat} : ∀ {es : List (Nat × Ent)} {h h' : Hp}, insS k es h = some h' → ∀ i e, hget h' i = some e → (∃ p ∈ es, p.1 + k = i ∧ e.kd = p.2.kd ∧ e.sz = p.2.sz ∧ mapO (shV 3 k) p.2.cs = some e.cs) ∨ hget h i = some e
  | [], h, h', he, i, e, hi => by simp only [insS, Option.some.injEq] at he; subst he; exact .inr hi
  | p :: l, h, h', he, i, e, hi => by
    simp only [insS] at he
    split at he
    · cases he
    · rename_i h1 h1e
      split at he
      · rename_i cs hcs hlt
        rw [fvs_eq, hsetK_eq] at he
        simp only [Option.some.injEq] at he; subst he
        rw [hget_hset _ _ _ _ (blt_iff.1 hlt)] at hi
        by_cases e' : p.1 + k = i
        · rw [if_pos e'] at hi; cases hi
          exact .inl ⟨p, by simp, e', rfl, rfl, hcs⟩
        · rw [if_neg e'] at hi
          rcases insS_get h1e i e hi with ⟨q, hq, a⟩ | a
          · exact .inl ⟨q, by simp [hq], a⟩
          · exact .inr a
      · cases he
end Go.Sy

/- A symbolic run of a program: a call without arguments that reads variables of packages alone. -/
namespace Go.Sy
open Go.RowKit (Below)
/-- The variables hold what the reckoning takes them to hold. -/
structure VarsAt (gs : List (Nat × Ent)) (w : World) : Prop where
  at' : ∀ p ∈ gs, p.1 < w.heap.size → ∀ (i : Nat) v, p.2.cs[i]? = some v → w.cell? ⟨p.1, i, none⟩ = some v
  blk : ∀ p ∈ gs, ∃ c el fr, w.heap[p.1]? = some (.cells c el fr)
  one : ∀ p ∈ gs, ∀ v ∈ p.2.cs, v.oneCell' = true
theorem closed_var {P : Program} (hmix : P.follows .mixedOrders = true) (gs : List (Nat × Ent)) (hgs : gOk gs = true) (n : Nat) {f : FuncId} {v : Value} {h' : Hp} {nx' : Nat} (he : evF P noO n f [] (gHp gs) 64 = some (v, h', nx')) (hv : flatN 4 v = true) (w : World) (hw : VarsAt gs w) : Calls P f #[] w (fun e w' => e = .returned v ∧ Below w.heap.size w w') := by
  have hno : ∀ i e, hget (gHp gs) i = some e → ¬ own e := fun i e h => by
    obtain ⟨_, _, a3, _⟩ := gHp_get hgs h
    exact fun ho => own_n0 ho a3
  let E : Env := ⟨fun i => if i < 64 then some (i, 0, 0) else none, fun _ => none⟩
  have hs : Sat E (hget (gHp gs)) w := by
    refine ⟨fun i e h => ?_, fun i j e f p q h _ _ ho => (hno i e h ho).elim⟩
    obtain ⟨a1, a2, a3, a4⟩ := gHp_get hgs h
    refine ⟨(i, 0, 0), if_pos a2, .cells (by rw [a3]; decide) (by rw [a3]; decide) (fun _ => rfl) ?_⟩
    obtain ⟨c, el, fr, hb⟩ := hw.blk _ a1
    refine ⟨c, el, fr, hb, fun j u hu => ?_, fun ho => (hno i e h ho).elim, (fun hk => by rw [hk] at a3; cases a3), fun hk => by rw [hk] at a3; cases a3⟩
    have hlt : i < w.heap.size := by
      rcases Nat.lt_or_ge i w.heap.size with h | h
      · exact h
      · rw [show ((i, e) : Nat × Ent).1 = i from rfl, Array.getElem?_eq_none h] at hb; cases hb
    have hc := hw.at' _ a1 hlt j u hu
    have hm := List.mem_of_getElem? hu
    refine ⟨u, ?_, flat_rn 4 u (List.all_eq_true.1 a4 u hm), hw.one _ a1 u hm⟩
    unfold World.cell? at hc
    simp only at hc hb
    rw [hb] at hc
    simpa using hc
  refine (calls_ok (noO_ok P) noO_mono hmix n f [] (gHp gs) 64 v h' nx' he E w [] hs (fun g hg => if_pos hg) (fun i h _ => if_neg (by omega)) .nil).mono ?_
  rintro e w' ⟨v', E', rfl, hr, hp⟩
  exact ⟨by rw [flat_eq 4 v v' hv hr], ⟨hp.frm.os, hp.frm.tape, hp.frm.output, hp.frm.size, fun k hk => hp.frm.block k hk fun i e p h ho => (hno i e h ho).elim⟩⟩
/-- Unknown values, by number. -/
def unk : Nat → List Value
  | 0 => []
  | n + 1 => unk n ++ [.complex .f64 n 0]
theorem unk_rn {E : Env} : ∀ (vs : List Value), (∀ i, i < vs.length → E.oq i = vs[i]?) → (∀ v ∈ vs, v.oneCell' = true) → Rns E (unk vs.length) vs := by
  intro vs
  induction hn : vs.length generalizing vs with
  | zero => intro _ _; rw [List.eq_nil_of_length_eq_zero hn]; exact .nil
  | succ n ih =>
    intro h1 h2
    have hne : vs ≠ [] := fun e => by rw [e] at hn; cases hn
    have e : vs = vs.dropLast ++ [vs.getLast hne] := (List.dropLast_concat_getLast hne).symm
    have hl : vs.dropLast.length = n := by rw [List.length_dropLast, hn]; rfl
    have hg : vs[n]? = some (vs.getLast hne) := by
      rw [List.getLast_eq_getElem]
      rw [List.getElem?_eq_getElem (by omega)]
      congr 1
      congr 1
      omega
    rw [e]
    refine (ih vs.dropLast hl (fun i hi => ?_) (fun v hv => h2 v (List.dropLast_subset _ hv))).append (.cons (rn_opq.2 ⟨?_, h2 _ (List.getLast_mem hne)⟩) .nil)
    · rw [h1 i (by omega), List.dropLast_eq_take, List.getElem?_take, if_pos (by omega)]
    · rw [h1 n (by omega), hg]
theorem closed_args {P : Program} (hmix : P.follows .mixedOrders = true) (gs : List (Nat × Ent)) (hgs : gOk gs = true) (n : Nat) {f : FuncId} {v : Value} {h' : Hp} {nx' : Nat} (vs : List Value) (h1 : ∀ v ∈ vs, v.oneCell' = true) (he : evF P noO n f (unk vs.length) (gHp gs) 64 = some (v, h', nx')) (hv : flatN 4 v = true) (w : World) (hw : VarsAt gs w) : Calls P f ⟨vs⟩ w (fun e w' => e = .returned v ∧ Below w.heap.size w w') := by
  have hno : ∀ i e, hget (gHp gs) i = some e → ¬ own e := fun i e h => by
    obtain ⟨_, _, a3, _⟩ := gHp_get hgs h
    exact fun ho => own_n0 ho a3
  let E : Env := ⟨fun i => if i < 64 then some (i, 0, 0) else none, fun i => vs[i]?⟩
  have hs : Sat E (hget (gHp gs)) w := by
    refine ⟨fun i e h => ?_, fun i j e f p q h _ _ ho => (hno i e h ho).elim⟩
    obtain ⟨a1, a2, a3, a4⟩ := gHp_get hgs h
    refine ⟨(i, 0, 0), if_pos a2, .cells (by rw [a3]; decide) (by rw [a3]; decide) (fun _ => rfl) ?_⟩
    obtain ⟨c, el, fr, hb⟩ := hw.blk _ a1
    refine ⟨c, el, fr, hb, fun j u hu => ?_, fun ho => (hno i e h ho).elim, (fun hk => by rw [hk] at a3; cases a3), fun hk => by rw [hk] at a3; cases a3⟩
    have hlt : i < w.heap.size := by
      rcases Nat.lt_or_ge i w.heap.size with h | h
      · exact h
      · rw [show ((i, e) : Nat × Ent).1 = i from rfl, Array.getElem?_eq_none h] at hb; cases hb
    have hc := hw.at' _ a1 hlt j u hu
    have hm := List.mem_of_getElem? hu
    refine ⟨u, ?_, flat_rn 4 u (List.all_eq_true.1 a4 u hm), hw.one _ a1 u hm⟩
    unfold World.cell? at hc
    simp only at hc hb
    rw [hb] at hc
    simpa using hc
  refine (calls_ok (noO_ok P) noO_mono hmix n f (unk vs.length) (gHp gs) 64 v h' nx' he E w vs hs (fun g hg => if_pos hg) (fun i h _ => if_neg (by omega)) (unk_rn vs (fun i _ => rfl) h1)).mono ?_
  rintro e w' ⟨v', E', rfl, hr, hp⟩
  exact ⟨by rw [flat_eq 4 v v' hv hr], ⟨hp.frm.os, hp.frm.tape, hp.frm.output, hp.frm.size, fun k hk => hp.frm.block k hk fun i e p h ho => (hno i e h ho).elim⟩⟩
end Go.Sy

/- The chapter's examples (awake): reckoned by the kernel over any memory. -/
namespace Go.Proofs.YtfjpdflilmcnhaaDoor
open Go.Sy
set_option maxRecDepth 100000
theorem mixed : Tryd.prog.follows .mixedOrders = true := by kernel_rfl
def isTrue (r : Option (Value × Hp × Nat)) : Bool := match r with
  | some (.bool true, _, _) => true
  | _ => false
theorem awake_is : isTrue (evF Tryd.prog noO 100000 9 (unk 0) (gHp []) 64) = true := by kernel_rfl
theorem awake_any (w : World) : Calls Tryd.prog 9 #[] w fun e w' => e = .returned (.bool true) ∧ Go.RowKit.Below w.heap.size w w' := by
  have h := awake_is
  unfold isTrue at h
  split at h
  · rename_i h' nx he
    exact closed_args mixed [] rfl 100000 [] (fun v hv => by cases hv) he rfl w ⟨fun p hp => (by cases hp), fun p hp => (by cases hp), fun p hp => (by cases hp)⟩
  · cases h
end Go.Proofs.YtfjpdflilmcnhaaDoor

/- Of unlike keys. -/
namespace Go.Proofs.YtfjpdflilmcnhaaDoor
open Go.ChangeShapes Go.WideShapes Go.ChangeAt Go.RowKit

theorem eq46 (k k' n n' : Int) (t t' : ByteArray) (w : World) : (binOp .eql 46 (.agg #[.int .i64 k, .int .i64 n, .string t]) (.agg #[.int .i64 k', .int .i64 n', .string t'])).run Tryd.prog w = .ok (.bool (k == k' && n == n' && t.toList == t'.toList)) w := by
  rw [run_eql_struct, run_equalIn_agg w 9999 46 _ _ hf46 hs46]
  simp [Op.eqFields, Program.fieldsOf, Tryd.underlying46, go_sem, Tryd.underlying9, Tryd.underlying3]
  by_cases h1 : t.toList = t'.toList <;> by_cases h2 : k = k' <;> by_cases h3 : n = n' <;> simp [h1, h2, h3]
def eqVv (u v : Val) : Bool := u.1 == v.1 && u.2.1 == v.2.1 && u.2.2.toList == v.2.2.toList
theorem eqVv_eq {u v : Val} (h : eqVv u v = true) : u = v := by
  unfold eqVv at h
  obtain ⟨u1, u2, u3⟩ := u
  obtain ⟨v1, v2, v3⟩ := v
  simp only [Bool.and_eq_true, beq_iff_eq, ba_toList] at h
  obtain ⟨⟨rfl, rfl⟩, rfl⟩ := h
  rfl
/-- Are the values of two rows the same at the first r columns? -/
def smU (f g : Nat → Val) : Nat → Bool
  | 0 => true
  | r + 1 => smU f g r && eqVv (f r) (g r)
theorem smU_all {f g : Nat → Val} : ∀ {r : Nat}, smU f g r = true → ∀ x, x < r → f x = g x
  | 0, _, x, hx => by omega
  | r + 1, h, x, hx => by
    rw [smU, Bool.and_eq_true] at h
    rcases Nat.lt_or_ge x r with hx' | hx'
    · exact smU_all h.1 x hx'
    · rw [show x = r by omega]; exact eqVv_eq h.2
def colV (r : List Val) (zs : List Int) (x : Nat) : Val := vAt r (zs.getD x 0).toNat
theorem smU_key {r r' : List Val} {zs : List Int} (h : smU (colV r zs) (colV r' zs) zs.length = true) : keyP r zs = keyP r' zs := by
  unfold keyP
  apply List.ext_getElem
  · simp
  · intro i h1 h2
    have hi : i < zs.length := by simpa using h1
    have := smU_all h i hi
    unfold colV at this
    rw [List.getD_eq_getElem?_getD, List.getElem?_eq_getElem hi] at this
    simpa using this
theorem aAt_lt {l : List Arv} {i : Nat} (h : i < l.length) : aAt l i = l[i] := by
  unfold aAt
  rw [List.getD_eq_getElem?_getD, List.getElem?_eq_getElem h]; rfl
theorem ue_differ {key : Nat → List Val} {n i j : Nat} (hij : j < i) (hi : i < (ueP key n).length) : key ((ueP key n).getD i 0) ≠ key ((ueP key n).getD j 0) := by
  have hj : j < (ueP key n).length := by omega
  rw [List.getD_eq_getElem?_getD, List.getElem?_eq_getElem hi, List.getD_eq_getElem?_getD, List.getElem?_eq_getElem hj]
  simp only [Option.getD_some]
  have hs : (ueP key n).Pairwise fun a b => a < b := (List.pairwise_lt_range).sublist (List.filter_sublist)
  have hlt : (ueP key n)[j] < (ueP key n)[i] := List.pairwise_iff_getElem.1 hs j i hj hi hij
  have hmi := List.mem_filter.1 (List.getElem_mem hi)
  have hmj := List.mem_filter.1 (List.getElem_mem hj)
  intro he
  have h2 := hmj.2
  rw [Bool.not_eq_true', List.any_eq_false] at h2
  exact h2 _ hmi.1 (by rw [Bool.and_eq_true]; exact ⟨decide_eq_true hlt, decide_eq_true he⟩)
end Go.Proofs.YtfjpdflilmcnhaaDoor
