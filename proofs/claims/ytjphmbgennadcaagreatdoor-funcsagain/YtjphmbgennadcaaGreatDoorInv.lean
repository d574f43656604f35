/- A region that draws its order, by an invariant. -/
import Derived.Test.YtjphmbgennadcaaGreatDoorBase
import Derived.Deep.RegionHeld3
namespace Go.Proofs.YtjphmbgennadcaaGreatDoor
set_option maxHeartbeats 4000000
set_option maxRecDepth 20000
set_option linter.unusedSimpArgs false
open Go.ChangeShapes Go.WideShapes Go.ChangeAt Go.RowKit


/-- The slots of a list, filled. -/
def putL (a : Act) (X : Nat → Value) : List Nat → Act
  | [] => a
  | d :: ds => (putL a X ds).put (some d) (X d)
def updV (X : Nat → Value) (d : Nat) (v : Value) : Nat → Value := fun k => if k == d then v else X k
def updB (L : Nat → Bool) (i : Nat) : Nat → Bool := fun k => if Nat.beq k i then true else L k
theorem updV_same (X : Nat → Value) (d : Nat) (v : Value) : updV X d v d = v := by unfold updV; rw [if_pos (by simp)]
theorem updV_ne (X : Nat → Value) (d k : Nat) (v : Value) (h : Nat.beq k d = false) : updV X d v k = X k := by
  unfold updV
  rw [if_neg]
  intro e
  have e2 : k = d := by simpa using e
  subst e2
  rw [Nat.beq_refl] at h
  cases h
theorem updV_self {X : Nat → Value} {d : Nat} {v : Value} (h : X d = v) : updV X d v = X := by
  funext k
  unfold updV
  split
  · rename_i e
    have e2 : k = d := by simpa using e
    rw [e2, h]
  · rfl
theorem updB_same (L : Nat → Bool) (i : Nat) : updB L i i = true := by unfold updB; rw [if_pos (Nat.beq_refl i)]
theorem updB_ne (L : Nat → Bool) (i k : Nat) (h : Nat.beq k i = false) : updB L i k = L k := by unfold updB; rw [h]; rfl
theorem updB_old {L : Nat → Bool} {i k : Nat} (h : updB L i k = true) (hk : Nat.beq k i = false) : L k = true := by rwa [updB_ne _ _ _ hk] at h
theorem put_put (a : Act) (d : Nat) (u v : Value) : (a.put (some d) u).put (some d) v = a.put (some d) v := by
  simp only [Act.put, Array.setIfInBounds_setIfInBounds]
theorem putL_congr (a : Act) (X Y : Nat → Value) : ∀ (ds : List Nat), (∀ k ∈ ds, X k = Y k) → putL a X ds = putL a Y ds
  | [], _ => rfl
  | d :: ds, h => by
    rw [putL, putL, putL_congr a X Y ds (fun k hk => h k (List.mem_cons_of_mem _ hk)), h d List.mem_cons_self]
theorem putL_put (a : Act) (X : Nat → Value) (d : Nat) (v : Value) : ∀ (ds : List Nat), d ∈ ds → (putL a X ds).put (some d) v = putL a (updV X d v) ds
  | [], h => by cases h
  | e :: ds, h => by
    by_cases hde : e = d
    · subst hde
      rw [putL, putL, put_put, updV_same]
      by_cases hm : e ∈ ds
      · rw [← putL_put a X e v ds hm, put_put]
      · rw [putL_congr a X (updV X e v) ds (fun k hk => (updV_ne X e k v (by
          cases hb : Nat.beq k e
          · rfl
          · have := Nat.eq_of_beq_eq_true hb
            subst this; exact absurd hk hm)).symm)]
    · have hm : d ∈ ds := by
        rcases List.mem_cons.1 h with h | h
        · exact absurd h.symm hde
        · exact h
      rw [putL, putL, Act.put_comm _ _ _ (fun x hx hy => by cases hx; cases hy; exact hde rfl), putL_put a X d v ds hm, updV_ne X d e v (by
        cases hb : Nat.beq e d
        · rfl
        · exact absurd (Nat.eq_of_beq_eq_true hb) hde)]
theorem put_own (a : Act) (d : Nat) : a.put (some d) (a.tmps.getD d undef) = a := by
  obtain ⟨t, df⟩ := a
  simp only [Act.put]
  congr 1
  apply Array.ext_getElem?
  intro i
  rw [Array.getElem?_setIfInBounds]
  split
  · rename_i h
    subst h
    split
    · rename_i h2
      simp [Array.getD_eq_getD_getElem?, h2]
    · rename_i h2
      rw [Array.getElem?_eq_none (by omega)]
  · rfl
theorem putL_own (a : Act) : ∀ (ds : List Nat), putL a (fun d => a.tmps.getD d undef) ds = a
  | [] => rfl
  | d :: ds => by rw [putL, putL_own a ds]; exact put_own a d
/-- Waits number j for number i? -/
def depB (md : Region.Mode) (o : Oper) (j : Nat) : Bool := o.after.any fun e => Region.binds md e && Nat.beq e.on j
/-- Each waits for those ahead of it alone. -/
def acyB (ops : Array Oper) : Bool := (List.range ops.size).all fun i => match ops[i]? with | some o => o.after.all fun e => decide (e.on < i) | none => true
theorem acy_spec {ops : Array Oper} (h : acyB ops = true) {i : Nat} {o : Oper} (ho : ops[i]? = some o) : ∀ e ∈ o.after, e.on < i := by
  intro e he
  unfold acyB at h
  rw [List.all_eq_true] at h
  have h1 := h i (List.mem_range.2 (Array.getElem?_eq_some_iff.1 ho).1)
  rw [ho] at h1
  simp only at h1
  rw [Array.all_eq_true_iff_forall_mem] at h1
  exact of_decide_eq_true (h1 e he)
/-- What one operation owes. -/
def StepI (P : Program) (md : Region.Mode) (ops : Array Oper) (Q : Exit → Act → World → Prop) (ds : List Nat) (a0 : Act) (I : (Nat → Bool) → (Nat → Value) → World → Prop) (i : Nat) (o : Oper) : Prop :=
  ∀ L X w, I L X w → L i = false → (∀ j, depB md o j = true → L j = true) → ∀ K : Act → World → Prop, Shut (∀ X' w', I (updB L i) X' w' → K (putL a0 X' ds) w') →
    if Region.wanted o (yielded ops (putL a0 X ds).tmps) = true then Oper.wp P o (putL a0 X ds) w K Q else K ((putL a0 X ds).put o.dst undef) w
def AllI (P : Program) (md : Region.Mode) (ops : Array Oper) (Q : Exit → Act → World → Prop) (ds : List Nat) (a0 : Act) (I : (Nat → Bool) → (Nat → Value) → World → Prop) (rs : List Nat) : Prop :=
  ∀ i ∈ rs, ∀ o, ops[i]? = some o → StepI P md ops Q ds a0 I i o
section
variable {P : Program} {md : Region.Mode} {ops : Array Oper} {Q : Exit → Act → World → Prop} {ds : List Nat} {a0 : Act} {I : (Nat → Bool) → (Nat → Value) → World → Prop}
theorem AllI.nil : AllI P md ops Q ds a0 I [] := fun _ h => by cases h
theorem AllI.cons {i : Nat} {o : Oper} {rs : List Nat} (ho : ops[i]? = some o) (h : StepI P md ops Q ds a0 I i o) (hs : AllI P md ops Q ds a0 I rs) : AllI P md ops Q ds a0 I (i :: rs) := fun j hj o' ho' => by
  rcases List.mem_cons.1 hj with rfl | hj
  · rw [ho] at ho'; cases ho'; exact h
  · exact hs j hj o' ho'
/-- How many have not come up. -/
def unl (listed : Array Bool) : Nat := listed.toList.countP (fun b => !b)
theorem unl_set (listed : Array Bool) (i : Nat) (h : listed.getD i true = false) : unl (listed.setIfInBounds i true) + 1 = unl listed := by
  have hi : i < listed.size := by
    rcases Nat.lt_or_ge i listed.size with h1 | h1
    · exact h1
    · simp [Array.getD_eq_getD_getElem?, Array.getElem?_eq_none h1] at h
  have hb : listed.toList[i]'(by simpa using hi) = false := by
    simpa [Array.getD_eq_getD_getElem?, hi] using h
  obtain ⟨l⟩ := listed
  simp only [unl, List.setIfInBounds_toArray] at *
  clear h
  induction l generalizing i with
  | nil => simp at hi
  | cons x l ih =>
    cases i with
    | zero =>
      simp at hb
      subst hb
      simp [List.countP_cons]
    | succ i =>
      have := ih i (by simpa using hi) (by simpa using hb)
      simp only [List.set_cons_succ, List.countP_cons]
      omega
theorem unl_zero {listed : Array Bool} (h : unl listed = 0) (i : Nat) : listed.getD i true = true := by
  rcases Nat.lt_or_ge i listed.size with h1 | h1
  · unfold unl at h
    rw [List.countP_eq_zero] at h
    have := h (listed[i]) (by simp)
    simpa [Array.getD_eq_getD_getElem?, h1] using this
  · simp [Array.getD_eq_getD_getElem?, Array.getElem?_eq_none h1]
theorem all_of_ready {listed : Array Bool} (hac : acyB ops = true) (hsz : listed.size = ops.size) (hr : Region.ready md ops listed = []) : ∀ i, i < ops.size → listed.getD i true = true := by
  intro i
  induction i using Nat.strongRecOn with
  | ind i ih =>
    intro hi
    cases hl : listed.getD i true with
    | true => rfl
    | false =>
      exfalso
      have ho : ops[i]? = some ops[i] := Array.getElem?_eq_getElem hi
      have : i ∈ Region.ready md ops listed := mem_ready.2 ⟨hl, _, ho, fun e he _ => by
        have hlt := acy_spec hac ho e he
        have h1 := ih e.on hlt (by omega)
        have h2 : e.on < listed.size := by omega
        simp only [Array.getD_eq_getD_getElem?, Array.getElem?_eq_getElem h2, Option.getD_some] at h1 ⊢
        exact h1⟩
      rw [hr] at this
      cases this
/-- A region that draws, by an invariant: each operation is looked at once, whatever came before. -/
theorem wpAnyH_inv {S : World → Prop} (rs : List Nat) (hac : acyB ops = true) (hIS : ∀ L X w, I L X w → S w) (hstep : AllI P md ops Q ds a0 I rs)
    (hdone : ∀ L X w, I L X w → (∀ i, i < ops.size → L i = true) → Q .normal (putL a0 X ds) w) (l0 : Array Bool) (hcov : ((List.range ops.size).all fun i => l0.getD i true || rs.contains i) = true) :
    ∀ (fuel : Nat) (listed : Array Bool) (X : Nat → Value) (w : World), (∀ i, l0.getD i true = true → listed.getD i true = true) → listed.size = ops.size → unl listed ≤ fuel → I (fun i => listed.getD i true) X w → wpAnyH P md ops Q S fuel listed (putL a0 X ds) w
  | 0, listed, X, w, _, hsz, hf, hI => by
    have h0 := unl_zero (listed := listed) (by omega)
    refine ⟨?_, hdone _ _ _ hI (fun i _ => h0 i)⟩
    cases hr : Region.ready md ops listed with
    | nil => rfl
    | cons j js =>
      have : j ∈ Region.ready md ops listed := by rw [hr]; exact List.mem_cons_self
      have h1 := (mem_ready.1 this).1
      rw [h0 j] at h1
      cases h1
  | fuel + 1, listed, X, w, hmo, hsz, hf, hI => by
    refine ⟨fun hr => hdone _ _ _ hI (all_of_ready hac hsz hr), fun i hi => ?_⟩
    obtain ⟨hl, o, ho, hall⟩ := mem_ready.1 hi
    have hio : i < ops.size := (Array.getElem?_eq_some_iff.1 ho).1
    have hin : i ∈ rs := by
      rw [List.all_eq_true] at hcov
      have h1 := hcov i (List.mem_range.2 hio)
      cases h2 : l0.getD i true with
      | true => rw [hmo i h2] at hl; cases hl
      | false => rw [h2] at h1; simpa using h1
    have hst := hstep i hin o ho (fun i => listed.getD i true) X w hI hl (fun j hj => by
      unfold depB at hj
      rw [Array.any_eq_true'] at hj
      obtain ⟨e, he, hj⟩ := hj
      rw [Bool.and_eq_true] at hj
      have h1 := hall e he hj.1
      have h2 := Nat.eq_of_beq_eq_true hj.2
      rw [h2] at h1
      have h3 : j < listed.size := by
        rcases Nat.lt_or_ge j listed.size with h | h
        · exact h
        · simp [Array.getD_eq_getD_getElem?, Array.getElem?_eq_none h] at h1
      simp only [Array.getD_eq_getD_getElem?, Array.getElem?_eq_getElem h3, Option.getD_some] at h1 ⊢
      exact h1)
    refine wpOp_step ho (fun K' hK => hst K' (fun X' w' hI' => hK _ _ ⟨hIS _ _ _ hI', ?_⟩))
    have hu := unl_set listed i hl
    have hfun : (fun k => (listed.setIfInBounds i true).getD k true) = updB (fun k => listed.getD k true) i := by
      funext k
      unfold updB
      cases hb : Nat.beq k i with
      | true =>
        have hk := Nat.eq_of_beq_eq_true hb
        subst hk
        simp [Array.getD_eq_getD_getElem?, hsz, hio]
      | false =>
        have hk : i ≠ k := fun e => by subst e; rw [Nat.beq_refl] at hb; cases hb
        simp [Array.getD_eq_getD_getElem?, Array.getElem?_setIfInBounds, hk]
    refine wpAnyH_inv rs hac hIS hstep hdone l0 hcov fuel _ X' w' ?_ (by simpa using hsz) (by omega) (by rw [hfun]; exact hI')
    intro k hk
    have h1 := hmo k hk
    have h9 : (listed.setIfInBounds i true).getD k true = updB (fun k => listed.getD k true) i k := congrFun hfun k
    rw [h9]
    unfold updB
    split
    · rfl
    · exact h1
/-- .. from where the walk stands. -/
theorem wpAnyH_by {S : World → Prop} {fuel : Nat} {listed : Array Bool} {w : World} (rs : List Nat) (hac : acyB ops = true) (hsz : listed.size = ops.size) (hf : decide (unl listed ≤ fuel) = true) (hcov : ((List.range ops.size).all fun i => listed.getD i true || rs.contains i) = true)
    (hIS : ∀ L X w, I L X w → S w) (h0 : I (fun i => listed.getD i true) (fun d => a0.tmps.getD d undef) w) (hstep : AllI P md ops Q ds a0 I rs)
    (hdone : ∀ L X w, I L X w → (∀ i, i < ops.size → L i = true) → Q .normal (putL a0 X ds) w) : wpAnyH P md ops Q S fuel listed a0 w := by
  have h := wpAnyH_inv (S := S) rs hac hIS hstep hdone listed hcov fuel listed (fun d => a0.tmps.getD d undef) w (fun _ h => h) hsz (of_decide_eq_true hf) h0
  rwa [putL_own] at h
/-- The way back into the region. -/
theorem Shut.use {J : (Nat → Value) → World → Prop} {K : Act → World → Prop} (hK : Shut (∀ X' w', J X' w' → K (putL a0 X' ds) w')) (X' : Nat → Value) {a : Act} {w' : World} (e : putL a0 X' ds = a) (hI : J X' w') : K a w' := by
  subst e; exact hK.out X' w' hI
end
end Go.Proofs.YtjphmbgennadcaaGreatDoor
