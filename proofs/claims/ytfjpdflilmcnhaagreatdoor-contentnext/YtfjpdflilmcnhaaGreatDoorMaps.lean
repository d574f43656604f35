/- Maps in memory as lists of entries: what a look-up, a store and a deletion do to such a list. -/
import Derived.Test.YtfjpdflilmcnhaaGreatDoorBase
import Derived.MapKept
import Derived.ChangeMaps4
namespace Go.Proofs.YtfjpdflilmcnhaaGreatDoor
open Go.ChangeShapes Go.WideShapes Go.ChangeAt Go.RowKit
open Go.ChangeMaps (setBlock)
theorem getM {P : Program} {w : World} {r : Nat} {es : Array MapEntry} {c : Nat} (hb : w.heap[r]? = some (.map es c)) : (getObj r).run P w = .ok (.map es c) w := by simp [getObj, Sem.run, hb]
theorem setM {P : Program} {w : World} {r : Nat} {es : Array MapEntry} {c : Nat} (o : Obj) (hb : w.heap[r]? = some (.map es c)) : (setObj r o).run P w = .ok () (setBlock w r o) := by simp [setObj, Sem.run, hb, setBlock]

section
variable {α β : Type} [DecidableEq α]
def lk (L : List (α × β)) (k : α) : Option β := (L.find? fun x => decide (x.1 = k)).map (·.2)
def up : List (α × β) → α → β → List (α × β)
  | [], k, v => [(k, v)]
  | x :: L, k, v => if x.1 = k then (k, v) :: L else x :: up L k v
def rm : List (α × β) → α → List (α × β)
  | [], _ => []
  | x :: L, k => if x.1 = k then L else x :: rm L k
theorem lk_cons (x : α × β) (L : List (α × β)) (k : α) : lk (x :: L) k = if x.1 = k then some x.2 else lk L k := by
  unfold lk
  by_cases h : x.1 = k <;> simp [h]

/-- The block b is a map of just these entries, in the order in which they came. -/
structure MapIs (eK : α → Value) (eV : β → Value) (w : World) (b : Nat) (L : List (α × β)) (es : Array MapEntry) (clk : Nat) : Prop where
  at_ : w.heap[b]? = some (.map es clk)
  same : es.toList.map (fun e => (e.key, e.val)) = L.map (fun x => (eK x.1, eV x.2))
  old : ∀ e ∈ es.toList, e.born < clk
  once : (es.toList.map (·.born)).Nodup
/-- Keys of a type: they may be keys, and how one is found among others. -/
structure KeysOf (P : Program) (K : TypeId) (eK : α → Value) : Prop where
  may : ∀ (b : Bool) (k : α) (w : World), (Instr.checkKey b 10000 K (eK k)).run P w = .ok () w
  find : ∀ (k : α) (es : List MapEntry) (ks : List α) (w : World), es.map (·.key) = ks.map eK → (Instr.findKey K (eK k) es).run P w = .ok ((ks.findIdx? fun x => decide (x = k)).map fun i => (i, (es[i]?.map (·.val)).getD .nilIface)) w
  bits : ∀ k : α, Instr.sameBits 10000 (eK k) (eK k) = true

theorem findIdx_lk {eK : α → Value} {eV : β → Value} {L : List (α × β)} {es : List MapEntry} (h : es.map (fun e => (e.key, e.val)) = L.map (fun x => (eK x.1, eV x.2))) (k : α) :
    ((L.map (·.1)).findIdx? fun x => decide (x = k)).map (fun i => (es[i]?.map (·.val)).getD .nilIface) = (lk L k).map eV := by
  induction L generalizing es with
  | nil => simp [lk]
  | cons x L ih =>
    cases es with
    | nil => simp at h
    | cons e es =>
      simp only [List.map_cons, List.cons.injEq, Prod.mk.injEq] at h
      rw [lk_cons]
      by_cases hx : x.1 = k
      · simp [List.findIdx?_cons, hx, h.1.2]
      · simp only [List.map_cons, List.findIdx?_cons, hx, decide_false, Bool.false_eq_true, if_false]
        rw [← ih h.2]
        cases (List.findIdx? (fun x => decide (x = k)) (List.map (·.1) L)) <;> simp

variable {P : Program} {T K E : TypeId} {eK : α → Value} {eV : β → Value} {w : World} {b : Nat} {L : List (α × β)} {es : Array MapEntry} {clk : Nat}
set_option linter.unusedSectionVars false in
theorem MapIs.keys (h : MapIs eK eV w b L es clk) : es.toList.map (·.key) = (L.map (·.1)).map eK := by
  have := congrArg (List.map (·.1)) h.same
  simpa only [List.map_map, Function.comp_def] using this
theorem MapIs.look (h : MapIs eK eV w b L es clk) (hT : P.underlying T = some (.map K E)) (hK : KeysOf P K eK) (z : Value) (hz : ∀ u : World, (zeroValue E).run P u = .ok z u) (k : α) :
    (Instr.lookup T (.map (some b)) (eK k) false).run P w = .ok (((lk L k).map eV).getD z) w := by
  have e := findIdx_lk h.same k
  simp only [Instr.lookup, Sem.run_bind, run_underlying hT, Result.andThen_ok, getM h.at_, hK.may, hK.find k es.toList (L.map (·.1)) w h.keys, Sem.run_pure]
  cases hf : (List.findIdx? (fun x => decide (x = k)) (List.map (·.1) L)) with
  | none => rw [hf] at e; simp only [Option.map_none] at e; simp [← e, hz]
  | some i => rw [hf] at e; simp only [Option.map_some] at e; simp [← e]
theorem MapIs.lookOk (h : MapIs eK eV w b L es clk) (hT : P.underlying T = some (.map K E)) (hK : KeysOf P K eK) (z : Value) (hz : ∀ u : World, (zeroValue E).run P u = .ok z u) (k : α) :
    (Instr.lookup T (.map (some b)) (eK k) true).run P w = .ok (.tuple #[((lk L k).map eV).getD z, .bool (lk L k).isSome]) w := by
  have e := findIdx_lk h.same k
  have e2 : (lk L k).isSome = ((lk L k).map eV).isSome := by simp
  rw [e2]
  simp only [Instr.lookup, Sem.run_bind, run_underlying hT, Result.andThen_ok, getM h.at_, hK.may, hK.find k es.toList (L.map (·.1)) w h.keys, Sem.run_pure]
  cases hf : (List.findIdx? (fun x => decide (x = k)) (List.map (·.1) L)) with
  | none => rw [hf] at e; simp only [Option.map_none] at e; simp [← e, hz]
  | some i => rw [hf] at e; simp only [Option.map_some] at e; simp [← e]
theorem up_at {k : α} {v : β} {i : Nat} (hf : (L.map (·.1)).findIdx? (fun x => decide (x = k)) = some i) : up L k v = L.set i (k, v) := by
  induction L generalizing i with
  | nil => simp at hf
  | cons x L ih =>
    by_cases hx : x.1 = k
    · simp [List.findIdx?_cons, hx] at hf; subst hf; simp [up, hx]
    · simp only [List.map_cons, List.findIdx?_cons, hx, decide_false, Bool.false_eq_true, if_false] at hf
      cases hg : List.findIdx? (fun x => decide (x = k)) (List.map (·.1) L) with
      | none => rw [hg] at hf; simp at hf
      | some j => rw [hg] at hf; simp at hf; subst hf; simp [up, hx, ih hg]
theorem up_new {k : α} {v : β} (hf : (L.map (·.1)).findIdx? (fun x => decide (x = k)) = none) : up L k v = L ++ [(k, v)] := by
  induction L with
  | nil => rfl
  | cons x L ih =>
    by_cases hx : x.1 = k
    · simp [List.findIdx?_cons, hx] at hf
    · simp only [List.map_cons, List.findIdx?_cons, hx, decide_false, Bool.false_eq_true, if_false] at hf
      have : List.findIdx? (fun x => decide (x = k)) (List.map (·.1) L) = none := by
        cases hg : List.findIdx? (fun x => decide (x = k)) (List.map (·.1) L) with
        | none => rfl
        | some j => rw [hg] at hf; simp at hf
      simp [up, hx, ih this]
theorem rm_at {k : α} {i : Nat} (hf : (L.map (·.1)).findIdx? (fun x => decide (x = k)) = some i) : rm L k = L.eraseIdx i := by
  induction L generalizing i with
  | nil => simp at hf
  | cons x L ih =>
    by_cases hx : x.1 = k
    · simp [List.findIdx?_cons, hx] at hf; subst hf; simp [rm, hx]
    · simp only [List.map_cons, List.findIdx?_cons, hx, decide_false, Bool.false_eq_true, if_false] at hf
      cases hg : List.findIdx? (fun x => decide (x = k)) (List.map (·.1) L) with
      | none => rw [hg] at hf; simp at hf
      | some j => rw [hg] at hf; simp at hf; subst hf; simp [rm, hx, ih hg]
theorem rm_none {k : α} (hf : (L.map (·.1)).findIdx? (fun x => decide (x = k)) = none) : rm L k = L := by
  induction L with
  | nil => rfl
  | cons x L ih =>
    by_cases hx : x.1 = k
    · simp [List.findIdx?_cons, hx] at hf
    · simp only [List.map_cons, List.findIdx?_cons, hx, decide_false, Bool.false_eq_true, if_false] at hf
      have : List.findIdx? (fun x => decide (x = k)) (List.map (·.1) L) = none := by
        cases hg : List.findIdx? (fun x => decide (x = k)) (List.map (·.1) L) with
        | none => rfl
        | some j => rw [hg] at hf; simp at hf
      simp [rm, hx, ih this]
theorem key_at {es : List MapEntry} (hk : es.map (·.key) = (L.map (·.1)).map eK) {k : α} {i : Nat} (hf : (L.map (·.1)).findIdx? (fun x => decide (x = k)) = some i) : (es[i]?).map (·.key) = some (eK k) := by
  have h1 := List.findIdx?_eq_some_iff_getElem.1 hf
  obtain ⟨hi, hp, _⟩ := h1
  have h2 : (L.map (·.1))[i] = k := by simpa using hp
  rw [← List.getElem?_map, hk, List.getElem?_map, List.getElem?_eq_getElem hi, h2]; rfl
theorem MapIs.store (h : MapIs eK eV w b L es clk) (hT : P.underlying T = some (.map K E)) (hK : KeysOf P K eK) (k : α) (v : β) :
    ∃ es' clk', (Instr.mapUpdate T (.map (some b)) (eK k) (eV v)).run P w = .ok () (setBlock w b (.map es' clk')) ∧ ∀ u : World, u.heap[b]? = some (.map es' clk') → MapIs eK eV u b (up L k v) es' clk' := by
  simp only [Instr.mapUpdate, Sem.run_bind, run_underlying hT, Result.andThen_ok, getM h.at_, hK.may, hK.find k es.toList (L.map (·.1)) w h.keys]
  cases hf : (List.findIdx? (fun x => decide (x = k)) (List.map (·.1) L)) with
  | none =>
    refine ⟨es.push ⟨eK k, eV v, clk⟩, clk + 1, ?_, fun u hu => ⟨hu, ?_, ?_, ?_⟩⟩
    · simp only [Option.map_none, setM _ h.at_]
    · simp [h.same, up_new hf]
    · intro e he
      simp at he
      rcases he with he | rfl
      · have := h.old e (by simpa using he); omega
      · simp
    · simp only [Array.toList_push, List.map_append, List.map_cons, List.map_nil]
      rw [List.nodup_append]
      refine ⟨h.once, by simp, ?_⟩
      intro x hx y hy
      simp only [List.mem_singleton] at hy; subst hy
      obtain ⟨e, he, rfl⟩ := List.mem_map.1 hx
      have := h.old e he; omega
  | some i =>
    have hkey := key_at (eK := eK) h.keys hf
    have hkey' : ((es[i]?).map (·.key)).getD (eK k) = eK k := by rw [← Array.getElem?_toList, hkey]; rfl
    refine ⟨es.modify i fun e => { e with key := eK k, val := eV v }, clk, ?_, fun u hu => ⟨hu, ?_, ?_, ?_⟩⟩
    · simp only [Option.map_some, hkey', Instr.keyThatStays, hK.bits, if_true, Sem.run_bind, Sem.run_pure, Result.andThen_ok, setM _ h.at_]
    · rw [Array.toList_modify, up_at hf]
      have hs := h.same
      apply List.ext_getElem?
      intro j
      have hj := congrArg (fun l => l[j]?) hs
      simp only [List.getElem?_map] at hj ⊢
      rw [List.getElem?_modify, List.getElem?_set]
      by_cases hij : i = j
      · subst hij
        have hl : i < es.toList.length := by
          rcases Nat.lt_or_ge i es.toList.length with h' | h'
          · exact h'
          · rw [List.getElem?_eq_none h'] at hkey; simp at hkey
        have hl2 : i < L.length := by
          have := congrArg List.length hs; simp at this; simp at hl; omega
        simp [hl2, List.getElem?_eq_getElem hl]
      · simp only [hij, if_false, id_map', hj]
    · intro e he
      rw [Array.toList_modify] at he
      obtain ⟨j, hj, rfl⟩ := List.mem_iff_getElem.1 he
      rw [List.getElem_modify]
      have hjl : j < es.toList.length := by simpa using hj
      have := h.old es.toList[j] (List.getElem_mem hjl)
      split <;> simpa using this
    · rw [Array.toList_modify]
      have : (es.toList.modify i fun e => { e with key := eK k, val := eV v }).map (·.born) = es.toList.map (·.born) := by
        apply List.ext_getElem?
        intro j
        simp only [List.getElem?_map, List.getElem?_modify]
        cases es.toList[j]? with
        | none => simp
        | some x => by_cases hij : i = j <;> simp [hij]
      rw [this]; exact h.once
theorem MapIs.erase (h : MapIs eK eV w b L es clk) (hT : P.underlying T = some (.map K E)) (hK : KeysOf P K eK) (k : α) (r : TypeId) :
    ∃ es' clk', (Builtin.delete_ #[T, K] r #[.map (some b), eK k]).run P w = .ok (.tuple #[]) (setBlock w b (.map es' clk')) ∧ ∀ u : World, u.heap[b]? = some (.map es' clk') → MapIs eK eV u b (rm L k) es' clk' := by
  simp only [Builtin.delete_, List.getElem?_toArray, List.getElem?_cons_zero, List.getElem?_cons_succ, Sem.run_bind, run_underlying hT, Result.andThen_ok, getM h.at_, hK.may, hK.find k es.toList (L.map (·.1)) w h.keys]
  cases hf : (List.findIdx? (fun x => decide (x = k)) (List.map (·.1) L)) with
  | none =>
    refine ⟨es, clk, ?_, fun u hu => ⟨hu, ?_, h.old, h.once⟩⟩
    · simp only [Option.map_none, Sem.run_bind, setM _ h.at_, Result.andThen_ok, Sem.run_pure]
    · rw [rm_none hf]; exact h.same
  | some i =>
    have hl : i < es.size := by
      have hkey := key_at (eK := eK) h.keys hf
      rcases Nat.lt_or_ge i es.toList.length with h' | h'
      · simpa using h'
      · rw [List.getElem?_eq_none h'] at hkey; simp at hkey
    have hE : (es.eraseIdxIfInBounds i).toList = es.toList.eraseIdx i := by
      rw [Array.eraseIdxIfInBounds, dif_pos hl, Array.toList_eraseIdx]
    refine ⟨es.eraseIdxIfInBounds i, clk, ?_, fun u hu => ⟨hu, ?_, ?_, ?_⟩⟩
    · simp only [Option.map_some, Sem.run_bind, setM _ h.at_, Result.andThen_ok, Sem.run_pure]
    · rw [hE, rm_at hf, Go.ChangeMaps.map_eraseIdx, h.same, Go.ChangeMaps.map_eraseIdx]
    · intro e he
      rw [hE] at he
      exact h.old e (List.mem_of_mem_eraseIdx he)
    · rw [hE, Go.ChangeMaps.map_eraseIdx]
      exact h.once.sublist (List.eraseIdx_sublist _ _)
end
end Go.Proofs.YtfjpdflilmcnhaaGreatDoor
