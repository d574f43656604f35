/- What the texts of this seat share: 'Bel', what a walk's end is put together of. -/
import Derived.Test.YtfjpdflilmcnhaaDoorChecked
import Derived.WalkKit
import Derived.ProofKit
import Derived.WalkSpells
import Derived.WalkLawsBesides
import Derived.Deep.RegionHeld3
import Derived.Deep.DrawnRows
import Derived.Deep.QuietTactic
import Derived.BigQuiet
import Derived.WalkSmall
import Derived.LoopN
import Derived.MapKept
import Derived.ChangeMaps4
import Derived.Laws.StructEq
namespace Go.Proofs.YtfjpdflilmcnhaaDoor
open Go.ChangeShapes Go.WideShapes Go.ChangeAt Go.RowKit

/-- 'Below', and that the world is no smaller: what a walk's end is put together of. -/
structure Bel (B : Nat) (a w : World) : Prop where
  out : Below B a w
  le : B ≤ w.heap.size
theorem Bel.refl (a : World) : Bel a.heap.size a a := ⟨Below.refl _ _, Nat.le_refl _⟩
theorem Bel.drew {B : Nat} {a w : World} (h : Bel B a w) : Bel B a w.drew := ⟨h.out.drew, h.le⟩
theorem Bel.drewN {B : Nat} {a w : World} (h : Bel B a w) (q : Nat) : Bel B a (w.drewN q) := by
  induction q with
  | zero => exact h
  | succ q ih => exact ih.drew
theorem Bel.alloc {B : Nat} {a w : World} (h : Bel B a w) (o : Obj) : Bel B a (w.alloc o) := ⟨h.out.alloc h.le o, by have := h.le; simp; omega⟩
theorem Bel.setCell {B : Nat} {a w : World} (h : Bel B a w) {p : Addr} (hp : B ≤ p.block) (u : Value) : Bel B a (w.setCell p u) := ⟨h.out.setCell hp u, by have := h.le; simpa [World.setCell] using this⟩
theorem Bel.step {B : Nat} {a w w' : World} (h : Bel B a w) (hb : Below w.heap.size w w') : Bel B a w' := ⟨h.out.trans (hb.mono h.le), Nat.le_trans h.le hb.size⟩
theorem Bel.of {a w : World} (h : Below a.heap.size a w) : Bel a.heap.size a w := ⟨h, h.size⟩
theorem ret_int {k : IntKind} {a b : Int} (h : a = b) : Ending.returned (.int k a) = .returned (.int k b) := by rw [h]
theorem ret_bool {a b : Bool} (h : a = b) : Ending.returned (.bool a) = .returned (.bool b) := by rw [h]
theorem cell_lt {w : World} {b o : Nat} {v : Value} (h : w.cell? ⟨b, o, none⟩ = some v) : b < w.heap.size := by
  rcases Nat.lt_or_ge b w.heap.size with h' | h'
  · exact h'
  · unfold World.cell? at h; simp [Array.getElem?_eq_none h'] at h
theorem cell_below {w w' : World} (hb : Below w.heap.size w w') {b o : Nat} {v : Value} (h : w.cell? ⟨b, o, none⟩ = some v) : w'.cell? ⟨b, o, none⟩ = some v := by
  rw [hb.cell (p := ⟨b, o, none⟩) (cell_lt h)]; exact h
end Go.Proofs.YtfjpdflilmcnhaaDoor

/- Maps in memory as lists of entries: what a look-up, a store and a deletion do to such a list. -/
namespace Go.Proofs.YtfjpdflilmcnhaaDoor
open Go.ChangeShapes Go.WideShapes Go.ChangeAt Go.RowKit
open Go.ChangeMaps (setBlock)
theorem getM {P : Program} {w : World} {r : Nat} {es : Array MapEntry} {c : Nat} (hb : w.heap[r]? = some (.map es c)) : (getObj r).run P w = .ok (.map es c) w := by simp [getObj, Sem.run, hb]
theorem setM {P : Program} {w : World} {r : Nat} {es : Array MapEntry} {c : Nat} (o : Obj) (hb : w.heap[r]? = some (.map es c)) : (setObj r o).run P w = .ok () (setBlock w r o) := by simp [setObj, Sem.run, hb, setBlock]

section
variable {α β : Type} [DecidableEq α]
def lk (L : List (α × β)) (k : α) : Option β := (L.find? fun x => decide (x.1 = k)).map (·.2)
def up : List (α × β) → α → β → List (α × β)
  | [], k, v => [(k, v)]
  | x :: L, k, v => if x.1 = k then (k, v) :: L else x :: up L k v
def rm : List (α × β) → α → List (α × β)
  | [], _ => []
  | x :: L, k => if x.1 = k then L else x :: rm L k
theorem lk_cons (x : α × β) (L : List (α × β)) (k : α) : lk (x :: L) k = if x.1 = k then some x.2 else lk L k := by
  unfold lk
  by_cases h : x.1 = k <;> simp [h]

/-- The block b is a map of just these entries, in the order in which they came. -/
structure MapIs (eK : α → Value) (eV : β → Value) (w : World) (b : Nat) (L : List (α × β)) (es : Array MapEntry) (clk : Nat) : Prop where
  at_ : w.heap[b]? = some (.map es clk)
  same : es.toList.map (fun e => (e.key, e.val)) = L.map (fun x => (eK x.1, eV x.2))
  old : ∀ e ∈ es.toList, e.born < clk
  once : (es.toList.map (·.born)).Nodup
/-- Keys of a type: they may be keys, and how one is found among others. -/
structure KeysOf (P : Program) (K : TypeId) (eK : α → Value) : Prop where
  may : ∀ (b : Bool) (k : α) (w : World), (Instr.checkKey b 10000 K (eK k)).run P w = .ok () w
  find : ∀ (k : α) (es : List MapEntry) (ks : List α) (w : World), es.map (·.key) = ks.map eK → (Instr.findKey K (eK k) es).run P w = .ok ((ks.findIdx? fun x => decide (x = k)).map fun i => (i, (es[i]?.map (·.val)).getD .nilIface)) w
  bits : ∀ k : α, Instr.sameBits 10000 (eK k) (eK k) = true

theorem findIdx_lk {eK : α → Value} {eV : β → Value} {L : List (α × β)} {es : List MapEntry} (h : es.map (fun e => (e.key, e.val)) = L.map (fun x => (eK x.1, eV x.2))) (k : α) :
    ((L.map (·.1)).findIdx? fun x => decide (x = k)).map (fun i => (es[i]?.map (·.val)).getD .nilIface) = (lk L k).map eV := by
  induction L generalizing es with
  | nil => simp [lk]
  | cons x L ih =>
    cases es with
    | nil => simp at h
    | cons e es =>
      simp only [List.map_cons, List.cons.injEq, Prod.mk.injEq] at h
      rw [lk_cons]
      by_cases hx : x.1 = k
      · simp [List.findIdx?_cons, hx, h.1.2]
      · simp only [List.map_cons, List.findIdx?_cons, hx, decide_false, Bool.false_eq_true, if_false]
        rw [← ih h.2]
        cases (List.findIdx? (fun x => decide (x = k)) (List.map (·.1) L)) <;> simp

variable {P : Program} {T K E : TypeId} {eK : α → Value} {eV : β → Value} {w : World} {b : Nat} {L : List (α × β)} {es : Array MapEntry} {clk : Nat}
set_option linter.unusedSectionVars false in
theorem MapIs.keys (h : MapIs eK eV w b L es clk) : es.toList.map (·.key) = (L.map (·.1)).map eK := by
  have := congrArg (List.map (·.1)) h.same
  simpa only [List.map_map, Function.comp_def] using this
theorem MapIs.look (h : MapIs eK eV w b L es clk) (hT : P.underlying T = some (.map K E)) (hK : KeysOf P K eK) (z : Value) (hz : ∀ u : World, (zeroValue E).run P u = .ok z u) (k : α) :
    (Instr.lookup T (.map (some b)) (eK k) false).run P w = .ok (((lk L k).map eV).getD z) w := by
  have e := findIdx_lk h.same k
  simp only [Instr.lookup, Sem.run_bind, run_underlying hT, Result.andThen_ok, getM h.at_, hK.may, hK.find k es.toList (L.map (·.1)) w h.keys, Sem.run_pure]
  cases hf : (List.findIdx? (fun x => decide (x = k)) (List.map (·.1) L)) with
  | none => rw [hf] at e; simp only [Option.map_none] at e; simp [← e, hz]
  | some i => rw [hf] at e; simp only [Option.map_some] at e; simp [← e]
theorem MapIs.lookOk (h : MapIs eK eV w b L es clk) (hT : P.underlying T = some (.map K E)) (hK : KeysOf P K eK) (z : Value) (hz : ∀ u : World, (zeroValue E).run P u = .ok z u) (k : α) :
    (Instr.lookup T (.map (some b)) (eK k) true).run P w = .ok (.tuple #[((lk L k).map eV).getD z, .bool (lk L k).isSome]) w := by
  have e := findIdx_lk h.same k
  have e2 : (lk L k).isSome = ((lk L k).map eV).isSome := by simp
  rw [e2]
  simp only [Instr.lookup, Sem.run_bind, run_underlying hT, Result.andThen_ok, getM h.at_, hK.may, hK.find k es.toList (L.map (·.1)) w h.keys, Sem.run_pure]
  cases hf : (List.findIdx? (fun x => decide (x = k)) (List.map (·.1) L)) with
  | none => rw [hf] at e; simp only [Option.map_none] at e; simp [← e, hz]
  | some i => rw [hf] at e; simp only [Option.map_some] at e; simp [← e]
theorem up_at {k : α} {v : β} {i : Nat} (hf : (L.map (·.1)).findIdx? (fun x => decide (x = k)) = some i) : up L k v = L.set i (k, v) := by
  induction L generalizing i with
  | nil => simp at hf
  | cons x L ih =>
    by_cases hx : x.1 = k
    · simp [List.findIdx?_cons, hx] at hf; subst hf; simp [up, hx]
    · simp only [List.map_cons, List.findIdx?_cons, hx, decide_false, Bool.false_eq_true, if_false] at hf
      cases hg : List.findIdx? (fun x => decide (x = k)) (List.map (·.1) L) with
      | none => rw [hg] at hf; simp at hf
      | some j => rw [hg] at hf; simp at hf; subst hf; simp [up, hx, ih hg]
theorem up_new {k : α} {v : β} (hf : (L.map (·.1)).findIdx? (fun x => decide (x = k)) = none) : up L k v = L ++ [(k, v)] := by
  induction L with
  | nil => rfl
  | cons x L ih =>
    by_cases hx : x.1 = k
    · simp [List.findIdx?_cons, hx] at hf
    · simp only [List.map_cons, List.findIdx?_cons, hx, decide_false, Bool.false_eq_true, if_false] at hf
      have : List.findIdx? (fun x => decide (x = k)) (List.map (·.1) L) = none := by
        cases hg : List.findIdx? (fun x => decide (x = k)) (List.map (·.1) L) with
        | none => rfl
        | some j => rw [hg] at hf; simp at hf
      simp [up, hx, ih this]
theorem rm_at {k : α} {i : Nat} (hf : (L.map (·.1)).findIdx? (fun x => decide (x = k)) = some i) : rm L k = L.eraseIdx i := by
  induction L generalizing i with
  | nil => simp at hf
  | cons x L ih =>
    by_cases hx : x.1 = k
    · simp [List.findIdx?_cons, hx] at hf; subst hf; simp [rm, hx]
    · simp only [List.map_cons, List.findIdx?_cons, hx, decide_false, Bool.false_eq_true, if_false] at hf
      cases hg : List.findIdx? (fun x => decide (x = k)) (List.map (·.1) L) with
      | none => rw [hg] at hf; simp at hf
      | some j => rw [hg] at hf; simp at hf; subst hf; simp [rm, hx, ih hg]
theorem rm_none {k : α} (hf : (L.map (·.1)).findIdx? (fun x => decide (x = k)) = none) : rm L k = L := by
  induction L with
  | nil => rfl
  | cons x L ih =>
    by_cases hx : x.1 = k
    · simp [List.findIdx?_cons, hx] at hf
    · simp only [List.map_cons, List.findIdx?_cons, hx, decide_false, Bool.false_eq_true, if_false] at hf
      have : List.findIdx? (fun x => decide (x = k)) (List.map (·.1) L) = none := by
        cases hg : List.findIdx? (fun x => decide (x = k)) (List.map (·.1) L) with
        | none => rfl
        | some j => rw [hg] at hf; simp at hf
      simp [rm, hx, ih this]
theorem key_at {es : List MapEntry} (hk : es.map (·.key) = (L.map (·.1)).map eK) {k : α} {i : Nat} (hf : (L.map (·.1)).findIdx? (fun x => decide (x = k)) = some i) : (es[i]?).map (·.key) = some (eK k) := by
  have h1 := List.findIdx?_eq_some_iff_getElem.1 hf
  obtain ⟨hi, hp, _⟩ := h1
  have h2 : (L.map (·.1))[i] = k := by simpa using hp
  rw [← List.getElem?_map, hk, List.getElem?_map, List.getElem?_eq_getElem hi, h2]; rfl
theorem MapIs.store (h : MapIs eK eV w b L es clk) (hT : P.underlying T = some (.map K E)) (hK : KeysOf P K eK) (k : α) (v : β) :
    ∃ es' clk', (Instr.mapUpdate T (.map (some b)) (eK k) (eV v)).run P w = .ok () (setBlock w b (.map es' clk')) ∧ ∀ u : World, u.heap[b]? = some (.map es' clk') → MapIs eK eV u b (up L k v) es' clk' := by
  simp only [Instr.mapUpdate, Sem.run_bind, run_underlying hT, Result.andThen_ok, getM h.at_, hK.may, hK.find k es.toList (L.map (·.1)) w h.keys]
  cases hf : (List.findIdx? (fun x => decide (x = k)) (List.map (·.1) L)) with
  | none =>
    refine ⟨es.push ⟨eK k, eV v, clk⟩, clk + 1, ?_, fun u hu => ⟨hu, ?_, ?_, ?_⟩⟩
    · simp only [Option.map_none, setM _ h.at_]
    · simp [h.same, up_new hf]
    · intro e he
      simp at he
      rcases he with he | rfl
      · have := h.old e (by simpa using he); omega
      · simp
    · simp only [Array.toList_push, List.map_append, List.map_cons, List.map_nil]
      rw [List.nodup_append]
      refine ⟨h.once, by simp, ?_⟩
      intro x hx y hy
      simp only [List.mem_singleton] at hy; subst hy
      obtain ⟨e, he, rfl⟩ := List.mem_map.1 hx
      have := h.old e he; omega
  | some i =>
    have hkey := key_at (eK := eK) h.keys hf
    have hkey' : ((es[i]?).map (·.key)).getD (eK k) = eK k := by rw [← Array.getElem?_toList, hkey]; rfl
    refine ⟨es.modify i fun e => { e with key := eK k, val := eV v }, clk, ?_, fun u hu => ⟨hu, ?_, ?_, ?_⟩⟩
    · simp only [Option.map_some, hkey', Instr.keyThatStays, hK.bits, if_true, Sem.run_bind, Sem.run_pure, Result.andThen_ok, setM _ h.at_]
    · rw [Array.toList_modify, up_at hf]
      have hs := h.same
      apply List.ext_getElem?
      intro j
      have hj := congrArg (fun l => l[j]?) hs
      simp only [List.getElem?_map] at hj ⊢
      rw [List.getElem?_modify, List.getElem?_set]
      by_cases hij : i = j
      · subst hij
        have hl : i < es.toList.length := by
          rcases Nat.lt_or_ge i es.toList.length with h' | h'
          · exact h'
          · rw [List.getElem?_eq_none h'] at hkey; simp at hkey
        have hl2 : i < L.length := by
          have := congrArg List.length hs; simp at this; simp at hl; omega
        simp [hl2, List.getElem?_eq_getElem hl]
      · simp only [hij, if_false, id_map', hj]
    · intro e he
      rw [Array.toList_modify] at he
      obtain ⟨j, hj, rfl⟩ := List.mem_iff_getElem.1 he
      rw [List.getElem_modify]
      have hjl : j < es.toList.length := by simpa using hj
      have := h.old es.toList[j] (List.getElem_mem hjl)
      split <;> simpa using this
    · rw [Array.toList_modify]
      have : (es.toList.modify i fun e => { e with key := eK k, val := eV v }).map (·.born) = es.toList.map (·.born) := by
        apply List.ext_getElem?
        intro j
        simp only [List.getElem?_map, List.getElem?_modify]
        cases es.toList[j]? with
        | none => simp
        | some x => by_cases hij : i = j <;> simp [hij]
      rw [this]; exact h.once
theorem MapIs.erase (h : MapIs eK eV w b L es clk) (hT : P.underlying T = some (.map K E)) (hK : KeysOf P K eK) (k : α) (r : TypeId) :
    ∃ es' clk', (Builtin.delete_ #[T, K] r #[.map (some b), eK k]).run P w = .ok (.tuple #[]) (setBlock w b (.map es' clk')) ∧ ∀ u : World, u.heap[b]? = some (.map es' clk') → MapIs eK eV u b (rm L k) es' clk' := by
  simp only [Builtin.delete_, List.getElem?_toArray, List.getElem?_cons_zero, List.getElem?_cons_succ, Sem.run_bind, run_underlying hT, Result.andThen_ok, getM h.at_, hK.may, hK.find k es.toList (L.map (·.1)) w h.keys]
  cases hf : (List.findIdx? (fun x => decide (x = k)) (List.map (·.1) L)) with
  | none =>
    refine ⟨es, clk, ?_, fun u hu => ⟨hu, ?_, h.old, h.once⟩⟩
    · simp only [Option.map_none, Sem.run_bind, setM _ h.at_, Result.andThen_ok, Sem.run_pure]
    · rw [rm_none hf]; exact h.same
  | some i =>
    have hl : i < es.size := by
      have hkey := key_at (eK := eK) h.keys hf
      rcases Nat.lt_or_ge i es.toList.length with h' | h'
      · simpa using h'
      · rw [List.getElem?_eq_none h'] at hkey; simp at hkey
    have hE : (es.eraseIdxIfInBounds i).toList = es.toList.eraseIdx i := by
      rw [Array.eraseIdxIfInBounds, dif_pos hl, Array.toList_eraseIdx]
    refine ⟨es.eraseIdxIfInBounds i, clk, ?_, fun u hu => ⟨hu, ?_, ?_, ?_⟩⟩
    · simp only [Option.map_some, Sem.run_bind, setM _ h.at_, Result.andThen_ok, Sem.run_pure]
    · rw [hE, rm_at hf, Go.ChangeMaps.map_eraseIdx, h.same, Go.ChangeMaps.map_eraseIdx]
    · intro e he
      rw [hE] at he
      exact h.old e (List.mem_of_mem_eraseIdx he)
    · rw [hE, Go.ChangeMaps.map_eraseIdx]
      exact h.once.sublist (List.eraseIdx_sublist _ _)
end
end Go.Proofs.YtfjpdflilmcnhaaDoor

/- Slices of columns, values and schemas in memory, by index; searches by index. -/
namespace Go.Proofs.YtfjpdflilmcnhaaDoor
open Go.ChangeShapes Go.WideShapes Go.ChangeAt Go.RowKit

/-- The first place from i on, below n, at which p holds. -/
def fnd (p : Nat → Bool) (n i : Nat) : Option Nat := (List.range' i (n - i)).find? p
theorem fnd_hit {p : Nat → Bool} {n i : Nat} (h : i < n) (hp : p i = true) : fnd p n i = some i := by
  unfold fnd
  rw [show n - i = (n - (i + 1)) + 1 by omega, List.range'_succ, List.find?_cons, hp]
theorem fnd_miss {p : Nat → Bool} {n i : Nat} (h : i < n) (hp : p i = false) : fnd p n i = fnd p n (i + 1) := by
  unfold fnd
  rw [show n - i = (n - (i + 1)) + 1 by omega, List.range'_succ, List.find?_cons, hp]
theorem fnd_end {p : Nat → Bool} {n i : Nat} (h : n ≤ i) : fnd p n i = none := by
  unfold fnd
  rw [show n - i = 0 by omega]; rfl
theorem fnd_lt {p : Nat → Bool} {n i j : Nat} (h : fnd p n i = some j) : i ≤ j ∧ j < n ∧ p j = true := by
  unfold fnd at h
  have h1 := List.mem_of_find?_eq_some h
  have h2 := List.find?_some h
  rw [List.mem_range'_1] at h1
  exact ⟨h1.1, by omega, h2⟩
/-- p holds at every place from i on, below n. -/
def allF (p : Nat → Bool) (n i : Nat) : Bool := (List.range' i (n - i)).all p
theorem allF_hit {p : Nat → Bool} {n i : Nat} (h : i < n) (hp : p i = true) : allF p n i = allF p n (i + 1) := by
  unfold allF
  rw [show n - i = (n - (i + 1)) + 1 by omega, List.range'_succ, List.all_cons, hp, Bool.true_and]
theorem allF_miss {p : Nat → Bool} {n i : Nat} (h : i < n) (hp : p i = false) : allF p n i = false := by
  unfold allF
  rw [show n - i = (n - (i + 1)) + 1 by omega, List.range'_succ, List.all_cons, hp, Bool.false_and]
theorem allF_end {p : Nat → Bool} {n i : Nat} (h : n ≤ i) : allF p n i = true := by
  unfold allF
  rw [show n - i = 0 by omega]; rfl
theorem allF_iff {p : Nat → Bool} {n i : Nat} : allF p n i = true ↔ ∀ j, i ≤ j → j < n → p j = true := by
  unfold allF
  rw [List.all_eq_true]
  constructor
  · intro h j h1 h2
    exact h j (by rw [List.mem_range'_1]; omega)
  · intro h j hj
    rw [List.mem_range'_1] at hj
    exact h j hj.1 (by omega)

def erI (e : Int) (ok : Bool) : Int := if ok then 0 else e
theorem ret_ok {e : Int} {b : Bool} (h : true = b) : Ending.returned (.int .i64 0) = .returned (.int .i64 (erI e b)) := by subst h; rfl
theorem ret_er {e : Int} {b : Bool} (h : false = b) : Ending.returned (.int .i64 e) = .returned (.int .i64 (erI e b)) := by subst h; rfl

/-- A slice of columns. -/
def ColsAt (w : World) (a : Option Addr) (n : Nat) (nm : Nat → ByteArray) (kd : Nat → Int) : Prop :=
  n = 0 ∨ ∃ b off, a = some ⟨b, off, none⟩ ∧ ∀ i, i < n → w.cell? ⟨b, off + i * 2, none⟩ = some (.string (nm i)) ∧ w.cell? ⟨b, off + i * 2 + 1, none⟩ = some (.int .i64 (kd i))
theorem ColsAt.below {w w' : World} {a : Option Addr} {n : Nat} {nm : Nat → ByteArray} {kd : Nat → Int} (h : ColsAt w a n nm kd) (hb : Below w.heap.size w w') : ColsAt w' a n nm kd := by
  rcases h with h | ⟨b, off, ha, hc⟩
  · exact Or.inl h
  · exact Or.inr ⟨b, off, ha, fun i hi => ⟨cell_below hb (hc i hi).1, cell_below hb (hc i hi).2⟩⟩
theorem ColsAt.alloc {w : World} {a : Option Addr} {n : Nat} {nm : Nat → ByteArray} {kd : Nat → Int} (h : ColsAt w a n nm kd) (o : Obj) : ColsAt (w.alloc o) a n nm kd := h.below ((Below.refl _ _).alloc (Nat.le_refl _) o)
/-- A slice of values. -/
def ValsAt (w : World) (a : Option Addr) (n : Nat) (k v : Nat → Int) (t : Nat → ByteArray) : Prop :=
  n = 0 ∨ ∃ b off, a = some ⟨b, off, none⟩ ∧ ∀ i, i < n → w.cell? ⟨b, off + i * 3, none⟩ = some (.int .i64 (k i)) ∧ w.cell? ⟨b, off + i * 3 + 1, none⟩ = some (.int .i64 (v i)) ∧ w.cell? ⟨b, off + i * 3 + 2, none⟩ = some (.string (t i))
theorem ValsAt.below {w w' : World} {a : Option Addr} {n : Nat} {k v : Nat → Int} {t : Nat → ByteArray} (h : ValsAt w a n k v t) (hb : Below w.heap.size w w') : ValsAt w' a n k v t := by
  rcases h with h | ⟨b, off, ha, hc⟩
  · exact Or.inl h
  · exact Or.inr ⟨b, off, ha, fun i hi => ⟨cell_below hb (hc i hi).1, cell_below hb (hc i hi).2.1, cell_below hb (hc i hi).2.2⟩⟩
theorem ValsAt.alloc {w : World} {a : Option Addr} {n : Nat} {k v : Nat → Int} {t : Nat → ByteArray} (h : ValsAt w a n k v t) (o : Obj) : ValsAt (w.alloc o) a n k v t := h.below ((Below.refl _ _).alloc (Nat.le_refl _) o)
end Go.Proofs.YtfjpdflilmcnhaaDoor

/- The keys of package key's two maps: pieces (structs), and places (ints). -/
namespace Go.Proofs.YtfjpdflilmcnhaaDoor
open Go.ChangeShapes Go.WideShapes Go.ChangeAt Go.RowKit

/-- A value: its kind, its number, its text. -/
abbrev Val := Int × Int × ByteArray
def vlE (v : Val) : Value := .agg #[.int .i64 v.1, .int .i64 v.2.1, .string v.2.2]
/-- A piece: a place, and a value behind it. -/
abbrev Pce := Int × Val
def pcE (p : Pce) : Value := .agg #[.int .i64 p.1, .int .i64 p.2.1, .int .i64 p.2.2.1, .string p.2.2.2]
/-- A way: where it leads to, how many rows go there. -/
abbrev Way := Int × Int
def wyE (x : Way) : Value := .agg #[.int .i64 x.1, .int .i64 x.2]
def itE (x : Int) : Value := .int .i64 x

theorem ba_ext {a b : ByteArray} (h : a.data.toList = b.data.toList) : a = b := by
  obtain ⟨⟨x⟩⟩ := a
  obtain ⟨⟨y⟩⟩ := b
  simp at h; subst h; rfl
theorem ba_toList {a b : ByteArray} : (a.toList = b.toList) = (a = b) := by
  rw [ByteArray.toList_eq, ByteArray.toList_eq]
  exact propext ⟨ba_ext, fun h => by rw [h]⟩
theorem hf98 : Tryd.prog.underlying 98 = some (.struct (Tryd.prog.fieldsOf 98)) := by kernel_rfl
theorem hs98 : Tryd.prog.stoodInHeld 98 = false := by kernel_rfl
theorem hf46 : Tryd.prog.underlying 46 = some (.struct (Tryd.prog.fieldsOf 46)) := by kernel_rfl
theorem hs46 : Tryd.prog.stoodInHeld 46 = false := by kernel_rfl
theorem hg46 : Tryd.prog.eqGuardType Tryd.prog.depth 46 = false := by kernel_rfl
theorem part46 (p k n : Int) (t : ByteArray) (w : World) : (part 46 #[.int .i64 p, .int .i64 k, .int .i64 n, .string t] 1).run Tryd.prog w = .ok (.agg #[.int .i64 k, .int .i64 n, .string t]) w := by kernel_rfl
theorem eq98 (x y : Pce) (w : World) : (Op.equal 98 (pcE x) (pcE y)).run Tryd.prog w = .ok (decide (y = x)) w := by
  obtain ⟨p, k, n, t⟩ := x
  obtain ⟨q, k', n', t'⟩ := y
  unfold pcE Op.equal
  rw [show Op.maxDepth = 9999 + 1 from rfl, run_equalIn_agg w 9999 98 _ _ hf98 hs98]
  simp [Op.eqFields, Program.fieldsOf, Tryd.underlying98, go_sem]
  by_cases h1 : p = q <;> by_cases h2 : k = k' <;> by_cases h3 : n = n' <;> by_cases h4 : t = t' <;> simp_all [eq_comm, ba_toList]
theorem ck98 (b : Bool) (x : Pce) (w : World) : (Instr.checkKey b 10000 98 (pcE x)).run Tryd.prog w = .ok () w := by
  obtain ⟨p, k, n, t⟩ := x
  kernel_rfl
theorem ck3 (b : Bool) (x : Int) (w : World) : (Instr.checkKey b 10000 3 (itE x)).run Tryd.prog w = .ok () w := by kernel_rfl
theorem findAsk98 (k : Pce) (w : World) : ∀ (es : List MapEntry) (ks : List Pce) (i : Nat), es.map (·.key) = ks.map pcE → (Instr.findAsking 98 (pcE k) es i).run Tryd.prog w = .ok ((ks.findIdx? fun x => decide (x = k)).map fun j => (j + i, (es[j]?.map (·.val)).getD .nilIface)) w
  | [], [], _, _ => by simp [Instr.findAsking]
  | [], _ :: _, _, h => by simp at h
  | _ :: _, [], _, h => by simp at h
  | e :: es, x :: ks, i, h => by
    simp only [List.map_cons, List.cons.injEq] at h
    simp only [Instr.findAsking, Sem.run_bind, h.1, eq98, Result.andThen_ok]
    by_cases hx : x = k
    · simp [hx, List.findIdx?_cons]
    · simp only [hx, decide_false, Bool.false_eq_true, if_false, List.findIdx?_cons]
      rw [findAsk98 k w es ks (i + 1) h.2]
      cases List.findIdx? (fun x => decide (x = k)) ks <;> simp
      omega
theorem find98 (k : Pce) (es : List MapEntry) (ks : List Pce) (w : World) (h : es.map (·.key) = ks.map pcE) : (Instr.findKey 98 (pcE k) es).run Tryd.prog w = .ok ((ks.findIdx? fun x => decide (x = k)).map fun i => (i, (es[i]?.map (·.val)).getD .nilIface)) w := by
  cases es with
  | nil =>
    cases ks with
    | nil => simp [Instr.findKey, run_underlying hf98, Instr.findNow]
    | cons x ks => simp at h
  | cons e es =>
    have h0 := findAsk98 k w (e :: es) ks 0 h
    simp only [Nat.add_zero] at h0
    have hn : Instr.findNow (.struct (Tryd.prog.fieldsOf 98)) (pcE k) (e :: es) 0 = none := by simp [Instr.findNow, Instr.sameNow]
    simp only [Instr.findKey, Sem.run_bind, run_underlying hf98, Result.andThen_ok, hn, h0]
theorem findNow3 (k : Int) : ∀ (es : List MapEntry) (ks : List Int) (i : Nat), es.map (·.key) = ks.map itE → Instr.findNow (.int .i64) (itE k) es i = some ((ks.findIdx? fun x => decide (x = k)).map fun j => (j + i, (es[j]?.map (·.val)).getD .nilIface))
  | [], [], _, _ => by simp [Instr.findNow]
  | [], _ :: _, _, h => by simp at h
  | _ :: _, [], _, h => by simp at h
  | e :: es, x :: ks, i, h => by
    simp only [List.map_cons, List.cons.injEq] at h
    by_cases hx : x = k
    · simp [Instr.findNow, Instr.sameNow, h.1, itE, hx, List.findIdx?_cons]
    · have hx' : ¬ k = x := fun e => hx e.symm
      have hsn : Instr.sameNow (.int .i64) (itE k) (itE x) = some false := by simp [Instr.sameNow, itE, hx']
      rw [Instr.findNow, h.1, hsn]
      simp only [hx, decide_false, Bool.false_eq_true, if_false, List.findIdx?_cons]
      rw [findNow3 k es ks (i + 1) h.2]
      cases List.findIdx? (fun x => decide (x = k)) ks <;> simp
      omega
theorem find3 (k : Int) (es : List MapEntry) (ks : List Int) (w : World) (h : es.map (·.key) = ks.map itE) : (Instr.findKey 3 (itE k) es).run Tryd.prog w = .ok ((ks.findIdx? fun x => decide (x = k)).map fun i => (i, (es[i]?.map (·.val)).getD .nilIface)) w := by
  have h0 := findNow3 k es ks 0 h
  simp only [Nat.add_zero] at h0
  simp only [Instr.findKey, Sem.run_bind, run_underlying Tryd.underlying3, Result.andThen_ok, h0, Sem.run_pure]
theorem bits98 (k : Pce) : Instr.sameBits 10000 (pcE k) (pcE k) = true := by
  rw [show (10000 : Nat) = 9998 + 1 + 1 from rfl]
  simp [Instr.sameBits, pcE, beq_toListBytes]
theorem keys98 : KeysOf Tryd.prog 98 pcE := ⟨fun b k w => ck98 b k w, find98, bits98⟩
theorem keys3 : KeysOf Tryd.prog 3 itE := ⟨fun b k w => ck3 b k w, find3, fun k => by simp [Instr.sameBits, itE]⟩
end Go.Proofs.YtfjpdflilmcnhaaDoor

/- Package key's map in memory: its ways, what it holds, its two counters. -/
namespace Go.Proofs.YtfjpdflilmcnhaaDoor
open Go.ChangeShapes Go.WideShapes Go.ChangeAt Go.RowKit
open Go.ChangeMaps (setBlock)

def dv : Val := (0, 0, ⟨#[]⟩)
def kAt (r : List Val) (i : Nat) : Int := (r.getD i dv).1
def nAt (r : List Val) (i : Nat) : Int := (r.getD i dv).2.1
def tAt (r : List Val) (i : Nat) : ByteArray := (r.getD i dv).2.2
/-- A slice that holds these values. -/
def RowAt (w : World) (a : Option Addr) (r : List Val) : Prop := ValsAt w a r.length (kAt r) (nAt r) (tAt r)
theorem RowAt.below {w w' : World} {a : Option Addr} {r : List Val} (h : RowAt w a r) (hb : Below w.heap.size w w') : RowAt w' a r := ValsAt.below h hb
theorem RowAt.alloc {w : World} {a : Option Addr} {r : List Val} (h : RowAt w a r) (o : Obj) : RowAt (w.alloc o) a r := h.below ((Below.refl _ _).alloc (Nat.le_refl _) o)
theorem at_val (r : List Val) (i : Nat) : (kAt r i, nAt r i, tAt r i) = r.getD i dv := rfl
theorem drop_at {r : List Val} {i : Nat} (h : i < r.length) : r.drop i = (kAt r i, nAt r i, tAt r i) :: r.drop (i + 1) := by
  rw [at_val, List.drop_eq_getElem_cons h, List.getD_eq_getElem?_getD, List.getElem?_eq_getElem h]; rfl
theorem take_at {r : List Val} {i : Nat} (h : i < r.length) : r.take (i + 1) = r.take i ++ [(kAt r i, nAt r i, tAt r i)] := by
  rw [at_val, List.take_succ_eq_append_getElem h, List.getD_eq_getElem?_getD, List.getElem?_eq_getElem h]; rfl

/-- All blocks but those of S are as they were. -/
structure Fr (S : Nat → Prop) (w w' : World) : Prop where
  os : w'.os = w.os
  tape : w'.tape = w.tape
  output : w'.output = w.output
  size : w.heap.size ≤ w'.heap.size
  block : ∀ k, k < w.heap.size → ¬ S k → w'.heap[k]? = w.heap[k]?
variable {S : Nat → Prop} {w w' w'' : World}
theorem Fr.refl (S : Nat → Prop) (w : World) : Fr S w w := ⟨rfl, rfl, rfl, Nat.le_refl _, fun _ _ _ => rfl⟩
theorem Fr.trans (h : Fr S w w') (k : Fr S w' w'') : Fr S w w'' :=
  ⟨k.os.trans h.os, k.tape.trans h.tape, k.output.trans h.output, Nat.le_trans h.size k.size, fun i hi hS => (k.block i (Nat.lt_of_lt_of_le hi h.size) hS).trans (h.block i hi hS)⟩
theorem Fr.of (h : Below w.heap.size w w') : Fr S w w' := ⟨h.os, h.tape, h.output, h.size, fun k hk _ => h.block k hk⟩
theorem Fr.step (h : Fr S w w') (hb : Below w'.heap.size w' w'') : Fr S w w'' := h.trans (.of hb)
theorem Fr.alloc (h : Fr S w w') (o : Obj) : Fr S w (w'.alloc o) := h.step ((Below.refl _ _).alloc (Nat.le_refl _) o)
theorem Fr.drew (h : Fr S w w') : Fr S w w'.drew := h.step (Below.refl _ _).drew
theorem Fr.setBlock (h : Fr S w w') {b : Nat} (hb : S b) (o : Obj) : Fr S w (setBlock w' b o) :=
  h.trans ⟨rfl, rfl, rfl, by simp [Go.ChangeMaps.setBlock], fun k _ hS => by
    simp only [Go.ChangeMaps.setBlock]; rw [Array.getElem?_setIfInBounds_ne]; intro e; exact hS (e ▸ hb)⟩
theorem Fr.setCell (h : Fr S w w') {p : Addr} (hb : S p.block ∨ w.heap.size ≤ p.block) (v : Value) : Fr S w (w'.setCell p v) :=
  ⟨h.os, h.tape, h.output, by have := h.size; simpa [World.setCell] using this, fun k hk hS => by
    rw [Below.heap_setCell _ _ _ _ (by rintro rfl; rcases hb with hb | hb; exact hS hb; omega)]; exact h.block k hk hS⟩
theorem Fr.below {B : Nat} {a : World} (h : Fr S w w') (hB : B ≤ w.heap.size) (hS : ∀ k, S k → B ≤ k) (hb : Below B a w) : Below B a w' :=
  hb.trans ⟨h.os, h.tape, h.output, h.size, fun k hk => h.block k (by omega) (fun hk' => by have := hS k hk'; omega)⟩
theorem Fr.cell (h : Fr S w w') {b o : Nat} {v : Value} (hS : ¬ S b) (hc : w.cell? ⟨b, o, none⟩ = some v) : w'.cell? ⟨b, o, none⟩ = some v := by
  have := h.block b (cell_lt hc) hS
  unfold World.cell? at hc ⊢
  simpa [this] using hc
theorem Fr.frozen (h : Fr S w w') {b o : Nat} (hlt : b < w.heap.size) (hS : ¬ S b) : w'.frozen? ⟨b, o, none⟩ = w.frozen? ⟨b, o, none⟩ := by
  have := h.block b hlt hS
  unfold World.frozen?
  simp [this]
theorem Fr.vals {a : Option Addr} {r : List Val} (h : Fr S w w') (hr : RowAt w a r) (hS : ∀ g o, a = some ⟨g, o, none⟩ → ¬ S g) : RowAt w' a r := by
  rcases hr with hr | ⟨b, off, ha, hc⟩
  · exact Or.inl hr
  · have := hS b off ha
    exact Or.inr ⟨b, off, ha, fun i hi => ⟨h.cell this (hc i hi).1, h.cell this (hc i hi).2.1, h.cell this (hc i hi).2.2⟩⟩

theorem heap_lt {w : World} {b : Nat} {o : Obj} (h : w.heap[b]? = some o) : b < w.heap.size := by
  rcases Nat.lt_or_ge b w.heap.size with h' | h'
  · exact h'
  · rw [Array.getElem?_eq_none h'] at h; cases h
theorem MapIs.below {α β : Type} {eK : α → Value} {eV : β → Value} {b : Nat} {L : List (α × β)} {es : Array MapEntry} {clk : Nat} (h : MapIs eK eV w b L es clk) (hb : Below w.heap.size w w') : MapIs eK eV w' b L es clk :=
  ⟨(hb.block b (heap_lt h.at_)).trans h.at_, h.same, h.old, h.once⟩
end Go.Proofs.YtfjpdflilmcnhaaDoor
