/- A symbolic run of a program: what is reckoned holds in every memory that reads so. -/
import Derived.Test.YtfjpdflilmcnhaaDoorSyB
import Derived.Laws.Cells
import Derived.Laws.Tables
import Derived.Laws.IdiomCopy
import Derived.ChangeKeysEq
namespace Go.Sy
open Go.RowKit (Below)

theorem peel_run {α : Type} {P : Program} {m : Sem α} {a : α} (h : peel P m = some a) (w : World) : m.run P w = .ok a w := by
  induction m generalizing a with
  | pure x => simp only [peel, Option.some.injEq] at h; subst h; rfl
  | program k ih => simp only [peel] at h; simp only [Sem.run]; exact ih P h
  | _ => simp [peel] at h

/-- The first names are the package's variables, each in its own block. -/
def GE (E : Env) : Prop := ∀ g, g < 64 → E.pl g = some (g, 0, 0)

structure TR (E : Env) (nt : Nat) (t : Tm) (a : Array Value) : Prop where
  size : a.size = nt
  max : nt ≤ 512
  val : ∀ i, i < nt → Rn E (tget t i) (a.getD i undef)

theorem TR.up {E E' : Env} {nt : Nat} {t : Tm} {a : Array Value} (h : TR E nt t a) (k : Le E E') : TR E' nt t a := ⟨h.size, h.max, fun i hi => (h.val i hi).up k⟩

theorem opd_ok {E : Env} {nt : Nat} {t : Tm} {a : Act} (ht : TR E nt t a.tmps) (hg : GE E) {x : Operand} {v : Value} (h : opd nt t x = some v) : Rn E v (a.eval x) := by
  cases x with
  | tmp i =>
    simp only [opd] at h
    split at h
    · rename_i hi
      simp only [Option.some.injEq] at h; subst h
      exact ht.val i (blt_iff.1 hi)
    · cases h
  | const c =>
    simp only [opd] at h
    split at h
    · rename_i hf
      simp only [Option.some.injEq] at h; subst h
      exact flat_rn 4 c hf
    · cases h
  | global g =>
    simp only [opd] at h
    split at h
    · rename_i hf
      simp only [Option.some.injEq] at h; subst h
      exact rn_ptr.2 ⟨_, hg g (blt_iff.1 hf), by simp [Act.eval]⟩
    · cases h
  | func f =>
    simp only [opd, Option.some.injEq] at h; subst h
    exact rn_func.2 ⟨#[], #[], rfl, .nil, .nil⟩

theorem opds_ok {E : Env} {nt : Nat} {t : Tm} {a : Act} (ht : TR E nt t a.tmps) (hg : GE E) : ∀ {l : List Operand} {vs : List Value}, opds nt t l = some vs → Rns E vs (l.map a.eval)
  | [], vs, h => by simp only [opds, Option.some.injEq] at h; subst h; exact .nil
  | x :: l, vs, h => by
    simp only [opds] at h
    split at h
    · cases h
    · rename_i v hv
      split at h
      · cases h
      · rename_i us hu
        simp only [Option.some.injEq] at h; subst h
        exact .cons (opd_ok ht hg hv) (opds_ok ht hg hu)

/-- Old memory as it was. -/
structure Ext (w w' : World) : Prop where
  os : w'.os = w.os
  tape : w'.tape = w.tape
  output : w'.output = w.output
  size : w.heap.size ≤ w'.heap.size
  block : ∀ k, k < w.heap.size → w'.heap[k]? = w.heap[k]?

theorem Ext.refl (w : World) : Ext w w := ⟨rfl, rfl, rfl, Nat.le_refl _, fun _ _ => rfl⟩
theorem Ext.push (w : World) (o : Obj) : Ext w { w with heap := w.heap.push o } :=
  ⟨rfl, rfl, rfl, by simp, fun k hk => by simp [Array.getElem?_push]; omega⟩
theorem Ext.get {w w' : World} (h : Ext w w') {k : Nat} {o : Obj} (hk : w.heap[k]? = some o) : w'.heap[k]? = some o := by
  rw [h.block k (by rcases Nat.lt_or_ge k w.heap.size with h | h; exact h; simp [Array.getElem?_eq_none h] at hk)]; exact hk

def own (e : Ent) : Prop := e.kd = 1 ∨ e.kd = 2 ∨ e.kd = 4
theorem own_ne {e : Ent} (h : own e) : e.kd ≠ 3 := by rcases h with y | y | y <;> rw [y] <;> decide
theorem own_n0 {e : Ent} (h : own e) (h0 : e.kd = 0) : False := by rcases h with y | y | y <;> rw [y] at h0 <;> cases h0

/-- A map's entries read as these. -/
def Mps (E : Env) : List (Value × Value) → List MapEntry → Prop
  | [], [] => True
  | (k, v) :: l, m :: es => Rn E k m.key ∧ Rn E v m.val ∧ Mps E l es
  | _, _ => False
theorem Mps.up {E E' : Env} (h : Le E E') : ∀ {l : List (Value × Value)} {es : List MapEntry}, Mps E l es → Mps E' l es
  | [], [], _ => trivial
  | (_, _) :: _, _ :: _, ⟨a, b, c⟩ => ⟨a.up h, b.up h, Mps.up h c⟩
  | [], _ :: _, h => h.elim
  | _ :: _, [], h => h.elim

/-- The entry lies at its place. -/
structure EntOK (E : Env) (e : Ent) (p : Nat × Nat × Nat) (w : World) : Prop where
  obj : e.kd ≠ 3 → e.kd ≠ 4 → ∃ (c : Array Value) (el : TypeId) (fr : Nat × Nat), w.heap[p.1]? = some (.cells c el fr) ∧
    (∀ (i : Nat) (v : Value), e.cs[i]? = some v → ∃ v', c[p.2.1 + i]? = some v' ∧ Rn E v v' ∧ v'.oneCell' = true) ∧
    (own e → ∀ i, i < c.size → ¬ (fr.1 ≤ i ∧ i < fr.2)) ∧ (e.kd = 2 → p.2.1 + e.cs.length + p.2.2 * e.sz ≤ c.size) ∧ (e.kd = 1 → e.sz ≠ 0 → el + 1 = e.sz ∧ p.2.1 = 0)
  spare : e.kd ≠ 2 → e.kd ≠ 3 → p.2.2 = 0
  empty : e.kd = 3 ∨ e.kd = 4 → e.cs = []
  map : e.kd = 4 → ∃ (es : Array MapEntry) (clock : Nat), w.heap[p.1]? = some (.map es clock) ∧ Mps E e.mp es.toList

structure Sat (E : Env) (h : Nat → Option Ent) (w : World) : Prop where
  ent : ∀ i e, h i = some e → ∃ p, E.pl i = some p ∧ EntOK E e p w
  sep : ∀ i j e f p q, h i = some e → h j = some f → i ≠ j → own e → f.kd ≠ 3 → E.pl i = some p → E.pl j = some q → p.1 ≠ q.1

theorem EntOK.gone {E E' : Env} {e : Ent} {p : Nat × Nat × Nat} {w w' : World} (h : EntOK E e p w) (h3 : e.kd = 3) : EntOK E' e p w' :=
  ⟨fun h => (h h3).elim, fun _ h => (h h3).elim, h.empty, fun h => by rw [h3] at h; cases h⟩
theorem EntOK.up {E E' : Env} {e : Ent} {p : Nat × Nat × Nat} {w : World} (h : EntOK E e p w) (k : Le E E') : EntOK E' e p w :=
  ⟨fun hk hk' => let ⟨c, el, fr, a, b, d⟩ := h.obj hk hk'; ⟨c, el, fr, a, fun i v hv => let ⟨v', x, y, z⟩ := b i v hv; ⟨v', x, y.up k, z⟩, d⟩, h.spare, h.empty, fun hk => let ⟨es, c, a, b⟩ := h.map hk; ⟨es, c, a, b.up k⟩⟩
theorem EntOK.ext {E : Env} {e : Ent} {p : Nat × Nat × Nat} {w w' : World} (h : EntOK E e p w) (k : w'.heap[p.1]? = w.heap[p.1]?) : EntOK E e p w' :=
  ⟨fun hk hk' => let ⟨c, el, fr, a, b⟩ := h.obj hk hk'; ⟨c, el, fr, k.trans a, b⟩, h.spare, h.empty, fun hk => let ⟨es, c, a, b⟩ := h.map hk; ⟨es, c, k.trans a, b⟩⟩
theorem EntOK.lt {E : Env} {e : Ent} {p : Nat × Nat × Nat} {w : World} (h : EntOK E e p w) (hk : e.kd ≠ 3) : p.1 < w.heap.size := by
  by_cases h4 : e.kd = 4
  · obtain ⟨es, c, a, _⟩ := h.map h4
    rcases Nat.lt_or_ge p.1 w.heap.size with h | h
    · exact h
    · simp [Array.getElem?_eq_none h] at a
  · obtain ⟨c, el, fr, a, _⟩ := h.obj hk h4
    rcases Nat.lt_or_ge p.1 w.heap.size with h | h
    · exact h
    · simp [Array.getElem?_eq_none h] at a
/-- An entry of cells. -/
theorem EntOK.cells {E : Env} {e : Ent} {p : Nat × Nat × Nat} {w : World} (h3 : e.kd ≠ 3) (h4 : e.kd ≠ 4) (hs : e.kd ≠ 2 → p.2.2 = 0) (ho : ∃ (c : Array Value) (el : TypeId) (fr : Nat × Nat), w.heap[p.1]? = some (.cells c el fr) ∧
    (∀ (i : Nat) (v : Value), e.cs[i]? = some v → ∃ v', c[p.2.1 + i]? = some v' ∧ Rn E v v' ∧ v'.oneCell' = true) ∧
    (own e → ∀ i, i < c.size → ¬ (fr.1 ≤ i ∧ i < fr.2)) ∧ (e.kd = 2 → p.2.1 + e.cs.length + p.2.2 * e.sz ≤ c.size) ∧ (e.kd = 1 → e.sz ≠ 0 → el + 1 = e.sz ∧ p.2.1 = 0)) : EntOK E e p w :=
  ⟨fun _ _ => ho, fun h _ => hs h, fun h => by rcases h with h | h; exact (h3 h).elim; exact (h4 h).elim, fun h => (h4 h).elim⟩

/-- A cell of an entry, read. -/
theorem Sat.cell {E : Env} {h : Nat → Option Ent} {w : World} (hs : Sat E h w) {b : Nat} {e : Ent} (hb : h b = some e) :
    ∃ p, E.pl b = some p ∧ ∀ (i : Nat) (v : Value), e.cs[i]? = some v → ∃ v', w.cell? ⟨p.1, p.2.1 + i, none⟩ = some v' ∧ Rn E v v' ∧ v'.oneCell' = true := by
  obtain ⟨p, hp, ok⟩ := hs.ent b e hb
  refine ⟨p, hp, fun i v hv => ?_⟩
  by_cases h3 : e.kd = 3 ∨ e.kd = 4
  · rw [ok.empty h3] at hv; simp at hv
  · obtain ⟨c, el, fr, a, x, _⟩ := ok.obj (fun h => h3 (.inl h)) (fun h => h3 (.inr h))
    obtain ⟨v', q, r, s⟩ := x i v hv
    exact ⟨v', by simp [World.cell?, a, q], r, s⟩

/-- A row of cells of an entry, read. -/
theorem Sat.cells {E : Env} {h : Nat → Option Ent} {w : World} (hs : Sat E h w) {b : Nat} {e : Ent} (hb : h b = some e) {p : Nat × Nat × Nat} (hp : E.pl b = some p) (off n : Nat)
    (_hl : ((e.cs.drop off).take n).length = n) : ∃ cs', Rns E ((e.cs.drop off).take n) cs' ∧ (∀ j v, cs'[j]? = some v → w.cell? ⟨p.1, p.2.1 + off + j, none⟩ = some v) ∧ (∀ v ∈ cs', v.oneCell' = true) := by
  obtain ⟨p', hp', hc⟩ := hs.cell hb
  rw [hp] at hp'; cases hp'
  have key : ∀ (l : List Value) (k : Nat), (∀ (i : Nat) (v : Value), l[i]? = some v → ∃ v', w.cell? ⟨p.1, p.2.1 + (k + i), none⟩ = some v' ∧ Rn E v v' ∧ v'.oneCell' = true) →
      ∃ cs', Rns E l cs' ∧ (∀ (j : Nat) v, cs'[j]? = some v → w.cell? ⟨p.1, p.2.1 + (k + j), none⟩ = some v) ∧ (∀ v ∈ cs', v.oneCell' = true) := by
    intro l
    induction l with
    | nil => exact fun k _ => ⟨[], .nil, fun j v hv => by simp at hv, fun v hv => by simp at hv⟩
    | cons v l ih =>
      intro k hk
      obtain ⟨v', a, b, c⟩ := hk 0 v rfl
      obtain ⟨cs', x, y, z⟩ := ih (k + 1) (fun i u hu => by
        have := hk (i + 1) u (by simpa using hu)
        rwa [show k + (i + 1) = k + 1 + i by omega] at this)
      refine ⟨v' :: cs', .cons b x, fun j u hu => ?_, fun u hu => ?_⟩
      · cases j with
        | zero => simp at hu; subst hu; simpa using a
        | succ j => have := y j u (by simpa using hu); rwa [show k + 1 + j = k + (j + 1) by omega] at this
      · simp at hu; rcases hu with rfl | hu
        · exact c
        · exact z u hu
  obtain ⟨cs', x, y, z⟩ := key ((e.cs.drop off).take n) off (fun i v hv => by
    rw [List.getElem?_take] at hv
    split at hv
    · rw [List.getElem?_drop] at hv; exact hc _ _ hv
    · cases hv)
  exact ⟨cs', x, fun j v hv => by have := y j v hv; rwa [← Nat.add_assoc] at this, z⟩

theorem add_cell (b o j : Nat) : (⟨b, o, none⟩ : Addr).add j = ⟨b, o + j, none⟩ := by
  unfold Addr.add; split <;> simp_all

/-- A variable of an entry, loaded. -/
theorem loadE_ok {E : Env} {P : Program} {h : Nat → Option Ent} {w : World} (hs : Sat E h w) {b : Nat} {e : Ent} (hb : h b = some e) {ty : TypeId} {off : Nat} {v : Value} (hv : loadE P ty e.cs off = some v) :
    ∃ p v', E.pl b = some p ∧ (loadVar ty ⟨p.1, p.2.1 + off, none⟩).run P w = .ok v' w ∧ Rn E v v' := by
  obtain ⟨p, hp, hc⟩ := hs.cell hb
  unfold loadE at hv
  split at hv
  · rename_i ha
    split at hv
    · rename_i n hn
      split at hv
      · rename_i hl
        simp only [Option.some.injEq] at hv; subst hv
        have hl' := Nat.eq_of_beq_eq_true hl
        obtain ⟨cs', x, y, z⟩ := hs.cells hb hp off n hl'
        have hr := run_loadCells_list (P := P) w ⟨p.1, p.2.1 + off, none⟩ cs' (fun j u hu => by rw [add_cell]; exact y j u hu)
        have hlen : cs'.length = n := by rw [← x.1]; exact hl'
        refine ⟨p, .agg cs'.toArray, hp, ?_, rn_agg.2 ⟨_, rfl, by simpa using x⟩⟩
        rw [hlen] at hr
        unfold loadVar
        simp [peel_run ha, peel_run hn, hr]
      · cases hv
    · cases hv
  · rename_i ha
    obtain ⟨v', x, y, z⟩ := hc off v hv
    refine ⟨p, v', hp, ?_, y⟩
    unfold loadVar
    simp [peel_run ha, x]
  · cases hv

/-- .. and of a value at hand. -/
theorem partE_ok {E : Env} {P : Program} {w : World} {ty : TypeId} {off : Nat} {v : Value} {cs cs' : Array Value} (hr : Rns E cs.toList cs'.toList) (hv : loadE P ty cs.toList off = some v) :
    ∃ v', (part ty cs' off).run P w = .ok v' w ∧ Rn E v v' := by
  unfold loadE at hv
  split at hv
  · rename_i ha
    split at hv
    · rename_i n hn
      split at hv
      · rename_i hl
        simp only [Option.some.injEq] at hv; subst hv
        refine ⟨.agg (cs'.extract off (off + n)), by unfold part; simp [peel_run ha, peel_run hn], rn_agg.2 ⟨_, rfl, ?_⟩⟩
        have := (hr.drop off).take n
        simpa [Array.toList_extract, List.extract_eq_take_drop] using this
      · cases hv
    · cases hv
  · rename_i ha
    obtain ⟨v', x, y⟩ := hr.2 off v hv
    refine ⟨v', ?_, y⟩
    unfold part
    have : cs'[off]? = some v' := by simpa using x
    simp [peel_run ha, this]
  · cases hv
end Go.Sy
