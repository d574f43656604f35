/- A symbolic run of a program: operations that write nothing that was there. -/
import Derived.Test.YtfjpdflilmcnhaaDoorSyS
import Derived.Laws.Strings
namespace Go.Sy

def Env.add (E : Env) (i : Nat) (p : Nat × Nat × Nat) : Env := ⟨fun j => if j = i then some p else E.pl j, E.oq⟩
theorem le_add {E : Env} {i : Nat} {p : Nat × Nat × Nat} (hn : E.pl i = none) : Le E (E.add i p) :=
  ⟨fun j q h => by
    show (if j = i then some p else E.pl j) = some q
    rw [if_neg (fun e => by rw [e, hn] at h; cases h)]; exact h, fun _ _ h => h⟩
theorem add_self (E : Env) (i : Nat) (p : Nat × Nat × Nat) : (E.add i p).pl i = some p := if_pos rfl

/-- What a step that writes nothing old comes to. -/
def FlPost (P : Program) (E : Env) (nx : Nat) (w : World) (m : Sem Value) (v : Value) : Option Ent → Prop
  | none => ∃ v', m.run P w = .ok v' w ∧ Rn E v v'
  | some e => ∃ v' w' p, m.run P w = .ok v' w' ∧ Ext w w' ∧ Rn (E.add nx p) v v' ∧ EntOK (E.add nx p) e p w' ∧ (e.kd ≠ 3 → w.heap.size ≤ p.1)

theorem plainV_ok {o : Option Value} {v : Value} {en : Option Ent} (h : plainV o = some (v, en)) : o = some v ∧ en = none := by
  cases o <;> simp [plainV] at h; simp [h.1, ← h.2]

theorem ones_iff {l : List Value} : ones l = true ↔ ∀ v ∈ l, v.oneCell' = true := by
  induction l with
  | nil => simp [ones]
  | cons v l ih =>
    unfold ones
    cases h : v.oneCell'
    · simp [h]
    · simp [h, ih]
theorem rns_ones {E : Env} {l l' : List Value} (h : ∀ v ∈ l, v.oneCell' = true) (r : Rns E l l') : ∀ v ∈ l', v.oneCell' = true := by
  intro v' hv'
  obtain ⟨i, hi⟩ := List.getElem?_of_mem hv'
  have hl : i < l.length := by rw [r.1]; exact (List.getElem?_eq_some_iff.1 hi).1
  obtain ⟨u, hu, ru⟩ := r.2 i l[i] (List.getElem?_eq_getElem hl)
  rw [hi] at hu; cases hu
  exact rn_oneCell (h _ (List.getElem_mem hl)) ru
theorem not_tuple {v : Value} (h : isTuple v = false) : ∀ cs, v ≠ .tuple cs := fun cs e => by subst e; simp [isTuple] at h

/-- A new row of cells. -/
theorem newRow_ok {P : Program} {E : Env} {nx : Nat} {w : World} (el : TypeId) (cs : List Value) (cs' : Array Value) (sz : Nat) (hsz : sz ≠ 0 → el + 1 = sz) (hn : E.pl nx = none) (hr : Rns E cs cs'.toList) (h1 : ∀ v ∈ cs, v.oneCell' = true) :
    (newRow el cs').run P w = .ok ⟨w.heap.size, 0, none⟩ { w with heap := w.heap.push (.cells cs' el) } ∧ Ext w { w with heap := w.heap.push (.cells cs' el) } ∧
    EntOK (E.add nx (w.heap.size, 0, 0)) ⟨1, sz, cs, []⟩ (w.heap.size, 0, 0) { w with heap := w.heap.push (.cells cs' el) } := by
  refine ⟨by simp [newRow], Ext.push _ _, .cells (fun h => by cases h) (fun h => by cases h) (fun _ => rfl) ⟨cs', el, (0, 0), by simp, fun i v hv => ?_, fun _ i _ => by omega, (fun h => by cases h), fun _ h => ⟨hsz h, rfl⟩⟩⟩
  obtain ⟨v', a, b⟩ := hr.2 i v hv
  exact ⟨v', by simpa using a, b.up (le_add hn), rn_oneCell (h1 v (List.mem_of_getElem? hv)) b⟩

theorem zeros_ok {P : Program} {ty : TypeId} {z : List Value} (h : zeros P ty = some z) : ∃ zv : Value, peel P (zeroValue ty) = some zv ∧ z = zv.cells.toList ∧ flatN 4 zv = true ∧ (∀ v ∈ z, v.oneCell' = true) ∧ isTuple zv = false := by
  unfold zeros at h
  split at h
  · rename_i zv hz
    split at h
    · rename_i hc
      simp only [Option.some.injEq] at h
      simp only [Bool.and_eq_true, Bool.not_eq_true'] at hc
      exact ⟨zv, hz, h.symm, hc.1.1, by rw [← h]; exact ones_iff.1 hc.1.2, hc.2⟩
    · cases h
  · cases h
theorem zeros_rns {E : Env} {P : Program} {ty : TypeId} {z : List Value} (h : zeros P ty = some z) : Rns E z z := by
  obtain ⟨zv, _, rfl, hf, _, ht⟩ := zeros_ok h
  exact rn_cells (not_tuple ht) (flat_rn 4 zv hf)

theorem alloc_ok {P : Program} {E : Env} {nx : Nat} {w : World} {e : TypeId} {z : List Value} (hn : E.pl nx = none) (h : zeros P e = some z) :
    FlPost P E nx w (Instr.alloc e true (.tuple #[])) (.pointer (some ⟨nx, 0, none⟩)) (some ⟨1, e + 1, z, []⟩) := by
  obtain ⟨zv, hz, rfl, hf, h1, ht⟩ := zeros_ok h
  obtain ⟨a, b, c⟩ := newRow_ok (P := P) (w := w) e zv.cells.toList zv.cells (e + 1) (fun _ => rfl) hn (zeros_rns h) h1
  refine ⟨_, _, (w.heap.size, 0, 0), ?_, b, rn_ptr.2 ⟨_, add_self _ _ _, rfl⟩, c, fun _ => Nat.le_refl _⟩
  simp [Instr.alloc, peel_run hz, newVar, a]

theorem box_ok {P : Program} {E : Env} {nx : Nat} {w : World} {e : TypeId} {x x' v : Value} {en : Option Ent} (hn : en.isSome = true → E.pl nx = none) (hx : Rn E x x') (h : evBox e nx x = some (v, en)) :
    FlPost P E nx w (Instr.box e x') v en := by
  unfold evBox at h
  split at h
  · rename_i hc
    simp only [Bool.and_eq_true, Bool.not_eq_true'] at hc
    simp only [Option.some.injEq, Prod.mk.injEq] at h
    obtain ⟨rfl, rfl⟩ := h
    obtain ⟨a, b, c⟩ := newRow_ok (P := P) (w := w) e x.cells.toList x'.cells (e + 1) (fun _ => rfl) (hn rfl) (rn_cells (not_tuple hc.2) hx) (ones_iff.1 hc.1)
    refine ⟨_, _, (w.heap.size, 0, 0), ?_, b, rn_ptr.2 ⟨_, add_self _ _ _, rfl⟩, c, fun _ => Nat.le_refl _⟩
    simp [Instr.box, newVar, a]
  · cases h

theorem load_ok {P : Program} {E : Env} {nx : Nat} {w : World} {h : Hp} {ty : TypeId} {x x' v : Value} {en : Option Ent} (hs : Sat E (hget h) w) (hx : Rn E x x') (hv : evLoad P ty h x = some (v, en)) :
    FlPost P E nx w (Instr.loadAt ty x') v en := by
  unfold evLoad at hv
  split at hv
  · rename_i b off
    split at hv
    · rename_i e he
      split at hv
      · rename_i u hu
        simp only [Option.some.injEq, Prod.mk.injEq] at hv
        obtain ⟨rfl, rfl⟩ := hv
        obtain ⟨p, v', hp, hr, hrn⟩ := loadE_ok hs he hu
        obtain ⟨q, hq, rfl⟩ := rn_ptr.1 hx
        rw [hp] at hq; cases hq
        exact ⟨v', by simp [Instr.loadAt, Instr.sureAddr, hr], hrn⟩
      · cases hv
    · cases hv
  · cases hv

theorem pick_ok {P : Program} {E : Env} {nx : Nat} {w : World} {c c' a a' b b' v : Value} {en : Option Ent} (hc : Rn E c c') (ha : Rn E a a') (hb : Rn E b b') (h : evPick c a b = some (v, en)) :
    FlPost P E nx w (do pure (if ← asBool c' then a' else b')) v en := by
  unfold evPick at h
  split at h
  · simp only [Option.some.injEq, Prod.mk.injEq] at h; obtain ⟨rfl, rfl⟩ := h; rw [rn_bool.1 hc]; exact ⟨a', by simp [asBool], ha⟩
  · simp only [Option.some.injEq, Prod.mk.injEq] at h; obtain ⟨rfl, rfl⟩ := h; rw [rn_bool.1 hc]; exact ⟨b', by simp [asBool], hb⟩
  · cases h

theorem extract_ok {P : Program} {E : Env} {nx : Nat} {w : World} {x x' v : Value} {ix : Nat} {en : Option Ent} (hx : Rn E x x') (h : evExtract x ix = some (v, en)) : FlPost P E nx w (Instr.extract x' ix) v en := by
  unfold evExtract at h
  split at h
  · obtain ⟨h1, rfl⟩ := plainV_ok h
    obtain ⟨vs', rfl, hr⟩ := rn_tuple.1 hx
    obtain ⟨v', a, b⟩ := hr.2 ix v h1
    have : vs'[ix]? = some v' := by simpa using a
    exact ⟨v', by simp [Instr.extract, this], b⟩
  · cases h

theorem iface_ok {P : Program} {E : Env} {nx : Nat} {w : World} {ty : TypeId} {x x' v : Value} {en : Option Ent} (hx : Rn E x x') (h : evIface P ty x = some (v, en)) : FlPost P E nx w (Instr.makeInterface ty x') v en := by
  unfold evIface at h
  split at h
  · cases h
  · rename_i d hd hu
    split at h
    · cases h
    · simp only [Option.some.injEq, Prod.mk.injEq] at h; obtain ⟨rfl, rfl⟩ := h
      refine ⟨.iface ty x', ?_, rn_iface.2 ⟨x', rfl, hx⟩⟩
      simp only [Instr.makeInterface, Sem.run_bind, run_underlying hu, Result.andThen_ok]
      cases d <;> first | rfl | exact (hd _ hu).elim
  · cases h

theorem fieldAddr_ok {P : Program} {E : Env} {nx : Nat} {w : World} {s : TypeId} {f : Nat} {x x' v : Value} {en : Option Ent} (hx : Rn E x x') (h : evFieldAddr P s x f = some (v, en)) : FlPost P E nx w (Instr.fieldAt s x' f) v en := by
  unfold evFieldAddr at h
  split at h
  · rename_i fields b off hu
    split at h
    · rename_i fd hf
      split at h
      · rename_i n hn
        simp only [Option.some.injEq, Prod.mk.injEq] at h; obtain ⟨rfl, rfl⟩ := h
        obtain ⟨p, hp, rfl⟩ := rn_ptr.1 hx
        refine ⟨.pointer (some ⟨p.1, p.2.1 + (off + fd.offset), none⟩), ?_, rn_ptr.2 ⟨p, hp, rfl⟩⟩
        simp [Instr.fieldAt, run_underlying hu, hf, Instr.sureAddr, fieldPlace, peel_run hn, add_cell, Nat.add_assoc]
      · cases h
    · cases h
  · cases h

theorem field_ok {P : Program} {E : Env} {nx : Nat} {w : World} {s : TypeId} {f : Nat} {x x' v : Value} {en : Option Ent} (hx : Rn E x x') (h : evField P s x f = some (v, en)) : FlPost P E nx w (Instr.field s x' f) v en := by
  unfold evField at h
  split at h
  · rename_i fields cs hu
    split at h
    · rename_i fd hf
      split at h
      · rename_i u hl
        simp only [Option.some.injEq, Prod.mk.injEq] at h; obtain ⟨rfl, rfl⟩ := h
        obtain ⟨cs', rfl, hr⟩ := rn_agg.1 hx
        obtain ⟨v', a, b⟩ := partE_ok (P := P) (w := w) hr hl
        exact ⟨v', by simp [Instr.field, run_underlying hu, hf, asAgg, a], b⟩
      · cases h
    · cases h
  · cases h

theorem indexAddr_ok {P : Program} {E : Env} {nx : Nat} {w : World} {ty : TypeId} {x x' i i' v : Value} {en : Option Ent} (hx : Rn E x x') (hi : Rn E i i') (h : evIndexAddr P ty x i = some (v, en)) : FlPost P E nx w (Instr.indexAt ty x' i') v en := by
  unfold evIndexAddr at h
  split at h
  · rename_i elem b off len cap k n hu
    split at h
    · rename_i sz hz
      split at h
      · rename_i hb
        simp only [Option.some.injEq, Prod.mk.injEq] at h; obtain ⟨rfl, rfl⟩ := h
        obtain ⟨p, hp, rfl⟩ := rn_slice.1 hx
        rw [rn_int.1 hi]
        have hlt := blt_iff.1 hb
        refine ⟨.pointer (some ⟨p.1, p.2.1 + (off + n * sz), none⟩), ?_, rn_ptr.2 ⟨p, hp, rfl⟩⟩
        have h0 : (0 : Int) ≤ Int.ofNat n ∧ Int.ofNat n < (len : Int) := ⟨Int.natCast_nonneg n, Int.ofNat_lt.2 hlt⟩
        simp only [Instr.indexAt, asIntOf, Sem.run_bind, Sem.run_pure, run_underlying hu, Result.andThen_ok]
        simp only [h0, and_self, if_true, Sem.run_bind, peel_run hz, Result.andThen_ok, Sem.run_pure, add_cell]
        simp [Nat.add_assoc]
      · cases h
    · cases h
  · rename_i len elem b off k n hu
    split at h
    · rename_i sz hz
      split at h
      · rename_i hb
        simp only [Option.some.injEq, Prod.mk.injEq] at h; obtain ⟨rfl, rfl⟩ := h
        obtain ⟨p, hp, rfl⟩ := rn_ptr.1 hx
        rw [rn_int.1 hi]
        have hlt := blt_iff.1 hb
        refine ⟨.pointer (some ⟨p.1, p.2.1 + (off + n * sz), none⟩), ?_, rn_ptr.2 ⟨p, hp, rfl⟩⟩
        have h0 : (0 : Int) ≤ Int.ofNat n ∧ Int.ofNat n < (len : Int) := ⟨Int.natCast_nonneg n, Int.ofNat_lt.2 hlt⟩
        simp only [Instr.indexAt, asIntOf, Sem.run_bind, Sem.run_pure, run_underlying hu, Result.andThen_ok, Instr.sureAddr]
        simp only [h0, and_self, if_true, Sem.run_bind, peel_run hz, Result.andThen_ok, Sem.run_pure, add_cell]
        simp [Nat.add_assoc]
      · cases h
    · cases h
  · cases h

theorem index_ok {P : Program} {E : Env} {nx : Nat} {w : World} {ty : TypeId} {x x' i i' v : Value} {en : Option Ent} (hx : Rn E x x') (hi : Rn E i i') (h : evIndex P ty x i = some (v, en)) : FlPost P E nx w (Instr.index ty x' i') v en := by
  unfold evIndex at h
  split at h
  · rename_i len elem cs k n hu
    split at h
    · rename_i sz hz
      split at h
      · rename_i hb
        split at h
        · rename_i u hl
          simp only [Option.some.injEq, Prod.mk.injEq] at h; obtain ⟨rfl, rfl⟩ := h
          obtain ⟨cs', rfl, hr⟩ := rn_agg.1 hx
          rw [rn_int.1 hi]
          have hlt := blt_iff.1 hb
          obtain ⟨v', a, b⟩ := partE_ok (P := P) (w := w) hr hl
          have h0 : (0 : Int) ≤ Int.ofNat n ∧ Int.ofNat n < (len : Int) := ⟨Int.natCast_nonneg n, Int.ofNat_lt.2 hlt⟩
          refine ⟨v', ?_, b⟩
          simp only [Instr.index, asIntOf, Sem.run_bind, Sem.run_pure, run_underlying hu, Result.andThen_ok]
          simp only [h0, and_self, if_true, Sem.run_bind, peel_run hz, Result.andThen_ok]
          exact a
        · cases h
      · cases h
    · cases h
  · rename_i s k n hu
    split at h
    · rename_i b hb
      simp only [Option.some.injEq, Prod.mk.injEq] at h; obtain ⟨rfl, rfl⟩ := h
      rw [rn_string.1 hx, rn_int.1 hi]
      refine ⟨.int .u8 b.toNat, ?_, rn_int.2 rfl⟩
      have h0 : (0 : Int) ≤ Int.ofNat n := Int.natCast_nonneg n
      have h1 : s[n]? = some b := by
        obtain ⟨hl, he⟩ := List.getElem?_eq_some_iff.1 hb
        have hl' : n < s.size := by have q := hl; rw [Array.length_toList] at q; exact q
        rw [getElem?_pos s n hl']
        simpa [ByteArray.getElem_eq_getElem_data] using he
      simp only [Instr.index, asIntOf, Sem.run_bind, Sem.run_pure, run_underlying hu, Result.andThen_ok]
      simp [h1]
    · cases h
  · cases h
end Go.Sy
