/- What a map holds, in the order of its births (slices.SortedFunc over maps.Values). -/
import Derived.Test.YtbfodpmlmhkikaaDoorColl
import Derived.Test.YtbfodpmlmhkikaaDoorShelfS
namespace Go.Proofs.YtbfodpmlmhkikaaDoor
open Go.ChangeShapes Go.WideShapes Go.ChangeAt Go.RowKit Go.Shelf Go.Sort
open Go.RowKit (Below)

/-- An entry as a plain tuple. -/
abbrev EntP := Option Addr × Nat × List Val × Int × Int
def ep (x : Ent) : EntP := (x.a, x.cap, x.row, x.n, x.born)
def pe (p : EntP) : Ent := ⟨p.1, p.2.1, p.2.2.1, p.2.2.2.1, p.2.2.2.2⟩
theorem pe_ep (x : Ent) : pe (ep x) = x := rfl
theorem ep_pe (p : EntP) : ep (pe p) = p := rfl
def enP (p : EntP) : List Value := [.slice p.1 p.2.2.1.length p.2.1, .int .i64 p.2.2.2.1, .int .i64 p.2.2.2.2]
def bnP (p : EntP) : Int := p.2.2.2.2
def cfP (x y : EntP) : Int := Lib.compareInt (bnP x) (bnP y)
theorem ltP (x y : EntP) : ltOf cfP x y = decide (bnP x < bnP y) := by
  unfold ltOf cfP Lib.compareInt
  by_cases h1 : bnP x < bnP y
  · simp [h1]
  · by_cases h2 : bnP y < bnP x <;> simp [h1, h2]
theorem swoP : SWO (ltOf cfP) where
  irrefl x := by rw [ltP]; simp
  trans x y z h1 h2 := by rw [ltP] at *; simp at *; omega
  ntrans x y z h1 h2 := by rw [ltP] at *; simp at *; omega
set_option maxHeartbeats 2000000 in
theorem closure39 (x y : EntP) (W : World) : Calls Tryd.prog 39 #[.agg #[.slice x.1 x.2.2.1.length x.2.1, .int .i64 x.2.2.2.1, .int .i64 x.2.2.2.2], .agg #[.slice y.1 y.2.2.1.length y.2.1, .int .i64 y.2.2.2.1, .int .i64 y.2.2.2.2]] W fun e w' => e = .returned (.int .i64 (cfP x y)) ∧ ∃ q os', w' = grow (W.drewN q) os' := by
  have hcon := fun W' => AnyG.cmp_Compare_int Tryd.cmpInt x.2.2.2.2 y.2.2.2.2 W'
  change ∀ W', Calls Tryd.prog 40 _ _ _ at hcon
  have HE : Hid (cfP x y = Lib.compareInt x.2.2.2.2 y.2.2.2.2) := rfl
  generalize Lib.compareInt x.2.2.2.2 y.2.2.2.2 = r at hcon HE
  go_enter Tryd.func39, Tryd.ntmps39
  go_wp2_with (go_at_call 40; refine (hcon _).mono ?_; rintro e w' ⟨rfl, rfl⟩)
  go_ret
  exact ⟨ret_int HE.out.symm, 0, _, by rw [alloc_eq_grow, alloc_eq_grow, grow_grow]; rfl⟩
theorem cmpLays39 (blk off size : Nat) (w : World) : CmpLays Tryd.prog 39 #[] enP 3 cfP blk off size w := fun _ _ _ _ x y => closure39 x y _
def de : Ent := ⟨none, 0, [], 0, 0⟩
def ex (xs : List Ent) (i : Nat) : Ent := xs.getD i de
/-- A slice of entries. -/
def EntsAt (w : World) (a : Option Addr) (xs : List Ent) : Prop := xs = [] ∨ ∃ g, a = some ⟨g, 0, none⟩ ∧ ∀ i, i < xs.length →
  w.cell? ⟨g, i * 3, none⟩ = some (.slice (ex xs i).a (ex xs i).row.length (ex xs i).cap) ∧ w.cell? ⟨g, i * 3 + 1, none⟩ = some (.int .i64 (ex xs i).n) ∧ w.cell? ⟨g, i * 3 + 2, none⟩ = some (.int .i64 (ex xs i).born)
theorem EntsAt.below {w w' : World} {a : Option Addr} {xs : List Ent} (h : EntsAt w a xs) (hb : Below w.heap.size w w') : EntsAt w' a xs := by
  rcases h with h | ⟨g, ha, hc⟩
  · exact Or.inl h
  · exact Or.inr ⟨g, ha, fun i hi => ⟨cell_below hb (hc i hi).1, cell_below hb (hc i hi).2.1, cell_below hb (hc i hi).2.2⟩⟩
theorem enC_at (xs : List Ent) (i : Nat) (h : i < xs.length) (c : Nat) (hc : c < 3) : (enC xs)[i * 3 + c]? = (enL (ex xs i))[c]? := by
  induction xs generalizing i with
  | nil => cases h
  | cons x xs ih =>
    have e : enC (x :: xs) = enL x ++ enC xs := by simp [enC]
    have hl : (enL x).length = 3 := rfl
    rw [e]
    cases i with
    | zero => rw [List.getElem?_append_left (by rw [hl]; omega), Nat.zero_mul, Nat.zero_add]; rfl
    | succ i =>
      rw [List.getElem?_append_right (by rw [hl]; omega), hl, show (i + 1) * 3 + c - 3 = i * 3 + c by omega]
      have := ih i (by simpa using h)
      rw [this]; rfl
theorem enC_len (xs : List Ent) : (enC xs).length = xs.length * 3 := by
  induction xs with
  | nil => rfl
  | cons x xs ih => rw [show enC (x :: xs) = enL x ++ enC xs by simp [enC], List.length_append, ih]; simp [enL]; omega
theorem holds_of_owns {w : World} {base g cap n : Nat} {xs : List Ent} (hn : n = xs.length) (h : w.ownsRow base 78 3 (.slice (some ⟨g, 0, none⟩) n cap) n (enC xs)) : HoldsK enP 3 w g 0 (xs.map ep).toArray := by
  intro j hj
  rw [size_flatK] at hj
  have hsz : (xs.map ep).toArray.size = xs.length := by simp
  rw [get_flatK _ _ _ _ hj]
  rw [hsz] at hj
  have hi : j / 3 < xs.length := by omega
  have hc : j % 3 < 3 := Nat.mod_lt _ (by omega)
  have hat := enC_at xs (j / 3) hi (j % 3) hc
  rw [show j / 3 * 3 + j % 3 = j by omega] at hat
  have hcell := h.cellAt j (by omega)
  rw [hat] at hcell
  refine ⟨?_, h.frozenAt _⟩
  rw [Nat.zero_add, hcell]
  have hd : (xs.map ep).toArray[j / 3]! = ep (ex xs (j / 3)) := by
    rw [getElem!_pos _ _ (by rw [hsz]; exact hi)]
    simp [ex, hi]
  rw [hd]
  show _ = some (id ((enP (ep (ex xs (j / 3))))[j % 3]!))
  have h3 : j % 3 = 0 ∨ j % 3 = 1 ∨ j % 3 = 2 := by omega
  rcases h3 with h3 | h3 | h3 <;> rw [h3] <;> rfl
theorem ents_of_holds {w : World} {g : Nat} {ys : List EntP} (h : HoldsK enP 3 w g 0 ys.toArray) : EntsAt w (some ⟨g, 0, none⟩) (ys.map pe) := by
  refine Or.inr ⟨g, rfl, fun i hi => ?_⟩
  have hi' : i < ys.length := by simpa using hi
  have hsz : ys.toArray.size = ys.length := by simp
  have hd : ys.toArray[i]! = ep (ex (ys.map pe) i) := by
    rw [getElem!_pos _ _ (by rw [hsz]; exact hi')]
    simp [ex, hi', ep_pe]
  have c0 := (HoldsK.cell h (i := i) (c := 0) (by rw [hsz]; exact hi') (by omega)).1
  have c1 := (HoldsK.cell h (i := i) (c := 1) (by rw [hsz]; exact hi') (by omega)).1
  have c2 := (HoldsK.cell h (i := i) (c := 2) (by rw [hsz]; exact hi') (by omega)).1
  rw [hd] at c0 c1 c2
  rw [Nat.zero_add] at c0 c1 c2
  exact ⟨c0, c1, c2⟩
theorem below_sortK {B : Nat} {w : World} {g n : Nat} {d : Array EntP} {os : Array Obj} (hg : B ≤ g) (hB : B ≤ w.heap.size) : Below B w (sortWorldK enP 3 w g 0 n d os) :=
  ⟨rfl, rfl, rfl, by simp [sortWorldK, grow, putRowK, putRow, mapBlock, Sort.ahead], fun k hk => by
    simp only [sortWorldK, grow, putRowK, putRow, mapBlock, Sort.ahead]
    rw [Array.getElem?_append_left (by simp; omega), Array.getElem?_modify, if_neg (by omega)]⟩
theorem sorted_is {xs ys : List EntP} (hp : xs.Perm ys) (hs : ys.Pairwise fun x y => bnP x < bnP y) (hx : xs.Pairwise fun x y => bnP x ≤ bnP y) : xs = ys := by
  refine List.Perm.eq_of_pairwise (le := fun x y => bnP x ≤ bnP y) (fun a b ha hb h1 h2 => ?_) hx (hs.imp Int.le_of_lt) hp
  have ha' := hp.mem_iff.1 ha
  have he : bnP a = bnP b := Int.le_antisymm h1 h2
  obtain ⟨i, hi, rfl⟩ := List.mem_iff_getElem.1 ha'
  obtain ⟨j, hj, rfl⟩ := List.mem_iff_getElem.1 hb
  rcases Nat.lt_trichotomy i j with h | h | h
  · have := (List.pairwise_iff_getElem.1 hs) i j hi hj h; omega
  · subst h; rfl
  · have := (List.pairwise_iff_getElem.1 hs) j i hj hi h; omega
end Go.Proofs.YtbfodpmlmhkikaaDoor
