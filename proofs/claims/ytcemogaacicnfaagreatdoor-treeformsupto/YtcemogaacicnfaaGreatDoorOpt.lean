/- A tree that came in, with its size and its texts. -/
import Derived.Test.YtcemogaacicnfaaGreatDoorRSz
import Derived.Test.YtcemogaacicnfaaGreatDoorFrm
import Derived.Deep.SlicePairs
import Derived.Test.YtcemogaacicnfaaGreatDoorNdg
import Derived.Test.YtcemogaacicnfaaGreatDoorRf1
namespace Go.Proofs.YtcemogaacicnfaaGreatDoor
section
open Go.Shelf Go.ChangeShapes Go.WideShapes Go.ChangeAt Go.RowKit Go.Lib Go.Joins
open Go.WideMaps Go.WideElems
open Go.ChangeMaps (open_string shut_string)

theorem cells24 : Tryz.prog.cellsOf 24 = 5 := by kernel_rfl
theorem cells22 : Tryz.prog.cellsOf 22 = 1 := by kernel_rfl
theorem bulk_one {H : Type} (d : DataW H) : 1 ≤ Rows.uptoBulk d := by
  cases d with
  | lit l => cases l <;> simp [Rows.uptoBulk]
  | _ => simp [Rows.uptoBulk]
theorem bulk_mem {H : Type} {d : DataW H} {l : List (DataW H)} (h : d ∈ l) : Rows.uptoBulk d ≤ Rows.uptoBulkAll l := by
  induction l with
  | nil => cases h
  | cons x l ih =>
    simp only [Rows.uptoBulkAll]
    rcases List.mem_cons.1 h with rfl | h
    · omega
    · have := ih h; omega
theorem sum_le {H α : Type} {l : List α} {f : α → Nat} {g : α → DataW H} (h : ∀ x ∈ l, f x ≤ Rows.uptoBulk (g x)) : (l.map f).sum ≤ Rows.uptoBulkAll (l.map g) := by
  induction l with
  | nil => simp
  | cons x l ih =>
    have h1 := h x (List.mem_cons_self ..)
    have h2 := ih (fun y hy => h y (List.mem_cons_of_mem _ hy))
    simp only [List.map_cons, List.sum_cons, Rows.uptoBulkAll]
    omega
theorem len_sum {n : Nat} : ∀ l : List (Tr n), l.length ≤ (l.map (szP n)).sum
  | [] => Nat.zero_le _
  | x :: l => by
    have h1 := len_sum l
    have h2 : 1 ≤ szP n x := by
      cases n with
      | zero => exact Empty.elim x
      | succ n => rw [szP]; omega
    simp only [List.length_cons, List.map_cons, List.sum_cons]
    omega
theorem wid_of : ∀ (n : Nat) (x : Tr n), szP n x * 64 ≤ 140737488355328 → Wid n x
  | 0, x, _ => Empty.elim x
  | n + 1, x, h => by
    rw [szP] at h
    have h2 : (ks (n + 1) x).length ≤ ((ks (n + 1) x).map (szP n)).sum := len_sum (n := n) (ks (n + 1) x)
    refine ⟨by omega, fun y hy => wid_of n y ?_⟩
    have h1 : szP n y ≤ ((ks (n + 1) x).map (szP n)).sum := mem_sum (szP n) hy
    omega
section
variable {H : Type} {enc : TypeId × Value → H} {W : World} {base : Nat} {spare : Nat → Bool} {held : Bool}
set_option maxRecDepth 100000 in
/-- A tree that came in. -/
theorem open_ndt : ∀ (M fuel : Nat) (cs : List Value) (x : DataW H × List MemPlace), DataW.trod enc Tryz.prog W base spare held fuel 24 cs = some x → Rows.uptoBulk x.1 ≤ M →
    ∃ (t : Tr M) (s : Option Addr) (c : Nat), cs = [.int .i64 (kd M t), .string (bsA (tx M t)), .int .i64 (nu M t), .int .i64 (pl M t), .slice s (ks M t).length c] ∧ NdG W M t s c ∧ szP M t ≤ Rows.uptoBulk x.1 ∧ (Rows.uptoBulk x.1 ≤ 1048576 → Txs M t)
  | 0, _, _, x, _, hb => absurd (bulk_one x.1) (by omega)
  | M + 1, fuel, cs, x, h, hb => by
    obtain ⟨xs, k, hk, hxy, hcl, hxl, hf⟩ := DataW.trod_struct Tryz.underlying24 h
    rw [cells24] at hcl
    match xs, hxl, cs, hcl with
    | [y0, y1, y2, y3, y4], _, [v0, v1, v2, v3, v4], _ =>
      have g0 := hf 0 _ rfl
      have g1 := hf 1 _ rfl
      have g2 := hf 2 _ rfl
      have g3 := hf 3 _ rfl
      have g4 := hf 4 _ rfl
      simp [cells3, cells9, cells22] at g0 g1 g2 g3 g4
      obtain ⟨z0, e0, _, _⟩ := DataW.trod_int Tryz.underlying3 g0
      obtain ⟨z1, e1, et, _⟩ := DataW.trod_string Tryz.underlying9 g1
      obtain ⟨z2, e2, _, _⟩ := DataW.trod_int Tryz.underlying3 g2
      obtain ⟨z3, e3, _, _⟩ := DataW.trod_int Tryz.underlying3 g3
      simp only [List.cons.injEq, and_true] at e0 e1 e2 e3
      subst e0 e1 e2 e3
      have hbig : Rows.uptoBulk y4.1 + 1 ≤ Rows.uptoBulk x.1 := by
        rw [hxy]
        simp only [List.map_cons, List.map_nil, Rows.uptoBulk, Rows.uptoBulkAll]
        omega
      have htx : z1.data.toList.length + 1 ≤ Rows.uptoBulk x.1 := by
        rw [hxy]
        simp only [List.map_cons, List.map_nil, Rows.uptoBulk, Rows.uptoBulkAll, et]
        omega
      have hbx : Rows.uptoBulk y4.1 ≤ M := by omega
      have hone := bulk_one x.1
      rcases Deep.open_slice Tryz.underlying22 g4 with ⟨hcs, _⟩ | ⟨a, len, cap, m, nn, D, Pl, hcs, _, hl, hm, hmm, hx, hall⟩
      · simp only [List.cons.injEq, and_true] at hcs
        subst hcs
        exact ⟨(z0, z1.data.toList, z2, z3, []), none, 0, by show (_ : List Value) = [_, Value.string (bsA z1.data.toList), _, _, _]; rw [bsA_of]; rfl, ⟨Nat.zero_le _, Or.inl rfl, Nat.zero_le _⟩, hone, fun h => ⟨by show z1.data.toList.length ≤ _; omega, fun y hy => by cases hy⟩⟩
      · simp only [List.cons.injEq, and_true] at hcs
        subst hcs
        have hle : len ≤ m := by rw [hmm]; split <;> omega
        have hml : cap ≤ 9223372036854775807 := by have := hm; unfold maxLen at this; omega
        have each : ∀ i, i < len → ∃ q : Tr M × Option Addr × Nat, (W.cell? (a.add (i * 5)) = some (.int .i64 (kd M q.1)) ∧ W.cell? (a.add (i * 5 + 1)) = some (.string (bsA (tx M q.1))) ∧ W.cell? (a.add (i * 5 + 2)) = some (.int .i64 (nu M q.1)) ∧ W.cell? (a.add (i * 5 + 3)) = some (.int .i64 (pl M q.1)) ∧ W.cell? (a.add (i * 5 + 4)) = some (.slice q.2.1 (ks M q.1).length q.2.2)) ∧ NdG W M q.1 q.2.1 q.2.2 ∧ szP M q.1 ≤ Rows.uptoBulk (D i) ∧ (Rows.uptoBulk (D i) ≤ 1048576 → Txs M q.1) := by
          intro i hi
          obtain ⟨cs', h1, h2⟩ := hall i (by omega)
          rw [cells24] at h1
          obtain ⟨_, hlen, hcell⟩ := World.cells?_some h1
          have hbi : Rows.uptoBulk (D i) ≤ M := by
            rw [hx] at hbx
            simp only [Rows.uptoBulk] at hbx
            have := bulk_mem (l := (List.range len).map D) (List.mem_map.2 ⟨i, List.mem_range.2 hi, rfl⟩)
            omega
          obtain ⟨t, s, c, rfl, hn, hz, htt⟩ := open_ndt M nn cs' (D i, Pl i) h2 hbi
          have c0 := hcell 0 (by simp)
          have c1 := hcell 1 (by simp)
          have c2 := hcell 2 (by simp)
          have c3 := hcell 3 (by simp)
          have c4 := hcell 4 (by simp)
          rw [Deep.add_add] at c0 c1 c2 c3 c4
          exact ⟨(t, s, c), ⟨by simpa using c0, by simpa using c1, by simpa using c2, by simpa using c3, by simpa using c4⟩, hn, hz, htt⟩
        rcases Nat.eq_zero_or_pos len with h0 | h0
        · subst h0
          exact ⟨(z0, z1.data.toList, z2, z3, []), some a, cap, by show (_ : List Value) = [_, Value.string (bsA z1.data.toList), _, _, _]; rw [bsA_of]; rfl, ⟨Nat.zero_le _, Or.inl rfl, Nat.zero_le _⟩, hone, fun h => ⟨by show z1.data.toList.length ≤ _; omega, fun y hy => by cases hy⟩⟩
        obtain ⟨q0, _⟩ := each 0 h0
        have inh : Inhabited (Tr M × Option Addr × Nat) := ⟨q0⟩
        obtain ⟨q, hq⟩ := Deep.choose_lt each
        refine ⟨(z0, z1.data.toList, z2, z3, (List.range len).map fun i => (q i).1), some a, cap, ?_, ⟨?_, ?_, by show ((List.range len).map fun i => (q i).1).length ≤ cap; rw [List.length_map, List.length_range]; omega⟩, ?_, ?_⟩
        · show (_ : List Value) = [_, Value.string (bsA z1.data.toList), _, _, Value.slice (some a) ((List.range len).map fun i => (q i).1).length cap]
          rw [bsA_of, List.length_map, List.length_range]
          rfl
        · show ((List.range len).map fun i => (q i).1).length ≤ _
          rw [List.length_map, List.length_range]
          omega
        · show ((List.range len).map fun i => (q i).1) = [] ∨ _
          obtain ⟨b, off, spot⟩ := a
          have hspot : spot = none := by simpa [Addr.add] using World.cell?_spot (hq 0 (by omega)).1.1
          subst hspot
          refine Or.inr ⟨b, off, rfl, fun i y hi => ?_⟩
          change ((List.range len).map fun i => (q i).1)[i]? = some y at hi
          rw [List.getElem?_map] at hi
          have hil : i < len := by
            rcases Nat.lt_or_ge i len with h | h
            · exact h
            · rw [List.getElem?_eq_none (by simpa using h)] at hi; cases hi
          rw [List.getElem?_range hil] at hi
          obtain rfl : (q i).1 = y := by simpa using hi
          obtain ⟨hc, hn, _⟩ := hq i hil
          rw [WideShapes.add_plain, WideShapes.add_plain, WideShapes.add_plain, WideShapes.add_plain, WideShapes.add_plain] at hc
          exact ⟨(q i).2.1, (q i).2.2, hc, hn⟩
        · have hsum := sum_le (l := List.range len) (f := fun i => szP M (q i).1) (g := D) (fun i hi => (hq i (List.mem_range.1 hi)).2.2.1)
          have hsl : Rows.uptoBulkAll ((List.range len).map D) + 1 ≤ Rows.uptoBulk y4.1 := by
            rw [hx]
            simp only [Rows.uptoBulk]
            omega
          have e : szP (M + 1) ((z0, z1.data.toList, z2, z3, (List.range len).map fun i => (q i).1) : Tr (M + 1)) = 1 + ((List.range len).map fun i => szP M (q i).1).sum := by
            show 1 + (((List.range len).map fun i => (q i).1).map (szP M)).sum = _
            rw [List.map_map]
            rfl
          rw [e]
          omega
        · intro h
          refine ⟨by show z1.data.toList.length ≤ _; omega, fun y hy => ?_⟩
          change y ∈ (List.range len).map fun i => (q i).1 at hy
          obtain ⟨i, hi, rfl⟩ := List.mem_map.1 hy
          refine (hq i (List.mem_range.1 hi)).2.2.2 ?_
          have h1 := bulk_mem (l := (List.range len).map D) (List.mem_map.2 ⟨i, hi, rfl⟩)
          have hsl : Rows.uptoBulkAll ((List.range len).map D) + 1 ≤ Rows.uptoBulk y4.1 := by
            rw [hx]
            simp only [Rows.uptoBulk]
            omega
          omega
set_option maxRecDepth 100000 in
theorem open_nodet {b0 : Nat} {v : Value} {d : DataW H} {p : List MemPlace} (hv : Value.okWide Tryz.prog W .any b0 24 v) (h : DataW.Trod enc Tryz.prog W base spare held 24 v d p) (M : Nat) (hM : Rows.uptoBulk d ≤ M) :
    ∃ (t : Tr M) (s : Option Addr) (c : Nat), v = ndV M t s c ∧ NdG W M t s c ∧ szP M t ≤ Rows.uptoBulk d ∧ (Rows.uptoBulk d ≤ 1048576 → Txs M t) := by
  obtain ⟨cs, rfl, _⟩ := okWide_struct Tryz.underlying24 hv
  obtain ⟨fuel, hf⟩ := h
  obtain ⟨t, s, c, hcs, hn, hz, htt⟩ := open_ndt M fuel cs.toList (d, p) (by simpa [Value.cells] using hf) hM
  refine ⟨t, s, c, ?_, hn, hz, htt⟩
  unfold ndV
  rw [← hcs]
end
end
end Go.Proofs.YtcemogaacicnfaaGreatDoor
