/- Numbers in their order, each once (slices.Sorted over slices.Values, slices.Compact). -/
import Derived.Test.YtfjpdflilmcnhaaGreatDoorCol
import Derived.Test.YtfjpdflilmcnhaaGreatDoorShelfS
import Derived.Sort.OwnSorted
import Derived.Lib.SlKeysI
namespace Go.Proofs.YtfjpdflilmcnhaaGreatDoor
open Go.ChangeShapes Go.WideShapes Go.ChangeAt Go.RowKit

open Go.Shelf Go.Sort
open Go.RowKit (Below)
def srt (zs : List Int) : List Int := zs.mergeSort fun x y => decide (x ≤ y)
theorem srt_len (zs : List Int) : (srt zs).length = zs.length := by unfold srt; rw [List.length_mergeSort]
theorem srt_perm (zs : List Int) : (srt zs).Perm zs := List.mergeSort_perm zs _
theorem srt_le (zs : List Int) : (srt zs).Pairwise fun x y => x ≤ y := by
  have h := List.pairwise_mergeSort (le := fun x y : Int => decide (x ≤ y)) (by intro a b c h1 h2; simp at *; omega) (by intro a b; simp; omega) zs
  exact h.imp fun hxy => by simpa using hxy
/-- Unlike places of columns, one at least. -/
def arB (zs : List Int) (c : Int) : Bool := decide (zs ≠ [] ∧ (∀ z ∈ zs, 0 ≤ z ∧ z < c) ∧ zs.Nodup)
theorem getB {zs : List Int} {i : Nat} (h : i < zs.length) : zs.toArray[i]! = zs[i] := by simp [h]
/-- Of numbers in their order none falls out just where all are unlike. -/
theorem compact_all_iff {zs : List Int} (hs : zs.Pairwise fun x y => x ≤ y) : (Go.Lib.compact zs).length = zs.length ↔ zs.Nodup := by
  have e : (Go.Lib.compact zs).length = ((List.range zs.length).filter (Go.Lib.keeps zs.toArray)).length := by
    unfold Go.Lib.compact Go.Lib.compactUpTo; rw [List.length_map]
  have h1 : ((List.range zs.length).filter (Go.Lib.keeps zs.toArray)).length = zs.length ↔ ∀ j, j < zs.length → Go.Lib.keeps zs.toArray j = true := by
    have h2 := List.length_filter_eq_length_iff (p := Go.Lib.keeps zs.toArray) (l := List.range zs.length)
    rw [List.length_range] at h2
    rw [h2]
    simp only [List.mem_range]
  rw [e, h1]
  constructor
  · intro h
    rw [List.nodup_iff_pairwise_ne]
    have hlt : ∀ (i j : Nat) (hi : i < zs.length) (hj : j < zs.length), i < j → zs[i] < zs[j] := by
      intro i j hi hj hij
      have hk := h (i + 1) (by omega)
      unfold Go.Lib.keeps at hk
      have hk2 := of_decide_eq_true hk
      rcases hk2 with hk2 | hk2
      · omega
      · rw [getB (by omega), getB (by omega)] at hk2
        have h3 : zs[i + 1] ≠ zs[i] := by simpa using hk2
        have h4 : zs[i] ≤ zs[i + 1] := (List.pairwise_iff_getElem.1 hs) i (i + 1) hi (by omega) (by omega)
        rcases Nat.lt_or_ge (i + 1) j with h5 | h5
        · have h6 : zs[i + 1] ≤ zs[j] := (List.pairwise_iff_getElem.1 hs) (i + 1) j (by omega) hj h5
          omega
        · obtain rfl : j = i + 1 := by omega
          omega
    rw [List.pairwise_iff_getElem]
    intro i j hi hj hij
    have := hlt i j hi hj hij
    omega
  · intro h j hj
    unfold Go.Lib.keeps
    apply decide_eq_true
    rcases Nat.eq_zero_or_pos j with h0 | h0
    · exact Or.inl h0
    · right
      rw [getB hj, getB (by omega)]
      rw [List.nodup_iff_pairwise_ne] at h
      exact fun e => (List.pairwise_iff_getElem.1 h) (j - 1) j (by omega) hj (by omega) e.symm
/-- What the ends of numbers in their order tell. -/
theorem arB_is {zs : List Int} {m : Nat} (hm : zs.length = m + 1) (c : Int) (h1 : 0 < (srt zs).length) (hmm : m < (srt zs).length) : arB zs c = (!(decide ((srt zs)[0] < 0)) && !(decide ((srt zs)[m] ≥ c)) && decide ((Go.Lib.compact (srt zs)).length = m + 1)) := by
  have hs := List.pairwise_iff_getElem.1 (srt_le zs)
  have hp := srt_perm zs
  have hl := srt_len zs
  have hne : zs ≠ [] := by intro e; rw [e] at hm; cases hm
  have hcn : ((Go.Lib.compact (srt zs)).length = m + 1) ↔ zs.Nodup := by
    rw [← hm, ← hl, compact_all_iff (srt_le zs)]
    exact hp.nodup_iff
  rw [Bool.eq_iff_iff]
  unfold arB
  rw [decide_eq_true_iff, Bool.and_eq_true, Bool.and_eq_true, decide_eq_true_iff, hcn]
  simp only [Bool.not_eq_true', decide_eq_false_iff_not]
  constructor
  · rintro ⟨_, h2, h3⟩
    have m0 := h2 _ (hp.mem_iff.1 (List.getElem_mem h1))
    have m1 := h2 _ (hp.mem_iff.1 (List.getElem_mem hmm))
    exact ⟨⟨by omega, by omega⟩, h3⟩
  · rintro ⟨⟨h2, h3⟩, h4⟩
    refine ⟨hne, fun z hz => ?_, h4⟩
    obtain ⟨i, hi, rfl⟩ := List.mem_iff_getElem.1 (hp.mem_iff.2 hz)
    have a1 : (srt zs)[0] ≤ (srt zs)[i] := by
      rcases Nat.eq_zero_or_pos i with h0 | h0
      · subst h0; exact Int.le_refl _
      · exact hs 0 i h1 hi h0
    have a2 : (srt zs)[i] ≤ (srt zs)[m] := by
      rcases Nat.lt_or_ge i m with h0 | h0
      · exact hs i m hi hmm h0
      · obtain rfl : i = m := by omega
        exact Int.le_refl _
    omega
theorem fr_grown {w w' : World} {g : Nat} (h : w.grownBy w' (some g)) : Fr (fun k => k = g) w w' := ⟨h.os, h.tape, h.output, h.size, fun k hk hS => h.block k hk (fun e => hS (Option.some.inj e))⟩
set_option maxHeartbeats 4000000 in
theorem Sorted_any (Bs : Nat) (sv : Value) (zs : List Int) (w : World) (hz : 0 < zs.length) (hreach : zs.length * 8 ≤ 140737488351232) (hBs : Bs < w.heap.size) (hc : w.cell? ⟨Bs, 0, none⟩ = some sv) (hI : Ints w.heap.size w sv zs) :
    Calls Tryz.prog 76 #[.func (.func 90) #[] #[.pointer (some ⟨Bs, 0, none⟩)]] w fun e W' => ∃ g cap, e = .returned (.slice (some ⟨g, 0, none⟩) zs.length cap) ∧ zs.length ≤ cap ∧ w.heap.size ≤ g ∧ W'.ownsRow w.heap.size 3 1 (.slice (some ⟨g, 0, none⟩) zs.length cap) zs.length (itC (srt zs)) ∧ Below w.heap.size w W' := by
  have hA := Collect_any Bs sv zs w hreach hBs hc hI
  clear hI hc
  go_enter Tryz.func76, Tryz.ntmps76
  go_wp2_with fail
  refine hA.mono ?_
  rintro e w1 ⟨v, rfl, ho, hb⟩
  rcases ho.2 with ⟨rfl, h0⟩ | ⟨g, cap, cur, rfl, hbg, hg, r1, r2, r3, r4⟩
  · omega
  have hH : Holds (Value.int .i64) w1 g 0 zs.toArray := holds_of_block_i hg (by rw [Nat.mul_one] at r4; exact r4)
  have hgl : g < w1.heap.size := heap_lt hg
  have hS := Tryz.slices_Sort_int g 0 cap zs w1 hH hgl (by omega)
  have HON : Hid (∀ n os, (grow (putRow (Value.int .i64) (Sort.ahead w1 n) g 0 (srt zs).toArray) os).ownsRow w.heap.size 3 1 (.slice (some ⟨g, 0, none⟩) zs.length cap) zs.length (itC (srt zs))) := fun n os => ownsRow_sorted_i (srt_len zs) hbg hg r1 r2 r3
  have HBN : Hid (∀ n os, Below w.heap.size w (grow (putRow (Value.int .i64) (Sort.ahead w1 n) g 0 (srt zs).toArray) os)) := fun n os => hb.grown (grownBy_sorted_i _) hb.size (fun j hj => by cases hj; exact hbg)
  have HR1 : Hid (zs.length ≤ cap) := r1
  have HBG : Hid (w.heap.size ≤ g) := hbg
  clear hA ho hg r1 r2 r3 r4 hH
  go_wp2_with fail
  refine hS.mono ?_
  rintro e w2 ⟨rfl, n, os, rfl⟩
  have HO : Hid _ := HON.out n os
  have HB : Hid _ := HBN.out n os
  clear HON HBN hS hb
  change Hid (World.ownsRow (grow (putRow (Value.int .i64) (Sort.ahead w1 n) g 0 (srt zs).toArray) os) _ _ _ _ _ _) at HO
  show _
  generalize hgw : grow (putRow (Value.int .i64) (Sort.ahead w1 n) g 0 (zs.mergeSort fun x y => decide (x ≤ y)).toArray) os = w3 at *
  have HO3 : Hid (w3.ownsRow w.heap.size 3 1 (.slice (some ⟨g, 0, none⟩) zs.length cap) zs.length (itC (srt zs))) := by rw [← hgw]; exact HO
  have HB3 : Hid (Below w.heap.size w w3) := by rw [← hgw]; exact HB
  clear HO HB hgw
  go_wp2
  go_ret
  exact ⟨g, cap, rfl, HR1.out, HBG.out, HO3.out, HB3.out⟩
end Go.Proofs.YtfjpdflilmcnhaaGreatDoor
