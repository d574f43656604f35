/- What is collected of a slice of numbers (slices.Collect over slices.Values). -/
import Derived.Test.YtfjpdflilmcnhaaDoorMgD
import Derived.Test.YtfjpdflilmcnhaaDoorWit
import Derived.Maps.AppendAt
import Derived.Shelf.AbstractIn
import Derived.Shelf.RegionOpen
import Derived.RangeFuncCalls
import Derived.RangeFuncKeeps
import Derived.Shelf.Sort.Plain
import Derived.Shelf.Slices.CompactI
import Derived.Test.YtfjpdflilmcnhaaDoorProg
import Derived.Sort.OwnSorted
import Derived.Lib.SlKeysI
namespace Go.Proofs.YtfjpdflilmcnhaaDoor
open Go.ChangeShapes Go.WideShapes Go.ChangeAt Go.RowKit

open Go.Shelf
attribute [local go_sem] Oper.semAt_some
def itC (xs : List Int) : List Value := xs.map fun x => Value.int .i64 x
theorem itC_snoc (xs : List Int) (x : Int) : itC (xs ++ [x]) = itC xs ++ [Value.int .i64 x] := by simp [itC]
theorem it_one (x : Int) : ∀ u ∈ [Value.int .i64 x], u.oneCell' = true := by
  intro u hu
  simp only [List.mem_singleton] at hu
  subst hu; rfl
theorem it_cells (w : World) (x : Int) : ∀ j u, ([Value.int .i64 x])[j]? = some u → (w.alloc (.cells #[.int .i64 x] 3)).cell? ((⟨w.heap.size, 0, none⟩ : Addr).add j) = some u := by
  intro j u hj
  rw [add_plain]
  match j, hj with
  | 0, hj => simp only [List.getElem?_cons_zero, Option.some.injEq] at hj; subst hj; simp only [Nat.zero_add]; go_simp
  | j + 1, hj => simp at hj
set_option maxRecDepth 100000 in
set_option maxHeartbeats 8000000 in
theorem AppendSeq_in (F : Fence) (n : Nat) (h93 : F.fn 93) (h76 : F.fn 76) (hro : F.round = none) (hn : 3 ≤ n) (Bs : Nat) (sv : Value) (zs : List Int) (w : World)
    (hreach : zs.length * 8 ≤ 140737488351232) (hBs : Bs < w.heap.size) (hc : w.cell? ⟨Bs, 0, none⟩ = some sv) (hI : Ints w.heap.size w sv zs) :
    CallsIn F n Tryd.prog 93 #[.slice none 0 0, .func (.func 76) #[] #[.pointer (some ⟨Bs, 0, none⟩)]] w fun e W' => ∃ v, e = .returned v ∧ W'.ownsRow w.heap.size 3 1 v zs.length (itC zs) ∧ Below w.heap.size w W' := by
  have h1 : 1 ≤ n := by omega
  obtain ⟨i0, hi, hz0⟩ := Option.map_eq_some_iff.1 info3
  simp only [Prod.mk.injEq] at hz0
  obtain ⟨hz, hs, hb3⟩ := hz0
  have hone : Hid (∀ x, ∀ u ∈ [Value.int .i64 x], u.oneCell' = true) := it_one
  have hcel : Hid (∀ (w : World) (x : Int), ∀ j u, ([Value.int .i64 x])[j]? = some u → (w.alloc (.cells #[.int .i64 x] 3)).cell? ((⟨w.heap.size, 0, none⟩ : Addr).add j) = some u) := it_cells
  refine callsIn_of_wp_marks Tryd.func93 rfl h93 ?_ hro
  simp only [Tryd.ntmps93, List.size_toArray, List.length_cons, List.length_nil, Nat.reduceAdd, Nat.reduceSub, Array.replicate_succ, Array.replicate_zero, List.push_toArray, List.append_toArray, List.nil_append, List.cons_append]
  gi_wp2
  have bO := Boxed.new w 22 (.slice none 0 0)
  have hB0 : Below w.heap.size w (w.alloc (.cells #[.slice none 0 0] 22)) := (Below.refl _ w).alloc (Nat.le_refl _) _
  have hsz : (w.alloc (.cells #[.slice none 0 0] 22)).heap.size = w.heap.size + 1 := by simp
  obtain ⟨W0, hW0⟩ : ∃ W0, w.alloc (.cells #[.slice none 0 0] 22) = W0 := ⟨_, rfl⟩
  rw [hW0] at bO hB0 hsz ⊢
  clear hW0
  have hcW : W0.cell? ⟨Bs, 0, none⟩ = some sv := (hB0.cell (p := ⟨Bs, 0, none⟩) hBs).trans hc
  have hIW := Ints.below hB0 hI
  refine wpIn_rangeFunc_ownH hro h1 (gf := 76) (lb := #[.pointer (some ⟨Bs, 0, none⟩)]) rfl h76 (enters_of Tryd.func76 (by kernel_rfl) rfl) (encs := fun x : Int => #[Value.int .i64 x]) (Kp := Below w.heap.size) (S := fun ys => ys = zs) (Sp := fun pre => pre <+: zs) (N := zs.length) (w0 := W0)
    (values_stops F (n - 1) h76 hro (by omega) Bs w.heap.size sv zs hreach W0 (by omega) (by omega) hcW hIW) belowK_t (belowK_b (by omega)) (Below.refl _ _) (fun _ => rfl)
    (fun pre W => (∃ v, Boxed W w.heap.size 22 v ∧ W.ownsRow w.heap.size 3 1 v pre.length (itC pre) ∧ True) ∧ Below w.heap.size w W)
    (fun _ _ _ => False)
    (OwnFrom.and (Own.from (holdsRow_own w.heap.size w.heap.size 22 3 1 (fun pre => pre.length) (fun pre => itC pre) (fun _ _ => True)) _) (ownFrom_below (Nat.le_refl _) (by omega)))
    (fun _ _ _ _ _ hs _ _ => hs)
    ⟨⟨_, bO, World.ownsRow_nil _ _ _ _, trivial⟩, hB0⟩
    (fun x a' _ => a' = { tmps := #[.slice none 0 0, .func (.func 76) #[] #[.pointer (some ⟨Bs, 0, none⟩)], .pointer (some ⟨w.heap.size, 0, none⟩), undef, .slice none 0 0, .int .i64 x, .func (.func 76) #[] #[.pointer (some ⟨Bs, 0, none⟩)], .int .i64 x, undef, undef, undef, undef, undef], defers := [] })
    (fun x a' _ X Y row hs hg hr => hs)
    ?assign ?body ?done ?stop
  case assign =>
    rintro l pre x W K ⟨⟨v, hv, hrow, _⟩, hB⟩ hK
    gi_wp2
    exact hK _ _ (KeepsFrom.refl _ _) (Below.refl _ _) ⟨⟨v, hv, hrow, trivial⟩, hB⟩ rfl
  case body =>
    rintro l pre x a' W hl ⟨r, hr⟩ ⟨⟨v, hv, hrow, _⟩, hB⟩ rfl hlt
    have hc := hv.cell
    clear hr
    gi_wp2_with (gi_at_builtin; refine wpListIn_append_own _ rfl _ _ 22 rfl w.heap.size 3 i0 (.int .i64 0) 1 8 Tryd.underlying22 hi hz hs hb3 rfl (by decide) _ _ _ rfl (hrow.alloc _) ⟨W.heap.size, 0, none⟩ 1 1 [Value.int .i64 x] rfl rfl (hcel.out W x) (hone.out x) (by unfold maxLen; omega) (by omega) (by have := hB.size; simp; omega) ?_; intro v' w1 hown' hgrow _; obtain ⟨g', cap', rfl⟩ := ownsRow_succ hown'; obtain ⟨hv1, hv2, hr2, hk2, hb2⟩ := hv.appended (by decide) hrow hB.size (Nat.le_refl _) hown' hgrow; have hc1 := hv1.cell; have hf1 := hv1.frozen)
    exact ⟨hk2.from _, hb2, ⟨_, hv2, by rw [itC_snoc]; simpa using hr2, trivial⟩, hB.trans hb2⟩
  case done =>
    rintro D ys W hD rfl ⟨⟨v, hv, hrow, _⟩, hB⟩ hK
    have hc := hv.cell
    gi_wp2
    refine ⟨by simp, .inl ⟨_, _, rfl, run_takeDeferred hK, ?_⟩⟩
    exact ⟨_, results_tmp rfl _ _ _, v, rfl, ownsRow_putObj hrow _ hK rfl, hB.trans (belowK_b (w := w) (Nat.le_refl _) W D _ _ (by omega) hK rfl rfl)⟩
  case stop =>
    rintro D c pre W _ _ h _
    exact h.elim
theorem Collect_any (Bs : Nat) (sv : Value) (zs : List Int) (w : World) (hreach : zs.length * 8 ≤ 140737488351232) (hBs : Bs < w.heap.size) (hc : w.cell? ⟨Bs, 0, none⟩ = some sv) (hI : Ints w.heap.size w sv zs) :
    Calls Tryd.prog 75 #[.func (.func 76) #[] #[.pointer (some ⟨Bs, 0, none⟩)]] w fun e W' => ∃ v, e = .returned v ∧ W'.ownsRow w.heap.size 3 1 v zs.length (itC zs) ∧ Below w.heap.size w W' := by
  have hA := callsIn_wide.1 (AppendSeq_in Fence.wide 3 trivial trivial rfl (Nat.le_refl _) Bs sv zs w hreach hBs hc hI)
  clear hI hc
  go_enter Tryd.func75, Tryd.ntmps75
  go_wp2_with fail
  refine hA.mono ?_
  rintro e w1 ⟨v, rfl, ho, hb⟩
  have HO : Hid _ := ho
  clear ho
  go_wp2
  go_ret
  exact ⟨v, rfl, HO.out, hb⟩
theorem Values_any (a : Option Addr) (len cap : Nat) (w : World) : Calls Tryd.prog 64 #[.slice a len cap] w fun e w' => e = .returned (.func (.func 76) #[] #[.pointer (some ⟨w.heap.size, 0, none⟩)]) ∧ w' = w.alloc (.cells #[.slice a len cap] 22) :=
  callsIn_wide.1 (values_in Fence.wide 3 trivial rfl a len cap w)
end Go.Proofs.YtfjpdflilmcnhaaDoor

/-
  DERIVED: THE SHELF's CONTRACTS AT THIS DUMP, IN PLAIN WORDS (tools/lay-plain.mjs out of 'YtfjpdflilmcnhaaDoorShelfST.lean', which tools/lay-shelf.mjs wrote): THE SAME DECLARATIONS UNDER THE SAME NAMES: 'import', 'namespace', 'open', 'def', 'theorem' AND NOTHING ELSE: no command of the shelf's: FOR A HAND-IN. Each laying: the table of numbers ('.._ren') and one theorem, a field a fact of the dump's own or the kernel's comparison; each contract: ONE APPLICATION.
-/
namespace Go.Proofs
open Go.Shelf
def Tryd.lays189_ren : Go.Shelf.Ren := ⟨fun | 189 => 62 | 125 => 74 | 257 => 73 | 128 => 91 | 129 => 92 | 294 => 82 | 295 => 83 | 296 => 84 | 297 => 85 | 298 => 86 | 299 => 87 | 216 => 88 | 300 => 89 | 301 => 90 | 328 => 97 | 329 => 98 | 330 => 99 | 331 => 100 | 332 => 101 | 215 => 79 | 343 => 104 | n => n, fun | 28 => 22 | 3 => 3 | 46 => 105 | 0 => 0 | 51 => 119 | 53 => 121 | 4 => 4 | 183 => 112 | 182 => 111 | 131 => 41 | 5 => 5 | 9 => 9 | 218 => 124 | 222 => 128 | 228 => 130 | 229 => 78 | n => n, fun | n => n⟩
theorem Tryd.lays189 : Go.Proofs.Lays.n189 Tryd.prog Tryd.lays189_ren := {
  mixed := by kernel_rfl
  f125 := Tryd.func74.trans (congrArg some (by kernel_rfl))
  f128 := Tryd.func91.trans (congrArg some (by kernel_rfl))
  f129 := Tryd.func92.trans (congrArg some (by kernel_rfl))
  f189 := Tryd.func62.trans (congrArg some (by kernel_rfl))
  f215 := Tryd.func79.trans (congrArg some (by kernel_rfl))
  f216 := Tryd.func88.trans (congrArg some (by kernel_rfl))
  f257 := Tryd.func73.trans (congrArg some (by kernel_rfl))
  f294 := Tryd.func82.trans (congrArg some (by kernel_rfl))
  f295 := Tryd.func83.trans (congrArg some (by kernel_rfl))
  f296 := Tryd.func84.trans (congrArg some (by kernel_rfl))
  f297 := Tryd.func85.trans (congrArg some (by kernel_rfl))
  f298 := Tryd.func86.trans (congrArg some (by kernel_rfl))
  f299 := Tryd.func87.trans (congrArg some (by kernel_rfl))
  f300 := Tryd.func89.trans (congrArg some (by kernel_rfl))
  f301 := Tryd.func90.trans (congrArg some (by kernel_rfl))
  f328 := Tryd.func97.trans (congrArg some (by kernel_rfl))
  f329 := Tryd.func98.trans (congrArg some (by kernel_rfl))
  f330 := Tryd.func99.trans (congrArg some (by kernel_rfl))
  f331 := Tryd.func100.trans (congrArg some (by kernel_rfl))
  f332 := Tryd.func101.trans (congrArg some (by kernel_rfl))
  f343 := Tryd.func104.trans (congrArg some (by kernel_rfl))
  t0 := Tryd.underlying0
  a0 := Tryd.isAgg0
  z0 := Tryd.sizeOf0
  v0 := Tryd.zeroValue0
  t3 := Tryd.underlying3
  a3 := Tryd.isAgg3
  z3 := Tryd.sizeOf3
  v3 := Tryd.zeroValue3
  t4 := Tryd.underlying4
  a4 := Tryd.isAgg4
  z4 := Tryd.sizeOf4
  v4 := Tryd.zeroValue4
  t5 := Tryd.underlying5
  a5 := Tryd.isAgg5
  z5 := Tryd.sizeOf5
  v5 := Tryd.zeroValue5
  t9 := Tryd.underlying9
  a9 := Tryd.isAgg9
  z9 := Tryd.sizeOf9
  v9 := Tryd.zeroValue9
  t28 := Tryd.underlying22
  a28 := Tryd.isAgg22
  z28 := Tryd.sizeOf22
  v28 := Tryd.zeroValue22
  t46 := Tryd.underlying105
  a46 := Tryd.isAgg105
  z46 := Tryd.sizeOf105
  v46 := Tryd.zeroValue105
  t51 := Tryd.underlying119
  a51 := Tryd.isAgg119
  z51 := Tryd.sizeOf119
  v51 := Tryd.zeroValue119
  t53 := Tryd.underlying121
  a53 := Tryd.isAgg121
  z53 := Tryd.sizeOf121
  v53 := Tryd.zeroValue121
  t131 := Tryd.underlying41
  a131 := Tryd.isAgg41
  z131 := Tryd.sizeOf41
  v131 := Tryd.zeroValue41
  t182 := Tryd.underlying111
  a182 := Tryd.isAgg111
  z182 := Tryd.sizeOf111
  v182 := Tryd.zeroValue111
  t183 := Tryd.underlying112
  a183 := Tryd.isAgg112
  z183 := Tryd.sizeOf112
  v183 := Tryd.zeroValue112
  t218 := Tryd.underlying124
  a218 := Tryd.isAgg124
  z218 := Tryd.sizeOf124
  v218 := Tryd.zeroValue124
  t222 := Tryd.underlying128
  a222 := Tryd.isAgg128
  z222 := Tryd.sizeOf128
  v222 := Tryd.zeroValue128
  t228 := Tryd.underlying130
  a228 := Tryd.isAgg130
  z228 := Tryd.sizeOf130
  v228 := Tryd.zeroValue130
  t229 := Tryd.underlying78
  a229 := Tryd.isAgg78
  z229 := Tryd.sizeOf78
  v229 := Tryd.zeroValue78 }
open Go.Sort Go.RowKit in
theorem Tryd.slices_Sort_int (blk off cap : Nat) (zs : List Int) (w : World) (hH : Holds (Value.int .i64) w blk off zs.toArray) (hblk : blk < w.heap.size) (hsz : zs.length < 4611686018427387904) :
    Calls Tryd.prog 62 #[.slice (some ⟨blk, off, none⟩) zs.length cap] w fun e w' =>
      e = .returned (.tuple #[]) ∧ ∃ n os, w' = grow (putRow (Value.int .i64) (Sort.ahead w n) blk off (zs.mergeSort fun x y => decide (x ≤ y)).toArray) os := Any.slices_Sort_int Tryd.lays189 blk off cap zs w hH hblk hsz
def Tryd.laysNm220_ren : Go.Shelf.Ren := ⟨fun | 20 => 65 | n => n, fun | 22 => 22 | 3 => 3 | 4 => 4 | 0 => 0 | n => n, fun | n => n⟩
theorem Tryd.laysNm220 : Go.Proofs.Lays2.n20 Tryd.prog Tryd.laysNm220_ren := {
  mixed := by kernel_rfl
  f20 := Tryd.func65.trans (congrArg some (by kernel_rfl))
  t0 := Tryd.underlying0
  a0 := Tryd.isAgg0
  z0 := Tryd.sizeOf0
  v0 := Tryd.zeroValue0
  t3 := Tryd.underlying3
  a3 := Tryd.isAgg3
  z3 := Tryd.sizeOf3
  v3 := Tryd.zeroValue3
  t4 := Tryd.underlying4
  a4 := Tryd.isAgg4
  z4 := Tryd.sizeOf4
  v4 := Tryd.zeroValue4
  t22 := Tryd.underlying22
  a22 := Tryd.isAgg22
  z22 := Tryd.sizeOf22
  v22 := Tryd.zeroValue22
  i3 := by kernel_rfl }
open Go.RowKit Go.Lib Go.Sort in
/-- slices.Compact at []int: "Compact replaces consecutive runs of equal elements with a single copy. This is like the uniq command found on Unix. Compact modifies the contents of the slice s and returns the modified slice, which may have a smaller length. Compact zeroes the elements between the new length and the original length. The result preserves the nilness of s.": IT RETURNS THE SLICE CUT TO 'Lib.compact zs'; ITS CELLS HOLD 'Lib.compact zs', THEN ZERO VALUES up to the old length; all else is as it was, but for the count of draws. IN THE WORDS OF slices.Sort's CONTRACT ('Holds', 'putRow'): so the everyday 'slices.Sort(xs); xs = slices.Compact(xs)' goes from the one contract to the other. It asks 'zs.length ≤ cap' (every slice's: the reslicing 's[:k]' looks at it). Length 0, nil: '.._empty'. (LAID: no walk: one application.) -/
theorem Tryd.slices_Compact_int (blk off cap : Nat) (zs : List Int) (w : World) (hH : Holds (Value.int .i64) w blk off zs.toArray) (hsz : zs.length ≤ 9223372036854775807) (hcap : zs.length ≤ cap) :
    Calls Tryd.prog 65 #[.slice (some ⟨blk, off, none⟩) zs.length cap] w fun e w' => e = .returned (.slice (some ⟨blk, off, none⟩) (Lib.compact zs).length cap) ∧ ∃ q, w' = putRow (Value.int .i64) (Sort.ahead w q) blk off (Lib.compact zs ++ List.replicate (zs.length - (Lib.compact zs).length) 0).toArray := Any.slices_Compact_int Tryd.laysNm220 blk off cap zs w hH hsz hcap
end Go.Proofs

/- Numbers in their order, each once (slices.Sorted over slices.Values, slices.Compact). -/
namespace Go.Proofs.YtfjpdflilmcnhaaDoor
open Go.ChangeShapes Go.WideShapes Go.ChangeAt Go.RowKit

open Go.Shelf Go.Sort
open Go.RowKit (Below)
def srt (zs : List Int) : List Int := zs.mergeSort fun x y => decide (x ≤ y)
theorem srt_len (zs : List Int) : (srt zs).length = zs.length := by unfold srt; rw [List.length_mergeSort]
theorem srt_perm (zs : List Int) : (srt zs).Perm zs := List.mergeSort_perm zs _
theorem srt_le (zs : List Int) : (srt zs).Pairwise fun x y => x ≤ y := by
  have h := List.pairwise_mergeSort (le := fun x y : Int => decide (x ≤ y)) (by intro a b c h1 h2; simp at *; omega) (by intro a b; simp; omega) zs
  exact h.imp fun hxy => by simpa using hxy
/-- Unlike places of columns, one at least. -/
def arB (zs : List Int) (c : Int) : Bool := decide (zs ≠ [] ∧ (∀ z ∈ zs, 0 ≤ z ∧ z < c) ∧ zs.Nodup)
theorem getB {zs : List Int} {i : Nat} (h : i < zs.length) : zs.toArray[i]! = zs[i] := by simp [h]
/-- Of numbers in their order none falls out just where all are unlike. -/
theorem compact_all_iff {zs : List Int} (hs : zs.Pairwise fun x y => x ≤ y) : (Go.Lib.compact zs).length = zs.length ↔ zs.Nodup := by
  have e : (Go.Lib.compact zs).length = ((List.range zs.length).filter (Go.Lib.keeps zs.toArray)).length := by
    unfold Go.Lib.compact Go.Lib.compactUpTo; rw [List.length_map]
  have h1 : ((List.range zs.length).filter (Go.Lib.keeps zs.toArray)).length = zs.length ↔ ∀ j, j < zs.length → Go.Lib.keeps zs.toArray j = true := by
    have h2 := List.length_filter_eq_length_iff (p := Go.Lib.keeps zs.toArray) (l := List.range zs.length)
    rw [List.length_range] at h2
    rw [h2]
    simp only [List.mem_range]
  rw [e, h1]
  constructor
  · intro h
    rw [List.nodup_iff_pairwise_ne]
    have hlt : ∀ (i j : Nat) (hi : i < zs.length) (hj : j < zs.length), i < j → zs[i] < zs[j] := by
      intro i j hi hj hij
      have hk := h (i + 1) (by omega)
      unfold Go.Lib.keeps at hk
      have hk2 := of_decide_eq_true hk
      rcases hk2 with hk2 | hk2
      · omega
      · rw [getB (by omega), getB (by omega)] at hk2
        have h3 : zs[i + 1] ≠ zs[i] := by simpa using hk2
        have h4 : zs[i] ≤ zs[i + 1] := (List.pairwise_iff_getElem.1 hs) i (i + 1) hi (by omega) (by omega)
        rcases Nat.lt_or_ge (i + 1) j with h5 | h5
        · have h6 : zs[i + 1] ≤ zs[j] := (List.pairwise_iff_getElem.1 hs) (i + 1) j (by omega) hj h5
          omega
        · obtain rfl : j = i + 1 := by omega
          omega
    rw [List.pairwise_iff_getElem]
    intro i j hi hj hij
    have := hlt i j hi hj hij
    omega
  · intro h j hj
    unfold Go.Lib.keeps
    apply decide_eq_true
    rcases Nat.eq_zero_or_pos j with h0 | h0
    · exact Or.inl h0
    · right
      rw [getB hj, getB (by omega)]
      rw [List.nodup_iff_pairwise_ne] at h
      exact fun e => (List.pairwise_iff_getElem.1 h) (j - 1) j (by omega) hj (by omega) e.symm
/-- What the ends of numbers in their order tell. -/
theorem arB_is {zs : List Int} {m : Nat} (hm : zs.length = m + 1) (c : Int) (h1 : 0 < (srt zs).length) (hmm : m < (srt zs).length) : arB zs c = (!(decide ((srt zs)[0] < 0)) && !(decide ((srt zs)[m] ≥ c)) && decide ((Go.Lib.compact (srt zs)).length = m + 1)) := by
  have hs := List.pairwise_iff_getElem.1 (srt_le zs)
  have hp := srt_perm zs
  have hl := srt_len zs
  have hne : zs ≠ [] := by intro e; rw [e] at hm; cases hm
  have hcn : ((Go.Lib.compact (srt zs)).length = m + 1) ↔ zs.Nodup := by
    rw [← hm, ← hl, compact_all_iff (srt_le zs)]
    exact hp.nodup_iff
  rw [Bool.eq_iff_iff]
  unfold arB
  rw [decide_eq_true_iff, Bool.and_eq_true, Bool.and_eq_true, decide_eq_true_iff, hcn]
  simp only [Bool.not_eq_true', decide_eq_false_iff_not]
  constructor
  · rintro ⟨_, h2, h3⟩
    have m0 := h2 _ (hp.mem_iff.1 (List.getElem_mem h1))
    have m1 := h2 _ (hp.mem_iff.1 (List.getElem_mem hmm))
    exact ⟨⟨by omega, by omega⟩, h3⟩
  · rintro ⟨⟨h2, h3⟩, h4⟩
    refine ⟨hne, fun z hz => ?_, h4⟩
    obtain ⟨i, hi, rfl⟩ := List.mem_iff_getElem.1 (hp.mem_iff.2 hz)
    have a1 : (srt zs)[0] ≤ (srt zs)[i] := by
      rcases Nat.eq_zero_or_pos i with h0 | h0
      · subst h0; exact Int.le_refl _
      · exact hs 0 i h1 hi h0
    have a2 : (srt zs)[i] ≤ (srt zs)[m] := by
      rcases Nat.lt_or_ge i m with h0 | h0
      · exact hs i m hi hmm h0
      · obtain rfl : i = m := by omega
        exact Int.le_refl _
    omega
theorem fr_grown {w w' : World} {g : Nat} (h : w.grownBy w' (some g)) : Fr (fun k => k = g) w w' := ⟨h.os, h.tape, h.output, h.size, fun k hk hS => h.block k hk (fun e => hS (Option.some.inj e))⟩
set_option maxHeartbeats 4000000 in
theorem Sorted_any (Bs : Nat) (sv : Value) (zs : List Int) (w : World) (hz : 0 < zs.length) (hreach : zs.length * 8 ≤ 140737488351232) (hBs : Bs < w.heap.size) (hc : w.cell? ⟨Bs, 0, none⟩ = some sv) (hI : Ints w.heap.size w sv zs) :
    Calls Tryd.prog 63 #[.func (.func 76) #[] #[.pointer (some ⟨Bs, 0, none⟩)]] w fun e W' => ∃ g cap, e = .returned (.slice (some ⟨g, 0, none⟩) zs.length cap) ∧ zs.length ≤ cap ∧ w.heap.size ≤ g ∧ W'.ownsRow w.heap.size 3 1 (.slice (some ⟨g, 0, none⟩) zs.length cap) zs.length (itC (srt zs)) ∧ Below w.heap.size w W' := by
  have hA := Collect_any Bs sv zs w hreach hBs hc hI
  clear hI hc
  go_enter Tryd.func63, Tryd.ntmps63
  go_wp2_with fail
  refine hA.mono ?_
  rintro e w1 ⟨v, rfl, ho, hb⟩
  rcases ho.2 with ⟨rfl, h0⟩ | ⟨g, cap, cur, rfl, hbg, hg, r1, r2, r3, r4⟩
  · omega
  have hH : Holds (Value.int .i64) w1 g 0 zs.toArray := holds_of_block_i hg (by rw [Nat.mul_one] at r4; exact r4)
  have hgl : g < w1.heap.size := heap_lt hg
  have hS := Tryd.slices_Sort_int g 0 cap zs w1 hH hgl (by omega)
  have HON : Hid (∀ n os, (grow (putRow (Value.int .i64) (Sort.ahead w1 n) g 0 (srt zs).toArray) os).ownsRow w.heap.size 3 1 (.slice (some ⟨g, 0, none⟩) zs.length cap) zs.length (itC (srt zs))) := fun n os => ownsRow_sorted_i (srt_len zs) hbg hg r1 r2 r3
  have HBN : Hid (∀ n os, Below w.heap.size w (grow (putRow (Value.int .i64) (Sort.ahead w1 n) g 0 (srt zs).toArray) os)) := fun n os => hb.grown (grownBy_sorted_i _) hb.size (fun j hj => by cases hj; exact hbg)
  have HR1 : Hid (zs.length ≤ cap) := r1
  have HBG : Hid (w.heap.size ≤ g) := hbg
  clear hA ho hg r1 r2 r3 r4 hH
  go_wp2_with fail
  refine hS.mono ?_
  rintro e w2 ⟨rfl, n, os, rfl⟩
  have HO : Hid _ := HON.out n os
  have HB : Hid _ := HBN.out n os
  clear HON HBN hS hb
  change Hid (World.ownsRow (grow (putRow (Value.int .i64) (Sort.ahead w1 n) g 0 (srt zs).toArray) os) _ _ _ _ _ _) at HO
  show _
  generalize hgw : grow (putRow (Value.int .i64) (Sort.ahead w1 n) g 0 (zs.mergeSort fun x y => decide (x ≤ y)).toArray) os = w3 at *
  have HO3 : Hid (w3.ownsRow w.heap.size 3 1 (.slice (some ⟨g, 0, none⟩) zs.length cap) zs.length (itC (srt zs))) := by rw [← hgw]; exact HO
  have HB3 : Hid (Below w.heap.size w w3) := by rw [← hgw]; exact HB
  clear HO HB hgw
  go_wp2
  go_ret
  exact ⟨g, cap, rfl, HR1.out, HBG.out, HO3.out, HB3.out⟩
end Go.Proofs.YtfjpdflilmcnhaaDoor
