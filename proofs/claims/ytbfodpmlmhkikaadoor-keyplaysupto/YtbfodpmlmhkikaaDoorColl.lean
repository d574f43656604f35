/- What is collected of a map (slices.Collect over maps.Values). -/
import Derived.Test.YtbfodpmlmhkikaaDoorIter
namespace Go.Proofs.YtbfodpmlmhkikaaDoor
open Go.ChangeShapes Go.WideShapes Go.ChangeAt Go.RowKit Go.Shelf
open Go.ChangeMaps (setBlock)
attribute [local go_sem] Oper.semAt_some

theorem info78 : (Tryd.prog.info? 78).map (fun i => (i.zero, i.size, i.bytes)) = some (some (.agg #[.slice none 0 0, .int .i64 0, .int .i64 0]), 3, 40) := by kernel_rfl
def enL (x : Ent) : List Value := [.slice x.a x.row.length x.cap, .int .i64 x.n, .int .i64 x.born]
def enC (xs : List Ent) : List Value := xs.flatMap enL
theorem enC_snoc (xs : List Ent) (x : Ent) : enC (xs ++ [x]) = enC xs ++ enL x := by simp [enC]
theorem enL_one (x : Ent) : ∀ u ∈ enL x, u.oneCell' = true := by
  intro u hu
  simp only [enL, List.mem_cons, List.not_mem_nil, or_false] at hu
  rcases hu with rfl | rfl | rfl <;> rfl
theorem enL_cells (w : World) (x : Ent) : ∀ j u, (enL x)[j]? = some u → (w.alloc (.cells #[.slice x.a x.row.length x.cap, .int .i64 x.n, .int .i64 x.born] 78)).cell? ((⟨w.heap.size, 0, none⟩ : Addr).add j) = some u := by
  intro j u hj
  rw [add_plain]
  match j, hj with
  | 0, hj => simp only [enL, List.getElem?_cons_zero, Option.some.injEq] at hj; subst hj; simp only [Nat.zero_add]; go_simp
  | 1, hj => simp only [enL, List.getElem?_cons_succ, List.getElem?_cons_zero, Option.some.injEq] at hj; subst hj; simp only [Nat.zero_add]; go_simp
  | 2, hj => simp only [enL, List.getElem?_cons_succ, List.getElem?_cons_zero, Option.some.injEq] at hj; subst hj; simp only [Nat.zero_add]; go_simp
  | j + 3, hj => simp [enL] at hj
/-- A block of three cells. -/
theorem cells_own {B : Nat} (Bx : Nat) (c : Array Value) (t : TypeId) (z : Nat × Nat) : OwnFrom B (fun (_ : Unit) W => W.heap[Bx]? = some (.cells c t z)) := fun _ X Y row hs hg hr => by
  refine (hg.block Bx (heap_lt hs) ?_).trans hs
  intro e
  obtain ⟨_, o, ho, hc⟩ := hr Bx e.symm
  rw [hs] at ho; cases ho; cases hc
set_option maxRecDepth 100000 in
set_option maxHeartbeats 8000000 in
theorem AppendSeq_in (F : Fence) (n : Nat) (h53 : F.fn 53) (h50 : F.fn 50) (hro : F.round = none) (hn : 3 ≤ n) (Bm b : Nat) (HL : List (Int × Ent)) (es : Array MapEntry) (clk : Nat) (w : World)
    (hlen : HL.length * 40 ≤ 140737488355328) (hm : w.cell? ⟨Bm, 0, none⟩ = some (.map (some b))) (hown : MapIs itE enE w b HL es clk) :
    CallsIn F n Tryd.prog 53 #[.slice none 0 0, .func (.func 50) #[] #[.pointer (some ⟨Bm, 0, none⟩)]] w fun e W' => ∃ v xs, e = .returned v ∧ xs.Perm (HL.map (·.2)) ∧ W'.ownsRow w.heap.size 78 3 v xs.length (enC xs) ∧ Below w.heap.size w W' := by
  have h1 : 1 ≤ n := by omega
  obtain ⟨i0, hi, hz0, hz1, hz2⟩ := info_parts info78
  have hone : Hid (∀ x, ∀ u ∈ enL x, u.oneCell' = true) := enL_one
  have hcel : Hid (∀ (w : World) (x : Ent), ∀ j u, (enL x)[j]? = some u → (w.alloc (.cells #[.slice x.a x.row.length x.cap, .int .i64 x.n, .int .i64 x.born] 78)).cell? ((⟨w.heap.size, 0, none⟩ : Addr).add j) = some u) := enL_cells
  refine callsIn_of_wp_marks Tryd.func53 rfl h53 ?_ hro
  simp only [Tryd.ntmps53, List.size_toArray, List.length_cons, List.length_nil, Nat.reduceAdd, Nat.reduceSub, Array.replicate_succ, Array.replicate_zero, List.push_toArray, List.append_toArray, List.nil_append, List.cons_append]
  gi_wp2
  have bO := Boxed.new w 86 (.slice none 0 0)
  have hB0 : Below w.heap.size w (w.alloc (.cells #[.slice none 0 0] 86)) := (Below.refl _ w).alloc (Nat.le_refl _) _
  have hsz : (w.alloc (.cells #[.slice none 0 0] 86)).heap.size = w.heap.size + 1 := by simp
  obtain ⟨W0, hW0⟩ : ∃ W0, w.alloc (.cells #[.slice none 0 0] 86) = W0 := ⟨_, rfl⟩
  rw [hW0] at bO hB0 hsz ⊢
  clear hW0
  have hmW := cell_below hB0 hm
  have hoW := hown.below hB0
  refine wpIn_rangeFunc_ownH hro h1 (gf := 50) (lb := #[.pointer (some ⟨Bm, 0, none⟩)]) rfl h50 (enters_of Tryd.func50 (by kernel_rfl) rfl) (encs := fun x : Ent => #[enE x]) (Kp := KeepsWalks) (S := fun xs => xs.Perm (HL.map (·.2))) (Sp := fun _ => True) (N := HL.length) (w0 := W0)
    (fun l J Jx W hW hJ _ hY h0 => values1_in F (n - 1) h50 hro (by omega) l Bm b HL es clk J Jx hY W hJ (cell_below hW hmW) (hoW.below hW) h0) walksK_t walksK_b (Below.refl _ _) (fun _ => rfl)
    (fun pre W => (∃ v, Boxed W w.heap.size 86 v ∧ W.ownsRow w.heap.size 78 3 v pre.length (enC pre) ∧ True) ∧ Below w.heap.size w W)
    (fun _ _ _ => False)
    (OwnFrom.and (Own.from (holdsRow_own w.heap.size w.heap.size 86 78 3 (fun pre => pre.length) (fun pre => enC pre) (fun _ _ => True)) _) (ownFrom_below (Nat.le_refl _) (by omega)))
    (fun _ _ _ _ _ hs _ _ => hs)
    ⟨⟨_, bO, World.ownsRow_nil _ _ _ _, trivial⟩, hB0⟩
    (fun x a' W => ∃ Bx, w.heap.size < Bx ∧ W.heap[Bx]? = some (.cells #[.slice x.a x.row.length x.cap, .int .i64 x.n, .int .i64 x.born] 78 (0, 0)) ∧ a' = { tmps := #[.slice none 0 0, .func (.func 50) #[] #[.pointer (some ⟨Bm, 0, none⟩)], .pointer (some ⟨w.heap.size, 0, none⟩), undef, .slice none 0 0, .pointer (some ⟨Bx, 0, none⟩), .func (.func 50) #[] #[.pointer (some ⟨Bm, 0, none⟩)], enE x, undef, undef, undef, undef, undef], defers := [] })
    (fun x a' _ X Y row hs hg hr => by obtain ⟨Bx, h1, h2, h3⟩ := hs; exact ⟨Bx, h1, cells_own Bx _ 78 (0, 0) () X Y row h2 hg hr, h3⟩)
    ?assign ?body ?done ?stop
  case assign =>
    rintro l pre x W K ⟨⟨v, hv, hrow, _⟩, hB⟩ hK
    dsimp only [enE]
    gi_wp2
    exact hK _ _ ((KeepsOthers.alloc _ _).from _) (KeepsWalks.alloc _ _) ⟨⟨v, hv.alloc _, hrow.alloc _, trivial⟩, hB.alloc hB.size _⟩ ⟨W.heap.size, hv.lt, World.alloc_heap_new _ _, rfl⟩
  case body =>
    rintro l pre x a' W hl ⟨r, hr⟩ ⟨⟨v, hv, hrow, _⟩, hB⟩ ⟨Bx, hBx, bX, rfl⟩ hlt
    have hc := hv.cell
    have x0 : W.cell? ⟨Bx, 0, none⟩ = some (.slice x.a x.row.length x.cap) := by simp [World.cell?, bX]
    have x1 : W.cell? ⟨Bx, 1, none⟩ = some (.int .i64 x.n) := by simp [World.cell?, bX]
    have x2 : W.cell? ⟨Bx, 2, none⟩ = some (.int .i64 x.born) := by simp [World.cell?, bX]
    clear hr bX
    gi_wp2_with (gi_at_builtin; refine wpListIn_append_own _ rfl _ _ 86 rfl w.heap.size 78 i0 (.agg #[.slice none 0 0, .int .i64 0, .int .i64 0]) 3 40 Tryd.underlying86 hi hz0 hz1 hz2 rfl (by decide) _ _ _ rfl (hrow.alloc _) ⟨W.heap.size, 0, none⟩ 1 1 (enL x) rfl rfl (hcel.out W x) (hone.out x) (by unfold maxLen; omega) (by omega) (by have := hB.size; simp; omega) ?_; intro v' w1 hown' hgrow _; obtain ⟨g', cap', rfl⟩ := ownsRow_succ hown'; obtain ⟨hv1, hv2, hr2, hk2, hb2⟩ := hv.appended (by decide) hrow hB.size (Nat.le_refl _) hown' hgrow; have hc1 := hv1.cell; have hf1 := hv1.frozen)
    exact ⟨hk2.from _, hk2.walks, ⟨_, hv2, by rw [enC_snoc]; simpa using hr2, trivial⟩, hB.trans hb2⟩
  case done =>
    rintro D ys W hD hys ⟨⟨v, hv, hrow, _⟩, hB⟩ hK
    have hc := hv.cell
    gi_wp2
    refine ⟨by simp, .inl ⟨_, _, rfl, run_takeDeferred hK, ?_⟩⟩
    exact ⟨_, results_tmp rfl _ _ _, v, ys, rfl, hys, ownsRow_putObj hrow _ hK rfl, hB.trans (belowK_b (w := w) (Nat.le_refl _) W D _ _ (by omega) hK rfl rfl)⟩
  case stop =>
    rintro D c pre W _ _ h _
    exact h.elim
theorem Collect_any (Bm b : Nat) (HL : List (Int × Ent)) (es : Array MapEntry) (clk : Nat) (w : World)
    (hlen : HL.length * 40 ≤ 140737488355328) (hm : w.cell? ⟨Bm, 0, none⟩ = some (.map (some b))) (hown : MapIs itE enE w b HL es clk) :
    Calls Tryd.prog 48 #[.func (.func 50) #[] #[.pointer (some ⟨Bm, 0, none⟩)]] w fun e W' => ∃ v xs, e = .returned v ∧ xs.Perm (HL.map (·.2)) ∧ W'.ownsRow w.heap.size 78 3 v xs.length (enC xs) ∧ Below w.heap.size w W' := by
  have hA := callsIn_wide.1 (AppendSeq_in Fence.wide 3 trivial trivial rfl (Nat.le_refl _) Bm b HL es clk w hlen hm hown)
  clear hown
  go_enter Tryd.func48, Tryd.ntmps48
  go_wp2_with fail
  refine hA.mono ?_
  rintro e w1 ⟨v, xs, rfl, hp, ho, hb⟩
  have HP : Hid _ := hp
  have HO : Hid _ := ho
  clear hp ho
  go_wp2
  go_ret
  exact ⟨v, xs, rfl, HP.out, HO.out, hb⟩
end Go.Proofs.YtbfodpmlmhkikaaDoor
