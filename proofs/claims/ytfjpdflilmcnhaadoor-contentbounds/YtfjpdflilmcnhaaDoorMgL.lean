/- The places that a view by length, a view of batches by length holds (newest, fullBatch); of none (nothing). -/
import Derived.Test.YtfjpdflilmcnhaaDoorYng
import Derived.Test.YtfjpdflilmcnhaaDoorMgK
import Derived.Test.YtfjpdflilmcnhaaDoorSrm
import Derived.Test.YtfjpdflilmcnhaaDoorWit
import Derived.Test.YtfjpdflilmcnhaaDoorMgD
import Derived.Test.YtfjpdflilmcnhaaDoorMgE
import Derived.Test.YtfjpdflilmcnhaaDoorTrn
namespace Go.Proofs.YtfjpdflilmcnhaaDoor
open Go.ChangeShapes Go.WideShapes Go.ChangeAt Go.RowKit

theorem sp_hs {w : World} {p n : Nat} {e : Ending} {w' : World} (h : SpP w p n e w') : HsP w (List.range' p n) e w' := by
  obtain ⟨⟨g, rfl, hc⟩, hb⟩ := h
  refine ⟨⟨some ⟨g, 0, none⟩, n, by rw [List.length_range'], Or.inr ⟨g, 0, rfl, fun i hi => ?_⟩⟩, hb⟩
  rw [List.length_range'] at hi
  rw [Nat.zero_add]
  refine (hc i hi).trans ?_
  rw [List.getD_eq_getElem?_getD, List.getElem?_range' hi]
  simp
set_option maxRecDepth 20000 in
set_option maxHeartbeats 4000000 in
theorem nothing_any (f0 f1 f2 : Nat) (n : Int) (a : Option Addr) (cn cc : Nat) (d : Bool) (la : Option Addr) (ln lc : Nat) (now : Int) (w : World) : Calls Tryd.prog 29 #[vvV f0 f1 f2 n a cn cc d la ln lc now] w (HsP w []) := by
  unfold vvV
  go_enter Tryd.func29, Tryd.ntmps29
  go_wp2
  go_ret
  exact ⟨⟨none, 0, rfl, Or.inl rfl⟩, (Bel.out (by repeat (first | exact Bel.refl _ | assumption | refine Bel.drew ?_ | refine Bel.drewN ?_ _ | refine Bel.alloc ?_ _ | refine Bel.setCell ?_ (by simp <;> omega) _ | refine Bel.step ?_ (by assumption))))⟩
set_option maxRecDepth 20000 in
set_option maxHeartbeats 8000000 in
theorem newest_any (f0 f1 f2 M : Nat) (a : Option Addr) (cn cc : Nat) (d : Bool) (la : Option Addr) (ln lc : Nat) (now : Int) (w : World) (hl : ln ≤ 200) (hM : (M : Int) ≤ 1099511627776) :
    Calls Tryd.prog 34 #[vvV f0 f1 f2 M a cn cc d la ln lc now] w (HsP w (List.range' (ln - M) (ln - (ln - M)))) := by
  obtain ⟨p, hp⟩ : ∃ p, ln - M = p := ⟨_, rfl⟩
  obtain ⟨c, hc⟩ : ∃ c, ln - p = c := ⟨_, rfl⟩
  rw [hp, hc]
  have w1 : max 0 ((ln : Int) - M) = (p : Int) := by omega
  have hs := fun wx => span_any p c (ln : Int) wx (by omega) (by omega) (by omega)
  have HB1 : Hid (Below w.heap.size w (w.alloc (Obj.cells #[.func (.func f0) #[] #[], .func (.func f1) #[] #[], .func (.func f2) #[] #[], .int .i64 M, .slice a cn cc, .bool d, .slice la ln lc, .int .i64 now] 64))) := (Below.refl w.heap.size w).alloc (Nat.le_refl _) _
  clear hp hc
  unfold vvV
  go_enter Tryd.func34, Tryd.ntmps34
  go_wp2_with fail
  refine (hs _).mono ?_
  rintro e w2 ⟨⟨g, L, rfl, hg, hO, hL⟩, hb⟩
  have HP : Hid (PsAt w2 (some ⟨g, 0, none⟩) (List.range' p c)) := Or.inr ⟨g, 0, rfl, fun i hi => by
    rw [List.length_range'] at hi
    rw [Nat.zero_add]
    refine (hO.cellAt i (by omega)).trans ((hL i hi).trans ?_)
    rw [List.getD_eq_getElem?_getD, List.getElem?_range' hi]
    simp⟩
  have HB : Hid (Below w.heap.size w w2) := by
    first
    | exact HB1.out.trans (hb.mono HB1.out.size)
    | exact (Below.drew HB1.out).trans (hb.mono (Below.drew HB1.out).size)
  clear hs hO hL hb hg
  go_wp2
  go_ret
  exact ⟨⟨some ⟨g, 0, none⟩, c, by rw [List.length_range']; rfl, HP.out⟩, HB.out⟩

set_option maxRecDepth 20000 in
set_option maxHeartbeats 8000000 in
theorem full_any (f0 f1 f2 M : Nat) (a : Option Addr) (cn cc : Nat) (d : Bool) (la : Option Addr) (ln lc : Nat) (now : Int) (w : World) (hl : ln ≤ 200) (hM1 : 1 ≤ M) (hM : (M : Int) ≤ 1099511627776) :
    Calls Tryd.prog 38 #[vvV f0 f1 f2 M a cn cc d la ln lc now] w (HsP w (List.range' (ln / M * M - M) (ln / M * M - (ln / M * M - M)))) := by
  obtain ⟨q, hq⟩ : ∃ q, ln / M = q := ⟨_, rfl⟩
  have hq200 : q ≤ 200 := by rw [← hq]; exact Nat.le_trans (Nat.div_le_self _ _) hl
  have hqm : q * M ≤ ln := by rw [← hq]; exact Nat.div_mul_le_self _ _
  obtain ⟨en, hen⟩ : ∃ en, q * M = en := ⟨_, rfl⟩
  rw [hq, hen]
  rw [hen] at hqm
  obtain ⟨p, hp⟩ : ∃ p, en - M = p := ⟨_, rfl⟩
  obtain ⟨c, hc⟩ : ∃ c, en - p = c := ⟨_, rfl⟩
  rw [hp, hc]
  have v1 : Int.tdiv (ln : Int) (M : Int) = (q : Int) := by rw [← hq]; rfl
  have v2 : (ln : Int) / (M : Int) = (q : Int) := by rw [← hq]; rfl
  have v3 : (q : Int) * (M : Int) = (en : Int) := by rw [← hen]; simp
  have v4 : max 0 ((en : Int) - M) = (p : Int) := by omega
  have v5 : IntKind.i64.wrap (q : Int) = q := by rw [IntKind.wrap_i64]; omega
  have v6 : IntKind.i64.wrap (en : Int) = en := by rw [IntKind.wrap_i64]; omega
  have v7 : ¬ (M = 0) := by omega
  have hs := fun wx => span_any p c (en : Int) wx (by omega) (by omega) (by omega)
  have HB0 : Hid (Below w.heap.size w (w.alloc (Obj.cells #[.func (.func f0) #[] #[], .func (.func f1) #[] #[], .func (.func f2) #[] #[], .int .i64 M, .slice a cn cc, .bool d, .slice la ln lc, .int .i64 now] 64))) := (Below.refl w.heap.size w).alloc (Nat.le_refl _) _
  have ys : ∀ i v, #[Value.func (.func f0) #[] #[], .func (.func f1) #[] #[], .func (.func f2) #[] #[], .int .i64 M, .slice a cn cc, .bool d, .slice la ln lc, .int .i64 now][i]? = some v → (w.alloc (Obj.cells #[.func (.func f0) #[] #[], .func (.func f1) #[] #[], .func (.func f2) #[] #[], .int .i64 M, .slice a cn cc, .bool d, .slice la ln lc, .int .i64 now] 64)).cell? ⟨w.heap.size, i, none⟩ = some v := fun i v h => (World.cell?_alloc_mark w _ 64 (0, 0) i).trans h
  have y3 := ys 3 _ rfl
  have y6 := ys 6 _ rfl
  clear hp hc hq hen ys
  unfold vvV
  go_enter Tryd.func38, Tryd.ntmps38
  go_upto_region 1 with (fail)
  obtain ⟨X, hX⟩ : ∃ X, w.heap.size = X := ⟨_, rfl⟩
  rw [hX] at y3 y6 ⊢
  clear hX
  have HB1 : Hid _ := HB0
  clear HB0
  generalize (w.alloc (Obj.cells #[.func (.func f0) #[] #[], .func (.func f1) #[] #[], .func (.func f2) #[] #[], .int .i64 M, .slice a cn cc, .bool d, .slice la ln lc, .int .i64 now] 64)) = w1 at *
  refine wp_region_held_drew (S := (fun wS => Bel w1.heap.size w1 wS)) (by kernel_rfl) ?_ (fun hHeld => ?_)
  · (try dsimp only); exact (Bel.refl _).drew
  refine wpAnyH_take (i := 0) (oi := { dst := some 4, op := Op.fieldAddr 64 (Operand.tmp 1) 4, type := 0, pos := "kinds.go:72", after := #[], guard := none }) (v := ?_) rfl (by kernel_rfl) (by kernel_rfl) (by kernel_rfl) (fun _ _ _ h => h) (Or.inl ⟨by kernel_rfl, ?_⟩) (by assumption) ?_
  rotate_left
  · intro wS hSw; (try dsimp only at hSw); go_simp; (try with_reducible rfl)
  try simp only [Act.put, List.setIfInBounds_toArray, List.set_cons_zero, List.set_cons_succ]
  refine wpAnyH_take (i := 1) (oi := { dst := some 5, op := Op.load 31 (Operand.tmp 4), type := 31, pos := "kinds.go:72", after := #[{ on := 0, ground := Ground.data }], guard := none }) (v := ?_) rfl (by kernel_rfl) (by kernel_rfl) (by kernel_rfl) (fun _ _ _ h => h) (Or.inl ⟨by kernel_rfl, ?_⟩) (by assumption) ?_
  rotate_left
  · intro wS hSw; (try dsimp only at hSw); have c := cell_below hSw.out y6; go_simp; (try with_reducible rfl)
  try simp only [Act.put, List.setIfInBounds_toArray, List.set_cons_zero, List.set_cons_succ]
  refine wpAnyH_take (i := 2) (oi := { dst := some 6, op := Op.call { callee := Callee.builtin Builtin.len, args := #[Operand.tmp 5], argTypes := #[31] }, type := 3, pos := "kinds.go:72", after := #[{ on := 1, ground := Ground.data }], guard := none }) (v := ?_) rfl (by kernel_rfl) (by kernel_rfl) (by kernel_rfl) (fun _ _ _ h => h) (Or.inl ⟨by kernel_rfl, ?_⟩) (by assumption) ?_
  rotate_left
  · intro wS hSw; (try dsimp only at hSw); go_simp; (try with_reducible rfl)
  try simp only [Act.put, List.setIfInBounds_toArray, List.set_cons_zero, List.set_cons_succ]
  refine wpAnyH_take (i := 3) (oi := { dst := some 7, op := Op.fieldAddr 64 (Operand.tmp 1) 1, type := 0, pos := "kinds.go:72", after := #[], guard := none }) (v := ?_) rfl (by kernel_rfl) (by kernel_rfl) (by kernel_rfl) (fun _ _ _ h => h) (Or.inl ⟨by kernel_rfl, ?_⟩) (by assumption) ?_
  rotate_left
  · intro wS hSw; (try dsimp only at hSw); go_simp; (try with_reducible rfl)
  try simp only [Act.put, List.setIfInBounds_toArray, List.set_cons_zero, List.set_cons_succ]
  refine wpAnyH_take (i := 4) (oi := { dst := some 8, op := Op.load 3 (Operand.tmp 7), type := 3, pos := "kinds.go:72", after := #[{ on := 3, ground := Ground.data }], guard := none }) (v := ?_) rfl (by kernel_rfl) (by kernel_rfl) (by kernel_rfl) (fun _ _ _ h => h) (Or.inl ⟨by kernel_rfl, ?_⟩) (by assumption) ?_
  rotate_left
  · intro wS hSw; (try dsimp only at hSw); have c := cell_below hSw.out y3; go_simp; (try with_reducible rfl)
  try simp only [Act.put, List.setIfInBounds_toArray, List.set_cons_zero, List.set_cons_succ]
  refine wpAnyH_take (i := 5) (oi := { dst := some 9, op := Op.binOp BinOp.quo 3 (Operand.tmp 6) (Operand.tmp 8) 3, type := 3, pos := "kinds.go:72", after := #[{ on := 2, ground := Ground.data }, { on := 4, ground := Ground.data }], guard := none }) (v := ?_) rfl (by kernel_rfl) (by kernel_rfl) (by kernel_rfl) (fun _ _ _ h => h) (Or.inl ⟨by kernel_rfl, ?_⟩) (by assumption) ?_
  rotate_left
  · intro wS hSw; (try dsimp only at hSw); go_simp; (try with_reducible rfl)
  try simp only [Act.put, List.setIfInBounds_toArray, List.set_cons_zero, List.set_cons_succ]
  refine wpAnyH_take (i := 6) (oi := { dst := some 10, op := Op.fieldAddr 64 (Operand.tmp 1) 1, type := 0, pos := "kinds.go:72", after := #[], guard := none }) (v := ?_) rfl (by kernel_rfl) (by kernel_rfl) (by kernel_rfl) (fun _ _ _ h => h) (Or.inl ⟨by kernel_rfl, ?_⟩) (by assumption) ?_
  rotate_left
  · intro wS hSw; (try dsimp only at hSw); go_simp; (try with_reducible rfl)
  try simp only [Act.put, List.setIfInBounds_toArray, List.set_cons_zero, List.set_cons_succ]
  refine wpAnyH_take (i := 7) (oi := { dst := some 11, op := Op.load 3 (Operand.tmp 10), type := 3, pos := "kinds.go:72", after := #[{ on := 6, ground := Ground.data }], guard := none }) (v := ?_) rfl (by kernel_rfl) (by kernel_rfl) (by kernel_rfl) (fun _ _ _ h => h) (Or.inl ⟨by kernel_rfl, ?_⟩) (by assumption) ?_
  rotate_left
  · intro wS hSw; (try dsimp only at hSw); have c := cell_below hSw.out y3; go_simp; (try with_reducible rfl)
  try simp only [Act.put, List.setIfInBounds_toArray, List.set_cons_zero, List.set_cons_succ]
  refine wpAnyH_take (i := 8) (oi := { dst := some 12, op := Op.binOp BinOp.mul 3 (Operand.tmp 9) (Operand.tmp 11) 3, type := 3, pos := "kinds.go:72", after := #[{ on := 5, ground := Ground.data }, { on := 7, ground := Ground.data }], guard := none }) (v := ?_) rfl (by kernel_rfl) (by kernel_rfl) (by kernel_rfl) (fun _ _ _ h => h) (Or.inl ⟨by kernel_rfl, ?_⟩) (by assumption) ?_
  rotate_left
  · intro wS hSw; (try dsimp only at hSw); go_simp; (try with_reducible rfl)
  try simp only [Act.put, List.setIfInBounds_toArray, List.set_cons_zero, List.set_cons_succ]
  refine wpAnyH_take (i := 9) (oi := { dst := some 3, op := Op.assign (Operand.tmp 12), type := 3, pos := "kinds.go:72", after := #[{ on := 8, ground := Ground.data }, { on := 0, ground := Ground.phase }, { on := 1, ground := Ground.phase }, { on := 2, ground := Ground.phase }, { on := 3, ground := Ground.phase }, { on := 4, ground := Ground.phase }, { on := 5, ground := Ground.phase }, { on := 6, ground := Ground.phase }, { on := 7, ground := Ground.phase }, { on := 8, ground := Ground.phase }], guard := none }) (v := ?_) rfl (by kernel_rfl) (by kernel_rfl) (by kernel_rfl) (fun _ _ _ h => h) (Or.inl ⟨by kernel_rfl, ?_⟩) (by assumption) ?_
  rotate_left
  · intro wS hSw; (try dsimp only at hSw); go_simp; (try with_reducible rfl)
  try simp only [Act.put, List.setIfInBounds_toArray, List.set_cons_zero, List.set_cons_succ]
  refine wpAnyH_done (by kernel_rfl) ?_ _

  clear y6
  go_wp2_with fail
  refine (hs _).mono ?_
  rintro e w2 ⟨⟨g, L, rfl, hg, hO, hL⟩, hb⟩
  have HP : Hid (PsAt w2 (some ⟨g, 0, none⟩) (List.range' p c)) := Or.inr ⟨g, 0, rfl, fun i hi => by
    rw [List.length_range'] at hi
    rw [Nat.zero_add]
    refine (hO.cellAt i (by omega)).trans ((hL i hi).trans ?_)
    rw [List.getD_eq_getElem?_getD, List.getElem?_range' hi]
    simp⟩
  have HB : Hid (Below w.heap.size w w2) := by
    first
    | exact HB1.out.trans (hb.mono HB1.out.size)
    | exact (Below.drew HB1.out).trans (hb.mono (Below.drew HB1.out).size)
  clear hs hO hL hb hg
  go_wp2
  go_ret
  exact ⟨⟨some ⟨g, 0, none⟩, c, by rw [List.length_range']; rfl, HP.out⟩, HB.out⟩
end Go.Proofs.YtfjpdflilmcnhaaDoor

/- A row of places turned about (slices.Reverse). -/
namespace Go.Proofs.YtfjpdflilmcnhaaDoor
open Go.ChangeShapes Go.WideShapes Go.ChangeAt Go.RowKit

open Go.Proofs.YtfjpdflilmcnhaaDoor.Stb
/-- The block g holds the n places that f tells, in a row with room for cap. -/
def PC (w : World) (B g n cap : Nat) (f : Nat → Nat) : Prop := w.ownsRow B 3 1 (.slice (some ⟨g, 0, none⟩) n cap) n ((List.range n).map fun k => .int .i64 (f k : Nat))
section
variable {w w' : World} {B g n cap : Nat} {f f' : Nat → Nat}
theorem PC.cell (h : PC w B g n cap f) {k : Nat} (hk : k < n) : w.cell? ⟨g, k, none⟩ = some (.int .i64 (f k : Nat)) := by
  rw [World.ownsRow.cellAt h k (by omega), List.getElem?_map, List.getElem?_range hk]; rfl
theorem PC.froz (h : PC w B g n cap f) (k : Nat) : w.frozen? ⟨g, k, none⟩ = false := World.ownsRow.frozenAt h k
theorem PC.below (h : PC w B g n cap f) (hb : Below w.heap.size w w') : PC w' B g n cap f := owns_below h hb
theorem PC.drew (h : PC w B g n cap f) : PC w.drew B g n cap f := h.below (Below.refl _ _).drew
theorem PC.congr (h : PC w B g n cap f) (he : ∀ k, k < n → f' k = f k) : PC w B g n cap f' := by
  unfold PC
  rw [List.map_congr_left (g := fun k => Value.int .i64 (f k : Nat)) (fun k hk => by rw [he k (List.mem_range.1 hk)])]
  exact h
theorem PC.set (h : PC w B g n cap f) (i v : Nat) : PC (w.setCell ⟨g, i, none⟩ (.int .i64 (v : Nat))) B g n cap (fun k => if k = i then v else f k) := by
  have h1 := (World.ownsRow.stored h i (.int .i64 (v : Nat))).1
  have e : ((List.range n).map fun k => Value.int .i64 (f k : Nat)).set i (.int .i64 (v : Nat)) = (List.range n).map fun k => .int .i64 ((if k = i then v else f k : Nat) : Nat) := by
    apply List.ext_getElem?
    intro j
    rw [List.getElem?_set]
    simp only [List.length_map, List.length_range, List.getElem?_map]
    rcases Nat.lt_or_ge j n with hj | hj
    · rw [List.getElem?_range hj]
      by_cases hij : i = j
      · subst hij
        rw [if_pos rfl, if_pos hj]
        simp only [Option.map_some, if_true]
      · rw [if_neg hij]
        simp only [Option.map_some]
        rw [if_neg (fun e => hij e.symm)]
    · rw [List.getElem?_eq_none (by simpa using hj)]
      split
      · rw [if_neg (by omega)]; rfl
      · rfl
  rw [e] at h1
  exact h1
theorem PC.swp (h : PC w B g n cap f) (i j : Nat) : PC ((w.setCell ⟨g, i, none⟩ (.int .i64 (f j : Nat))).setCell ⟨g, j, none⟩ (.int .i64 (f i : Nat))) B g n cap (Stb.swp f j i) :=
  ((h.set i (f j)).set j (f i)).congr fun k _ => by simp only [Stb.swp]
end
/-- The first k and the last k have changed places. -/
def rvF (f : Nat → Nat) (n k x : Nat) : Nat := if x < k ∨ n - k ≤ x then f (n - 1 - x) else f x
theorem rvF_step {f : Nat → Nat} {n k q x : Nat} (hq : n - 1 - k = q) (hkq : k < q) (hx : x < n) : rvF f n (k + 1) x = Stb.swp (rvF f n k) q k x := by
  simp only [rvF, Stb.swp]
  by_cases h1 : x = q
  · rw [if_pos h1, if_pos (by omega), if_neg (show ¬(k < k ∨ n - k ≤ k) by omega)]
    congr 1; omega
  · rw [if_neg h1]
    by_cases h2 : x = k
    · rw [if_pos h2, if_pos (by omega), if_neg (show ¬(q < k ∨ n - k ≤ q) by omega)]
      congr 1; omega
    · rw [if_neg h2]
      by_cases h3 : x < k ∨ n - k ≤ x
      · rw [if_pos h3, if_pos (by omega)]
      · rw [if_neg h3, if_neg (by omega)]
set_option maxRecDepth 20000 in
set_option maxHeartbeats 4000000 in
theorem reverse_any (B g n cap : Nat) (f : Nat → Nat) (w : World) (_hn : n ≤ 4000000) (hn0 : 0 < n) (hP : PC w B g n cap f) :
    Calls Tryd.prog 57 #[.slice (some ⟨g, 0, none⟩) n cap] w fun e w' => e = .returned (.tuple #[]) ∧ PC w' B g n cap (fun x => f (n - 1 - x)) ∧ Fr (fun k => k = g) w w' := by
  have HP : Hid (PC w B g n cap f) := hP
  clear hP
  go_enter Tryd.func57, Tryd.ntmps57
  go_wp2
  go_loopw [2, 3] (fun i j wr => ∃ k : Nat, 2 * k ≤ n + 1 ∧ i = .int .i64 k ∧ j = .int .i64 ((n : Int) - 1 - k) ∧ PC wr B g n cap (rvF f n k) ∧ Fr (fun k => k = g) w wr) (fun i _ _ => n + 1 - (intOf i).toNat)
  case atStart => exact ⟨0, by omega, rfl, by go_num, HP.out.congr fun x hx => by simp only [rvF]; rw [if_neg (by omega)], Fr.refl _ _⟩
  case round =>
    obtain ⟨k, hk, rfl, rfl, hR, hF⟩ := hrel
    have HF : Hid (Fr (fun k => k = g) w wr) := hF
    have HR : Hid (PC wr B g n cap (rvF f n k)) := hR
    clear hF
    by_cases hkq : k < n - 1 - k
    · obtain ⟨q, hq⟩ : ∃ q, n - 1 - k = q := ⟨_, rfl⟩
      rw [hq] at hkq
      have e1 : (n : Int) - 1 - k = (q : Int) := by omega
      have e2 : (k : Int) < q := by omega
      have c1 := hR.cell (k := k) (by omega)
      have c2 := hR.cell (k := q) (by omega)
      have f1 := hR.froz k
      have f2 := hR.froz q
      have w3 : (k : Int) < n := by omega
      have w4 : (q : Int) < n := by omega
      obtain ⟨X, hX⟩ : ∃ X, rvF f n k k = X := ⟨_, rfl⟩
      obtain ⟨Y, hY⟩ : ∃ Y, rvF f n k q = Y := ⟨_, rfl⟩
      rw [hX] at c1
      rw [hY] at c2
      rw [e1]
      clear hR e1
      go_wp2
      refine wp_region_held_drew (S := (fun _ => True)) (by kernel_rfl) ?_ (fun hHeld => ?_)
      · exact trivial
      refine wpAnyH_take (i := 0) (oi := { dst := some 14, op := Op.move (Operand.tmp 0), type := 22, pos := "slices.go:485", after := #[], guard := none }) (v := ?_) rfl (by kernel_rfl) (by kernel_rfl) (by kernel_rfl) (fun _ _ _ h => h) (Or.inl ⟨by kernel_rfl, ?_⟩) (by assumption) ?_
      rotate_left
      · intro wS hSw; (try dsimp only at hSw); go_simp; (try with_reducible rfl)
      try simp only [Act.put, List.setIfInBounds_toArray, List.set_cons_zero, List.set_cons_succ]
      refine wpAnyH_take (i := 1) (oi := { dst := some 15, op := Op.move (Operand.tmp 2), type := 3, pos := "slices.go:485", after := #[], guard := none }) (v := ?_) rfl (by kernel_rfl) (by kernel_rfl) (by kernel_rfl) (fun _ _ _ h => h) (Or.inl ⟨by kernel_rfl, ?_⟩) (by assumption) ?_
      rotate_left
      · intro wS hSw; (try dsimp only at hSw); go_simp; (try with_reducible rfl)
      try simp only [Act.put, List.setIfInBounds_toArray, List.set_cons_zero, List.set_cons_succ]
      refine wpAnyH_take (i := 2) (oi := { dst := some 16, op := Op.move (Operand.tmp 0), type := 22, pos := "slices.go:485", after := #[{ on := 13, ground := Ground.gcOnly Departure.lateStores }], guard := none }) (v := ?_) rfl (by kernel_rfl) (by kernel_rfl) (by kernel_rfl) (fun _ _ _ h => h) (Or.inl ⟨by kernel_rfl, ?_⟩) (by assumption) ?_
      rotate_left
      · intro wS hSw; (try dsimp only at hSw); go_simp; (try with_reducible rfl)
      try simp only [Act.put, List.setIfInBounds_toArray, List.set_cons_zero, List.set_cons_succ]
      refine wpAnyH_take (i := 3) (oi := { dst := some 17, op := Op.move (Operand.tmp 3), type := 3, pos := "slices.go:485", after := #[{ on := 13, ground := Ground.gcOnly Departure.lateStores }], guard := none }) (v := ?_) rfl (by kernel_rfl) (by kernel_rfl) (by kernel_rfl) (fun _ _ _ h => h) (Or.inl ⟨by kernel_rfl, ?_⟩) (by assumption) ?_
      rotate_left
      · intro wS hSw; (try dsimp only at hSw); go_simp; (try with_reducible rfl)
      try simp only [Act.put, List.setIfInBounds_toArray, List.set_cons_zero, List.set_cons_succ]
      refine wpAnyH_take (i := 4) (oi := { dst := some 18, op := Op.move (Operand.tmp 0), type := 22, pos := "slices.go:485", after := #[], guard := none }) (v := ?_) rfl (by kernel_rfl) (by kernel_rfl) (by kernel_rfl) (fun _ _ _ h => h) (Or.inl ⟨by kernel_rfl, ?_⟩) (by assumption) ?_
      rotate_left
      · intro wS hSw; (try dsimp only at hSw); go_simp; (try with_reducible rfl)
      try simp only [Act.put, List.setIfInBounds_toArray, List.set_cons_zero, List.set_cons_succ]
      refine wpAnyH_take (i := 5) (oi := { dst := some 19, op := Op.move (Operand.tmp 3), type := 3, pos := "slices.go:485", after := #[], guard := none }) (v := ?_) rfl (by kernel_rfl) (by kernel_rfl) (by kernel_rfl) (fun _ _ _ h => h) (Or.inl ⟨by kernel_rfl, ?_⟩) (by assumption) ?_
      rotate_left
      · intro wS hSw; (try dsimp only at hSw); go_simp; (try with_reducible rfl)
      try simp only [Act.put, List.setIfInBounds_toArray, List.set_cons_zero, List.set_cons_succ]
      refine wpAnyH_take (i := 6) (oi := { dst := some 20, op := Op.indexAddr 22 (Operand.tmp 18) (Operand.tmp 19), type := 0, pos := "slices.go:485", after := #[{ on := 4, ground := Ground.data }, { on := 5, ground := Ground.data }], guard := none }) (v := ?_) rfl (by kernel_rfl) (by kernel_rfl) (by kernel_rfl) (fun _ _ _ h => h) (Or.inl ⟨by kernel_rfl, ?_⟩) (by assumption) ?_
      rotate_left
      · intro wS hSw; (try dsimp only at hSw); go_simp; (try with_reducible rfl)
      try simp only [Act.put, List.setIfInBounds_toArray, List.set_cons_zero, List.set_cons_succ]
      refine wpAnyH_take (i := 8) (oi := { dst := some 22, op := Op.move (Operand.tmp 0), type := 22, pos := "slices.go:485", after := #[], guard := none }) (v := ?_) rfl (by kernel_rfl) (by kernel_rfl) (by kernel_rfl) (fun _ _ _ h => h) (Or.inl ⟨by kernel_rfl, ?_⟩) (by assumption) ?_
      rotate_left
      · intro wS hSw; (try dsimp only at hSw); go_simp; (try with_reducible rfl)
      try simp only [Act.put, List.setIfInBounds_toArray, List.set_cons_zero, List.set_cons_succ]
      refine wpAnyH_take (i := 9) (oi := { dst := some 23, op := Op.move (Operand.tmp 2), type := 3, pos := "slices.go:485", after := #[], guard := none }) (v := ?_) rfl (by kernel_rfl) (by kernel_rfl) (by kernel_rfl) (fun _ _ _ h => h) (Or.inl ⟨by kernel_rfl, ?_⟩) (by assumption) ?_
      rotate_left
      · intro wS hSw; (try dsimp only at hSw); go_simp; (try with_reducible rfl)
      try simp only [Act.put, List.setIfInBounds_toArray, List.set_cons_zero, List.set_cons_succ]
      refine wpAnyH_take (i := 10) (oi := { dst := some 24, op := Op.indexAddr 22 (Operand.tmp 22) (Operand.tmp 23), type := 0, pos := "slices.go:485", after := #[{ on := 8, ground := Ground.data }, { on := 9, ground := Ground.data }], guard := none }) (v := ?_) rfl (by kernel_rfl) (by kernel_rfl) (by kernel_rfl) (fun _ _ _ h => h) (Or.inl ⟨by kernel_rfl, ?_⟩) (by assumption) ?_
      rotate_left
      · intro wS hSw; (try dsimp only at hSw); go_simp; (try with_reducible rfl)
      try simp only [Act.put, List.setIfInBounds_toArray, List.set_cons_zero, List.set_cons_succ]
      refine wpAnyH_ready (rs := [7, 11]) (by kernel_rfl) (by simp) ?_
      refine AllReadyH.cons (o := { dst := some 21, op := Op.load 3 (Operand.tmp 20), type := 3, pos := "slices.go:485", after := #[{ on := 6, ground := Ground.data }], guard := none }) rfl (fun K hK => ?_) (AllReadyH.cons (o := { dst := some 25, op := Op.load 3 (Operand.tmp 24), type := 3, pos := "slices.go:485", after := #[{ on := 10, ground := Ground.data }], guard := none }) rfl (fun K hK => ?_) AllReadyH.nil)
      · go_simp
        refine hK.out _ _ ?_ (fun hH7 => ?_)
        · exact trivial
        clear hK K
        try simp only [Act.put, List.setIfInBounds_toArray, List.set_cons_zero, List.set_cons_succ]
        refine wpAnyH_ready (rs := [11]) (by kernel_rfl) (by simp) ?_
        refine AllReadyH.cons (o := { dst := some 25, op := Op.load 3 (Operand.tmp 24), type := 3, pos := "slices.go:485", after := #[{ on := 10, ground := Ground.data }], guard := none }) rfl (fun K hK => ?_) AllReadyH.nil
        go_simp
        refine hK.out _ _ ?_ (fun hH11 => ?_)
        · exact trivial
        clear hK K
        try simp only [Act.put, List.setIfInBounds_toArray, List.set_cons_zero, List.set_cons_succ]
        refine wpAnyH_take (i := 12) (oi := { dst := some 26, op := Op.indexAddr 22 (Operand.tmp 14) (Operand.tmp 15), type := 0, pos := "slices.go:485", after := #[{ on := 0, ground := Ground.data }, { on := 1, ground := Ground.data }, { on := 0, ground := Ground.phase }, { on := 1, ground := Ground.phase }, { on := 2, ground := Ground.textOnly Departure.lateStores }, { on := 3, ground := Ground.textOnly Departure.lateStores }, { on := 4, ground := Ground.phase }, { on := 5, ground := Ground.phase }, { on := 6, ground := Ground.phase }, { on := 7, ground := Ground.phase }, { on := 8, ground := Ground.textOnly Departure.lateStores }, { on := 9, ground := Ground.textOnly Departure.lateStores }, { on := 10, ground := Ground.textOnly Departure.lateStoresUnsure }, { on := 11, ground := Ground.phase }], guard := none }) (v := ?_) rfl (by kernel_rfl) (by kernel_rfl) (by kernel_rfl) (fun _ _ _ h => h) (Or.inl ⟨by kernel_rfl, ?_⟩) (by assumption) ?_
        rotate_left
        · intro wS hSw; (try dsimp only at hSw); go_simp; (try with_reducible rfl)
        try simp only [Act.put, List.setIfInBounds_toArray, List.set_cons_zero, List.set_cons_succ]
        refine wpAnyH_ready (rs := [13]) (by kernel_rfl) (by simp) ?_
        refine AllReadyH.cons (o := { dst := none, op := Op.store 3 (Operand.tmp 26) (Operand.tmp 21), type := 0, pos := "slices.go:485", after := #[{ on := 12, ground := Ground.data }, { on := 7, ground := Ground.data }, { on := 0, ground := Ground.phase }, { on := 1, ground := Ground.phase }, { on := 2, ground := Ground.textOnly Departure.lateStores }, { on := 3, ground := Ground.textOnly Departure.lateStores }, { on := 4, ground := Ground.phase }, { on := 5, ground := Ground.phase }, { on := 6, ground := Ground.phase }, { on := 7, ground := Ground.phase }, { on := 8, ground := Ground.textOnly Departure.lateStores }, { on := 9, ground := Ground.textOnly Departure.lateStores }, { on := 10, ground := Ground.textOnly Departure.lateStoresUnsure }, { on := 11, ground := Ground.phase }], guard := none }) rfl (fun K hK => ?_) AllReadyH.nil
        go_simp
        refine hK.out _ _ ?_ (fun hH13 => ?_)
        · exact trivial
        clear hK K
        try simp only [Act.put, List.setIfInBounds_toArray, List.set_cons_zero, List.set_cons_succ]
        refine wpAnyH_take (i := 14) (oi := { dst := some 27, op := Op.indexAddr 22 (Operand.tmp 16) (Operand.tmp 17), type := 0, pos := "slices.go:485", after := #[{ on := 2, ground := Ground.data }, { on := 3, ground := Ground.data }, { on := 0, ground := Ground.phase }, { on := 1, ground := Ground.phase }, { on := 2, ground := Ground.phase }, { on := 3, ground := Ground.phase }, { on := 4, ground := Ground.phase }, { on := 5, ground := Ground.phase }, { on := 6, ground := Ground.phase }, { on := 7, ground := Ground.phase }, { on := 8, ground := Ground.phase }, { on := 9, ground := Ground.phase }, { on := 10, ground := Ground.phase }, { on := 11, ground := Ground.phase }, { on := 12, ground := Ground.phase }, { on := 13, ground := Ground.phase }], guard := none }) (v := ?_) rfl (by kernel_rfl) (by kernel_rfl) (by kernel_rfl) (fun _ _ _ h => h) (Or.inl ⟨by kernel_rfl, ?_⟩) (by assumption) ?_
        rotate_left
        · intro wS hSw; (try dsimp only at hSw); go_simp; (try with_reducible rfl)
        try simp only [Act.put, List.setIfInBounds_toArray, List.set_cons_zero, List.set_cons_succ]
        refine wpAnyH_ready (rs := [15]) (by kernel_rfl) (by simp) ?_
        refine AllReadyH.cons (o := { dst := none, op := Op.store 3 (Operand.tmp 27) (Operand.tmp 25), type := 0, pos := "slices.go:485", after := #[{ on := 14, ground := Ground.data }, { on := 11, ground := Ground.data }, { on := 13, ground := Ground.chain }, { on := 0, ground := Ground.phase }, { on := 1, ground := Ground.phase }, { on := 2, ground := Ground.phase }, { on := 3, ground := Ground.phase }, { on := 4, ground := Ground.phase }, { on := 5, ground := Ground.phase }, { on := 6, ground := Ground.phase }, { on := 7, ground := Ground.phase }, { on := 8, ground := Ground.phase }, { on := 9, ground := Ground.phase }, { on := 10, ground := Ground.phase }, { on := 11, ground := Ground.phase }, { on := 12, ground := Ground.phase }, { on := 13, ground := Ground.phase }], guard := none }) rfl (fun K hK => ?_) AllReadyH.nil
        go_simp
        refine hK.out _ _ ?_ (fun hH15 => ?_)
        · exact trivial
        clear hK K
        try simp only [Act.put, List.setIfInBounds_toArray, List.set_cons_zero, List.set_cons_succ]
        refine wpAnyH_done (by kernel_rfl) ?_ _
        go_wp2
        refine ⟨⟨k + 1, by omega, by go_num, by go_num, ?_, ((HF.out.setCell (p := ⟨g, k, none⟩) (Or.inl rfl) _).setCell (p := ⟨g, q, none⟩) (Or.inl rfl) _).drew⟩, by simp [intOf]; omega⟩
        have hs := (HR.out.swp k q).drew
        rw [hX, hY] at hs
        exact hs.congr fun x hx => rvF_step hq hkq hx
      · go_simp
        refine hK.out _ _ ?_ (fun hH11 => ?_)
        · exact trivial
        clear hK K
        try simp only [Act.put, List.setIfInBounds_toArray, List.set_cons_zero, List.set_cons_succ]
        refine wpAnyH_ready (rs := [7]) (by kernel_rfl) (by simp) ?_
        refine AllReadyH.cons (o := { dst := some 21, op := Op.load 3 (Operand.tmp 20), type := 3, pos := "slices.go:485", after := #[{ on := 6, ground := Ground.data }], guard := none }) rfl (fun K hK => ?_) AllReadyH.nil
        go_simp
        refine hK.out _ _ ?_ (fun hH7 => ?_)
        · exact trivial
        clear hK K
        try simp only [Act.put, List.setIfInBounds_toArray, List.set_cons_zero, List.set_cons_succ]
        refine wpAnyH_take (i := 12) (oi := { dst := some 26, op := Op.indexAddr 22 (Operand.tmp 14) (Operand.tmp 15), type := 0, pos := "slices.go:485", after := #[{ on := 0, ground := Ground.data }, { on := 1, ground := Ground.data }, { on := 0, ground := Ground.phase }, { on := 1, ground := Ground.phase }, { on := 2, ground := Ground.textOnly Departure.lateStores }, { on := 3, ground := Ground.textOnly Departure.lateStores }, { on := 4, ground := Ground.phase }, { on := 5, ground := Ground.phase }, { on := 6, ground := Ground.phase }, { on := 7, ground := Ground.phase }, { on := 8, ground := Ground.textOnly Departure.lateStores }, { on := 9, ground := Ground.textOnly Departure.lateStores }, { on := 10, ground := Ground.textOnly Departure.lateStoresUnsure }, { on := 11, ground := Ground.phase }], guard := none }) (v := ?_) rfl (by kernel_rfl) (by kernel_rfl) (by kernel_rfl) (fun _ _ _ h => h) (Or.inl ⟨by kernel_rfl, ?_⟩) (by assumption) ?_
        rotate_left
        · intro wS hSw; (try dsimp only at hSw); go_simp; (try with_reducible rfl)
        try simp only [Act.put, List.setIfInBounds_toArray, List.set_cons_zero, List.set_cons_succ]
        refine wpAnyH_ready (rs := [13]) (by kernel_rfl) (by simp) ?_
        refine AllReadyH.cons (o := { dst := none, op := Op.store 3 (Operand.tmp 26) (Operand.tmp 21), type := 0, pos := "slices.go:485", after := #[{ on := 12, ground := Ground.data }, { on := 7, ground := Ground.data }, { on := 0, ground := Ground.phase }, { on := 1, ground := Ground.phase }, { on := 2, ground := Ground.textOnly Departure.lateStores }, { on := 3, ground := Ground.textOnly Departure.lateStores }, { on := 4, ground := Ground.phase }, { on := 5, ground := Ground.phase }, { on := 6, ground := Ground.phase }, { on := 7, ground := Ground.phase }, { on := 8, ground := Ground.textOnly Departure.lateStores }, { on := 9, ground := Ground.textOnly Departure.lateStores }, { on := 10, ground := Ground.textOnly Departure.lateStoresUnsure }, { on := 11, ground := Ground.phase }], guard := none }) rfl (fun K hK => ?_) AllReadyH.nil
        go_simp
        refine hK.out _ _ ?_ (fun hH13 => ?_)
        · exact trivial
        clear hK K
        try simp only [Act.put, List.setIfInBounds_toArray, List.set_cons_zero, List.set_cons_succ]
        refine wpAnyH_take (i := 14) (oi := { dst := some 27, op := Op.indexAddr 22 (Operand.tmp 16) (Operand.tmp 17), type := 0, pos := "slices.go:485", after := #[{ on := 2, ground := Ground.data }, { on := 3, ground := Ground.data }, { on := 0, ground := Ground.phase }, { on := 1, ground := Ground.phase }, { on := 2, ground := Ground.phase }, { on := 3, ground := Ground.phase }, { on := 4, ground := Ground.phase }, { on := 5, ground := Ground.phase }, { on := 6, ground := Ground.phase }, { on := 7, ground := Ground.phase }, { on := 8, ground := Ground.phase }, { on := 9, ground := Ground.phase }, { on := 10, ground := Ground.phase }, { on := 11, ground := Ground.phase }, { on := 12, ground := Ground.phase }, { on := 13, ground := Ground.phase }], guard := none }) (v := ?_) rfl (by kernel_rfl) (by kernel_rfl) (by kernel_rfl) (fun _ _ _ h => h) (Or.inl ⟨by kernel_rfl, ?_⟩) (by assumption) ?_
        rotate_left
        · intro wS hSw; (try dsimp only at hSw); go_simp; (try with_reducible rfl)
        try simp only [Act.put, List.setIfInBounds_toArray, List.set_cons_zero, List.set_cons_succ]
        refine wpAnyH_ready (rs := [15]) (by kernel_rfl) (by simp) ?_
        refine AllReadyH.cons (o := { dst := none, op := Op.store 3 (Operand.tmp 27) (Operand.tmp 25), type := 0, pos := "slices.go:485", after := #[{ on := 14, ground := Ground.data }, { on := 11, ground := Ground.data }, { on := 13, ground := Ground.chain }, { on := 0, ground := Ground.phase }, { on := 1, ground := Ground.phase }, { on := 2, ground := Ground.phase }, { on := 3, ground := Ground.phase }, { on := 4, ground := Ground.phase }, { on := 5, ground := Ground.phase }, { on := 6, ground := Ground.phase }, { on := 7, ground := Ground.phase }, { on := 8, ground := Ground.phase }, { on := 9, ground := Ground.phase }, { on := 10, ground := Ground.phase }, { on := 11, ground := Ground.phase }, { on := 12, ground := Ground.phase }, { on := 13, ground := Ground.phase }], guard := none }) rfl (fun K hK => ?_) AllReadyH.nil
        go_simp
        refine hK.out _ _ ?_ (fun hH15 => ?_)
        · exact trivial
        clear hK K
        try simp only [Act.put, List.setIfInBounds_toArray, List.set_cons_zero, List.set_cons_succ]
        refine wpAnyH_done (by kernel_rfl) ?_ _
        go_wp2
        refine ⟨⟨k + 1, by omega, by go_num, by go_num, ?_, ((HF.out.setCell (p := ⟨g, k, none⟩) (Or.inl rfl) _).setCell (p := ⟨g, q, none⟩) (Or.inl rfl) _).drew⟩, by simp [intOf]; omega⟩
        have hs := (HR.out.swp k q).drew
        rw [hX, hY] at hs
        exact hs.congr fun x hx => rvF_step hq hkq hx
    · have e2 : ¬ ((k : Int) < (n : Int) - 1 - k) := by omega
      clear hR
      go_wp2
      go_end0
      refine ⟨rfl, HR.out.congr fun x hx => ?_, HF.out⟩
      simp only [rvF]
      by_cases h3 : x < k ∨ n - k ≤ x
      · rw [if_pos h3]
      · rw [if_neg h3]
        congr 1; omega
end Go.Proofs.YtfjpdflilmcnhaaDoor

/- What an iterator over a slice of arrivals, seen from the end, gives (slices.Backward). -/
namespace Go.Proofs.YtfjpdflilmcnhaaDoor
open Go.ChangeShapes Go.WideShapes Go.ChangeAt Go.RowKit

open Go.Shelf
attribute [local go_sem] Oper.semAt_some
/-- The last k of n places, from the end. -/
def bkL (n k : Nat) : List (Fin n) := (List.range k).filterMap fun j => if h : n - 1 - j < n then some ⟨n - 1 - j, h⟩ else none
theorem bkL_succ {n k : Nat} (h : k < n) : bkL n (k + 1) = bkL n k ++ [⟨n - 1 - k, by omega⟩] := by
  unfold bkL
  rw [List.range_succ, List.filterMap_append]
  congr 1
  rw [List.filterMap_cons, dif_pos (show n - 1 - k < n by omega)]
  rfl
theorem bkL_length {n k : Nat} (h : k ≤ n) : (bkL n k).length = k := by
  induction k with
  | zero => rfl
  | succ k ih => rw [bkL_succ (by omega), List.length_append, ih (by omega)]; rfl
set_option maxRecDepth 100000 in
set_option maxHeartbeats 4000000 in
theorem back1_in (F : Fence) (n : Nat) (h66 : F.fn 66) (hro : F.round = none) (hn : 1 ≤ n) (l Bs b off cap : Nat) (L : List Arv) (S : Nat → Prop) (hSb : ¬ S b) (hSB : ¬ S Bs) (hl : L.length ≤ 200) (J Jx : List (Fin L.length) → World → Prop)
    (hY : ∀ pre (x : Fin L.length) W, J pre W → pre.length < L.length → YieldAt F (n - 1) Tryd.prog l #[.int .i64 (x.1 : Nat), arV (aAt L x.1)] W fun e W' =>
      (e = .returned (.bool true) ∧ J (pre ++ [x]) W' ∧ Fr S W W') ∨ (e = .returned (.bool false) ∧ Jx (pre ++ [x]) W'))
    (W : World) (hBs : W.cell? ⟨Bs, 0, none⟩ = some (.slice (some ⟨b, off, none⟩) L.length cap))
    (hc : ∀ i, i < L.length → W.cell? ⟨b, off + i * 3, none⟩ = some (.int .i64 (aAt L i).seq) ∧ W.cell? ⟨b, off + i * 3 + 1, none⟩ = some (.int .i64 (aAt L i).time) ∧ W.cell? ⟨b, off + i * 3 + 2, none⟩ = some (.slice (aAt L i).a (aAt L i).row.length (aAt L i).cap)) (h0 : J [] W) :
    CallsIn F n Tryd.prog 66 #[.func (.yield l) #[] #[], .pointer (some ⟨Bs, 0, none⟩)] W fun e W' => (∃ v, e = .returned v) ∧
      ((∃ ys, ys = bkL L.length L.length ∧ J ys W') ∨ (∃ pre, (∃ k, k ≤ L.length ∧ pre = bkL L.length k) ∧ Jx pre W')) := by
  refine callsIn_of_wp Tryd.func66 rfl h66 ?_ hro
  simp only [Tryd.ntmps66, List.size_toArray, List.length_cons, List.length_nil, Nat.reduceAdd, Nat.reduceSub, Array.replicate_succ, Array.replicate_zero, List.push_toArray, List.append_toArray, List.nil_append, List.cons_append]
  gi_wp2
  gi_loopw [3] (fun i wr => ∃ k : Nat, k ≤ L.length ∧ i = .int .i64 ((L.length : Int) - 1 - k) ∧ J (bkL L.length k) wr ∧ Fr S W wr)
    (fun i _ => (intOf i + 1).toNat)
  case atStart => exact ⟨0, Nat.zero_le _, by go_num, h0, Fr.refl _ _⟩
  case round =>
    obtain ⟨k, hk, rfl, hJs, hF⟩ := hrel
    have hbs := hF.cell hSB hBs
    by_cases hlt : k < L.length
    · obtain ⟨q, hq⟩ : ∃ q, L.length - 1 - k = q := ⟨_, rfl⟩
      have hql : q < L.length := by omega
      have e1 : (L.length : Int) - 1 - k = (q : Int) := by omega
      have c0 := hF.cell hSb (hc q hql).1
      have c1 := hF.cell hSb (hc q hql).2.1
      have c2 := hF.cell hSb (hc q hql).2.2
      obtain ⟨fn, tmps, assign, body, hy, hR⟩ := hY _ ⟨q, hql⟩ wr hJs (by rw [bkL_length hk]; exact hlt)
      have HS : Hid (bkL L.length (k + 1) = bkL L.length k ++ [⟨q, hql⟩]) := by
        have := bkL_succ hlt
        simp only [hq] at this
        exact this
      have HF : Hid (Fr S W wr) := hF
      have w3 : (q : Int) < L.length := by omega
      simp only [arV] at hy
      rw [e1]
      clear hF hc hY
      gi_wp2
      refine hR.mono ?_
      rintro e W3 (⟨rfl, hJ3, hk3⟩ | ⟨rfl, hJx3⟩)
      · gi_wp2
        go_roundw
        case rel => exact ⟨k + 1, by omega, by go_num, by rw [HS.out]; exact hJ3, HF.out.trans hk3⟩
        case measure => simp [intOf]
      · gi_wp2
        refine bodyPost_ret (results_none rfl _ _ _) rfl ?_
        exact ⟨⟨_, rfl⟩, .inr ⟨_, ⟨k + 1, by omega, HS.out.symm⟩, hJx3⟩⟩
    · obtain rfl : k = L.length := by omega
      have e1 : (L.length : Int) - 1 - L.length = -1 := by omega
      rw [e1]
      gi_wp2
      go_end0
      exact ⟨⟨_, rfl⟩, .inl ⟨_, rfl, hJs⟩⟩
set_option maxHeartbeats 1000000 in
theorem backward_in (F : Fence) (n : Nat) (h54 : F.fn 54) (hro : F.round = none) (a : Option Addr) (len cap : Nat) (w : World) :
    CallsIn F n Tryd.prog 54 #[.slice a len cap] w fun e w' => e = .returned (.func (.func 66) #[] #[.pointer (some ⟨w.heap.size, 0, none⟩)]) ∧ w' = w.alloc (.cells #[.slice a len cap] 31) := by
  refine callsIn_of_wp Tryd.func54 rfl h54 ?_ hro
  simp only [Tryd.ntmps54, List.size_toArray, List.length_cons, List.length_nil, Nat.reduceAdd, Nat.reduceSub, Array.replicate_succ, Array.replicate_zero, List.push_toArray, List.append_toArray, List.nil_append, List.cons_append]
  gi_wp2
  go_ret
  exact ⟨rfl, rfl⟩
theorem back_stops (F : Fence) (n : Nat) (h66 : F.fn 66) (hro : F.round = none) (hn : 1 ≤ n) (Bs b off cap : Nat) (L : List Arv) (S : Nat → Prop) (hSb : ¬ S b) (hSB : ¬ S Bs) (hl : L.length ≤ 200) (w : World)
    (hBs : w.cell? ⟨Bs, 0, none⟩ = some (.slice (some ⟨b, off, none⟩) L.length cap))
    (hc : ∀ i, i < L.length → w.cell? ⟨b, off + i * 3, none⟩ = some (.int .i64 (aAt L i).seq) ∧ w.cell? ⟨b, off + i * 3 + 1, none⟩ = some (.int .i64 (aAt L i).time) ∧ w.cell? ⟨b, off + i * 3 + 2, none⟩ = some (.slice (aAt L i).a (aAt L i).row.length (aAt L i).cap)) :
    SeqStopsK F n Tryd.prog 66 #[.pointer (some ⟨Bs, 0, none⟩)] (fun x : Fin L.length => #[Value.int .i64 (x.1 : Nat), arV (aAt L x.1)]) (Fr S) (fun ys => ys = bkL L.length L.length) (fun pre => ∃ k, k ≤ L.length ∧ pre = bkL L.length k) L.length w := fun l J Jx W hW _ _ hY h0 => by
  refine (back1_in F n h66 hro hn l Bs b off cap L S hSb hSB hl J Jx hY W (cell_below hW hBs) (fun i hi => ⟨cell_below hW (hc i hi).1, cell_below hW (hc i hi).2.1, cell_below hW (hc i hi).2.2⟩) h0).mono ?_
  rintro e W' ⟨he, ⟨ys, rfl, hj⟩ | ⟨pre, ⟨k, hk, rfl⟩, hj⟩⟩
  · exact ⟨he, .inl ⟨_, rfl, hj⟩⟩
  · exact ⟨he, .inr ⟨_, ⟨k, hk, rfl⟩, hj⟩⟩
end Go.Proofs.YtfjpdflilmcnhaaDoor
