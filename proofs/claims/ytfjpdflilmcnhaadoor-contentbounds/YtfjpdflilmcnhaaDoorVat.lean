/- A row's value at a place (valueAt); the comparison by which a sorted view ranks (least$1). -/
import Derived.Test.YtfjpdflilmcnhaaDoorMgH
import Derived.Test.YtfjpdflilmcnhaaDoorMgJ
import Derived.Test.YtfjpdflilmcnhaaDoorTrn
namespace Go.Proofs.YtfjpdflilmcnhaaDoor
open Go.ChangeShapes Go.WideShapes Go.ChangeAt Go.RowKit

open Go.Proofs.YtfjpdflilmcnhaaDoor.Stb
/-- A row's value at a place: null, if the row is too short. -/
def vAt (r : List Val) (c : Nat) : Val := r.getD c dv
theorem vAt_lt {r : List Val} {c : Nat} (_h : c < r.length) : vAt r c = (kAt r c, nAt r c, tAt r c) := rfl
theorem vAt_ge {r : List Val} {c : Nat} (h : r.length ≤ c) : vAt r c = dv := by
  unfold vAt; rw [List.getD_eq_getElem?_getD, List.getElem?_eq_none h]; rfl
set_option maxRecDepth 20000 in
set_option maxHeartbeats 4000000 in
theorem valueAt_any (a : Option Addr) (cap c : Nat) (r : List Val) (w : World) (hr : RowAt w a r) (hc : (c : Int) ≤ 9223372036854775807) :
    Calls Tryd.prog 61 #[.slice a r.length cap, .int .i64 c] w fun e w' => e = .returned (vlE (vAt r c)) ∧ Below w.heap.size w w' := by
  rcases Nat.lt_or_ge c r.length with hlt | hge
  · have e1 : (c : Int) < r.length := by omega
    rcases hr with hr | ⟨b, off, rfl, hcell⟩
    · omega
    obtain ⟨x0, x1, x2⟩ := hcell c hlt
    have HV : Hid (vAt r c = (kAt r c, nAt r c, tAt r c)) := vAt_lt hlt
    have hb0 : b < w.heap.size := cell_lt x0
    clear hcell
    go_enter Tryd.func61, Tryd.ntmps61
    go_wp2
    refine bodyPost_ret (v := .agg #[.int .i64 (kAt r c), .int .i64 (nAt r c), .string (tAt r c)]) (by simp [results, Tryd.results61, go_sem]) rfl ⟨?_, (Bel.out (by repeat (first | exact Bel.refl _ | assumption | refine Bel.drew ?_ | refine Bel.drewN ?_ _ | refine Bel.alloc ?_ _ | refine Bel.setCell ?_ (by simp <;> omega) _ | refine Bel.step ?_ (by assumption))))⟩
    rw [HV.out]; rfl
  · have e1 : ¬ ((c : Int) < r.length) := by omega
    have HV : Hid (vAt r c = dv) := vAt_ge hge
    clear hr
    go_enter Tryd.func61, Tryd.ntmps61
    go_wp2
    refine bodyPost_ret (v := .agg #[.int .i64 0, .int .i64 0, .string ⟨#[]⟩]) (by simp [results, Tryd.results61, go_sem]) rfl ⟨?_, (Bel.out (by repeat (first | exact Bel.refl _ | assumption | refine Bel.drew ?_ | refine Bel.drewN ?_ _ | refine Bel.alloc ?_ _ | refine Bel.setCell ?_ (by simp <;> omega) _ | refine Bel.step ?_ (by assumption))))⟩
    rw [HV.out]; rfl

/-- How two arrivals stand to each other at a column. -/
def ovV (l : List Arv) (col : Nat) (d : Bool) (x y : Nat) : Int :=
  let o := ordC (vAt (aAt l x).row col).1 (vAt (aAt l x).row col).2.1 (vAt (aAt l x).row col).2.2 (vAt (aAt l y).row col).1 (vAt (aAt l y).row col).2.1 (vAt (aAt l y).row col).2.2
  if d then -o else o
/-- Numbers that a machine can hold. -/
def Rng (l : List Arv) : Prop := ∀ x ∈ l, ∀ v ∈ x.row, -9223372036854775808 ≤ v.2.1 ∧ v.2.1 ≤ 9223372036854775807
theorem Rng.at_ {l : List Arv} (h : Rng l) {x : Nat} (hx : x < l.length) (c : Nat) : -9223372036854775808 ≤ (vAt (aAt l x).row c).2.1 ∧ (vAt (aAt l x).row c).2.1 ≤ 9223372036854775807 := by
  unfold vAt
  rcases Nat.lt_or_ge c (aAt l x).row.length with hc | hc
  · rw [List.getD_eq_getElem?_getD, List.getElem?_eq_getElem hc]
    exact h _ (aAt_mem hx) _ (List.getElem_mem hc)
  · rw [List.getD_eq_getElem?_getD, List.getElem?_eq_none hc]
    exact ⟨by decide, by decide⟩
/-- What the comparison reads: the view's box, the arrivals, the column. -/
structure LsAt (w : World) (vb : Nat) (cb co lb lo : Nat) (cc lc : Nat) (col : Nat) (d : Bool) (l : List Arv) : Prop where
  cols : w.cell? ⟨vb, 4, none⟩ = some (.slice (some ⟨cb, co, none⟩) 1 cc)
  desc : w.cell? ⟨vb, 5, none⟩ = some (.bool d)
  ars : w.cell? ⟨vb, 6, none⟩ = some (.slice (some ⟨lb, lo, none⟩) l.length lc)
  col0 : w.cell? ⟨cb, co, none⟩ = some (.int .i64 col)
  row : ∀ x, x < l.length → w.cell? ⟨lb, lo + x * 3 + 2, none⟩ = some (.slice (aAt l x).a (aAt l x).row.length (aAt l x).cap)
  rows : ∀ x, x < l.length → RowAt w (aAt l x).a (aAt l x).row
  rk : Ranks w
set_option maxRecDepth 20000 in
set_option maxHeartbeats 16000000 in
theorem less_any (vb cb co lb lo cc lc col : Nat) (d : Bool) (l : List Arv) (x y : Nat) (w : World) (hcol : (col : Int) ≤ 9223372036854775807) (hL : LsAt w vb cb co lb lo cc lc col d l) (hG : Rng l) (hx : x < l.length) (hy : y < l.length) (_hl : (l.length : Int) ≤ 9223372036854775807) :
    Calls Tryd.prog 59 #[.int .i64 x, .int .i64 y, .pointer (some ⟨vb, 0, none⟩)] w fun e w' => e = .returned (.int .i64 (ovV l col d x y)) ∧ Below w.heap.size w w' := by
  have x4 := hL.cols
  have x5 := hL.desc
  have x6 := hL.ars
  have xc := hL.col0
  have xa := hL.row x hx
  have xb := hL.row y hy
  have HRA : Hid (RowAt w (aAt l x).a (aAt l x).row) := hL.rows x hx
  have HRB : Hid (RowAt w (aAt l y).a (aAt l y).row) := hL.rows y hy
  have HKR : Hid (Ranks w) := hL.rk
  have HG1 : Hid (-9223372036854775808 ≤ (vAt (aAt l x).row col).2.1) := (hG.at_ hx col).1
  have HG2 : Hid ((vAt (aAt l x).row col).2.1 ≤ 9223372036854775807) := (hG.at_ hx col).2
  have HG3 : Hid (-9223372036854775808 ≤ (vAt (aAt l y).row col).2.1) := (hG.at_ hy col).1
  have HG4 : Hid ((vAt (aAt l y).row col).2.1 ≤ 9223372036854775807) := (hG.at_ hy col).2
  have e1 : (x : Int) < l.length := by omega
  have e2 : (y : Int) < l.length := by omega
  obtain ⟨r, hr⟩ : ∃ r, ovV l col d x y = r := ⟨_, rfl⟩
  have HRS : Hid (ovV l col d x y = r) := hr
  rw [hr]
  clear hL hG hr
  go_enter Tryd.func59, Tryd.ntmps59
  go_wp2
  refine wp_region_held_drew (S := (fun wS => Bel w.heap.size w wS)) (by kernel_rfl) ?_ (fun hHeld => ?_)
  · (try dsimp only); exact (Bel.refl _).drew
  refine wpAnyH_take (i := 0) (oi := { dst := some 7, op := Op.fieldAddr 64 (Operand.tmp 2) 4, type := 0, pos := "kinds.go:179", after := #[], guard := none }) (v := ?_) rfl (by kernel_rfl) (by kernel_rfl) (by kernel_rfl) (fun _ _ _ h => h) (Or.inl ⟨by kernel_rfl, ?_⟩) (by assumption) ?_
  rotate_left
  · intro wS hSw; (try dsimp only at hSw); go_simp; (try with_reducible rfl)
  try simp only [Act.put, List.setIfInBounds_toArray, List.set_cons_zero, List.set_cons_succ]
  refine wpAnyH_take (i := 1) (oi := { dst := some 8, op := Op.load 31 (Operand.tmp 7), type := 31, pos := "kinds.go:179", after := #[{ on := 0, ground := Ground.data }], guard := none }) (v := ?_) rfl (by kernel_rfl) (by kernel_rfl) (by kernel_rfl) (fun _ _ _ h => h) (Or.inl ⟨by kernel_rfl, ?_⟩) (by assumption) ?_
  rotate_left
  · intro wS hSw; (try dsimp only at hSw); have c := cell_below hSw.out x6; go_simp; (try with_reducible rfl)
  try simp only [Act.put, List.setIfInBounds_toArray, List.set_cons_zero, List.set_cons_succ]
  refine wpAnyH_take (i := 2) (oi := { dst := some 9, op := Op.move (Operand.tmp 0), type := 3, pos := "kinds.go:179", after := #[], guard := none }) (v := ?_) rfl (by kernel_rfl) (by kernel_rfl) (by kernel_rfl) (fun _ _ _ h => h) (Or.inl ⟨by kernel_rfl, ?_⟩) (by assumption) ?_
  rotate_left
  · intro wS hSw; (try dsimp only at hSw); go_simp; (try with_reducible rfl)
  try simp only [Act.put, List.setIfInBounds_toArray, List.set_cons_zero, List.set_cons_succ]
  refine wpAnyH_take (i := 3) (oi := { dst := some 10, op := Op.indexAddr 31 (Operand.tmp 8) (Operand.tmp 9), type := 0, pos := "kinds.go:179", after := #[{ on := 1, ground := Ground.data }, { on := 2, ground := Ground.data }], guard := none }) (v := ?_) rfl (by kernel_rfl) (by kernel_rfl) (by kernel_rfl) (fun _ _ _ h => h) (Or.inl ⟨by kernel_rfl, ?_⟩) (by assumption) ?_
  rotate_left
  · intro wS hSw; (try dsimp only at hSw); go_simp; (try with_reducible rfl)
  try simp only [Act.put, List.setIfInBounds_toArray, List.set_cons_zero, List.set_cons_succ]
  refine wpAnyH_take (i := 4) (oi := { dst := some 11, op := Op.fieldAddr 40 (Operand.tmp 10) 2, type := 0, pos := "kinds.go:179", after := #[{ on := 3, ground := Ground.data }], guard := none }) (v := ?_) rfl (by kernel_rfl) (by kernel_rfl) (by kernel_rfl) (fun _ _ _ h => h) (Or.inl ⟨by kernel_rfl, ?_⟩) (by assumption) ?_
  rotate_left
  · intro wS hSw; (try dsimp only at hSw); go_simp; (try with_reducible rfl)
  try simp only [Act.put, List.setIfInBounds_toArray, List.set_cons_zero, List.set_cons_succ]
  refine wpAnyH_take (i := 5) (oi := { dst := some 12, op := Op.load 38 (Operand.tmp 11), type := 38, pos := "kinds.go:179", after := #[{ on := 4, ground := Ground.data }], guard := none }) (v := ?_) rfl (by kernel_rfl) (by kernel_rfl) (by kernel_rfl) (fun _ _ _ h => h) (Or.inl ⟨by kernel_rfl, ?_⟩) (by assumption) ?_
  rotate_left
  · intro wS hSw; (try dsimp only at hSw); have c := cell_below hSw.out xa; go_simp; (try with_reducible rfl)
  try simp only [Act.put, List.setIfInBounds_toArray, List.set_cons_zero, List.set_cons_succ]
  refine wpAnyH_take (i := 6) (oi := { dst := some 13, op := Op.fieldAddr 64 (Operand.tmp 2) 2, type := 0, pos := "kinds.go:179", after := #[], guard := none }) (v := ?_) rfl (by kernel_rfl) (by kernel_rfl) (by kernel_rfl) (fun _ _ _ h => h) (Or.inl ⟨by kernel_rfl, ?_⟩) (by assumption) ?_
  rotate_left
  · intro wS hSw; (try dsimp only at hSw); go_simp; (try with_reducible rfl)
  try simp only [Act.put, List.setIfInBounds_toArray, List.set_cons_zero, List.set_cons_succ]
  refine wpAnyH_take (i := 7) (oi := { dst := some 14, op := Op.load 22 (Operand.tmp 13), type := 22, pos := "kinds.go:179", after := #[{ on := 6, ground := Ground.data }], guard := none }) (v := ?_) rfl (by kernel_rfl) (by kernel_rfl) (by kernel_rfl) (fun _ _ _ h => h) (Or.inl ⟨by kernel_rfl, ?_⟩) (by assumption) ?_
  rotate_left
  · intro wS hSw; (try dsimp only at hSw); have c := cell_below hSw.out x4; go_simp; (try with_reducible rfl)
  try simp only [Act.put, List.setIfInBounds_toArray, List.set_cons_zero, List.set_cons_succ]
  refine wpAnyH_take (i := 8) (oi := { dst := some 15, op := Op.indexAddr 22 (Operand.tmp 14) (Operand.const (Value.int IntKind.i64 0)), type := 0, pos := "kinds.go:179", after := #[{ on := 7, ground := Ground.data }], guard := none }) (v := ?_) rfl (by kernel_rfl) (by kernel_rfl) (by kernel_rfl) (fun _ _ _ h => h) (Or.inl ⟨by kernel_rfl, ?_⟩) (by assumption) ?_
  rotate_left
  · intro wS hSw; (try dsimp only at hSw); go_simp; (try with_reducible rfl)
  try simp only [Act.put, List.setIfInBounds_toArray, List.set_cons_zero, List.set_cons_succ]
  refine wpAnyH_take (i := 9) (oi := { dst := some 16, op := Op.load 3 (Operand.tmp 15), type := 3, pos := "kinds.go:179", after := #[{ on := 8, ground := Ground.data }], guard := none }) (v := ?_) rfl (by kernel_rfl) (by kernel_rfl) (by kernel_rfl) (fun _ _ _ h => h) (Or.inl ⟨by kernel_rfl, ?_⟩) (by assumption) ?_
  rotate_left
  · intro wS hSw; (try dsimp only at hSw); have c := cell_below hSw.out xc; go_simp; (try with_reducible rfl)
  try simp only [Act.put, List.setIfInBounds_toArray, List.set_cons_zero, List.set_cons_succ]
  refine wpAnyH_take (i := 11) (oi := { dst := some 18, op := Op.fieldAddr 64 (Operand.tmp 2) 4, type := 0, pos := "kinds.go:179", after := #[], guard := none }) (v := ?_) rfl (by kernel_rfl) (by kernel_rfl) (by kernel_rfl) (fun _ _ _ h => h) (Or.inl ⟨by kernel_rfl, ?_⟩) (by assumption) ?_
  rotate_left
  · intro wS hSw; (try dsimp only at hSw); go_simp; (try with_reducible rfl)
  try simp only [Act.put, List.setIfInBounds_toArray, List.set_cons_zero, List.set_cons_succ]
  refine wpAnyH_take (i := 12) (oi := { dst := some 19, op := Op.load 31 (Operand.tmp 18), type := 31, pos := "kinds.go:179", after := #[{ on := 11, ground := Ground.data }], guard := none }) (v := ?_) rfl (by kernel_rfl) (by kernel_rfl) (by kernel_rfl) (fun _ _ _ h => h) (Or.inl ⟨by kernel_rfl, ?_⟩) (by assumption) ?_
  rotate_left
  · intro wS hSw; (try dsimp only at hSw); have c := cell_below hSw.out x6; go_simp; (try with_reducible rfl)
  try simp only [Act.put, List.setIfInBounds_toArray, List.set_cons_zero, List.set_cons_succ]
  refine wpAnyH_take (i := 13) (oi := { dst := some 20, op := Op.move (Operand.tmp 1), type := 3, pos := "kinds.go:179", after := #[], guard := none }) (v := ?_) rfl (by kernel_rfl) (by kernel_rfl) (by kernel_rfl) (fun _ _ _ h => h) (Or.inl ⟨by kernel_rfl, ?_⟩) (by assumption) ?_
  rotate_left
  · intro wS hSw; (try dsimp only at hSw); go_simp; (try with_reducible rfl)
  try simp only [Act.put, List.setIfInBounds_toArray, List.set_cons_zero, List.set_cons_succ]
  refine wpAnyH_take (i := 14) (oi := { dst := some 21, op := Op.indexAddr 31 (Operand.tmp 19) (Operand.tmp 20), type := 0, pos := "kinds.go:179", after := #[{ on := 12, ground := Ground.data }, { on := 13, ground := Ground.data }], guard := none }) (v := ?_) rfl (by kernel_rfl) (by kernel_rfl) (by kernel_rfl) (fun _ _ _ h => h) (Or.inl ⟨by kernel_rfl, ?_⟩) (by assumption) ?_
  rotate_left
  · intro wS hSw; (try dsimp only at hSw); go_simp; (try with_reducible rfl)
  try simp only [Act.put, List.setIfInBounds_toArray, List.set_cons_zero, List.set_cons_succ]
  refine wpAnyH_take (i := 15) (oi := { dst := some 22, op := Op.fieldAddr 40 (Operand.tmp 21) 2, type := 0, pos := "kinds.go:179", after := #[{ on := 14, ground := Ground.data }], guard := none }) (v := ?_) rfl (by kernel_rfl) (by kernel_rfl) (by kernel_rfl) (fun _ _ _ h => h) (Or.inl ⟨by kernel_rfl, ?_⟩) (by assumption) ?_
  rotate_left
  · intro wS hSw; (try dsimp only at hSw); go_simp; (try with_reducible rfl)
  try simp only [Act.put, List.setIfInBounds_toArray, List.set_cons_zero, List.set_cons_succ]
  refine wpAnyH_take (i := 16) (oi := { dst := some 23, op := Op.load 38 (Operand.tmp 22), type := 38, pos := "kinds.go:179", after := #[{ on := 15, ground := Ground.data }], guard := none }) (v := ?_) rfl (by kernel_rfl) (by kernel_rfl) (by kernel_rfl) (fun _ _ _ h => h) (Or.inl ⟨by kernel_rfl, ?_⟩) (by assumption) ?_
  rotate_left
  · intro wS hSw; (try dsimp only at hSw); have c := cell_below hSw.out xb; go_simp; (try with_reducible rfl)
  try simp only [Act.put, List.setIfInBounds_toArray, List.set_cons_zero, List.set_cons_succ]
  refine wpAnyH_take (i := 17) (oi := { dst := some 24, op := Op.fieldAddr 64 (Operand.tmp 2) 2, type := 0, pos := "kinds.go:179", after := #[], guard := none }) (v := ?_) rfl (by kernel_rfl) (by kernel_rfl) (by kernel_rfl) (fun _ _ _ h => h) (Or.inl ⟨by kernel_rfl, ?_⟩) (by assumption) ?_
  rotate_left
  · intro wS hSw; (try dsimp only at hSw); go_simp; (try with_reducible rfl)
  try simp only [Act.put, List.setIfInBounds_toArray, List.set_cons_zero, List.set_cons_succ]
  refine wpAnyH_take (i := 18) (oi := { dst := some 25, op := Op.load 22 (Operand.tmp 24), type := 22, pos := "kinds.go:179", after := #[{ on := 17, ground := Ground.data }], guard := none }) (v := ?_) rfl (by kernel_rfl) (by kernel_rfl) (by kernel_rfl) (fun _ _ _ h => h) (Or.inl ⟨by kernel_rfl, ?_⟩) (by assumption) ?_
  rotate_left
  · intro wS hSw; (try dsimp only at hSw); have c := cell_below hSw.out x4; go_simp; (try with_reducible rfl)
  try simp only [Act.put, List.setIfInBounds_toArray, List.set_cons_zero, List.set_cons_succ]
  refine wpAnyH_take (i := 19) (oi := { dst := some 26, op := Op.indexAddr 22 (Operand.tmp 25) (Operand.const (Value.int IntKind.i64 0)), type := 0, pos := "kinds.go:179", after := #[{ on := 18, ground := Ground.data }], guard := none }) (v := ?_) rfl (by kernel_rfl) (by kernel_rfl) (by kernel_rfl) (fun _ _ _ h => h) (Or.inl ⟨by kernel_rfl, ?_⟩) (by assumption) ?_
  rotate_left
  · intro wS hSw; (try dsimp only at hSw); go_simp; (try with_reducible rfl)
  try simp only [Act.put, List.setIfInBounds_toArray, List.set_cons_zero, List.set_cons_succ]
  refine wpAnyH_take (i := 20) (oi := { dst := some 27, op := Op.load 3 (Operand.tmp 26), type := 3, pos := "kinds.go:179", after := #[{ on := 19, ground := Ground.data }], guard := none }) (v := ?_) rfl (by kernel_rfl) (by kernel_rfl) (by kernel_rfl) (fun _ _ _ h => h) (Or.inl ⟨by kernel_rfl, ?_⟩) (by assumption) ?_
  rotate_left
  · intro wS hSw; (try dsimp only at hSw); have c := cell_below hSw.out xc; go_simp; (try with_reducible rfl)
  try simp only [Act.put, List.setIfInBounds_toArray, List.set_cons_zero, List.set_cons_succ]
  refine wpAnyH_ready (rs := [10]) (by kernel_rfl) (by simp) ?_
  refine AllReadyH.cons (o := { dst := some 17, op := Op.call { callee := Callee.value (Operand.func 61), args := #[Operand.tmp 12, Operand.tmp 16], argTypes := #[38, 3] }, type := 46, pos := "kinds.go:179", after := #[{ on := 5, ground := Ground.data }, { on := 9, ground := Ground.data }], guard := none }) rfl (fun K hK => ?_) AllReadyH.nil
  go_simp
  refine (valueAt_any _ _ col _ _ (HRA.out.below (Bel.out hHeld)) hcol).mono ?_
  rintro e1 wa ⟨rfl, hb1⟩
  try dsimp only
  refine hK.out _ _ ?_ (fun hH10 => ?_)
  · (try dsimp only); exact (by repeat (first | exact Bel.refl _ | assumption | refine Bel.drew ?_ | refine Bel.drewN ?_ _ | refine Bel.alloc ?_ _ | refine Bel.setCell ?_ (by simp <;> omega) _ | refine Bel.step ?_ (by assumption)))
  clear hK K
  try simp only [Act.put, List.setIfInBounds_toArray, List.set_cons_zero, List.set_cons_succ]
  refine wpAnyH_ready (rs := [21]) (by kernel_rfl) (by simp) ?_
  refine AllReadyH.cons (o := { dst := some 28, op := Op.call { callee := Callee.value (Operand.func 61), args := #[Operand.tmp 23, Operand.tmp 27], argTypes := #[38, 3] }, type := 46, pos := "kinds.go:179", after := #[{ on := 16, ground := Ground.data }, { on := 20, ground := Ground.data }, { on := 10, ground := Ground.chain }], guard := none }) rfl (fun K hK => ?_) AllReadyH.nil
  go_simp
  refine (valueAt_any _ _ col _ _ (HRB.out.below (Bel.out hH10)) hcol).mono ?_
  rintro e1 wb ⟨rfl, hb2⟩
  try dsimp only
  refine hK.out _ _ ?_ (fun hH21 => ?_)
  · (try dsimp only); exact (by repeat (first | exact Bel.refl _ | assumption | refine Bel.drew ?_ | refine Bel.drewN ?_ _ | refine Bel.alloc ?_ _ | refine Bel.setCell ?_ (by simp <;> omega) _ | refine Bel.step ?_ (by assumption)))
  clear hK K
  try simp only [Act.put, List.setIfInBounds_toArray, List.set_cons_zero, List.set_cons_succ]
  refine wpAnyH_ready (rs := [22]) (by kernel_rfl) (by simp) ?_
  refine AllReadyH.cons (o := { dst := some 29, op := Op.call { callee := Callee.value (Operand.func 60), args := #[Operand.tmp 17, Operand.tmp 28], argTypes := #[46, 46] }, type := 3, pos := "kinds.go:179", after := #[{ on := 10, ground := Ground.data }, { on := 21, ground := Ground.data }, { on := 21, ground := Ground.chain }], guard := none }) rfl (fun K hK => ?_) AllReadyH.nil
  go_simp
  refine (Order_any _ _ _ _ _ _ _ HG1.out HG2.out HG3.out HG4.out (HKR.out.below (Bel.out hH21))).mono ?_
  rintro e1 wd ⟨rfl, hb3⟩
  try dsimp only
  refine hK.out _ _ ?_ (fun hH22 => ?_)
  · (try dsimp only); exact (by repeat (first | exact Bel.refl _ | assumption | refine Bel.drew ?_ | refine Bel.drewN ?_ _ | refine Bel.alloc ?_ _ | refine Bel.setCell ?_ (by simp <;> omega) _ | refine Bel.step ?_ (by assumption)))
  clear hK K
  try simp only [Act.put, List.setIfInBounds_toArray, List.set_cons_zero, List.set_cons_succ]
  refine wpAnyH_take (i := 23) (oi := { dst := some 6, op := Op.assign (Operand.tmp 29), type := 3, pos := "kinds.go:179", after := #[{ on := 22, ground := Ground.data }, { on := 22, ground := Ground.chain }, { on := 0, ground := Ground.phase }, { on := 1, ground := Ground.phase }, { on := 2, ground := Ground.phase }, { on := 3, ground := Ground.phase }, { on := 4, ground := Ground.phase }, { on := 5, ground := Ground.phase }, { on := 6, ground := Ground.phase }, { on := 7, ground := Ground.phase }, { on := 8, ground := Ground.phase }, { on := 9, ground := Ground.phase }, { on := 10, ground := Ground.phase }, { on := 11, ground := Ground.phase }, { on := 12, ground := Ground.phase }, { on := 13, ground := Ground.phase }, { on := 14, ground := Ground.phase }, { on := 15, ground := Ground.phase }, { on := 16, ground := Ground.phase }, { on := 17, ground := Ground.phase }, { on := 18, ground := Ground.phase }, { on := 19, ground := Ground.phase }, { on := 20, ground := Ground.phase }, { on := 21, ground := Ground.phase }, { on := 22, ground := Ground.phase }], guard := none }) (v := ?_) rfl (by kernel_rfl) (by kernel_rfl) (by kernel_rfl) (fun _ _ _ h => h) (Or.inl ⟨by kernel_rfl, ?_⟩) (by assumption) ?_
  rotate_left
  · intro wS hSw; (try dsimp only at hSw); go_simp; (try with_reducible rfl)
  try simp only [Act.put, List.setIfInBounds_toArray, List.set_cons_zero, List.set_cons_succ]
  refine wpAnyH_done (by kernel_rfl) ?_ _

  have z5 := cell_below hH22.out x5
  have HB : Hid (Below w.heap.size w wd) := hH22.out
  have HO := ord_range (vAt (aAt l x).row col).1 (vAt (aAt l x).row col).2.1 (vAt (aAt l x).row col).2.2 (vAt (aAt l y).row col).1 (vAt (aAt l y).row col).2.1 (vAt (aAt l y).row col).2.2
  have hrs : r = if d = true then -(ordC (vAt (aAt l x).row col).1 (vAt (aAt l x).row col).2.1 (vAt (aAt l x).row col).2.2 (vAt (aAt l y).row col).1 (vAt (aAt l y).row col).2.1 (vAt (aAt l y).row col).2.2) else ordC (vAt (aAt l x).row col).1 (vAt (aAt l x).row col).2.1 (vAt (aAt l x).row col).2.2 (vAt (aAt l y).row col).1 (vAt (aAt l y).row col).2.1 (vAt (aAt l y).row col).2.2 := HRS.out.symm
  clear HRS
  generalize ordC (vAt (aAt l x).row col).1 (vAt (aAt l x).row col).2.1 (vAt (aAt l x).row col).2.2 (vAt (aAt l y).row col).1 (vAt (aAt l y).row col).2.1 (vAt (aAt l y).row col).2.2 = o at *
  have hw : IntKind.i64.wrap (-o) = -o := by rw [IntKind.wrap_i64]; omega
  clear HG1 HG2 HG3 HG4 HRA HRB HKR x4 x5 x6 xc xa xb hb1 hb2 hb3 hH10 hH21 hH22 hHeld HO
  cases d with
  | true =>
    have HRS : Hid (r = -o) := hrs
    clear hrs
    go_wp2
    go_ret
    exact ⟨by rw [HRS.out]; rfl, HB.out⟩
  | false =>
    have HRS : Hid (r = o) := hrs
    clear hrs
    go_wp2
    go_ret
    exact ⟨by rw [HRS.out]; rfl, HB.out⟩
theorem ovV_cmp {l : List Arv} {col : Nat} {d : Bool} : Stb.Cmp (ovV l col d) l.length := by
  have anti := fun x y => ord_anti (vAt (aAt l x).row col).1 (vAt (aAt l x).row col).2.1 (vAt (aAt l x).row col).2.2 (vAt (aAt l y).row col).1 (vAt (aAt l y).row col).2.1 (vAt (aAt l y).row col).2.2
  have tr := fun x y z => @ord_trans (vAt (aAt l x).row col).1 (vAt (aAt l x).row col).2.1 (vAt (aAt l x).row col).2.2 (vAt (aAt l y).row col).1 (vAt (aAt l y).row col).2.1 (vAt (aAt l y).row col).2.2 (vAt (aAt l z).row col).1 (vAt (aAt l z).row col).2.1 (vAt (aAt l z).row col).2.2
  refine ⟨fun x y _ _ => ?_, fun x y z _ _ _ h1 h2 => ?_⟩
  · have h := anti x y
    unfold ovV
    cases d
    · simp only [Bool.false_eq_true, if_false]; omega
    · simp only [if_true]; omega
  · have a1 := anti x y
    have a2 := anti y z
    have a3 := anti x z
    have t1 := tr x y z
    have t2 := tr z y x
    have t3 := tr z x y
    have t4 := tr y z x
    have t5 := tr y x z
    have t6 := tr x z y
    unfold ovV at *
    cases d
    · simp only [Bool.false_eq_true, if_false] at *; omega
    · simp only [if_true] at *; omega
end Go.Proofs.YtfjpdflilmcnhaaDoor
