/- When a view of time, of batches of time turns (leaves, stay, never, leaving, batching). -/
import Derived.Test.YtfjpdflilmcnhaaDoorMgC
import Derived.Test.YtfjpdflilmcnhaaDoorFit
import Derived.Test.YtfjpdflilmcnhaaDoorMgG
namespace Go.Proofs.YtfjpdflilmcnhaaDoor
open Go.ChangeShapes Go.WideShapes Go.ChangeAt Go.RowKit

set_option linter.unusedVariables false
def vvV (f0 f1 f2 : Nat) (n : Int) (a : Option Addr) (cn cc : Nat) (d : Bool) (la : Option Addr) (ln lc : Nat) (now : Int) : Value := .agg #[.func (.func f0) #[] #[], .func (.func f1) #[] #[], .func (.func f2) #[] #[], .int .i64 n, .slice a cn cc, .bool d, .slice la ln lc, .int .i64 now]
def arV (x : Arv) : Value := .agg #[.int .i64 x.seq, .int .i64 x.time, .slice x.a x.row.length x.cap]
def oT (o : Option Int) : Value := .tuple #[.int .i64 (o.getD 0), .bool o.isSome]
def lvP (n now : Int) : List Arv → Option Int
  | [] => none
  | x :: l => if x.time + n > now then some (x.time + n) else lvP n now l
def bgI (t n : Int) (x : Arv) : Int := t + ((x.time - t).tdiv n + 1) * n
def btP (t n now : Int) : List Arv → Option Int
  | [] => none
  | x :: l => if bgI t n x > now then some (bgI t n x) else if bgI t n x + n > now then some (bgI t n x + n) else btP t n now l
/-- The times of arrivals that Fit keeps. -/
def Tms (l : List Arv) : Prop := ∀ x ∈ l, 0 ≤ x.time ∧ x.time ≤ 1099511627776 ∧ (aAt l 0).time ≤ x.time
theorem bg_rng {t n : Int} {x : Arv} (h0 : t ≤ x.time) (hn : 1 ≤ n) : 0 ≤ (x.time - t).tdiv n ∧ (x.time - t).tdiv n * n ≤ x.time - t ∧ x.time - t < (x.time - t).tdiv n * n + n := by
  have h1 : (x.time - t).tdiv n = (x.time - t) / n := Int.tdiv_eq_ediv_of_nonneg (by omega)
  rw [h1]
  have h2 := Int.mul_ediv_add_emod (x.time - t) n
  have h3 := Int.emod_nonneg (x.time - t) (by omega : n ≠ 0)
  have h4 := Int.emod_lt_of_pos (x.time - t) (by omega : 0 < n)
  have h5 : 0 ≤ (x.time - t) / n := Int.ediv_nonneg (by omega) (by omega)
  rw [Int.mul_comm] at h2
  exact ⟨h5, by omega, by omega⟩
theorem leaves_any (f0 f1 f2 : Nat) (n : Int) (a : Option Addr) (cn cc : Nat) (d : Bool) (la : Option Addr) (ln lc : Nat) (now : Int) (x : Arv) (w : World) (h0 : 0 ≤ x.time) (h1 : x.time ≤ 1099511627776) (hn : 1 ≤ n) (hn2 : n ≤ 1099511627776) :
    Calls Tryd.prog 51 #[vvV f0 f1 f2 n a cn cc d la ln lc now, arV x] w fun e w' => e = .returned (.int .i64 (x.time + n)) ∧ Below w.heap.size w w' := by
  unfold vvV arV
  go_enter Tryd.func51, Tryd.ntmps51
  go_wp2
  go_ret
  exact ⟨rfl, (Bel.out (by repeat (first | exact Bel.refl _ | assumption | refine Bel.drew ?_ | refine Bel.drewN ?_ _ | refine Bel.alloc ?_ _ | refine Bel.setCell ?_ (by simp <;> omega) _ | refine Bel.step ?_ (by assumption))))⟩
theorem never_any (f0 f1 f2 : Nat) (n : Int) (a : Option Addr) (cn cc : Nat) (d : Bool) (la : Option Addr) (ln lc : Nat) (now : Int) (w : World) :
    Calls Tryd.prog 30 #[vvV f0 f1 f2 n a cn cc d la ln lc now] w fun e w' => e = .returned (oT none) ∧ Below w.heap.size w w' := by
  unfold vvV
  go_enter Tryd.func30, Tryd.ntmps30
  go_wp2
  go_ret2
  exact ⟨rfl, (Bel.out (by repeat (first | exact Bel.refl _ | assumption | refine Bel.drew ?_ | refine Bel.drewN ?_ _ | refine Bel.alloc ?_ _ | refine Bel.setCell ?_ (by simp <;> omega) _ | refine Bel.step ?_ (by assumption))))⟩
set_option maxHeartbeats 8000000 in
theorem stay_any (f0 f1 f2 : Nat) (n : Int) (a : Option Addr) (cn cc : Nat) (d : Bool) (la : Option Addr) (lc : Nat) (now : Int) (l : List Arv) (x : Arv) (w : World) (hl : CelsAt w la l) (hlen : 0 < l.length) (hll : l.length ≤ 200) (ht0 : 0 ≤ (aAt l 0).time) (h0 : (aAt l 0).time ≤ x.time) (h1 : x.time ≤ 1099511627776) (hn : 1 ≤ n) (hn2 : n ≤ 1099511627776) :
    Calls Tryd.prog 52 #[vvV f0 f1 f2 n a cn cc d la l.length lc now, arV x] w fun e w' => e = .returned (.tuple #[.int .i64 (bgI (aAt l 0).time n x), .int .i64 (bgI (aAt l 0).time n x + n)]) ∧ Below w.heap.size w w' := by
  obtain ⟨b, off, rfl, hc⟩ : ∃ b off, la = some ⟨b, off, none⟩ ∧ ∀ i, i < l.length → w.cell? ⟨b, off + i * 3, none⟩ = some (.int .i64 (aAt l i).seq) ∧ w.cell? ⟨b, off + i * 3 + 1, none⟩ = some (.int .i64 (aAt l i).time) ∧ w.cell? ⟨b, off + i * 3 + 2, none⟩ = some (.slice (aAt l i).a (aAt l i).row.length (aAt l i).cap) := by
    rcases hl with h | h
    · rw [h] at hlen; cases hlen
    · exact h
  obtain ⟨r1, r2, r3⟩ := bg_rng h0 hn
  have c1 := (hc 0 hlen).2.1
  simp only [Nat.zero_mul, Nat.add_zero] at c1
  unfold bgI
  generalize (aAt l 0).time = t at *
  have hP : ((x.time - t).tdiv n + 1) * n = (x.time - t).tdiv n * n + n := by rw [Int.add_mul, Int.one_mul]
  clear hc hl
  unfold vvV arV
  go_enter Tryd.func52, Tryd.ntmps52
  go_upto_region 1 with (fail)
  have hb1 : Below w.heap.size w ((w.alloc (Obj.cells #[.func (.func f0) #[] #[], .func (.func f1) #[] #[], .func (.func f2) #[] #[], .int .i64 n, .slice a cn cc, .bool d, .slice (some ⟨b, off, none⟩) l.length lc, .int .i64 now] 64)).alloc (Obj.cells #[.int .i64 x.seq, .int .i64 x.time, .slice x.a x.row.length x.cap] 40)) := ((Below.refl w.heap.size w).alloc (Nat.le_refl _) _).alloc (by simp) _
  have y3 : World.cell? ((w.alloc (Obj.cells #[.func (.func f0) #[] #[], .func (.func f1) #[] #[], .func (.func f2) #[] #[], .int .i64 n, .slice a cn cc, .bool d, .slice (some ⟨b, off, none⟩) l.length lc, .int .i64 now] 64)).alloc (Obj.cells #[.int .i64 x.seq, .int .i64 x.time, .slice x.a x.row.length x.cap] 40)) ⟨w.heap.size, 3, none⟩ = some (.int .i64 n) := by go_simp
  have y6 : World.cell? ((w.alloc (Obj.cells #[.func (.func f0) #[] #[], .func (.func f1) #[] #[], .func (.func f2) #[] #[], .int .i64 n, .slice a cn cc, .bool d, .slice (some ⟨b, off, none⟩) l.length lc, .int .i64 now] 64)).alloc (Obj.cells #[.int .i64 x.seq, .int .i64 x.time, .slice x.a x.row.length x.cap] 40)) ⟨w.heap.size, 6, none⟩ = some (.slice (some ⟨b, off, none⟩) l.length lc) := by go_simp
  have x1 : World.cell? ((w.alloc (Obj.cells #[.func (.func f0) #[] #[], .func (.func f1) #[] #[], .func (.func f2) #[] #[], .int .i64 n, .slice a cn cc, .bool d, .slice (some ⟨b, off, none⟩) l.length lc, .int .i64 now] 64)).alloc (Obj.cells #[.int .i64 x.seq, .int .i64 x.time, .slice x.a x.row.length x.cap] 40)) ⟨w.heap.size + 1, 1, none⟩ = some (.int .i64 x.time) := by go_simp
  have d1 := cell_below hb1 c1
  obtain ⟨X, hX⟩ : ∃ X, w.heap.size = X := ⟨_, rfl⟩
  have HB1 : Hid _ := hb1
  rw [hX] at y3 y6 x1 ⊢
  clear hX c1
  generalize ((w.alloc (Obj.cells #[.func (.func f0) #[] #[], .func (.func f1) #[] #[], .func (.func f2) #[] #[], .int .i64 n, .slice a cn cc, .bool d, .slice (some ⟨b, off, none⟩) l.length lc, .int .i64 now] 64)).alloc (Obj.cells #[.int .i64 x.seq, .int .i64 x.time, .slice x.a x.row.length x.cap] 40)) = w1 at *
  generalize hq : (x.time - t).tdiv n = q at *
  have hqn : 0 ≤ q * n := Int.mul_nonneg r1 (by omega)
  have hqb : q ≤ 1099511627776 := by
    have h1 : q * 1 ≤ q * n := Int.mul_le_mul_of_nonneg_left hn r1
    omega
  obtain ⟨p, hp⟩ : ∃ p, q * n = p := ⟨_, rfl⟩
  rw [hp] at r2 r3 hqn hP
  have hn0 : n ≠ 0 := by omega
  have hwr0 : IntKind.i64.wrap (t + (p + n) + n) = t + (p + n) + n := by rw [IntKind.wrap_i64]; omega
  go_upto_region 4 with (fail)
  refine wp_region_held_drew (S := (fun wS => Bel w1.heap.size w1 wS)) (by kernel_rfl) ?_ (fun hHeld => ?_)
  · (try dsimp only); exact (Bel.refl _).drew
  refine wpAnyH_take (i := 0) (oi := { dst := some 27, op := Op.move (Operand.tmp 4), type := 3, pos := "kinds.go:125", after := #[], guard := none }) (v := ?_) rfl (by kernel_rfl) (by kernel_rfl) (by kernel_rfl) (fun _ _ _ h => h) (Or.inl ⟨by kernel_rfl, ?_⟩) (by assumption) ?_
  rotate_left
  · intro wS hSw; (try dsimp only at hSw); go_simp; (try with_reducible rfl)
  try simp only [Act.put, List.setIfInBounds_toArray, List.set_cons_zero, List.set_cons_succ]
  refine wpAnyH_take (i := 1) (oi := { dst := some 28, op := Op.move (Operand.tmp 4), type := 3, pos := "kinds.go:125", after := #[], guard := none }) (v := ?_) rfl (by kernel_rfl) (by kernel_rfl) (by kernel_rfl) (fun _ _ _ h => h) (Or.inl ⟨by kernel_rfl, ?_⟩) (by assumption) ?_
  rotate_left
  · intro wS hSw; (try dsimp only at hSw); go_simp; (try with_reducible rfl)
  try simp only [Act.put, List.setIfInBounds_toArray, List.set_cons_zero, List.set_cons_succ]
  refine wpAnyH_take (i := 2) (oi := { dst := some 29, op := Op.fieldAddr 64 (Operand.tmp 2) 1, type := 0, pos := "kinds.go:125", after := #[], guard := none }) (v := ?_) rfl (by kernel_rfl) (by kernel_rfl) (by kernel_rfl) (fun _ _ _ h => h) (Or.inl ⟨by kernel_rfl, ?_⟩) (by assumption) ?_
  rotate_left
  · intro wS hSw; (try dsimp only at hSw); go_simp; (try with_reducible rfl)
  try simp only [Act.put, List.setIfInBounds_toArray, List.set_cons_zero, List.set_cons_succ]
  refine wpAnyH_take (i := 3) (oi := { dst := some 30, op := Op.load 3 (Operand.tmp 29), type := 3, pos := "kinds.go:125", after := #[{ on := 2, ground := Ground.data }], guard := none }) (v := ?_) rfl (by kernel_rfl) (by kernel_rfl) (by kernel_rfl) (fun _ _ _ h => h) (Or.inl ⟨by kernel_rfl, ?_⟩) (by assumption) ?_
  rotate_left
  · intro wS hSw; (try dsimp only at hSw); have c3 := cell_below hSw.out y3; go_simp; (try with_reducible rfl)
  try simp only [Act.put, List.setIfInBounds_toArray, List.set_cons_zero, List.set_cons_succ]
  refine wpAnyH_take (i := 4) (oi := { dst := some 31, op := Op.binOp BinOp.add 3 (Operand.tmp 28) (Operand.tmp 30) 3, type := 3, pos := "kinds.go:125", after := #[{ on := 1, ground := Ground.data }, { on := 3, ground := Ground.data }], guard := none }) (v := ?_) rfl (by kernel_rfl) (by kernel_rfl) (by kernel_rfl) (fun _ _ _ h => h) (Or.inl ⟨by kernel_rfl, ?_⟩) (by assumption) ?_
  rotate_left
  · intro wS hSw; (try dsimp only at hSw); have hwr := hwr0; go_simp; (try with_reducible rfl)
  try simp only [Act.put, List.setIfInBounds_toArray, List.set_cons_zero, List.set_cons_succ]
  refine wpAnyH_take (i := 5) (oi := { dst := some 4, op := Op.assign (Operand.tmp 27), type := 3, pos := "kinds.go:125", after := #[{ on := 0, ground := Ground.data }, { on := 0, ground := Ground.phase }, { on := 1, ground := Ground.phase }, { on := 2, ground := Ground.textOnly Departure.lateStores }, { on := 3, ground := Ground.textOnly Departure.lateStores }, { on := 4, ground := Ground.textOnly Departure.lateStoresUnsure }], guard := none }) (v := ?_) rfl (by kernel_rfl) (by kernel_rfl) (by kernel_rfl) (fun _ _ _ h => h) (Or.inl ⟨by kernel_rfl, ?_⟩) (by assumption) ?_
  rotate_left
  · intro wS hSw; (try dsimp only at hSw); go_simp; (try with_reducible rfl)
  try simp only [Act.put, List.setIfInBounds_toArray, List.set_cons_zero, List.set_cons_succ]
  refine wpAnyH_take (i := 6) (oi := { dst := some 5, op := Op.assign (Operand.tmp 31), type := 3, pos := "kinds.go:125", after := #[{ on := 4, ground := Ground.data }, { on := 5, ground := Ground.chain }, { on := 0, ground := Ground.phase }, { on := 1, ground := Ground.phase }, { on := 2, ground := Ground.phase }, { on := 3, ground := Ground.phase }, { on := 4, ground := Ground.phase }, { on := 5, ground := Ground.phase }], guard := none }) (v := ?_) rfl (by kernel_rfl) (by kernel_rfl) (by kernel_rfl) (fun _ _ _ h => h) (Or.inl ⟨by kernel_rfl, ?_⟩) (by assumption) ?_
  rotate_left
  · intro wS hSw; (try dsimp only at hSw); go_simp; (try with_reducible rfl)
  try simp only [Act.put, List.setIfInBounds_toArray, List.set_cons_zero, List.set_cons_succ]
  refine wpAnyH_done (by kernel_rfl) ?_ _
  go_wp2
  go_ret2
  exact ⟨by rw [hq, hP]; rfl, (Bel.out (by repeat (first | exact Bel.refl _ | assumption | refine Bel.drew ?_ | refine Bel.drewN ?_ _ | refine Bel.alloc ?_ _ | refine Bel.setCell ?_ (by simp <;> omega) _ | refine Bel.step ?_ (by assumption))))⟩
set_option maxRecDepth 20000 in
set_option maxHeartbeats 8000000 in
theorem leaving_any (f0 f1 f2 : Nat) (n : Int) (a : Option Addr) (cn cc : Nat) (d : Bool) (la : Option Addr) (lc : Nat) (now : Int) (l : List Arv) (w : World) (hl : CelsAt w la l) (hll : l.length ≤ 200) (ht : Tms l) (hn : 1 ≤ n) (hn2 : n ≤ 1099511627776) :
    Calls Tryd.prog 37 #[vvV f0 f1 f2 n a cn cc d la l.length lc now] w fun e w' => e = .returned (oT (lvP n now (l))) ∧ Below w.heap.size w w' := by
  have HL : Hid (CelsAt w la l) := hl
  have HT : Hid (Tms l) := ht
  clear hl ht
  unfold vvV
  go_enter Tryd.func37, Tryd.ntmps37
  go_upto_region 1 with (fail)
  have hb1 : Below w.heap.size w (w.alloc (Obj.cells #[.func (.func f0) #[] #[], .func (.func f1) #[] #[], .func (.func f2) #[] #[], .int .i64 n, .slice a cn cc, .bool d, .slice la l.length lc, .int .i64 now] 64)) := (Below.refl w.heap.size w).alloc (Nat.le_refl _) _
  have ys : ∀ i v, #[Value.func (.func f0) #[] #[], .func (.func f1) #[] #[], .func (.func f2) #[] #[], .int .i64 n, .slice a cn cc, .bool d, .slice la l.length lc, .int .i64 now][i]? = some v → (w.alloc (Obj.cells #[.func (.func f0) #[] #[], .func (.func f1) #[] #[], .func (.func f2) #[] #[], .int .i64 n, .slice a cn cc, .bool d, .slice la l.length lc, .int .i64 now] 64)).cell? ⟨w.heap.size, i, none⟩ = some v := fun i v h => (World.cell?_alloc_mark w _ 64 (0, 0) i).trans h
  obtain ⟨X, hX⟩ : ∃ X, w.heap.size = X := ⟨_, rfl⟩
  have HB1 : Hid _ := hb1
  have HC1 : Hid (CelsAt (w.alloc (Obj.cells #[.func (.func f0) #[] #[], .func (.func f1) #[] #[], .func (.func f2) #[] #[], .int .i64 n, .slice a cn cc, .bool d, .slice la l.length lc, .int .i64 now] 64)) la l) := HL.out.below hb1
  rw [hX] at ys ⊢
  clear hX HL hb1
  generalize (w.alloc (Obj.cells #[.func (.func f0) #[] #[], .func (.func f1) #[] #[], .func (.func f2) #[] #[], .int .i64 n, .slice a cn cc, .bool d, .slice la l.length lc, .int .i64 now] 64)) = w1 at *
  have y0 := ys 0 _ rfl
  have y1 := ys 1 _ rfl
  have y2 := ys 2 _ rfl
  have y3 := ys 3 _ rfl
  have y4 := ys 4 _ rfl
  have y5 := ys 5 _ rfl
  have y6 := ys 6 _ rfl
  have y7 := ys 7 _ rfl
  clear ys
  have HY : Hid (w1.cell? ⟨X, 0, none⟩ = some (.func (.func f0) #[] #[]) ∧ w1.cell? ⟨X, 1, none⟩ = some (.func (.func f1) #[] #[]) ∧ w1.cell? ⟨X, 2, none⟩ = some (.func (.func f2) #[] #[]) ∧ w1.cell? ⟨X, 3, none⟩ = some (.int .i64 n) ∧ w1.cell? ⟨X, 4, none⟩ = some (.slice a cn cc) ∧ w1.cell? ⟨X, 5, none⟩ = some (.bool d) ∧ w1.cell? ⟨X, 6, none⟩ = some (.slice la l.length lc) ∧ w1.cell? ⟨X, 7, none⟩ = some (.int .i64 now)) := ⟨y0, y1, y2, y3, y4, y5, y6, y7⟩
  clear y0 y1 y2 y3 y4 y5 y7
  go_wp2
  clear y6
  go_loopw [10] (fun i wr => ∃ m : Nat, m ≤ l.length ∧ i = .int .i64 m ∧ lvP n now (l.drop m) = lvP n now (l) ∧ Bel w1.heap.size w1 wr) (fun i _ => l.length - (intOf i).toNat)
  case atStart => exact ⟨0, Nat.zero_le _, rfl, rfl, Bel.refl _⟩
  case round =>
    obtain ⟨m, hm, rfl, hV, HB⟩ := hrel
    have HV : Hid (lvP n now (l.drop m) = lvP n now (l)) := hV
    clear hV
    have hW := HB.out
    rcases Nat.lt_or_ge m l.length with hlt | hge
    · obtain ⟨b, off, rfl, hc⟩ : ∃ b off, la = some ⟨b, off, none⟩ ∧ ∀ i, i < l.length → w1.cell? ⟨b, off + i * 3, none⟩ = some (.int .i64 (aAt l i).seq) ∧ w1.cell? ⟨b, off + i * 3 + 1, none⟩ = some (.int .i64 (aAt l i).time) ∧ w1.cell? ⟨b, off + i * 3 + 2, none⟩ = some (.slice (aAt l i).a (aAt l i).row.length (aAt l i).cap) := by
        rcases HC1.out with h | h
        · rw [h] at hlt; cases hlt
        · exact h
      have c0 := cell_below hW (hc m hlt).1
      have c1 := cell_below hW (hc m hlt).2.1
      have c2 := cell_below hW (hc m hlt).2.2
      clear hc
      have hd := aAt_drop hlt
      obtain ⟨t1, t2, t3⟩ := HT.out _ (aAt_mem hlt)

      generalize aAt l m = x at *
      go_upto_region 4 with (fail)
      obtain ⟨y0, y1, y2, y3, y4, y5, y6, y7⟩ := HY.out
      have hb2 : Below wr.heap.size wr (wr.alloc (Obj.cells #[.int .i64 x.seq, .int .i64 x.time, .slice x.a x.row.length x.cap] 40)) := (Below.refl _ _).alloc (Nat.le_refl _) _
      have hB2 : Bel w1.heap.size w1 (wr.alloc (Obj.cells #[.int .i64 x.seq, .int .i64 x.time, .slice x.a x.row.length x.cap] 40)) := HB.alloc _
      have x0 : (wr.alloc (Obj.cells #[.int .i64 x.seq, .int .i64 x.time, .slice x.a x.row.length x.cap] 40)).cell? ⟨wr.heap.size, 0, none⟩ = some (.int .i64 x.seq) := by go_simp
      have x1 : (wr.alloc (Obj.cells #[.int .i64 x.seq, .int .i64 x.time, .slice x.a x.row.length x.cap] 40)).cell? ⟨wr.heap.size, 1, none⟩ = some (.int .i64 x.time) := by go_simp
      have x2 : (wr.alloc (Obj.cells #[.int .i64 x.seq, .int .i64 x.time, .slice x.a x.row.length x.cap] 40)).cell? ⟨wr.heap.size, 2, none⟩ = some (.slice x.a x.row.length x.cap) := by go_simp
      obtain ⟨Z, hZ⟩ : ∃ Z, wr.heap.size = Z := ⟨_, rfl⟩
      rw [hZ] at x0 x1 x2 ⊢
      clear hZ hb2 c0 c1 c2
      generalize (wr.alloc (Obj.cells #[.int .i64 x.seq, .int .i64 x.time, .slice x.a x.row.length x.cap] 40)) = w2 at *
      have z0 := cell_below hB2.out y0
      have z1 := cell_below hB2.out y1
      have z2 := cell_below hB2.out y2
      have z3 := cell_below hB2.out y3
      have z4 := cell_below hB2.out y4
      have z5 := cell_below hB2.out y5
      have z6 := cell_below hB2.out y6
      have z7 := cell_below hB2.out y7
      clear y0 y1 y2 y3 y4 y5 y6 y7
      have hcl := fun wx => leaves_any f0 f1 f2 n a cn cc d (some ⟨b, off, none⟩) l.length lc now x wx t1 t2 hn hn2
      unfold vvV arV at hcl
      go_wp2_with fail
      refine (hcl _).mono ?_
      rintro e w3 ⟨rfl, hb3⟩
      have q7 := cell_below hb3 z7
      have hB3 : Bel w1.heap.size w1 w3 := hB2.step hb3
      clear z0 z1 z2 z3 z4 z5 z6 z7 x0 x1 x2 hcl hb3
      have HBF : Hid (Below w.heap.size w w3) := HB1.out.trans (hB3.out.mono HB1.out.size)
      by_cases h1 : x.time + n > now
      · have HN : Hid (oT (some (x.time + n)) = oT (lvP n now l)) := by
          show _ = _
          rw [← HV.out, hd]; unfold lvP; rw [if_pos h1]
        clear hd HV
        go_wp2
        go_ret2
        exact ⟨congrArg Ending.returned HN.out, HBF.out⟩
      · have HN : Hid (lvP n now (l.drop (m + 1)) = lvP n now l) := by
          show _ = _
          rw [← HV.out, hd, lvP, if_neg h1]
        clear hd HV
        go_wp2
        go_roundw
        case rel => exact ⟨m + 1, by omega, by go_num, HN.out, hB3⟩
        case measure => simp [intOf]; omega
    · obtain rfl : m = l.length := by omega
      have HN : Hid (oT none = oT (lvP n now (l))) := by
        show _ = _
        rw [← HV.out, List.drop_length]; rfl
      have HBF : Hid (Below w.heap.size w wr) := HB1.out.trans (HB.out.mono HB1.out.size)
      clear HC1 HT HY
      go_wp2
      go_ret2
      exact ⟨congrArg Ending.returned HN.out, HBF.out⟩
set_option maxRecDepth 20000 in
set_option maxHeartbeats 8000000 in
theorem batching_any (f0 f1 f2 : Nat) (n : Int) (a : Option Addr) (cn cc : Nat) (d : Bool) (la : Option Addr) (lc : Nat) (now : Int) (l : List Arv) (w : World) (hl : CelsAt w la l) (hll : l.length ≤ 200) (ht : Tms l) (hn : 1 ≤ n) (hn2 : n ≤ 1099511627776) :
    Calls Tryd.prog 40 #[vvV f0 f1 f2 n a cn cc d la l.length lc now] w fun e w' => e = .returned (oT (btP (aAt l 0).time n now (l))) ∧ Below w.heap.size w w' := by
  have HL : Hid (CelsAt w la l) := hl
  have HT : Hid (Tms l) := ht
  clear hl ht
  unfold vvV
  go_enter Tryd.func40, Tryd.ntmps40
  go_upto_region 1 with (fail)
  have hb1 : Below w.heap.size w (w.alloc (Obj.cells #[.func (.func f0) #[] #[], .func (.func f1) #[] #[], .func (.func f2) #[] #[], .int .i64 n, .slice a cn cc, .bool d, .slice la l.length lc, .int .i64 now] 64)) := (Below.refl w.heap.size w).alloc (Nat.le_refl _) _
  have ys : ∀ i v, #[Value.func (.func f0) #[] #[], .func (.func f1) #[] #[], .func (.func f2) #[] #[], .int .i64 n, .slice a cn cc, .bool d, .slice la l.length lc, .int .i64 now][i]? = some v → (w.alloc (Obj.cells #[.func (.func f0) #[] #[], .func (.func f1) #[] #[], .func (.func f2) #[] #[], .int .i64 n, .slice a cn cc, .bool d, .slice la l.length lc, .int .i64 now] 64)).cell? ⟨w.heap.size, i, none⟩ = some v := fun i v h => (World.cell?_alloc_mark w _ 64 (0, 0) i).trans h
  obtain ⟨X, hX⟩ : ∃ X, w.heap.size = X := ⟨_, rfl⟩
  have HB1 : Hid _ := hb1
  have HC1 : Hid (CelsAt (w.alloc (Obj.cells #[.func (.func f0) #[] #[], .func (.func f1) #[] #[], .func (.func f2) #[] #[], .int .i64 n, .slice a cn cc, .bool d, .slice la l.length lc, .int .i64 now] 64)) la l) := HL.out.below hb1
  rw [hX] at ys ⊢
  clear hX HL hb1
  generalize (w.alloc (Obj.cells #[.func (.func f0) #[] #[], .func (.func f1) #[] #[], .func (.func f2) #[] #[], .int .i64 n, .slice a cn cc, .bool d, .slice la l.length lc, .int .i64 now] 64)) = w1 at *
  have y0 := ys 0 _ rfl
  have y1 := ys 1 _ rfl
  have y2 := ys 2 _ rfl
  have y3 := ys 3 _ rfl
  have y4 := ys 4 _ rfl
  have y5 := ys 5 _ rfl
  have y6 := ys 6 _ rfl
  have y7 := ys 7 _ rfl
  clear ys
  have HY : Hid (w1.cell? ⟨X, 0, none⟩ = some (.func (.func f0) #[] #[]) ∧ w1.cell? ⟨X, 1, none⟩ = some (.func (.func f1) #[] #[]) ∧ w1.cell? ⟨X, 2, none⟩ = some (.func (.func f2) #[] #[]) ∧ w1.cell? ⟨X, 3, none⟩ = some (.int .i64 n) ∧ w1.cell? ⟨X, 4, none⟩ = some (.slice a cn cc) ∧ w1.cell? ⟨X, 5, none⟩ = some (.bool d) ∧ w1.cell? ⟨X, 6, none⟩ = some (.slice la l.length lc) ∧ w1.cell? ⟨X, 7, none⟩ = some (.int .i64 now)) := ⟨y0, y1, y2, y3, y4, y5, y6, y7⟩
  clear y0 y1 y2 y3 y4 y5 y7
  go_wp2
  clear y6
  go_loopw [11] (fun i wr => ∃ m : Nat, m ≤ l.length ∧ i = .int .i64 m ∧ btP (aAt l 0).time n now (l.drop m) = btP (aAt l 0).time n now (l) ∧ Bel w1.heap.size w1 wr) (fun i _ => l.length - (intOf i).toNat)
  case atStart => exact ⟨0, Nat.zero_le _, rfl, rfl, Bel.refl _⟩
  case round =>
    obtain ⟨m, hm, rfl, hV, HB⟩ := hrel
    have HV : Hid (btP (aAt l 0).time n now (l.drop m) = btP (aAt l 0).time n now (l)) := hV
    clear hV
    have hW := HB.out
    rcases Nat.lt_or_ge m l.length with hlt | hge
    · obtain ⟨b, off, rfl, hc⟩ : ∃ b off, la = some ⟨b, off, none⟩ ∧ ∀ i, i < l.length → w1.cell? ⟨b, off + i * 3, none⟩ = some (.int .i64 (aAt l i).seq) ∧ w1.cell? ⟨b, off + i * 3 + 1, none⟩ = some (.int .i64 (aAt l i).time) ∧ w1.cell? ⟨b, off + i * 3 + 2, none⟩ = some (.slice (aAt l i).a (aAt l i).row.length (aAt l i).cap) := by
        rcases HC1.out with h | h
        · rw [h] at hlt; cases hlt
        · exact h
      have c0 := cell_below hW (hc m hlt).1
      have c1 := cell_below hW (hc m hlt).2.1
      have c2 := cell_below hW (hc m hlt).2.2
      clear hc
      have hd := aAt_drop hlt
      obtain ⟨t1, t2, t3⟩ := HT.out _ (aAt_mem hlt)
      have hst := fun wx (hb : Below w1.heap.size w1 wx) => stay_any f0 f1 f2 n a cn cc d (some ⟨b, off, none⟩) lc now l (aAt l m) wx (HC1.out.below hb) (by omega) hll (HT.out _ (aAt_mem (by omega : 0 < l.length))).1 t3 t2 hn hn2
      generalize aAt l m = x at *
      go_upto_region 4 with (fail)
      obtain ⟨y0, y1, y2, y3, y4, y5, y6, y7⟩ := HY.out
      have hb2 : Below wr.heap.size wr (wr.alloc (Obj.cells #[.int .i64 x.seq, .int .i64 x.time, .slice x.a x.row.length x.cap] 40)) := (Below.refl _ _).alloc (Nat.le_refl _) _
      have hB2 : Bel w1.heap.size w1 (wr.alloc (Obj.cells #[.int .i64 x.seq, .int .i64 x.time, .slice x.a x.row.length x.cap] 40)) := HB.alloc _
      have x0 : (wr.alloc (Obj.cells #[.int .i64 x.seq, .int .i64 x.time, .slice x.a x.row.length x.cap] 40)).cell? ⟨wr.heap.size, 0, none⟩ = some (.int .i64 x.seq) := by go_simp
      have x1 : (wr.alloc (Obj.cells #[.int .i64 x.seq, .int .i64 x.time, .slice x.a x.row.length x.cap] 40)).cell? ⟨wr.heap.size, 1, none⟩ = some (.int .i64 x.time) := by go_simp
      have x2 : (wr.alloc (Obj.cells #[.int .i64 x.seq, .int .i64 x.time, .slice x.a x.row.length x.cap] 40)).cell? ⟨wr.heap.size, 2, none⟩ = some (.slice x.a x.row.length x.cap) := by go_simp
      obtain ⟨Z, hZ⟩ : ∃ Z, wr.heap.size = Z := ⟨_, rfl⟩
      rw [hZ] at x0 x1 x2 ⊢
      clear hZ hb2 c0 c1 c2
      generalize (wr.alloc (Obj.cells #[.int .i64 x.seq, .int .i64 x.time, .slice x.a x.row.length x.cap] 40)) = w2 at *
      have z0 := cell_below hB2.out y0
      have z1 := cell_below hB2.out y1
      have z2 := cell_below hB2.out y2
      have z3 := cell_below hB2.out y3
      have z4 := cell_below hB2.out y4
      have z5 := cell_below hB2.out y5
      have z6 := cell_below hB2.out y6
      have z7 := cell_below hB2.out y7
      clear y0 y1 y2 y3 y4 y5 y6 y7
      have hcl := hst w2 hB2.out
      unfold vvV arV at hcl
      go_wp2_with fail
      refine hcl.mono ?_
      rintro e w3 ⟨rfl, hb3⟩
      have q7 := cell_below hb3 z7
      have hB3 : Bel w1.heap.size w1 w3 := hB2.step hb3
      clear z0 z1 z2 z3 z4 z5 z6 z7 x0 x1 x2 hcl hb3
      have HBF : Hid (Below w.heap.size w w3) := HB1.out.trans (hB3.out.mono HB1.out.size)
      clear hst
      obtain ⟨g, hg⟩ : ∃ g, bgI (aAt l 0).time n x = g := ⟨_, rfl⟩
      rw [hg]
      by_cases h1 : g > now
      · have HN : Hid (oT (some g) = oT (btP (aAt l 0).time n now l)) := by
          show _ = _
          rw [← HV.out, hd]; unfold btP; rw [hg, if_pos h1]
        clear hd HV hg
        go_wp2
        go_ret2
        exact ⟨congrArg Ending.returned HN.out, HBF.out⟩
      · by_cases h2 : g + n > now
        · have HN : Hid (oT (some (g + n)) = oT (btP (aAt l 0).time n now l)) := by
            show _ = _
            rw [← HV.out, hd]; unfold btP; rw [hg, if_neg h1, if_pos h2]
          clear hd HV hg
          go_wp2
          go_ret2
          exact ⟨congrArg Ending.returned HN.out, HBF.out⟩
        · have HN : Hid (btP (aAt l 0).time n now (l.drop (m + 1)) = btP (aAt l 0).time n now l) := by
            show _ = _
            rw [← HV.out, hd, btP, hg, if_neg h1, if_neg h2]
          clear hd HV hg
          go_wp2
          go_roundw
          case rel => exact ⟨m + 1, by omega, by go_num, HN.out, hB3⟩
          case measure => simp [intOf]; omega
    · obtain rfl : m = l.length := by omega
      have HN : Hid (oT none = oT (btP (aAt l 0).time n now (l))) := by
        show _ = _
        rw [← HV.out, List.drop_length]; rfl
      have HBF : Hid (Below w.heap.size w wr) := HB1.out.trans (HB.out.mono HB1.out.size)
      clear HC1 HT HY
      go_wp2
      go_ret2
      exact ⟨congrArg Ending.returned HN.out, HBF.out⟩
end Go.Proofs.YtfjpdflilmcnhaaDoor
