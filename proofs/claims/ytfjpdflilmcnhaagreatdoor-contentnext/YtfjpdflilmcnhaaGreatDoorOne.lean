/- The document: the lesser border, the same arrivals, what a batch of time holds. -/
import Derived.Test.YtfjpdflilmcnhaaGreatDoorTrn
import Derived.Test.YtfjpdflilmcnhaaGreatDoorRcw
import Derived.Test.YtfjpdflilmcnhaaGreatDoorSee
import Derived.Test.YtfjpdflilmcnhaaGreatDoorFit
namespace Go.Proofs.YtfjpdflilmcnhaaGreatDoor
open Go.ChangeShapes Go.WideShapes Go.ChangeAt Go.RowKit

def lsP (best at' now : Int) : Int := if at' > now ∧ (best < 0 ∨ at' < best) then at' else best
set_option maxHeartbeats 8000000 in
theorem rleast_any (best t now : Int) (w : World) :
    Calls Tryz.prog 27 #[.int .i64 best, .int .i64 t, .int .i64 now] w fun e w' => e = .returned (.int .i64 (lsP best t now)) ∧ Below w.heap.size w w' := by
  obtain ⟨r, hr⟩ : ∃ r, lsP best t now = r := ⟨_, rfl⟩
  have HR : Hid (lsP best t now = r) := hr
  rw [hr]
  clear hr
  go_enter Tryz.func27, Tryz.ntmps27
  by_cases h1 : t > now
  · by_cases h2 : best < 0
    · have HE : Hid (r = t) := by rw [← HR.out]; exact if_pos ⟨h1, Or.inl h2⟩
      go_wp2
      go_ret
      exact ⟨ret_int HE.out.symm, Below.refl _ _⟩
    · by_cases h3 : t < best
      · have HE : Hid (r = t) := by rw [← HR.out]; exact if_pos ⟨h1, Or.inr h3⟩
        go_wp2
        go_ret
        exact ⟨ret_int HE.out.symm, Below.refl _ _⟩
      · have HE : Hid (r = best) := by rw [← HR.out]; exact if_neg (fun h => h.2.elim h2 h3)
        go_wp2
        go_ret
        exact ⟨ret_int HE.out.symm, Below.refl _ _⟩
  · have HE : Hid (r = best) := by rw [← HR.out]; exact if_neg (fun h => h1 h.1)
    go_wp2
    go_ret
    exact ⟨ret_int HE.out.symm, Below.refl _ _⟩
theorem CelsAt.opn {w : World} {a : Option Addr} {l : List Arv} (h : CelsAt w a l) (h0 : 0 < l.length) : ∃ b off, a = some ⟨b, off, none⟩ ∧ ∀ i, i < l.length → w.cell? ⟨b, off + i * 3, none⟩ = some (.int .i64 (aAt l i).seq) ∧ w.cell? ⟨b, off + i * 3 + 1, none⟩ = some (.int .i64 (aAt l i).time) ∧ w.cell? ⟨b, off + i * 3 + 2, none⟩ = some (.slice (aAt l i).a (aAt l i).row.length (aAt l i).cap) := by
  rcases h with h | h
  · rw [h] at h0; cases h0
  · exact h
theorem aAt_get {l : List Arv} {i : Nat} (h : i < l.length) : aAt l i = l[i] := by
  unfold aAt
  simp [List.getD, List.getElem?_eq_getElem h]
theorem seqs_eq {k l : List Arv} (hn : k.length = l.length) (h : ∀ j, j < k.length → (aAt k j).seq = (aAt l j).seq) : k.map Arv.seq = l.map Arv.seq := by
  refine List.ext_getElem (by simpa using hn) fun i h1 h2 => ?_
  have h1' : i < k.length := by simpa using h1
  have := h i h1'
  rw [aAt_get h1', aAt_get (by omega)] at this
  simpa using this
theorem seqs_ne {k l : List Arv} {j : Nat} (hk : j < k.length) (hl : j < l.length) (h : (aAt k j).seq ≠ (aAt l j).seq) : k.map Arv.seq ≠ l.map Arv.seq := by
  intro he
  apply h
  have := congrArg (fun q => q[j]?) he
  simp only [List.getElem?_map, List.getElem?_eq_getElem hk, List.getElem?_eq_getElem hl, Option.map_some, Option.some.injEq] at this
  rw [aAt_get hk, aAt_get hl, this]
set_option maxRecDepth 20000 in
set_option maxHeartbeats 8000000 in
theorem rsame_any (a b : Option Addr) (ca cb : Nat) (k l : List Arv) (w : World) (hlen : k.length ≤ 9223372036854775807) (hk : CelsAt w a k) (hl : CelsAt w b l) :
    Calls Tryz.prog 34 #[.slice a k.length ca, .slice b l.length cb] w fun e w' => e = .returned (.bool (decide (k.map Arv.seq = l.map Arv.seq))) ∧ Below w.heap.size w w' := by
  go_enter Tryz.func34, Tryz.ntmps34
  by_cases hne : k.length = l.length
  · have h0 : (((k.length : Nat) : Int) == (l.length : Int)) = true := by rw [hne]; simp
    have h0' : ((k.length : Nat) : Int) = (l.length : Int) := by rw [hne]
    go_wp2
    go_loopw [5] (fun i wr => ∃ m : Nat, m ≤ k.length ∧ i = .int .i64 m ∧ (∀ j, j < m → (aAt k j).seq = (aAt l j).seq) ∧ Bel w.heap.size w wr) (fun i _ => k.length - (intOf i).toNat)
    case atStart => exact ⟨0, Nat.zero_le _, rfl, fun j hj => by omega, Bel.refl _⟩
    case round =>
      obtain ⟨m, hm, rfl, hI, HB⟩ := hrel
      rcases Nat.lt_or_ge m k.length with hlt | hge
      · have hlt2 : m < l.length := by omega
        obtain ⟨bk, ok, rfl, hck⟩ := hk.opn (by omega)
        obtain ⟨bl, ol, rfl, hcl⟩ := hl.opn (by omega)
        have c0 := cell_below HB.out (hck m hlt).1
        have d0 := cell_below HB.out (hcl m (by omega)).1
        generalize hx : (aAt k m).seq = x at c0
        generalize hy : (aAt l m).seq = y at d0
        have HI : Hid (∀ j, j < m → (aAt k j).seq = (aAt l j).seq) := hI
        have HX : Hid ((aAt k m).seq = x) := hx
        have HY : Hid ((aAt l m).seq = y) := hy
        clear hck hcl hk hl hI hx hy
        go_upto_region 6 with (fail)
        by_cases hxy : x = y
        · have hxy' : (x == y) = true := by simp [hxy]
          go_quiet (fail)
          go_wp2
          go_roundw
          case rel =>
            refine ⟨m + 1, by omega, by go_num, fun j hj => ?_, (by repeat (first | exact Bel.refl _ | assumption | refine Bel.drew ?_ | refine Bel.drewN ?_ _ | refine Bel.alloc ?_ _ | refine Bel.setCell ?_ (by simp <;> omega) _ | refine Bel.step ?_ (by assumption)))⟩
            rcases Nat.lt_or_ge j m with h | h
            · exact HI.out j h
            · obtain rfl : j = m := by omega
              rw [HX.out, HY.out, hxy]
          case measure => simp [intOf]; omega
        · have hxy' : (x == y) = false := by simp [hxy]
          go_quiet (fail)
          go_wp2
          go_ret
          exact ⟨ret_bool (by rw [decide_eq_false (seqs_ne hlt hlt2 (by rw [HX.out, HY.out]; exact hxy))]), (Bel.out (by repeat (first | exact Bel.refl _ | assumption | refine Bel.drew ?_ | refine Bel.drewN ?_ _ | refine Bel.alloc ?_ _ | refine Bel.setCell ?_ (by simp <;> omega) _ | refine Bel.step ?_ (by assumption))))⟩
      · obtain rfl : m = k.length := by omega
        have HI : Hid (∀ j, j < k.length → (aAt k j).seq = (aAt l j).seq) := hI
        clear hk hl hI
        go_wp2
        go_ret
        exact ⟨ret_bool (by rw [decide_eq_true (seqs_eq hne HI.out)]), (Bel.out (by repeat (first | exact Bel.refl _ | assumption | refine Bel.drew ?_ | refine Bel.drewN ?_ _ | refine Bel.alloc ?_ _ | refine Bel.setCell ?_ (by simp <;> omega) _ | refine Bel.step ?_ (by assumption))))⟩
  · have h0 : (((k.length : Nat) : Int) == (l.length : Int)) = false := by simp; omega
    go_wp2
    go_ret
    refine ⟨ret_bool ?_, (Bel.out (by repeat (first | exact Bel.refl _ | assumption | refine Bel.drew ?_ | refine Bel.drewN ?_ _ | refine Bel.alloc ?_ _ | refine Bel.setCell ?_ (by simp <;> omega) _ | refine Bel.step ?_ (by assumption))))⟩
    rw [decide_eq_false]
    intro he
    exact hne (by simpa using congrArg List.length he)
end Go.Proofs.YtfjpdflilmcnhaaGreatDoor
/- The document: what a batch of time holds. -/
namespace Go.Proofs.YtfjpdflilmcnhaaGreatDoor
open Go.ChangeShapes Go.WideShapes Go.ChangeAt Go.RowKit

def hdP (t n at' : Int) (x : Arv) : Bool := decide (0 < (at' - t).tdiv n) && (decide (t + ((at' - t).tdiv n - 1) * n ≤ x.time) && decide (x.time < t + ((at' - t).tdiv n - 1) * n + n))
theorem at_rng {t n at' : Int} (h0 : t ≤ at') (hn : 1 ≤ n) : 0 ≤ (at' - t).tdiv n ∧ (at' - t).tdiv n * n ≤ at' - t ∧ at' - t < (at' - t).tdiv n * n + n := by
  have := bg_rng (x := ⟨0, at', none, 0, []⟩) h0 hn
  exact this
set_option maxRecDepth 20000 in
set_option maxHeartbeats 8000000 in
theorem rholds_any (n : Int) (a : Option Addr) (zl cap : Nat) (d : Bool) (la : Option Addr) (lc : Nat) (l : List Arv) (p : Nat) (A : Int) (w : World) (hl : CelsAt w la l) (hp : p < l.length) (hll : l.length ≤ 200) (ht : Tms l) (hn : 1 ≤ n) (hn2 : n ≤ 1099511627776) (hA : (aAt l 0).time ≤ A) (hA2 : A ≤ 8796093022208) :
    Calls Tryz.prog 21 #[.agg #[.int .i64 5, .int .i64 n, .slice a zl cap, .bool d], .slice la l.length lc, .int .i64 p, .int .i64 A] w fun e w' => e = .returned (.bool (hdP (aAt l 0).time n A (aAt l p))) ∧ Below w.heap.size w w' := by
  have hx := ht (aAt l p) (by rw [aAt_get hp]; exact List.getElem_mem hp)
  have hz := ht (aAt l 0) (by rw [aAt_get (show 0 < l.length by omega)]; exact List.getElem_mem _)
  obtain ⟨r1, r2, r3⟩ := at_rng hA hn
  obtain ⟨b, off, rfl, hc⟩ := hl.opn (by omega)
  have c0 := (hc 0 (by omega)).2.1
  have cp := (hc p hp).2.1
  simp only [Nat.zero_mul, Nat.add_zero] at c0
  clear hc hl ht
  unfold hdP
  generalize (aAt l 0).time = t at *
  generalize (aAt l p).time = x at *
  generalize l.length = ll at *
  obtain ⟨hx1, hx2, hx3⟩ := hx
  obtain ⟨hz1, hz2, -⟩ := hz
  generalize hq : (A - t).tdiv n = q at *
  have hqn : 0 ≤ q * n := Int.mul_nonneg r1 (by omega)
  have hP : (q - 1) * n = q * n - n := by rw [Int.sub_mul, Int.one_mul]
  obtain ⟨m, hm⟩ : ∃ m, (q - 1) * n = m := ⟨_, rfl⟩
  rw [hm] at hP ⊢
  have hqb : q ≤ 8796093022208 := by
    have h1 : q * 1 ≤ q * n := Int.mul_le_mul_of_nonneg_left hn r1
    omega
  have hn0 : n ≠ 0 := by omega
  obtain ⟨r, hr⟩ : ∃ r, (decide (0 < q) && (decide (t + m ≤ x) && decide (x < t + m + n))) = r := ⟨_, rfl⟩
  have HR : Hid _ := hr
  rw [hr]
  clear hr
  go_enter Tryz.func21, Tryz.ntmps21
  go_upto_region 17 with (fail)
  have hb1 : Below w.heap.size w (w.alloc (Obj.cells #[.int .i64 5, .int .i64 n, .slice a zl cap, .bool d] 32)) := (Below.refl w.heap.size w).alloc (Nat.le_refl _) _
  have y1 : World.cell? (w.alloc (Obj.cells #[.int .i64 5, .int .i64 n, .slice a zl cap, .bool d] 32)) ⟨w.heap.size, 1, none⟩ = some (.int .i64 n) := by go_simp
  have d0 := cell_below hb1 c0
  have dp := cell_below hb1 cp
  have HB1 : Hid _ := hb1
  obtain ⟨X, hX⟩ : ∃ X, w.heap.size = X := ⟨_, rfl⟩
  rw [hX] at y1 ⊢
  clear c0 cp hb1 hX
  generalize (w.alloc (Obj.cells #[.int .i64 5, .int .i64 n, .slice a zl cap, .bool d] 32)) = w1 at *
  obtain ⟨pp, hpp⟩ : ∃ pp, q * n = pp := ⟨_, rfl⟩
  rw [hpp] at r2 r3 hqn hP
  have hm2 : m = pp - n := hP
  have HM : Hid (m = pp - n) := hm2
  obtain ⟨g1, g2⟩ : -1099511627776 ≤ m ∧ m ≤ 8796093022208 := by omega
  clear hpp hP hm2
  go_quiet (fail)
  go_upto_region 18 with (fail)
  go_quiet (fail)
  by_cases hq0 : 0 < q
  · by_cases h2 : t + m ≤ x
    · by_cases h3 : x < t + m + n
      · have HE : Hid (r = true) := by rw [← HR.out]; rw [decide_eq_true hq0, decide_eq_true h2, decide_eq_true h3]; rfl
        go_upto_region 19 with (fail)
        go_quiet (fail)
        go_wp2
        go_ret
        exact ⟨ret_bool HE.out.symm, (Bel.out (by repeat (first | exact Bel.refl _ | assumption | refine Bel.drew ?_ | refine Bel.drewN ?_ _ | refine Bel.alloc ?_ _ | refine Bel.setCell ?_ (by simp <;> omega) _ | refine Bel.step ?_ (by assumption))))⟩
      · have HE : Hid (r = false) := by rw [← HR.out]; rw [decide_eq_true hq0, decide_eq_true h2, decide_eq_false h3]; rfl
        go_upto_region 19 with (fail)
        go_quiet (fail)
        go_wp2
        go_ret
        exact ⟨ret_bool HE.out.symm, (Bel.out (by repeat (first | exact Bel.refl _ | assumption | refine Bel.drew ?_ | refine Bel.drewN ?_ _ | refine Bel.alloc ?_ _ | refine Bel.setCell ?_ (by simp <;> omega) _ | refine Bel.step ?_ (by assumption))))⟩
    · have HE : Hid (r = false) := by rw [← HR.out]; rw [decide_eq_true hq0, decide_eq_false h2]; rfl
      go_upto_region 19 with (fail)
      go_quiet (fail)
      go_wp2
      go_ret
      exact ⟨ret_bool HE.out.symm, (Bel.out (by repeat (first | exact Bel.refl _ | assumption | refine Bel.drew ?_ | refine Bel.drewN ?_ _ | refine Bel.alloc ?_ _ | refine Bel.setCell ?_ (by simp <;> omega) _ | refine Bel.step ?_ (by assumption))))⟩
  · have HE : Hid (r = false) := by rw [← HR.out]; rw [decide_eq_false hq0]; rfl
    go_upto_region 19 with (fail)
    go_quiet (fail)
    go_wp2
    go_ret
    exact ⟨ret_bool HE.out.symm, (Bel.out (by repeat (first | exact Bel.refl _ | assumption | refine Bel.drew ?_ | refine Bel.drewN ?_ _ | refine Bel.alloc ?_ _ | refine Bel.setCell ?_ (by simp <;> omega) _ | refine Bel.step ?_ (by assumption))))⟩
end Go.Proofs.YtfjpdflilmcnhaaGreatDoor
/- The document: one view of batches of time. -/
namespace Go.Proofs.YtfjpdflilmcnhaaGreatDoor
open Go.ChangeShapes Go.WideShapes Go.ChangeAt Go.RowKit

def flP (t n A : Int) (l : List Arv) : List Arv := l.filter (hdP t n A)
theorem take_flP {t n A : Int} {l : List Arv} {m : Nat} (h : m < l.length) : flP t n A (l.take (m + 1)) = if hdP t n A (aAt l m) then flP t n A (l.take m) ++ [aAt l m] else flP t n A (l.take m) := by
  unfold flP
  rw [List.take_add_one, List.getElem?_eq_getElem h, Option.toList_some, List.filter_append, aAt_get h]
  by_cases hd : hdP t n A l[m] = true
  · simp [hd]
  · simp [hd]
set_option maxRecDepth 20000 in
set_option maxHeartbeats 8000000 in
theorem rOne_any (n : Int) (a : Option Addr) (cap : Nat) (d : Bool) (zs : List Int) (la : Option Addr) (lc : Nat) (l : List Arv) (A : Int) (w : World) (hzl : zs.length ≤ 9223372036854775807) (hz : NsAt w a zs) (hl : CelsAt w la l) (hp : 0 < l.length) (hll : l.length ≤ 200) (ht : Tms l) (hm : mayB 5 n zs d ((aAt l 0).row.length : Nat) = true) (hA : (aAt l 0).time ≤ A) (hA2 : A ≤ 8796093022208) :
    Calls Tryz.prog 11 #[.agg #[.int .i64 5, .int .i64 n, .slice a zs.length cap, .bool d], .slice la l.length lc, .int .i64 A] w fun e w' => (∃ a' c', e = .returned (.slice a' (flP (aAt l 0).time n A l).length c') ∧ CelsAt w' a' (flP (aAt l 0).time n A l)) ∧ Below w.heap.size w w' := by
  obtain ⟨hn, hn2⟩ := mayB_n hm (Or.inr (by decide))
  obtain ⟨i0, hi, hz0⟩ := Option.map_eq_some_iff.1 info40
  simp only [Prod.mk.injEq] at hz0
  obtain ⟨hzz, hs, hb3⟩ := hz0
  have hck := fun wx (hb : Below w.heap.size w wx) => rCheck_any 5 n a cap d ((aAt l 0).row.length : Nat) zs wx hzl (hz.below hb)
  rw [hm] at hck
  have hhd := fun (p : Nat) (hp : p < l.length) wx (hb : Below w.heap.size w wx) => rholds_any n a zs.length cap d la lc l p A wx (hl.below hb) hp hll ht hn hn2 hA hA2
  generalize hT : (aAt l 0).time = t at *
  have HHD : Hid _ := hhd
  clear hhd hz
  have HL : Hid (CelsAt w la l) := hl
  obtain ⟨b, off, rfl, hc⟩ := hl.opn hp
  have c2' := (hc 0 hp).2.2
  simp only [Nat.zero_mul, Nat.add_zero] at c2'
  generalize (aAt l 0).row.length = rl at *
  generalize (aAt l 0).a = ra at *
  generalize (aAt l 0).cap = rc at *
  have hl0 : ¬ l.length = 0 := by omega
  have hl1 : (0 < l.length) = True := eq_true hp
  have hl2 : (((l.length : Nat) : Int) == 0) = false := beq_eq_false_iff_ne.2 (by omega)
  clear hc hl
  unfold vwV ckE at hck
  go_enter Tryz.func11, Tryz.ntmps11
  go_upto_region 1 with (fail)
  have hb1 : Below w.heap.size w (w.alloc (Obj.cells #[.int .i64 5, .int .i64 n, .slice a zs.length cap, .bool d] 32)) := (Below.refl w.heap.size w).alloc (Nat.le_refl _) _
  have c2 := cell_below hb1 c2'
  have y0 : World.cell? (w.alloc (Obj.cells #[.int .i64 5, .int .i64 n, .slice a zs.length cap, .bool d] 32)) ⟨w.heap.size, 0, none⟩ = some (.int .i64 5) := by go_simp
  have y1 : World.cell? (w.alloc (Obj.cells #[.int .i64 5, .int .i64 n, .slice a zs.length cap, .bool d] 32)) ⟨w.heap.size, 1, none⟩ = some (.int .i64 n) := by go_simp
  have y2 : World.cell? (w.alloc (Obj.cells #[.int .i64 5, .int .i64 n, .slice a zs.length cap, .bool d] 32)) ⟨w.heap.size, 2, none⟩ = some (.slice a zs.length cap) := by go_simp
  have y3 : World.cell? (w.alloc (Obj.cells #[.int .i64 5, .int .i64 n, .slice a zs.length cap, .bool d] 32)) ⟨w.heap.size, 3, none⟩ = some (.bool d) := by go_simp
  have HB1 : Hid _ := hb1
  obtain ⟨X, hX⟩ : ∃ X, w.heap.size = X := ⟨_, rfl⟩
  rw [hX] at y0 y1 y2 y3 ⊢
  clear hX c2' hb1
  generalize (w.alloc (Obj.cells #[.int .i64 5, .int .i64 n, .slice a zs.length cap, .bool d] 32)) = w1 at *
  refine wp_region_held_drew (S := (fun wS => Bel w1.heap.size w1 wS)) (by kernel_rfl) ?_ (fun hHeld => ?_)
  · (try dsimp only); exact (Bel.refl _).drew
  refine wpAnyH_take (i := 0) (oi := { dst := some 9, op := Op.move (Operand.tmp 1), type := 23, pos := "ref.go:119", after := #[], guard := none }) (v := ?_) rfl (by kernel_rfl) (by kernel_rfl) (by kernel_rfl) (fun _ _ _ h => h) (Or.inl ⟨by kernel_rfl, ?_⟩) (by assumption) ?_
  rotate_left
  · intro wS hSw; (try dsimp only at hSw); go_simp; (try with_reducible rfl)
  try simp only [Act.put, List.setIfInBounds_toArray, List.set_cons_zero, List.set_cons_succ]
  refine wpAnyH_take (i := 1) (oi := { dst := some 10, op := Op.call { callee := Callee.builtin Builtin.len, args := #[Operand.tmp 9], argTypes := #[23] }, type := 3, pos := "ref.go:119", after := #[{ on := 0, ground := Ground.data }], guard := none }) (v := ?_) rfl (by kernel_rfl) (by kernel_rfl) (by kernel_rfl) (fun _ _ _ h => h) (Or.inl ⟨by kernel_rfl, ?_⟩) (by assumption) ?_
  rotate_left
  · intro wS hSw; (try dsimp only at hSw); go_simp; (try with_reducible rfl)
  try simp only [Act.put, List.setIfInBounds_toArray, List.set_cons_zero, List.set_cons_succ]
  refine wpAnyH_take (i := 2) (oi := { dst := some 11, op := Op.binOp BinOp.eql 3 (Operand.tmp 10) (Operand.const (Value.int IntKind.i64 0)) 3, type := 4, pos := "ref.go:119", after := #[{ on := 1, ground := Ground.data }], guard := none }) (v := ?_) rfl (by kernel_rfl) (by kernel_rfl) (by kernel_rfl) (fun _ _ _ h => h) (Or.inl ⟨by kernel_rfl, ?_⟩) (by assumption) ?_
  rotate_left
  · intro wS hSw; (try dsimp only at hSw); go_simp; (try with_reducible rfl)
  try simp only [Act.put, List.setIfInBounds_toArray, List.set_cons_zero, List.set_cons_succ]
  refine wpAnyH_take (i := 3) (oi := { dst := some 12, op := Op.move (Operand.tmp 11), type := 4, pos := "ref.go:119", after := #[{ on := 2, ground := Ground.data }], guard := none }) (v := ?_) rfl (by kernel_rfl) (by kernel_rfl) (by kernel_rfl) (fun _ _ _ h => h) (Or.inl ⟨by kernel_rfl, ?_⟩) (by assumption) ?_
  rotate_left
  · intro wS hSw; (try dsimp only at hSw); go_simp; (try with_reducible rfl)
  try simp only [Act.put, List.setIfInBounds_toArray, List.set_cons_zero, List.set_cons_succ]
  refine wpAnyH_take (i := 4) (oi := { dst := some 13, op := Op.load 32 (Operand.tmp 3), type := 32, pos := "ref.go:119", after := #[{ on := 3, ground := Ground.guard }], guard := some (3, false) }) (v := ?_) rfl (by kernel_rfl) (by kernel_rfl) (by kernel_rfl) (fun _ _ _ h => h) (Or.inl ⟨by kernel_rfl, ?_⟩) (by assumption) ?_
  rotate_left
  · intro wS hSw; (try dsimp only at hSw); have e0 := cell_below hSw.out y0; have e1 := cell_below hSw.out y1; have e2 := cell_below hSw.out y2; have e3 := cell_below hSw.out y3; go_simp; (try with_reducible rfl)
  try simp only [Act.put, List.setIfInBounds_toArray, List.set_cons_zero, List.set_cons_succ]
  refine wpAnyH_take (i := 5) (oi := { dst := some 14, op := Op.move (Operand.tmp 1), type := 23, pos := "ref.go:119", after := #[{ on := 3, ground := Ground.guard }], guard := some (3, false) }) (v := ?_) rfl (by kernel_rfl) (by kernel_rfl) (by kernel_rfl) (fun _ _ _ h => h) (Or.inl ⟨by kernel_rfl, ?_⟩) (by assumption) ?_
  rotate_left
  · intro wS hSw; (try dsimp only at hSw); go_simp; (try with_reducible rfl)
  try simp only [Act.put, List.setIfInBounds_toArray, List.set_cons_zero, List.set_cons_succ]
  refine wpAnyH_take (i := 6) (oi := { dst := some 15, op := Op.indexAddr 23 (Operand.tmp 14) (Operand.const (Value.int IntKind.i64 0)), type := 0, pos := "ref.go:119", after := #[{ on := 5, ground := Ground.data }, { on := 3, ground := Ground.guard }], guard := some (3, false) }) (v := ?_) rfl (by kernel_rfl) (by kernel_rfl) (by kernel_rfl) (fun _ _ _ h => h) (Or.inl ⟨by kernel_rfl, ?_⟩) (by assumption) ?_
  rotate_left
  · intro wS hSw; (try dsimp only at hSw); go_simp; (try with_reducible rfl)
  try simp only [Act.put, List.setIfInBounds_toArray, List.set_cons_zero, List.set_cons_succ]
  refine wpAnyH_take (i := 7) (oi := { dst := some 16, op := Op.fieldAddr 39 (Operand.tmp 15) 2, type := 0, pos := "ref.go:119", after := #[{ on := 6, ground := Ground.data }, { on := 3, ground := Ground.guard }], guard := some (3, false) }) (v := ?_) rfl (by kernel_rfl) (by kernel_rfl) (by kernel_rfl) (fun _ _ _ h => h) (Or.inl ⟨by kernel_rfl, ?_⟩) (by assumption) ?_
  rotate_left
  · intro wS hSw; (try dsimp only at hSw); go_simp; (try with_reducible rfl)
  try simp only [Act.put, List.setIfInBounds_toArray, List.set_cons_zero, List.set_cons_succ]
  refine wpAnyH_take (i := 8) (oi := { dst := some 17, op := Op.load 37 (Operand.tmp 16), type := 37, pos := "ref.go:119", after := #[{ on := 7, ground := Ground.data }, { on := 3, ground := Ground.guard }], guard := some (3, false) }) (v := ?_) rfl (by kernel_rfl) (by kernel_rfl) (by kernel_rfl) (fun _ _ _ h => h) (Or.inl ⟨by kernel_rfl, ?_⟩) (by assumption) ?_
  rotate_left
  · intro wS hSw; (try dsimp only at hSw); have e5 := cell_below hSw.out c2; go_simp; (try with_reducible rfl)
  try simp only [Act.put, List.setIfInBounds_toArray, List.set_cons_zero, List.set_cons_succ]
  refine wpAnyH_take (i := 9) (oi := { dst := some 18, op := Op.call { callee := Callee.builtin Builtin.len, args := #[Operand.tmp 17], argTypes := #[37] }, type := 3, pos := "ref.go:119", after := #[{ on := 8, ground := Ground.data }, { on := 3, ground := Ground.guard }], guard := some (3, false) }) (v := ?_) rfl (by kernel_rfl) (by kernel_rfl) (by kernel_rfl) (fun _ _ _ h => h) (Or.inl ⟨by kernel_rfl, ?_⟩) (by assumption) ?_
  rotate_left
  · intro wS hSw; (try dsimp only at hSw); go_simp; (try with_reducible rfl)
  try simp only [Act.put, List.setIfInBounds_toArray, List.set_cons_zero, List.set_cons_succ]
  refine wpAnyH_ready (rs := [10]) (by kernel_rfl) (by simp) ?_
  refine AllReadyH.cons (o := { dst := some 19, op := Op.call { callee := Callee.value (Operand.func 20), args := #[Operand.tmp 13, Operand.tmp 18], argTypes := #[32, 3] }, type := 3, pos := "ref.go:119", after := #[{ on := 4, ground := Ground.data }, { on := 9, ground := Ground.data }, { on := 3, ground := Ground.chain }, { on := 3, ground := Ground.guard }], guard := some (3, false) }) rfl (fun K hK => ?_) AllReadyH.nil
  go_simp
  refine (hck _ (HB1.out.trans ((Below.refl w1.heap.size w1).drew.mono HB1.out.size))).mono ?_
  rintro e w2 ⟨rfl, hb2⟩
  have hB2 : Below w1.heap.size w1 w2 := (Below.refl w1.heap.size w1).drew.trans hb2
  (try dsimp only)
  refine hK.out _ _ ?_ (fun hH10 => ?_)
  · (try dsimp only); exact Bel.of hB2
  clear hK K
  refine wpAnyH_take (i := 11) (oi := { dst := some 20, op := Op.binOp BinOp.neq 3 (Operand.tmp 19) (Operand.const (Value.int IntKind.i64 0)) 3, type := 4, pos := "ref.go:119", after := #[{ on := 10, ground := Ground.data }, { on := 3, ground := Ground.guard }], guard := some (3, false) }) (v := ?_) rfl (by kernel_rfl) (by kernel_rfl) (by kernel_rfl) (fun _ _ _ h => h) (Or.inl ⟨by kernel_rfl, ?_⟩) (by assumption) ?_
  rotate_left
  · intro wS hSw; (try dsimp only at hSw); go_simp; (try with_reducible rfl)
  try simp only [Act.put, List.setIfInBounds_toArray, List.set_cons_zero, List.set_cons_succ]
  refine wpAnyH_take (i := 12) (oi := { dst := some 21, op := Op.pick (Operand.tmp 12) (Operand.const (Value.bool true)) (Operand.tmp 20), type := 4, pos := "ref.go:119", after := #[{ on := 3, ground := Ground.data }, { on := 11, ground := Ground.data }], guard := none }) (v := ?_) rfl (by kernel_rfl) (by kernel_rfl) (by kernel_rfl) (fun _ _ _ h => h) (Or.inl ⟨by kernel_rfl, ?_⟩) (by assumption) ?_
  rotate_left
  · intro wS hSw; (try dsimp only at hSw); go_simp; (try with_reducible rfl)
  try simp only [Act.put, List.setIfInBounds_toArray, List.set_cons_zero, List.set_cons_succ]
  refine wpAnyH_done (by kernel_rfl) ?_ _
  have v0 := cell_below hB2 y0
  have v1 := cell_below hB2 y1
  have v2 := cell_below hB2 y2
  have v3 := cell_below hB2 y3
  have HB2 : Hid (Below w.heap.size w w2) := HB1.out.trans (hB2.mono HB1.out.size)
  clear hck hb2 hB2 hHeld y0 y1 y2 y3 hH10 HB1 c2
  go_wp2
  go_loopw [7, 8] (fun v i wr => ∃ (m : Nat) (v1 : Value), m ≤ l.length ∧ v = v1 ∧ i = .int .i64 m ∧ wr.ownsRow w2.heap.size 39 3 v1 (flP t n A (l.take m)).length (arC (flP t n A (l.take m))) ∧ Bel w2.heap.size w2 wr) (fun _ i _ => l.length - (intOf i).toNat)
  case atStart => exact ⟨0, _, Nat.zero_le _, rfl, rfl, World.ownsRow_nil _ _ _ _, Bel.refl _⟩
  case round =>
    obtain ⟨m, vv, hmm, hv, rfl, hO, HB⟩ := hrel
    have hv2 := hv.symm
    clear hv
    subst hv2
    have HO : Hid _ := hO
    obtain ⟨a1, cap1, rfl, hcel, hfr⟩ := ars_of_owns hO
    have HC : Hid (CelsAt wr a1 (flP t n A (l.take m))) := hcel
    clear hO hcel hfr
    rcases Nat.lt_or_ge m l.length with hlt | hge
    · have u0 := cell_below HB.out v0
      have u1 := cell_below HB.out v1
      have u2 := cell_below HB.out v2
      have u3 := cell_below HB.out v3
      have hBW : Below w.heap.size w wr := HB2.out.trans (HB.out.mono HB2.out.size)
      have hcc := (HL.out.below hBW).opn hp
      obtain ⟨b', off', hbo, hcc⟩ := hcc
      simp only [Option.some.injEq, Addr.mk.injEq, and_true] at hbo
      obtain ⟨rfl, rfl⟩ := hbo
      obtain ⟨c0, c1, c2⟩ := hcc m hlt
      clear hcc
      have hh := HHD.out m hlt wr hBW
      generalize hxe : aAt l m = x at c0 c1 c2 hh
      have HTK : Hid _ := take_flP (t := t) (n := n) (A := A) hlt
      have HXE : Hid (aAt l m = x) := hxe
      clear hxe
      generalize hd : hdP t n A x = hb at hh
      have HD : Hid (hdP t n A x = hb) := hd
      clear hd hBW
      go_wp2_with fail
      refine hh.mono ?_
      rintro e w3 ⟨rfl, hb4⟩
      have HB3 : Hid (Bel w2.heap.size w2 w3) := Bel.step HB hb4
      have HO3 : Hid (World.ownsRow w3 w2.heap.size 39 3 (.slice a1 (flP t n A (l.take m)).length cap1) (flP t n A (l.take m)).length (arC (flP t n A (l.take m)))) := owns_below HO.out hb4
      have k0 := cell_below hb4 c0
      have k1 := cell_below hb4 c1
      have k2 := cell_below hb4 c2
      clear HB HO HC hh u0 u1 u2 u3 c0 c1 c2 hb4
      cases hb
      · go_wp2
        go_roundw
        case rel => exact ⟨m + 1, _, by omega, rfl, by go_num, by rw [HTK.out, HXE.out, HD.out]; exact HO3.out, HB3.out⟩
        case measure => simp [intOf]; omega
      · have hfl : (flP t n A (l.take m)).length ≤ 200 := Nat.le_trans (List.length_filter_le _ _) (by rw [List.length_take]; omega)
        generalize hac : flP t n A (l.take m) = acc at HO3 HTK hfl
        have hrow : Hid ((w3.alloc (.cells #[.int .i64 x.seq, .int .i64 x.time, .slice x.a x.row.length x.cap] 39)).ownsRow w2.heap.size 39 3 (.slice a1 acc.length cap1) acc.length (arC acc)) := HO3.out.alloc _
        have hcel : Hid _ := arCells_new w3 x
        have hone : Hid (∀ u ∈ arC [x], u.oneCell' = true) := arC_one _
        have hnl : acc.length + 1 ≤ maxLen := by unfold maxLen; omega
        have hby : (acc.length + 1) * 40 ≤ 140737488355328 := by omega
        have hbw2 : w2.heap.size ≤ (w3.alloc (.cells #[.int .i64 x.seq, .int .i64 x.time, .slice x.a x.row.length x.cap] 39)).heap.size := by rw [World.size_alloc]; have := HB3.out.le; omega
        have hvl : Hid ((arC [x]).length = 1 * 3) := arC_len [x]
        generalize Value.slice a1 acc.length cap1 = v1 at hrow ⊢
        go_wp2_with (at_builtin; refine wpList_append_own _ rfl _ _ 23 rfl w2.heap.size 39 i0 (.agg #[.int .i64 0, .int .i64 0, .slice none 0 0]) 3 40 Tryz.underlying23 hi hzz hs hb3 rfl (by decide) _ _ _ rfl hrow.out ⟨w3.heap.size, 0, none⟩ 1 1 (arC [x]) rfl hvl.out hcel.out hone.out hnl hby hbw2 ?_)
        intro v3 w4 hown3 hgrow3 hi3
        clear hi3
        have HO4 : Hid (w4.ownsRow w2.heap.size 39 3 v3 (acc ++ [x]).length (arC (acc ++ [x]))) := by
          show World.ownsRow _ _ _ _ _ _ _
          rw [arC_snoc, ← arC_single, List.length_append, List.length_singleton]; exact hown3
        have hB4 : Bel w2.heap.size w2 w4 := by
          have h2 := (HB3.out.alloc (.cells #[.int .i64 x.seq, .int .i64 x.time, .slice x.a x.row.length x.cap] 39)).out.grown hgrow3 hbw2 (fun j hj => (hrow.out.lt j hj).1)
          exact ⟨h2, h2.size⟩
        clear hown3 hgrow3 hrow hcel hone hvl HO3 HB3 k0 k1 k2
        go_wp2
        go_roundw
        case rel => exact ⟨m + 1, _, by omega, rfl, by go_num, by rw [HTK.out, HXE.out, HD.out]; exact HO4.out, hB4⟩
        case measure => simp [intOf]; omega
    · obtain rfl : m = l.length := by omega
      have HC2 : Hid (CelsAt wr a1 (flP t n A l)) := by
        have := HC.out
        rw [List.take_length] at this
        exact this
      have HBW : Hid (Below w.heap.size w wr) := HB2.out.trans (HB.out.mono HB2.out.size)
      clear HC HO HB
      rw [List.take_length]
      go_wp2
      go_ret
      exact ⟨⟨_, _, rfl, HC2.out⟩, HBW.out⟩
end Go.Proofs.YtfjpdflilmcnhaaGreatDoor
