/- Which views may be, of the document (Check). -/
import Derived.Test.YtfjpdflilmcnhaaGreatDoorRck
namespace Go.Proofs.YtfjpdflilmcnhaaGreatDoor
open Go.ChangeShapes Go.WideShapes Go.ChangeAt Go.RowKit

set_option maxHeartbeats 4000000 in
theorem rCheck_1 (n : Int) (a : Option Addr) (cap : Nat) (d : Bool) (c : Int) (zs : List Int) (w : World) (hlen : zs.length ≤ 9223372036854775807) (hz : NsAt w a zs) :
    Calls Tryz.prog 20 #[vwV 1 n a zs.length cap d, .int .i64 c] w fun e w' => e = .returned (.int .i64 (ckE (mayB 1 n zs d c))) ∧ Below w.heap.size w w' := by
  have hcol := fun wx (hb : Below w.heap.size w wx) => cols_any a cap c zs wx hlen (hz.below hb)
  have hm : mayB 1 n zs d c = ((n == 0) && plB zs.length d) := rfl
  generalize zs.length = len at *
  generalize arB zs c = ar at *
  generalize mayB 1 n zs d c = r at *
  have hr := hm
  clear hm hlen hz
  unfold vwV
  clear hcol
  cases h1 : (n == 0)
  · have HE : Hid ((150 : Int) = ckE r) := by
      show _ = _
      rw [hr]; simp [ckE, h1]
    clear hr
    go_enter Tryz.func20, Tryz.ntmps20
    go_wp2
    go_ret
    exact ⟨ret_int HE.out, (Bel.out (by repeat (first | exact Bel.refl _ | assumption | refine Bel.drew ?_ | refine Bel.drewN ?_ _ | refine Bel.alloc ?_ _ | refine Bel.setCell ?_ (by simp <;> omega) _ | refine Bel.step ?_ (by assumption))))⟩
  · cases h2 : ((len : Int) == 0)
    · have HE : Hid ((150 : Int) = ckE r) := by
        show _ = _
        rw [hr]; simp [ckE, h1, plB, h2]
      clear hr
      go_enter Tryz.func20, Tryz.ntmps20
      go_wp2
      go_ret
      exact ⟨ret_int HE.out, (Bel.out (by repeat (first | exact Bel.refl _ | assumption | refine Bel.drew ?_ | refine Bel.drewN ?_ _ | refine Bel.alloc ?_ _ | refine Bel.setCell ?_ (by simp <;> omega) _ | refine Bel.step ?_ (by assumption))))⟩
    · cases d
      · have HE : Hid ((0 : Int) = ckE r) := by
          show _ = _
          rw [hr]; simp [ckE, h1, plB, h2]
        clear hr
        go_enter Tryz.func20, Tryz.ntmps20
        go_wp2
        go_ret
        exact ⟨ret_int HE.out, (Bel.out (by repeat (first | exact Bel.refl _ | assumption | refine Bel.drew ?_ | refine Bel.drewN ?_ _ | refine Bel.alloc ?_ _ | refine Bel.setCell ?_ (by simp <;> omega) _ | refine Bel.step ?_ (by assumption))))⟩
      · have HE : Hid ((150 : Int) = ckE r) := by
          show _ = _
          rw [hr]; simp [ckE, h1, plB, h2]
        clear hr
        go_enter Tryz.func20, Tryz.ntmps20
        go_wp2
        go_ret
        exact ⟨ret_int HE.out, (Bel.out (by repeat (first | exact Bel.refl _ | assumption | refine Bel.drew ?_ | refine Bel.drewN ?_ _ | refine Bel.alloc ?_ _ | refine Bel.setCell ?_ (by simp <;> omega) _ | refine Bel.step ?_ (by assumption))))⟩
set_option maxHeartbeats 4000000 in
theorem rCheck_8 (n : Int) (a : Option Addr) (cap : Nat) (d : Bool) (c : Int) (zs : List Int) (w : World) (hlen : zs.length ≤ 9223372036854775807) (hz : NsAt w a zs) :
    Calls Tryz.prog 20 #[vwV 8 n a zs.length cap d, .int .i64 c] w fun e w' => e = .returned (.int .i64 (ckE (mayB 8 n zs d c))) ∧ Below w.heap.size w w' := by
  have hcol := fun wx (hb : Below w.heap.size w wx) => cols_any a cap c zs wx hlen (hz.below hb)
  have hm : mayB 8 n zs d c = ((n == 0) && plB zs.length d) := rfl
  generalize zs.length = len at *
  generalize arB zs c = ar at *
  generalize mayB 8 n zs d c = r at *
  have hr := hm
  clear hm hlen hz
  unfold vwV
  clear hcol
  cases h1 : (n == 0)
  · have HE : Hid ((150 : Int) = ckE r) := by
      show _ = _
      rw [hr]; simp [ckE, h1]
    clear hr
    go_enter Tryz.func20, Tryz.ntmps20
    go_wp2
    go_ret
    exact ⟨ret_int HE.out, (Bel.out (by repeat (first | exact Bel.refl _ | assumption | refine Bel.drew ?_ | refine Bel.drewN ?_ _ | refine Bel.alloc ?_ _ | refine Bel.setCell ?_ (by simp <;> omega) _ | refine Bel.step ?_ (by assumption))))⟩
  · cases h2 : ((len : Int) == 0)
    · have HE : Hid ((150 : Int) = ckE r) := by
        show _ = _
        rw [hr]; simp [ckE, h1, plB, h2]
      clear hr
      go_enter Tryz.func20, Tryz.ntmps20
      go_wp2
      go_ret
      exact ⟨ret_int HE.out, (Bel.out (by repeat (first | exact Bel.refl _ | assumption | refine Bel.drew ?_ | refine Bel.drewN ?_ _ | refine Bel.alloc ?_ _ | refine Bel.setCell ?_ (by simp <;> omega) _ | refine Bel.step ?_ (by assumption))))⟩
    · cases d
      · have HE : Hid ((0 : Int) = ckE r) := by
          show _ = _
          rw [hr]; simp [ckE, h1, plB, h2]
        clear hr
        go_enter Tryz.func20, Tryz.ntmps20
        go_wp2
        go_ret
        exact ⟨ret_int HE.out, (Bel.out (by repeat (first | exact Bel.refl _ | assumption | refine Bel.drew ?_ | refine Bel.drewN ?_ _ | refine Bel.alloc ?_ _ | refine Bel.setCell ?_ (by simp <;> omega) _ | refine Bel.step ?_ (by assumption))))⟩
      · have HE : Hid ((150 : Int) = ckE r) := by
          show _ = _
          rw [hr]; simp [ckE, h1, plB, h2]
        clear hr
        go_enter Tryz.func20, Tryz.ntmps20
        go_wp2
        go_ret
        exact ⟨ret_int HE.out, (Bel.out (by repeat (first | exact Bel.refl _ | assumption | refine Bel.drew ?_ | refine Bel.drewN ?_ _ | refine Bel.alloc ?_ _ | refine Bel.setCell ?_ (by simp <;> omega) _ | refine Bel.step ?_ (by assumption))))⟩
set_option maxHeartbeats 4000000 in
theorem rCheck_9 (n : Int) (a : Option Addr) (cap : Nat) (d : Bool) (c : Int) (zs : List Int) (w : World) (hlen : zs.length ≤ 9223372036854775807) (hz : NsAt w a zs) :
    Calls Tryz.prog 20 #[vwV 9 n a zs.length cap d, .int .i64 c] w fun e w' => e = .returned (.int .i64 (ckE (mayB 9 n zs d c))) ∧ Below w.heap.size w w' := by
  have hcol := fun wx (hb : Below w.heap.size w wx) => cols_any a cap c zs wx hlen (hz.below hb)
  have hm : mayB 9 n zs d c = ((n == 0) && plB zs.length d) := rfl
  generalize zs.length = len at *
  generalize arB zs c = ar at *
  generalize mayB 9 n zs d c = r at *
  have hr := hm
  clear hm hlen hz
  unfold vwV
  clear hcol
  cases h1 : (n == 0)
  · have HE : Hid ((150 : Int) = ckE r) := by
      show _ = _
      rw [hr]; simp [ckE, h1]
    clear hr
    go_enter Tryz.func20, Tryz.ntmps20
    go_wp2
    go_ret
    exact ⟨ret_int HE.out, (Bel.out (by repeat (first | exact Bel.refl _ | assumption | refine Bel.drew ?_ | refine Bel.drewN ?_ _ | refine Bel.alloc ?_ _ | refine Bel.setCell ?_ (by simp <;> omega) _ | refine Bel.step ?_ (by assumption))))⟩
  · cases h2 : ((len : Int) == 0)
    · have HE : Hid ((150 : Int) = ckE r) := by
        show _ = _
        rw [hr]; simp [ckE, h1, plB, h2]
      clear hr
      go_enter Tryz.func20, Tryz.ntmps20
      go_wp2
      go_ret
      exact ⟨ret_int HE.out, (Bel.out (by repeat (first | exact Bel.refl _ | assumption | refine Bel.drew ?_ | refine Bel.drewN ?_ _ | refine Bel.alloc ?_ _ | refine Bel.setCell ?_ (by simp <;> omega) _ | refine Bel.step ?_ (by assumption))))⟩
    · cases d
      · have HE : Hid ((0 : Int) = ckE r) := by
          show _ = _
          rw [hr]; simp [ckE, h1, plB, h2]
        clear hr
        go_enter Tryz.func20, Tryz.ntmps20
        go_wp2
        go_ret
        exact ⟨ret_int HE.out, (Bel.out (by repeat (first | exact Bel.refl _ | assumption | refine Bel.drew ?_ | refine Bel.drewN ?_ _ | refine Bel.alloc ?_ _ | refine Bel.setCell ?_ (by simp <;> omega) _ | refine Bel.step ?_ (by assumption))))⟩
      · have HE : Hid ((150 : Int) = ckE r) := by
          show _ = _
          rw [hr]; simp [ckE, h1, plB, h2]
        clear hr
        go_enter Tryz.func20, Tryz.ntmps20
        go_wp2
        go_ret
        exact ⟨ret_int HE.out, (Bel.out (by repeat (first | exact Bel.refl _ | assumption | refine Bel.drew ?_ | refine Bel.drewN ?_ _ | refine Bel.alloc ?_ _ | refine Bel.setCell ?_ (by simp <;> omega) _ | refine Bel.step ?_ (by assumption))))⟩
set_option maxHeartbeats 4000000 in
theorem rCheck_2 (n : Int) (a : Option Addr) (cap : Nat) (d : Bool) (c : Int) (zs : List Int) (w : World) (hlen : zs.length ≤ 9223372036854775807) (hz : NsAt w a zs) :
    Calls Tryz.prog 20 #[vwV 2 n a zs.length cap d, .int .i64 c] w fun e w' => e = .returned (.int .i64 (ckE (mayB 2 n zs d c))) ∧ Below w.heap.size w w' := by
  have hcol := fun wx (hb : Below w.heap.size w wx) => cols_any a cap c zs wx hlen (hz.below hb)
  have hm : mayB 2 n zs d c = (utB n 65536 && plB zs.length d) := rfl
  generalize zs.length = len at *
  generalize arB zs c = ar at *
  generalize mayB 2 n zs d c = r at *
  have hr := hm
  clear hm hlen hz
  unfold vwV
  clear hcol
  by_cases h1 : 1 ≤ n
  · by_cases h3 : n ≤ 65536
    · cases h2 : ((len : Int) == 0)
      · have HE : Hid ((150 : Int) = ckE r) := by
          show _ = _
          rw [hr]; simp [ckE, utB, h1, h3, plB, h2]
        clear hr
        go_enter Tryz.func20, Tryz.ntmps20
        go_wp2
        go_ret
        exact ⟨ret_int HE.out, (Bel.out (by repeat (first | exact Bel.refl _ | assumption | refine Bel.drew ?_ | refine Bel.drewN ?_ _ | refine Bel.alloc ?_ _ | refine Bel.setCell ?_ (by simp <;> omega) _ | refine Bel.step ?_ (by assumption))))⟩
      · cases d
        · have HE : Hid ((0 : Int) = ckE r) := by
            show _ = _
            rw [hr]; simp [ckE, utB, h1, h3, plB, h2]
          clear hr
          go_enter Tryz.func20, Tryz.ntmps20
          go_wp2
          go_ret
          exact ⟨ret_int HE.out, (Bel.out (by repeat (first | exact Bel.refl _ | assumption | refine Bel.drew ?_ | refine Bel.drewN ?_ _ | refine Bel.alloc ?_ _ | refine Bel.setCell ?_ (by simp <;> omega) _ | refine Bel.step ?_ (by assumption))))⟩
        · have HE : Hid ((150 : Int) = ckE r) := by
            show _ = _
            rw [hr]; simp [ckE, utB, h1, h3, plB, h2]
          clear hr
          go_enter Tryz.func20, Tryz.ntmps20
          go_wp2
          go_ret
          exact ⟨ret_int HE.out, (Bel.out (by repeat (first | exact Bel.refl _ | assumption | refine Bel.drew ?_ | refine Bel.drewN ?_ _ | refine Bel.alloc ?_ _ | refine Bel.setCell ?_ (by simp <;> omega) _ | refine Bel.step ?_ (by assumption))))⟩
    · have HE : Hid ((150 : Int) = ckE r) := by
        show _ = _
        rw [hr]; simp [ckE, utB, h1, h3]
      clear hr
      go_enter Tryz.func20, Tryz.ntmps20
      go_wp2
      go_ret
      exact ⟨ret_int HE.out, (Bel.out (by repeat (first | exact Bel.refl _ | assumption | refine Bel.drew ?_ | refine Bel.drewN ?_ _ | refine Bel.alloc ?_ _ | refine Bel.setCell ?_ (by simp <;> omega) _ | refine Bel.step ?_ (by assumption))))⟩
  · have HE : Hid ((150 : Int) = ckE r) := by
      show _ = _
      rw [hr]; simp [ckE, utB, h1]
    clear hr
    go_enter Tryz.func20, Tryz.ntmps20
    go_wp2
    go_ret
    exact ⟨ret_int HE.out, (Bel.out (by repeat (first | exact Bel.refl _ | assumption | refine Bel.drew ?_ | refine Bel.drewN ?_ _ | refine Bel.alloc ?_ _ | refine Bel.setCell ?_ (by simp <;> omega) _ | refine Bel.step ?_ (by assumption))))⟩
set_option maxHeartbeats 4000000 in
theorem rCheck_4 (n : Int) (a : Option Addr) (cap : Nat) (d : Bool) (c : Int) (zs : List Int) (w : World) (hlen : zs.length ≤ 9223372036854775807) (hz : NsAt w a zs) :
    Calls Tryz.prog 20 #[vwV 4 n a zs.length cap d, .int .i64 c] w fun e w' => e = .returned (.int .i64 (ckE (mayB 4 n zs d c))) ∧ Below w.heap.size w w' := by
  have hcol := fun wx (hb : Below w.heap.size w wx) => cols_any a cap c zs wx hlen (hz.below hb)
  have hm : mayB 4 n zs d c = (utB n 65536 && plB zs.length d) := rfl
  generalize zs.length = len at *
  generalize arB zs c = ar at *
  generalize mayB 4 n zs d c = r at *
  have hr := hm
  clear hm hlen hz
  unfold vwV
  clear hcol
  by_cases h1 : 1 ≤ n
  · by_cases h3 : n ≤ 65536
    · cases h2 : ((len : Int) == 0)
      · have HE : Hid ((150 : Int) = ckE r) := by
          show _ = _
          rw [hr]; simp [ckE, utB, h1, h3, plB, h2]
        clear hr
        go_enter Tryz.func20, Tryz.ntmps20
        go_wp2
        go_ret
        exact ⟨ret_int HE.out, (Bel.out (by repeat (first | exact Bel.refl _ | assumption | refine Bel.drew ?_ | refine Bel.drewN ?_ _ | refine Bel.alloc ?_ _ | refine Bel.setCell ?_ (by simp <;> omega) _ | refine Bel.step ?_ (by assumption))))⟩
      · cases d
        · have HE : Hid ((0 : Int) = ckE r) := by
            show _ = _
            rw [hr]; simp [ckE, utB, h1, h3, plB, h2]
          clear hr
          go_enter Tryz.func20, Tryz.ntmps20
          go_wp2
          go_ret
          exact ⟨ret_int HE.out, (Bel.out (by repeat (first | exact Bel.refl _ | assumption | refine Bel.drew ?_ | refine Bel.drewN ?_ _ | refine Bel.alloc ?_ _ | refine Bel.setCell ?_ (by simp <;> omega) _ | refine Bel.step ?_ (by assumption))))⟩
        · have HE : Hid ((150 : Int) = ckE r) := by
            show _ = _
            rw [hr]; simp [ckE, utB, h1, h3, plB, h2]
          clear hr
          go_enter Tryz.func20, Tryz.ntmps20
          go_wp2
          go_ret
          exact ⟨ret_int HE.out, (Bel.out (by repeat (first | exact Bel.refl _ | assumption | refine Bel.drew ?_ | refine Bel.drewN ?_ _ | refine Bel.alloc ?_ _ | refine Bel.setCell ?_ (by simp <;> omega) _ | refine Bel.step ?_ (by assumption))))⟩
    · have HE : Hid ((150 : Int) = ckE r) := by
        show _ = _
        rw [hr]; simp [ckE, utB, h1, h3]
      clear hr
      go_enter Tryz.func20, Tryz.ntmps20
      go_wp2
      go_ret
      exact ⟨ret_int HE.out, (Bel.out (by repeat (first | exact Bel.refl _ | assumption | refine Bel.drew ?_ | refine Bel.drewN ?_ _ | refine Bel.alloc ?_ _ | refine Bel.setCell ?_ (by simp <;> omega) _ | refine Bel.step ?_ (by assumption))))⟩
  · have HE : Hid ((150 : Int) = ckE r) := by
      show _ = _
      rw [hr]; simp [ckE, utB, h1]
    clear hr
    go_enter Tryz.func20, Tryz.ntmps20
    go_wp2
    go_ret
    exact ⟨ret_int HE.out, (Bel.out (by repeat (first | exact Bel.refl _ | assumption | refine Bel.drew ?_ | refine Bel.drewN ?_ _ | refine Bel.alloc ?_ _ | refine Bel.setCell ?_ (by simp <;> omega) _ | refine Bel.step ?_ (by assumption))))⟩
set_option maxHeartbeats 4000000 in
theorem rCheck_3 (n : Int) (a : Option Addr) (cap : Nat) (d : Bool) (c : Int) (zs : List Int) (w : World) (hlen : zs.length ≤ 9223372036854775807) (hz : NsAt w a zs) :
    Calls Tryz.prog 20 #[vwV 3 n a zs.length cap d, .int .i64 c] w fun e w' => e = .returned (.int .i64 (ckE (mayB 3 n zs d c))) ∧ Below w.heap.size w w' := by
  have hcol := fun wx (hb : Below w.heap.size w wx) => cols_any a cap c zs wx hlen (hz.below hb)
  have hm : mayB 3 n zs d c = (utB n 1099511627776 && plB zs.length d) := rfl
  generalize zs.length = len at *
  generalize arB zs c = ar at *
  generalize mayB 3 n zs d c = r at *
  have hr := hm
  clear hm hlen hz
  unfold vwV
  clear hcol
  by_cases h1 : 1 ≤ n
  · by_cases h3 : n ≤ 1099511627776
    · cases h2 : ((len : Int) == 0)
      · have HE : Hid ((150 : Int) = ckE r) := by
          show _ = _
          rw [hr]; simp [ckE, utB, h1, h3, plB, h2]
        clear hr
        go_enter Tryz.func20, Tryz.ntmps20
        go_wp2
        go_ret
        exact ⟨ret_int HE.out, (Bel.out (by repeat (first | exact Bel.refl _ | assumption | refine Bel.drew ?_ | refine Bel.drewN ?_ _ | refine Bel.alloc ?_ _ | refine Bel.setCell ?_ (by simp <;> omega) _ | refine Bel.step ?_ (by assumption))))⟩
      · cases d
        · have HE : Hid ((0 : Int) = ckE r) := by
            show _ = _
            rw [hr]; simp [ckE, utB, h1, h3, plB, h2]
          clear hr
          go_enter Tryz.func20, Tryz.ntmps20
          go_wp2
          go_ret
          exact ⟨ret_int HE.out, (Bel.out (by repeat (first | exact Bel.refl _ | assumption | refine Bel.drew ?_ | refine Bel.drewN ?_ _ | refine Bel.alloc ?_ _ | refine Bel.setCell ?_ (by simp <;> omega) _ | refine Bel.step ?_ (by assumption))))⟩
        · have HE : Hid ((150 : Int) = ckE r) := by
            show _ = _
            rw [hr]; simp [ckE, utB, h1, h3, plB, h2]
          clear hr
          go_enter Tryz.func20, Tryz.ntmps20
          go_wp2
          go_ret
          exact ⟨ret_int HE.out, (Bel.out (by repeat (first | exact Bel.refl _ | assumption | refine Bel.drew ?_ | refine Bel.drewN ?_ _ | refine Bel.alloc ?_ _ | refine Bel.setCell ?_ (by simp <;> omega) _ | refine Bel.step ?_ (by assumption))))⟩
    · have HE : Hid ((150 : Int) = ckE r) := by
        show _ = _
        rw [hr]; simp [ckE, utB, h1, h3]
      clear hr
      go_enter Tryz.func20, Tryz.ntmps20
      go_wp2
      go_ret
      exact ⟨ret_int HE.out, (Bel.out (by repeat (first | exact Bel.refl _ | assumption | refine Bel.drew ?_ | refine Bel.drewN ?_ _ | refine Bel.alloc ?_ _ | refine Bel.setCell ?_ (by simp <;> omega) _ | refine Bel.step ?_ (by assumption))))⟩
  · have HE : Hid ((150 : Int) = ckE r) := by
      show _ = _
      rw [hr]; simp [ckE, utB, h1]
    clear hr
    go_enter Tryz.func20, Tryz.ntmps20
    go_wp2
    go_ret
    exact ⟨ret_int HE.out, (Bel.out (by repeat (first | exact Bel.refl _ | assumption | refine Bel.drew ?_ | refine Bel.drewN ?_ _ | refine Bel.alloc ?_ _ | refine Bel.setCell ?_ (by simp <;> omega) _ | refine Bel.step ?_ (by assumption))))⟩
set_option maxHeartbeats 4000000 in
theorem rCheck_5 (n : Int) (a : Option Addr) (cap : Nat) (d : Bool) (c : Int) (zs : List Int) (w : World) (hlen : zs.length ≤ 9223372036854775807) (hz : NsAt w a zs) :
    Calls Tryz.prog 20 #[vwV 5 n a zs.length cap d, .int .i64 c] w fun e w' => e = .returned (.int .i64 (ckE (mayB 5 n zs d c))) ∧ Below w.heap.size w w' := by
  have hcol := fun wx (hb : Below w.heap.size w wx) => cols_any a cap c zs wx hlen (hz.below hb)
  have hm : mayB 5 n zs d c = (utB n 1099511627776 && plB zs.length d) := rfl
  generalize zs.length = len at *
  generalize arB zs c = ar at *
  generalize mayB 5 n zs d c = r at *
  have hr := hm
  clear hm hlen hz
  unfold vwV
  clear hcol
  by_cases h1 : 1 ≤ n
  · by_cases h3 : n ≤ 1099511627776
    · cases h2 : ((len : Int) == 0)
      · have HE : Hid ((150 : Int) = ckE r) := by
          show _ = _
          rw [hr]; simp [ckE, utB, h1, h3, plB, h2]
        clear hr
        go_enter Tryz.func20, Tryz.ntmps20
        go_wp2
        go_ret
        exact ⟨ret_int HE.out, (Bel.out (by repeat (first | exact Bel.refl _ | assumption | refine Bel.drew ?_ | refine Bel.drewN ?_ _ | refine Bel.alloc ?_ _ | refine Bel.setCell ?_ (by simp <;> omega) _ | refine Bel.step ?_ (by assumption))))⟩
      · cases d
        · have HE : Hid ((0 : Int) = ckE r) := by
            show _ = _
            rw [hr]; simp [ckE, utB, h1, h3, plB, h2]
          clear hr
          go_enter Tryz.func20, Tryz.ntmps20
          go_wp2
          go_ret
          exact ⟨ret_int HE.out, (Bel.out (by repeat (first | exact Bel.refl _ | assumption | refine Bel.drew ?_ | refine Bel.drewN ?_ _ | refine Bel.alloc ?_ _ | refine Bel.setCell ?_ (by simp <;> omega) _ | refine Bel.step ?_ (by assumption))))⟩
        · have HE : Hid ((150 : Int) = ckE r) := by
            show _ = _
            rw [hr]; simp [ckE, utB, h1, h3, plB, h2]
          clear hr
          go_enter Tryz.func20, Tryz.ntmps20
          go_wp2
          go_ret
          exact ⟨ret_int HE.out, (Bel.out (by repeat (first | exact Bel.refl _ | assumption | refine Bel.drew ?_ | refine Bel.drewN ?_ _ | refine Bel.alloc ?_ _ | refine Bel.setCell ?_ (by simp <;> omega) _ | refine Bel.step ?_ (by assumption))))⟩
    · have HE : Hid ((150 : Int) = ckE r) := by
        show _ = _
        rw [hr]; simp [ckE, utB, h1, h3]
      clear hr
      go_enter Tryz.func20, Tryz.ntmps20
      go_wp2
      go_ret
      exact ⟨ret_int HE.out, (Bel.out (by repeat (first | exact Bel.refl _ | assumption | refine Bel.drew ?_ | refine Bel.drewN ?_ _ | refine Bel.alloc ?_ _ | refine Bel.setCell ?_ (by simp <;> omega) _ | refine Bel.step ?_ (by assumption))))⟩
  · have HE : Hid ((150 : Int) = ckE r) := by
      show _ = _
      rw [hr]; simp [ckE, utB, h1]
    clear hr
    go_enter Tryz.func20, Tryz.ntmps20
    go_wp2
    go_ret
    exact ⟨ret_int HE.out, (Bel.out (by repeat (first | exact Bel.refl _ | assumption | refine Bel.drew ?_ | refine Bel.drewN ?_ _ | refine Bel.alloc ?_ _ | refine Bel.setCell ?_ (by simp <;> omega) _ | refine Bel.step ?_ (by assumption))))⟩
set_option maxHeartbeats 4000000 in
theorem rCheck_6 (n : Int) (a : Option Addr) (cap : Nat) (d : Bool) (c : Int) (zs : List Int) (w : World) (hlen : zs.length ≤ 9223372036854775807) (hz : NsAt w a zs) :
    Calls Tryz.prog 20 #[vwV 6 n a zs.length cap d, .int .i64 c] w fun e w' => e = .returned (.int .i64 (ckE (mayB 6 n zs d c))) ∧ Below w.heap.size w w' := by
  have hcol := fun wx (hb : Below w.heap.size w wx) => cols_any a cap c zs wx hlen (hz.below hb)
  have hm : mayB 6 n zs d c = (((n == 0) && !d) && arB zs c) := rfl
  generalize zs.length = len at *
  generalize arB zs c = ar at *
  generalize mayB 6 n zs d c = r at *
  have hr := hm
  clear hm hlen hz
  unfold vwV
  cases h1 : (n == 0)
  · clear hcol
    have HE : Hid ((150 : Int) = ckE r) := by
      show _ = _
      rw [hr]; simp [ckE, h1]
    clear hr
    go_enter Tryz.func20, Tryz.ntmps20
    go_wp2
    go_ret
    exact ⟨ret_int HE.out, (Bel.out (by repeat (first | exact Bel.refl _ | assumption | refine Bel.drew ?_ | refine Bel.drewN ?_ _ | refine Bel.alloc ?_ _ | refine Bel.setCell ?_ (by simp <;> omega) _ | refine Bel.step ?_ (by assumption))))⟩
  · cases ar
    · have HE : Hid ((150 : Int) = ckE r) := by
        show _ = _
        rw [hr]; simp [ckE, h1]
      clear hr
      go_enter Tryz.func20, Tryz.ntmps20
      go_wp2_with fail
      refine (hcol _ (Bel.out (by repeat (first | exact Bel.refl _ | assumption | refine Bel.drew ?_ | refine Bel.drewN ?_ _ | refine Bel.alloc ?_ _ | refine Bel.setCell ?_ (by simp <;> omega) _ | refine Bel.step ?_ (by assumption))))).mono ?_
      rintro e w1 ⟨rfl, hb1⟩
      have y3 : w1.cell? ⟨w.heap.size, 3, none⟩ = some (.bool d) := cell_below hb1 (by go_simp)
      clear hcol
      go_wp2
      go_ret
      exact ⟨ret_int HE.out, (Bel.out (by repeat (first | exact Bel.refl _ | assumption | refine Bel.drew ?_ | refine Bel.drewN ?_ _ | refine Bel.alloc ?_ _ | refine Bel.setCell ?_ (by simp <;> omega) _ | refine Bel.step ?_ (by assumption))))⟩
    · cases d
      · have HE : Hid ((0 : Int) = ckE r) := by
          show _ = _
          rw [hr]; simp [ckE, h1]
        clear hr
        go_enter Tryz.func20, Tryz.ntmps20
        go_wp2_with fail
        refine (hcol _ (Bel.out (by repeat (first | exact Bel.refl _ | assumption | refine Bel.drew ?_ | refine Bel.drewN ?_ _ | refine Bel.alloc ?_ _ | refine Bel.setCell ?_ (by simp <;> omega) _ | refine Bel.step ?_ (by assumption))))).mono ?_
        rintro e w1 ⟨rfl, hb1⟩
        have y3 : w1.cell? ⟨w.heap.size, 3, none⟩ = some (.bool false) := cell_below hb1 (by go_simp)
        clear hcol
        go_wp2
        go_ret
        exact ⟨ret_int HE.out, (Bel.out (by repeat (first | exact Bel.refl _ | assumption | refine Bel.drew ?_ | refine Bel.drewN ?_ _ | refine Bel.alloc ?_ _ | refine Bel.setCell ?_ (by simp <;> omega) _ | refine Bel.step ?_ (by assumption))))⟩
      · have HE : Hid ((150 : Int) = ckE r) := by
          show _ = _
          rw [hr]; simp [ckE, h1]
        clear hr
        go_enter Tryz.func20, Tryz.ntmps20
        go_wp2_with fail
        refine (hcol _ (Bel.out (by repeat (first | exact Bel.refl _ | assumption | refine Bel.drew ?_ | refine Bel.drewN ?_ _ | refine Bel.alloc ?_ _ | refine Bel.setCell ?_ (by simp <;> omega) _ | refine Bel.step ?_ (by assumption))))).mono ?_
        rintro e w1 ⟨rfl, hb1⟩
        have y3 : w1.cell? ⟨w.heap.size, 3, none⟩ = some (.bool true) := cell_below hb1 (by go_simp)
        clear hcol
        go_wp2
        go_ret
        exact ⟨ret_int HE.out, (Bel.out (by repeat (first | exact Bel.refl _ | assumption | refine Bel.drew ?_ | refine Bel.drewN ?_ _ | refine Bel.alloc ?_ _ | refine Bel.setCell ?_ (by simp <;> omega) _ | refine Bel.step ?_ (by assumption))))⟩
set_option maxHeartbeats 4000000 in
theorem rCheck_7 (n : Int) (a : Option Addr) (cap : Nat) (d : Bool) (c : Int) (zs : List Int) (w : World) (hlen : zs.length ≤ 9223372036854775807) (hz : NsAt w a zs) :
    Calls Tryz.prog 20 #[vwV 7 n a zs.length cap d, .int .i64 c] w fun e w' => e = .returned (.int .i64 (ckE (mayB 7 n zs d c))) ∧ Below w.heap.size w w' := by
  have hcol := fun wx (hb : Below w.heap.size w wx) => cols_any a cap c zs wx hlen (hz.below hb)
  have hm : mayB 7 n zs d c = ((utB n 65536 && ((zs.length : Int) == 1)) && arB zs c) := rfl
  generalize zs.length = len at *
  generalize arB zs c = ar at *
  generalize mayB 7 n zs d c = r at *
  have hr := hm
  clear hm hlen hz
  unfold vwV
  by_cases h1 : 1 ≤ n
  · by_cases h3 : n ≤ 65536
    · cases h2 : ((len : Int) == 1)
      · clear hcol
        have HE : Hid ((150 : Int) = ckE r) := by
          show _ = _
          rw [hr]; simp [ckE, utB, h1, h3, h2]
        clear hr
        go_enter Tryz.func20, Tryz.ntmps20
        go_wp2
        go_ret
        exact ⟨ret_int HE.out, (Bel.out (by repeat (first | exact Bel.refl _ | assumption | refine Bel.drew ?_ | refine Bel.drewN ?_ _ | refine Bel.alloc ?_ _ | refine Bel.setCell ?_ (by simp <;> omega) _ | refine Bel.step ?_ (by assumption))))⟩
      · cases ar
        · have HE : Hid ((150 : Int) = ckE r) := by
            show _ = _
            rw [hr]; simp [ckE, utB, h1, h3, h2]
          clear hr
          go_enter Tryz.func20, Tryz.ntmps20
          go_wp2_with fail
          refine (hcol _ (Bel.out (by repeat (first | exact Bel.refl _ | assumption | refine Bel.drew ?_ | refine Bel.drewN ?_ _ | refine Bel.alloc ?_ _ | refine Bel.setCell ?_ (by simp <;> omega) _ | refine Bel.step ?_ (by assumption))))).mono ?_
          rintro e w1 ⟨rfl, hb1⟩
          have y3 : w1.cell? ⟨w.heap.size, 3, none⟩ = some (.bool d) := cell_below hb1 (by go_simp)
          clear hcol
          go_wp2
          go_ret
          exact ⟨ret_int HE.out, (Bel.out (by repeat (first | exact Bel.refl _ | assumption | refine Bel.drew ?_ | refine Bel.drewN ?_ _ | refine Bel.alloc ?_ _ | refine Bel.setCell ?_ (by simp <;> omega) _ | refine Bel.step ?_ (by assumption))))⟩
        · have HE : Hid ((0 : Int) = ckE r) := by
            show _ = _
            rw [hr]; simp [ckE, utB, h1, h3, h2]
          clear hr
          go_enter Tryz.func20, Tryz.ntmps20
          go_wp2_with fail
          refine (hcol _ (Bel.out (by repeat (first | exact Bel.refl _ | assumption | refine Bel.drew ?_ | refine Bel.drewN ?_ _ | refine Bel.alloc ?_ _ | refine Bel.setCell ?_ (by simp <;> omega) _ | refine Bel.step ?_ (by assumption))))).mono ?_
          rintro e w1 ⟨rfl, hb1⟩
          have y3 : w1.cell? ⟨w.heap.size, 3, none⟩ = some (.bool d) := cell_below hb1 (by go_simp)
          clear hcol
          go_wp2
          go_ret
          exact ⟨ret_int HE.out, (Bel.out (by repeat (first | exact Bel.refl _ | assumption | refine Bel.drew ?_ | refine Bel.drewN ?_ _ | refine Bel.alloc ?_ _ | refine Bel.setCell ?_ (by simp <;> omega) _ | refine Bel.step ?_ (by assumption))))⟩
    · clear hcol
      have HE : Hid ((150 : Int) = ckE r) := by
        show _ = _
        rw [hr]; simp [ckE, utB, h1, h3]
      clear hr
      go_enter Tryz.func20, Tryz.ntmps20
      go_wp2
      go_ret
      exact ⟨ret_int HE.out, (Bel.out (by repeat (first | exact Bel.refl _ | assumption | refine Bel.drew ?_ | refine Bel.drewN ?_ _ | refine Bel.alloc ?_ _ | refine Bel.setCell ?_ (by simp <;> omega) _ | refine Bel.step ?_ (by assumption))))⟩
  · clear hcol
    have HE : Hid ((150 : Int) = ckE r) := by
      show _ = _
      rw [hr]; simp [ckE, utB, h1]
    clear hr
    go_enter Tryz.func20, Tryz.ntmps20
    go_wp2
    go_ret
    exact ⟨ret_int HE.out, (Bel.out (by repeat (first | exact Bel.refl _ | assumption | refine Bel.drew ?_ | refine Bel.drewN ?_ _ | refine Bel.alloc ?_ _ | refine Bel.setCell ?_ (by simp <;> omega) _ | refine Bel.step ?_ (by assumption))))⟩
set_option maxHeartbeats 4000000 in
theorem rCheck_no (k n : Int) (a : Option Addr) (len cap : Nat) (d : Bool) (c : Int) (w : World) (h1 : (k == 1) = false) (h2 : (k == 2) = false) (h3 : (k == 3) = false) (h4 : (k == 4) = false) (h5 : (k == 5) = false) (h6 : (k == 6) = false) (h7 : (k == 7) = false) (h8 : (k == 8) = false) (h9 : (k == 9) = false) :
    Calls Tryz.prog 20 #[vwV k n a len cap d, .int .i64 c] w fun e w' => e = .returned (.int .i64 150) ∧ Below w.heap.size w w' := by
  unfold vwV
  go_enter Tryz.func20, Tryz.ntmps20
  go_wp2
  go_ret
  exact ⟨rfl, (Bel.out (by repeat (first | exact Bel.refl _ | assumption | refine Bel.drew ?_ | refine Bel.drewN ?_ _ | refine Bel.alloc ?_ _ | refine Bel.setCell ?_ (by simp <;> omega) _ | refine Bel.step ?_ (by assumption))))⟩
theorem mayB_no {k n : Int} {zs : List Int} {d : Bool} {c : Int} (h : k < 1 ∨ 9 < k) : mayB k n zs d c = false := by
  have e : clsI k = 0 := by
    unfold clsI
    split
    · omega
    · rfl
  unfold mayB
  rw [e]; rfl
/-- The document's Check says what the code's says. -/
theorem rCheck_any (k n : Int) (a : Option Addr) (cap : Nat) (d : Bool) (c : Int) (zs : List Int) (w : World) (hlen : zs.length ≤ 9223372036854775807) (hz : NsAt w a zs) :
    Calls Tryz.prog 20 #[vwV k n a zs.length cap d, .int .i64 c] w fun e w' => e = .returned (.int .i64 (ckE (mayB k n zs d c))) ∧ Below w.heap.size w w' := by
  by_cases h : k < 1 ∨ 9 < k
  · rw [mayB_no h]
    have f : ∀ j : Int, 1 ≤ j → j ≤ 9 → (k == j) = false := fun j h1 h2 => beq_eq_false_iff_ne.2 (by omega)
    exact rCheck_no k n a zs.length cap d c w (f 1 (by omega) (by omega)) (f 2 (by omega) (by omega)) (f 3 (by omega) (by omega)) (f 4 (by omega) (by omega)) (f 5 (by omega) (by omega)) (f 6 (by omega) (by omega)) (f 7 (by omega) (by omega)) (f 8 (by omega) (by omega)) (f 9 (by omega) (by omega))
  · have hk : k = 1 ∨ k = 2 ∨ k = 3 ∨ k = 4 ∨ k = 5 ∨ k = 6 ∨ k = 7 ∨ k = 8 ∨ k = 9 := by omega
    rcases hk with rfl | rfl | rfl | rfl | rfl | rfl | rfl | rfl | rfl
    · exact rCheck_1 n a cap d c zs w hlen hz
    · exact rCheck_2 n a cap d c zs w hlen hz
    · exact rCheck_3 n a cap d c zs w hlen hz
    · exact rCheck_4 n a cap d c zs w hlen hz
    · exact rCheck_5 n a cap d c zs w hlen hz
    · exact rCheck_6 n a cap d c zs w hlen hz
    · exact rCheck_7 n a cap d c zs w hlen hz
    · exact rCheck_8 n a cap d c zs w hlen hz
    · exact rCheck_9 n a cap d c zs w hlen hz
end Go.Proofs.YtfjpdflilmcnhaaGreatDoor
