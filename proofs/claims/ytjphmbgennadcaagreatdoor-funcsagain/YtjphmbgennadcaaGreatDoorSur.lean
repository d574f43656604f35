/- What must come whatever the input is (sure). -/
import Derived.Test.YtjphmbgennadcaaGreatDoorLwc
namespace Go.Proofs.YtjphmbgennadcaaGreatDoor
set_option maxHeartbeats 4000000
set_option maxRecDepth 20000
set_option linter.unusedSimpArgs false
open Go.ChangeShapes Go.WideShapes Go.ChangeAt Go.RowKit


def fdC (l : List UInt8) : Option Nat := fnd (fun j => nmL.getD j [] == l) 18 0
theorem fdK_C (s : ByteArray) : fdK s = fdC s.data.toList := by
  have e : nmP s = fun j => nmL.getD j [] == s.data.toList := by
    funext k
    unfold nmP
    rw [ByteArray.toList_eq, ByteArray.toList_eq]
    simp [nmA]
  unfold fdK fdC
  rw [e]
def mayC (v : Val) : Bool :=
  if v.1 == 0 then v.2.1 == 0 && v.2.2.data.toList.isEmpty else if v.1 == 1 then (v.2.1 == 0 || v.2.1 == 1) && v.2.2.data.toList.isEmpty else if v.1 == 2 then v.2.2.data.toList.isEmpty else if v.1 == 3 then v.2.2.data.toList.isEmpty
  else if v.1 == 4 then v.2.1 == 0 && (decide ((v.2.2.size : Int) ≤ 1024) && Lib.validD v.2.2.data.toList) else false
theorem mayV_C (v : Val) : mayV v = mayC v := by
  unfold mayV mayC mayS
  rw [ByteArray.toList_eq]
def calC (l : List UInt8) (r : List Val) : Val × Int :=
  if fdB (fdC l) (ksL r) then (if r.all mayC then (if !snB ((fdC l).getD 0) && nulB r then (dv, 0) else dsP ((fdC l).getD 0) r) else (dv, 22)) else (dv, 100)
theorem calP_C (s : ByteArray) (r : List Val) : calP s r = calC s.data.toList r := by
  unfold calP calC
  rw [fdK_C]
  have e : mayR r = r.all mayC := by
    unfold mayR
    congr 1
    funext v
    exact mayV_C v
  rw [e]
def kinC (l : List UInt8) (k : List Int) : Int × Int := if fdB (fdC l) k then (kdP ((fdC l).getD 0) k, 0) else (0, 100)
theorem kinP_C (s : ByteArray) (k : List Int) : kinP s k = kinC s.data.toList k := by
  unfold kinP kinC
  rw [fdK_C]
theorem sq3 : calP ⟨#[108, 101, 97, 115, 116]⟩ [(2, 1, ⟨#[]⟩), (4, 0, ⟨#[97]⟩)] = ((0, 0, ⟨#[]⟩), 100) := by
  rw [calP_C]
  kernel_rfl
theorem sq5 : calP ⟨#[97, 98, 115]⟩ [(2, (-9223372036854775808), ⟨#[]⟩)] = ((0, 0, ⟨#[]⟩), 20) := by
  rw [calP_C]
  kernel_rfl
theorem sq6 : kinP ⟨#[99, 111, 97, 108, 101, 115, 99, 101]⟩ [0, 2, 3] = (3, 0) := by
  rw [kinP_C]
  kernel_rfl
theorem sq8 : calV ⟨#[114, 111, 117, 110, 100]⟩ [(3, 25000, ⟨#[]⟩)] = (2, 3, ⟨#[]⟩) := by
  unfold calV
  rw [calP_C]
  kernel_rfl
theorem sq11 : calV ⟨#[114, 111, 117, 110, 100]⟩ [(3, (-25000), ⟨#[]⟩)] = (2, (-3), ⟨#[]⟩) := by
  unfold calV
  rw [calP_C]
  kernel_rfl
theorem sq15 : calV ⟨#[99, 111, 97, 108, 101, 115, 99, 101]⟩ [(0, 0, ⟨#[]⟩), (2, 1, ⟨#[]⟩), (3, 25000, ⟨#[]⟩)] = (3, 10000, ⟨#[]⟩) := by
  unfold calV
  rw [calP_C]
  kernel_rfl
theorem sq20 : calV ⟨#[115, 117, 98, 115, 116, 114]⟩ [(4, 0, ⟨#[97, 98, 99]⟩), (2, 1, ⟨#[]⟩), (2, 5, ⟨#[]⟩)] = (4, 0, ⟨#[98, 99]⟩) := by
  unfold calV
  rw [calP_C]
  kernel_rfl
theorem sq23 : calV ⟨#[108, 101, 110, 103, 116, 104]⟩ [(4, 0, ⟨#[97, 195, 164]⟩)] = (2, 2, ⟨#[]⟩) := by
  unfold calV
  rw [calP_C]
  kernel_rfl
theorem sq27 : calV ⟨#[110, 117, 108, 108, 105, 102]⟩ [(2, 1, ⟨#[]⟩), (3, 10000, ⟨#[]⟩)] = (0, 0, ⟨#[]⟩) := by
  unfold calV
  rw [calP_C]
  kernel_rfl
theorem sq29 : calV ⟨#[99, 111, 110, 99, 97, 116]⟩ [(4, 0, ⟨#[97]⟩), (0, 0, ⟨#[]⟩)] = (0, 0, ⟨#[]⟩) := by
  unfold calV
  rw [calP_C]
  kernel_rfl
theorem sure_any (w : World) (hR : Ready w) : Calls Tryz.prog 12 #[] w fun e w' => e = .returned (.bool true) ∧ Below w.heap.size w w' := by
  have hg := hg53
  have e0 : ∀ wx : World, (binOp .eql 34 (.agg #[.int .i64 2, .int .i64 3, .string ⟨#[]⟩]) (.agg #[.int .i64 2, .int .i64 3, .string ⟨#[]⟩])).run Tryz.prog wx = .ok (.bool true) wx := fun wx => by rw [eq34]; simp
  have e1 : ∀ wx : World, (binOp .eql 34 (.agg #[.int .i64 2, .int .i64 (-3), .string ⟨#[]⟩]) (.agg #[.int .i64 2, .int .i64 (-3), .string ⟨#[]⟩])).run Tryz.prog wx = .ok (.bool true) wx := fun wx => by rw [eq34]; simp
  have e2 : ∀ wx : World, (binOp .eql 34 (.agg #[.int .i64 3, .int .i64 10000, .string ⟨#[]⟩]) (.agg #[.int .i64 3, .int .i64 10000, .string ⟨#[]⟩])).run Tryz.prog wx = .ok (.bool true) wx := fun wx => by rw [eq34]; simp
  have e3 : ∀ wx : World, (binOp .eql 34 (.agg #[.int .i64 4, .int .i64 0, .string ⟨#[98, 99]⟩]) (.agg #[.int .i64 4, .int .i64 0, .string ⟨#[98, 99]⟩])).run Tryz.prog wx = .ok (.bool true) wx := fun wx => by rw [eq34]; simp
  have e4 : ∀ wx : World, (binOp .eql 34 (.agg #[.int .i64 2, .int .i64 2, .string ⟨#[]⟩]) (.agg #[.int .i64 2, .int .i64 2, .string ⟨#[]⟩])).run Tryz.prog wx = .ok (.bool true) wx := fun wx => by rw [eq34]; simp
  have e5 : ∀ wx : World, (binOp .eql 34 (.agg #[.int .i64 0, .int .i64 0, .string ⟨#[]⟩]) (.agg #[.int .i64 0, .int .i64 0, .string ⟨#[]⟩])).run Tryz.prog wx = .ok (.bool true) wx := fun wx => by rw [eq34]; simp
  go_enter Tryz.func12, Tryz.ntmps12
  go_wp2_with fail
  refine (num10_any (1) _).mono ?_
  rintro e w1 ⟨rfl, hb1⟩
  have HB1 : Hid (Bel w.heap.size w w1) := Bel.step ((Bel.refl w)) hb1
  clear hb1
  go_wp2_with fail
  refine (txt10_any ⟨#[97]⟩ _).mono ?_
  rintro e w2 ⟨rfl, hb2⟩
  have HB2 : Hid (Bel w.heap.size w w2) := Bel.step (HB1.out) hb2
  clear hb2
  have hc3 : Calls Tryz.prog 13 #[.string ⟨#[108, 101, 97, 115, 116]⟩, .slice (some ⟨w2.heap.size, 0, none⟩) 2 2] (w2.alloc (.cells #[.int .i64 2, .int .i64 1, .string ⟨#[]⟩, .int .i64 4, .int .i64 0, .string ⟨#[97]⟩] 34)) fun e w' => e = .returned (.tuple #[.agg #[.int .i64 0, .int .i64 0, .string ⟨#[]⟩], .int .i64 100]) ∧ Below (w2.alloc (.cells #[.int .i64 2, .int .i64 1, .string ⟨#[]⟩, .int .i64 4, .int .i64 0, .string ⟨#[97]⟩] 34)).heap.size (w2.alloc (.cells #[.int .i64 2, .int .i64 1, .string ⟨#[]⟩, .int .i64 4, .int .i64 0, .string ⟨#[97]⟩] 34)) w' := by
    have h := Call_any ⟨#[108, 101, 97, 115, 116]⟩ (some ⟨w2.heap.size, 0, none⟩) 2 [(2, 1, ⟨#[]⟩), (4, 0, ⟨#[97]⟩)] (w2.alloc (.cells #[.int .i64 2, .int .i64 1, .string ⟨#[]⟩, .int .i64 4, .int .i64 0, .string ⟨#[97]⟩] 34)) (arg_2 2 1 ⟨#[]⟩ 4 0 ⟨#[97]⟩ w2 (hR.below HB2.out.out) (by unfold I64; omega) (by unfold I64; omega))
    rw [sq3] at h
    exact h
  go_wp2_with fail
  refine hc3.mono ?_
  rintro e w3 ⟨rfl, hb3⟩
  have HB3 : Hid (Bel w.heap.size w w3) := Bel.step (HB2.out.alloc _) hb3
  clear hb3 hc3
  go_wp2_with fail
  refine (num10_any (-9223372036854775808) _).mono ?_
  rintro e w4 ⟨rfl, hb4⟩
  have HB4 : Hid (Bel w.heap.size w w4) := Bel.step (HB3.out.alloc _) hb4
  clear hb4
  have hc5 : Calls Tryz.prog 13 #[.string ⟨#[97, 98, 115]⟩, .slice (some ⟨w4.heap.size, 0, none⟩) 1 1] (w4.alloc (.cells #[.int .i64 2, .int .i64 (-9223372036854775808), .string ⟨#[]⟩] 34)) fun e w' => e = .returned (.tuple #[.agg #[.int .i64 0, .int .i64 0, .string ⟨#[]⟩], .int .i64 20]) ∧ Below (w4.alloc (.cells #[.int .i64 2, .int .i64 (-9223372036854775808), .string ⟨#[]⟩] 34)).heap.size (w4.alloc (.cells #[.int .i64 2, .int .i64 (-9223372036854775808), .string ⟨#[]⟩] 34)) w' := by
    have h := Call_any ⟨#[97, 98, 115]⟩ (some ⟨w4.heap.size, 0, none⟩) 1 [(2, (-9223372036854775808), ⟨#[]⟩)] (w4.alloc (.cells #[.int .i64 2, .int .i64 (-9223372036854775808), .string ⟨#[]⟩] 34)) (arg_1 2 (-9223372036854775808) ⟨#[]⟩ w4 (hR.below HB4.out.out) (by unfold I64; omega))
    rw [sq5] at h
    exact h
  go_wp2_with fail
  refine hc5.mono ?_
  rintro e w5 ⟨rfl, hb5⟩
  have HB5 : Hid (Bel w.heap.size w w5) := Bel.step (HB4.out.alloc _) hb5
  clear hb5 hc5
  have hc6 : Calls Tryz.prog 10 #[.string ⟨#[99, 111, 97, 108, 101, 115, 99, 101]⟩, .slice (some ⟨w5.heap.size + 1, 0, none⟩) 3 3] ((w5.alloc (.cells #[.int .i64 0, .int .i64 0, .string ⟨#[]⟩] 34)).alloc (.cells #[.int .i64 0, .int .i64 2, .int .i64 3] 3)) fun e w' => e = .returned (.tuple #[.int .i64 3, .int .i64 0]) ∧ Below ((w5.alloc (.cells #[.int .i64 0, .int .i64 0, .string ⟨#[]⟩] 34)).alloc (.cells #[.int .i64 0, .int .i64 2, .int .i64 3] 3)).heap.size ((w5.alloc (.cells #[.int .i64 0, .int .i64 0, .string ⟨#[]⟩] 34)).alloc (.cells #[.int .i64 0, .int .i64 2, .int .i64 3] 3)) w' := by
    have h := Kind_any ⟨#[99, 111, 97, 108, 101, 115, 99, 101]⟩ (some ⟨(w5.alloc (.cells #[.int .i64 0, .int .i64 0, .string ⟨#[]⟩] 34)).heap.size, 0, none⟩) 3 [0, 2, 3] ((w5.alloc (.cells #[.int .i64 0, .int .i64 0, .string ⟨#[]⟩] 34)).alloc (.cells #[.int .i64 0, .int .i64 2, .int .i64 3] 3)) (by simp) (Nat.le_refl _) (Or.inr ⟨_, 0, rfl, fun i hi => by
      simp only [List.length_cons, List.length_nil] at hi
      rcases (show i = 0 ∨ i = 1 ∨ i = 2 by omega) with rfl | rfl | rfl
      all_goals exact World.cell?_alloc_new _ _ _ _⟩)
    rw [sq6] at h
    rw [World.size_alloc] at h
    exact h
  go_wp2_with fail
  refine hc6.mono ?_
  rintro e w6 ⟨rfl, hb6⟩
  have HB6 : Hid (Bel w.heap.size w w6) := Bel.step ((HB5.out.alloc _).alloc _) hb6
  clear hb6 hc6
  go_wp2_with fail
  refine (dec10_any (25000) _).mono ?_
  rintro e w7 ⟨rfl, hb7⟩
  have HB7 : Hid (Bel w.heap.size w w7) := Bel.step (HB6.out) hb7
  clear hb7
  have hc8 : Calls Tryz.prog 18 #[.string ⟨#[114, 111, 117, 110, 100]⟩, .slice (some ⟨w7.heap.size, 0, none⟩) 1 1] (w7.alloc (.cells #[.int .i64 3, .int .i64 25000, .string ⟨#[]⟩] 34)) fun e w' => e = .returned (.agg #[.int .i64 2, .int .i64 3, .string ⟨#[]⟩]) ∧ Below (w7.alloc (.cells #[.int .i64 3, .int .i64 25000, .string ⟨#[]⟩] 34)).heap.size (w7.alloc (.cells #[.int .i64 3, .int .i64 25000, .string ⟨#[]⟩] 34)) w' := by
    have h := lcall_any ⟨#[114, 111, 117, 110, 100]⟩ (some ⟨w7.heap.size, 0, none⟩) 1 [(3, 25000, ⟨#[]⟩)] (w7.alloc (.cells #[.int .i64 3, .int .i64 25000, .string ⟨#[]⟩] 34)) (arg_1 3 25000 ⟨#[]⟩ w7 (hR.below HB7.out.out) (by unfold I64; omega))
    rw [sq8] at h
    exact h
  go_wp2_with fail
  refine hc8.mono ?_
  rintro e w8 ⟨rfl, hb8⟩
  have HB8 : Hid (Bel w.heap.size w w8) := Bel.step (HB7.out.alloc _) hb8
  clear hb8 hc8
  go_wp2_with fail
  refine (num10_any (3) _).mono ?_
  rintro e w9 ⟨rfl, hb9⟩
  have HB9 : Hid (Bel w.heap.size w w9) := Bel.step (HB8.out) hb9
  clear hb9
  go_wp2_with fail
  refine (dec10_any (-25000) _).mono ?_
  rintro e w10 ⟨rfl, hb10⟩
  have HB10 : Hid (Bel w.heap.size w w10) := Bel.step (HB9.out) hb10
  clear hb10
  have hc11 : Calls Tryz.prog 18 #[.string ⟨#[114, 111, 117, 110, 100]⟩, .slice (some ⟨w10.heap.size, 0, none⟩) 1 1] (w10.alloc (.cells #[.int .i64 3, .int .i64 (-25000), .string ⟨#[]⟩] 34)) fun e w' => e = .returned (.agg #[.int .i64 2, .int .i64 (-3), .string ⟨#[]⟩]) ∧ Below (w10.alloc (.cells #[.int .i64 3, .int .i64 (-25000), .string ⟨#[]⟩] 34)).heap.size (w10.alloc (.cells #[.int .i64 3, .int .i64 (-25000), .string ⟨#[]⟩] 34)) w' := by
    have h := lcall_any ⟨#[114, 111, 117, 110, 100]⟩ (some ⟨w10.heap.size, 0, none⟩) 1 [(3, (-25000), ⟨#[]⟩)] (w10.alloc (.cells #[.int .i64 3, .int .i64 (-25000), .string ⟨#[]⟩] 34)) (arg_1 3 (-25000) ⟨#[]⟩ w10 (hR.below HB10.out.out) (by unfold I64; omega))
    rw [sq11] at h
    exact h
  go_wp2_with fail
  refine hc11.mono ?_
  rintro e w11 ⟨rfl, hb11⟩
  have HB11 : Hid (Bel w.heap.size w w11) := Bel.step (HB10.out.alloc _) hb11
  clear hb11 hc11
  go_wp2_with fail
  refine (num10_any (-3) _).mono ?_
  rintro e w12 ⟨rfl, hb12⟩
  have HB12 : Hid (Bel w.heap.size w w12) := Bel.step (HB11.out) hb12
  clear hb12
  go_wp2_with fail
  refine (num10_any (1) _).mono ?_
  rintro e w13 ⟨rfl, hb13⟩
  have HB13 : Hid (Bel w.heap.size w w13) := Bel.step (HB12.out) hb13
  clear hb13
  go_wp2_with fail
  refine (dec10_any (25000) _).mono ?_
  rintro e w14 ⟨rfl, hb14⟩
  have HB14 : Hid (Bel w.heap.size w w14) := Bel.step (HB13.out) hb14
  clear hb14
  have hc15 : Calls Tryz.prog 18 #[.string ⟨#[99, 111, 97, 108, 101, 115, 99, 101]⟩, .slice (some ⟨w14.heap.size, 0, none⟩) 3 3] (w14.alloc (.cells #[.int .i64 0, .int .i64 0, .string ⟨#[]⟩, .int .i64 2, .int .i64 1, .string ⟨#[]⟩, .int .i64 3, .int .i64 25000, .string ⟨#[]⟩] 34)) fun e w' => e = .returned (.agg #[.int .i64 3, .int .i64 10000, .string ⟨#[]⟩]) ∧ Below (w14.alloc (.cells #[.int .i64 0, .int .i64 0, .string ⟨#[]⟩, .int .i64 2, .int .i64 1, .string ⟨#[]⟩, .int .i64 3, .int .i64 25000, .string ⟨#[]⟩] 34)).heap.size (w14.alloc (.cells #[.int .i64 0, .int .i64 0, .string ⟨#[]⟩, .int .i64 2, .int .i64 1, .string ⟨#[]⟩, .int .i64 3, .int .i64 25000, .string ⟨#[]⟩] 34)) w' := by
    have h := lcall_any ⟨#[99, 111, 97, 108, 101, 115, 99, 101]⟩ (some ⟨w14.heap.size, 0, none⟩) 3 [(0, 0, ⟨#[]⟩), (2, 1, ⟨#[]⟩), (3, 25000, ⟨#[]⟩)] (w14.alloc (.cells #[.int .i64 0, .int .i64 0, .string ⟨#[]⟩, .int .i64 2, .int .i64 1, .string ⟨#[]⟩, .int .i64 3, .int .i64 25000, .string ⟨#[]⟩] 34)) (arg_3 0 0 ⟨#[]⟩ 2 1 ⟨#[]⟩ 3 25000 ⟨#[]⟩ w14 (hR.below HB14.out.out) (by unfold I64; omega) (by unfold I64; omega) (by unfold I64; omega))
    rw [sq15] at h
    exact h
  go_wp2_with fail
  refine hc15.mono ?_
  rintro e w15 ⟨rfl, hb15⟩
  have HB15 : Hid (Bel w.heap.size w w15) := Bel.step (HB14.out.alloc _) hb15
  clear hb15 hc15
  go_wp2_with fail
  refine (dec10_any (10000) _).mono ?_
  rintro e w16 ⟨rfl, hb16⟩
  have HB16 : Hid (Bel w.heap.size w w16) := Bel.step (HB15.out) hb16
  clear hb16
  go_wp2_with fail
  refine (txt10_any ⟨#[97, 98, 99]⟩ _).mono ?_
  rintro e w17 ⟨rfl, hb17⟩
  have HB17 : Hid (Bel w.heap.size w w17) := Bel.step (HB16.out) hb17
  clear hb17
  go_wp2_with fail
  refine (num10_any (1) _).mono ?_
  rintro e w18 ⟨rfl, hb18⟩
  have HB18 : Hid (Bel w.heap.size w w18) := Bel.step (HB17.out) hb18
  clear hb18
  go_wp2_with fail
  refine (num10_any (5) _).mono ?_
  rintro e w19 ⟨rfl, hb19⟩
  have HB19 : Hid (Bel w.heap.size w w19) := Bel.step (HB18.out) hb19
  clear hb19
  have hc20 : Calls Tryz.prog 18 #[.string ⟨#[115, 117, 98, 115, 116, 114]⟩, .slice (some ⟨w19.heap.size, 0, none⟩) 3 3] (w19.alloc (.cells #[.int .i64 4, .int .i64 0, .string ⟨#[97, 98, 99]⟩, .int .i64 2, .int .i64 1, .string ⟨#[]⟩, .int .i64 2, .int .i64 5, .string ⟨#[]⟩] 34)) fun e w' => e = .returned (.agg #[.int .i64 4, .int .i64 0, .string ⟨#[98, 99]⟩]) ∧ Below (w19.alloc (.cells #[.int .i64 4, .int .i64 0, .string ⟨#[97, 98, 99]⟩, .int .i64 2, .int .i64 1, .string ⟨#[]⟩, .int .i64 2, .int .i64 5, .string ⟨#[]⟩] 34)).heap.size (w19.alloc (.cells #[.int .i64 4, .int .i64 0, .string ⟨#[97, 98, 99]⟩, .int .i64 2, .int .i64 1, .string ⟨#[]⟩, .int .i64 2, .int .i64 5, .string ⟨#[]⟩] 34)) w' := by
    have h := lcall_any ⟨#[115, 117, 98, 115, 116, 114]⟩ (some ⟨w19.heap.size, 0, none⟩) 3 [(4, 0, ⟨#[97, 98, 99]⟩), (2, 1, ⟨#[]⟩), (2, 5, ⟨#[]⟩)] (w19.alloc (.cells #[.int .i64 4, .int .i64 0, .string ⟨#[97, 98, 99]⟩, .int .i64 2, .int .i64 1, .string ⟨#[]⟩, .int .i64 2, .int .i64 5, .string ⟨#[]⟩] 34)) (arg_3 4 0 ⟨#[97, 98, 99]⟩ 2 1 ⟨#[]⟩ 2 5 ⟨#[]⟩ w19 (hR.below HB19.out.out) (by unfold I64; omega) (by unfold I64; omega) (by unfold I64; omega))
    rw [sq20] at h
    exact h
  go_wp2_with fail
  refine hc20.mono ?_
  rintro e w20 ⟨rfl, hb20⟩
  have HB20 : Hid (Bel w.heap.size w w20) := Bel.step (HB19.out.alloc _) hb20
  clear hb20 hc20
  go_wp2_with fail
  refine (txt10_any ⟨#[98, 99]⟩ _).mono ?_
  rintro e w21 ⟨rfl, hb21⟩
  have HB21 : Hid (Bel w.heap.size w w21) := Bel.step (HB20.out) hb21
  clear hb21
  go_wp2_with fail
  refine (txt10_any ⟨#[97, 195, 164]⟩ _).mono ?_
  rintro e w22 ⟨rfl, hb22⟩
  have HB22 : Hid (Bel w.heap.size w w22) := Bel.step (HB21.out) hb22
  clear hb22
  have hc23 : Calls Tryz.prog 18 #[.string ⟨#[108, 101, 110, 103, 116, 104]⟩, .slice (some ⟨w22.heap.size, 0, none⟩) 1 1] (w22.alloc (.cells #[.int .i64 4, .int .i64 0, .string ⟨#[97, 195, 164]⟩] 34)) fun e w' => e = .returned (.agg #[.int .i64 2, .int .i64 2, .string ⟨#[]⟩]) ∧ Below (w22.alloc (.cells #[.int .i64 4, .int .i64 0, .string ⟨#[97, 195, 164]⟩] 34)).heap.size (w22.alloc (.cells #[.int .i64 4, .int .i64 0, .string ⟨#[97, 195, 164]⟩] 34)) w' := by
    have h := lcall_any ⟨#[108, 101, 110, 103, 116, 104]⟩ (some ⟨w22.heap.size, 0, none⟩) 1 [(4, 0, ⟨#[97, 195, 164]⟩)] (w22.alloc (.cells #[.int .i64 4, .int .i64 0, .string ⟨#[97, 195, 164]⟩] 34)) (arg_1 4 0 ⟨#[97, 195, 164]⟩ w22 (hR.below HB22.out.out) (by unfold I64; omega))
    rw [sq23] at h
    exact h
  go_wp2_with fail
  refine hc23.mono ?_
  rintro e w23 ⟨rfl, hb23⟩
  have HB23 : Hid (Bel w.heap.size w w23) := Bel.step (HB22.out.alloc _) hb23
  clear hb23 hc23
  go_wp2_with fail
  refine (num10_any (2) _).mono ?_
  rintro e w24 ⟨rfl, hb24⟩
  have HB24 : Hid (Bel w.heap.size w w24) := Bel.step (HB23.out) hb24
  clear hb24
  go_wp2_with fail
  refine (num10_any (1) _).mono ?_
  rintro e w25 ⟨rfl, hb25⟩
  have HB25 : Hid (Bel w.heap.size w w25) := Bel.step (HB24.out) hb25
  clear hb25
  go_wp2_with fail
  refine (dec10_any (10000) _).mono ?_
  rintro e w26 ⟨rfl, hb26⟩
  have HB26 : Hid (Bel w.heap.size w w26) := Bel.step (HB25.out) hb26
  clear hb26
  have hc27 : Calls Tryz.prog 18 #[.string ⟨#[110, 117, 108, 108, 105, 102]⟩, .slice (some ⟨w26.heap.size, 0, none⟩) 2 2] (w26.alloc (.cells #[.int .i64 2, .int .i64 1, .string ⟨#[]⟩, .int .i64 3, .int .i64 10000, .string ⟨#[]⟩] 34)) fun e w' => e = .returned (.agg #[.int .i64 0, .int .i64 0, .string ⟨#[]⟩]) ∧ Below (w26.alloc (.cells #[.int .i64 2, .int .i64 1, .string ⟨#[]⟩, .int .i64 3, .int .i64 10000, .string ⟨#[]⟩] 34)).heap.size (w26.alloc (.cells #[.int .i64 2, .int .i64 1, .string ⟨#[]⟩, .int .i64 3, .int .i64 10000, .string ⟨#[]⟩] 34)) w' := by
    have h := lcall_any ⟨#[110, 117, 108, 108, 105, 102]⟩ (some ⟨w26.heap.size, 0, none⟩) 2 [(2, 1, ⟨#[]⟩), (3, 10000, ⟨#[]⟩)] (w26.alloc (.cells #[.int .i64 2, .int .i64 1, .string ⟨#[]⟩, .int .i64 3, .int .i64 10000, .string ⟨#[]⟩] 34)) (arg_2 2 1 ⟨#[]⟩ 3 10000 ⟨#[]⟩ w26 (hR.below HB26.out.out) (by unfold I64; omega) (by unfold I64; omega))
    rw [sq27] at h
    exact h
  go_wp2_with fail
  refine hc27.mono ?_
  rintro e w27 ⟨rfl, hb27⟩
  have HB27 : Hid (Bel w.heap.size w w27) := Bel.step (HB26.out.alloc _) hb27
  clear hb27 hc27
  go_wp2_with fail
  refine (txt10_any ⟨#[97]⟩ _).mono ?_
  rintro e w28 ⟨rfl, hb28⟩
  have HB28 : Hid (Bel w.heap.size w w28) := Bel.step (HB27.out) hb28
  clear hb28
  have hc29 : Calls Tryz.prog 18 #[.string ⟨#[99, 111, 110, 99, 97, 116]⟩, .slice (some ⟨w28.heap.size, 0, none⟩) 2 2] (w28.alloc (.cells #[.int .i64 4, .int .i64 0, .string ⟨#[97]⟩, .int .i64 0, .int .i64 0, .string ⟨#[]⟩] 34)) fun e w' => e = .returned (.agg #[.int .i64 0, .int .i64 0, .string ⟨#[]⟩]) ∧ Below (w28.alloc (.cells #[.int .i64 4, .int .i64 0, .string ⟨#[97]⟩, .int .i64 0, .int .i64 0, .string ⟨#[]⟩] 34)).heap.size (w28.alloc (.cells #[.int .i64 4, .int .i64 0, .string ⟨#[97]⟩, .int .i64 0, .int .i64 0, .string ⟨#[]⟩] 34)) w' := by
    have h := lcall_any ⟨#[99, 111, 110, 99, 97, 116]⟩ (some ⟨w28.heap.size, 0, none⟩) 2 [(4, 0, ⟨#[97]⟩), (0, 0, ⟨#[]⟩)] (w28.alloc (.cells #[.int .i64 4, .int .i64 0, .string ⟨#[97]⟩, .int .i64 0, .int .i64 0, .string ⟨#[]⟩] 34)) (arg_2 4 0 ⟨#[97]⟩ 0 0 ⟨#[]⟩ w28 (hR.below HB28.out.out) (by unfold I64; omega) (by unfold I64; omega))
    rw [sq29] at h
    exact h
  go_wp2_with fail
  refine hc29.mono ?_
  rintro e w29 ⟨rfl, hb29⟩
  have HB29 : Hid (Bel w.heap.size w w29) := Bel.step (HB28.out.alloc _) hb29
  clear hb29 hc29
  go_wp2_with fail
  refine (Names_any _).mono ?_
  rintro e w30 ⟨⟨a9, cap9, rfl, _⟩, hb30⟩
  have HB30 : Hid (Bel w.heap.size w w30) := Bel.step HB29.out hb30
  clear hb30
  go_wp2
  go_ret
  exact ⟨rfl, HB30.out.out⟩
end Go.Proofs.YtjphmbgennadcaaGreatDoor
