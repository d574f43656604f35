/- The chapter's examples: 'trade' and 'awake'. -/
import Derived.Test.YtjncoihppmbijaaDoorCheck
import Derived.Test.YtjncoihppmbijaaDoorFits
namespace Go.Proofs.YtjncoihppmbijaaDoor
open Go.ChangeShapes Go.WideShapes Go.ChangeAt Go.RowKit

def tNm (i : Nat) : ByteArray := if i = 0 then ⟨#[115, 121, 109]⟩ else ⟨#[112, 114, 105, 99, 101]⟩
def tKd (i : Nat) : Int := if i = 0 then 4 else 2
theorem trade_cols (w : World) : ColsAt ((w.alloc (.cells #[.string ⟨#[84, 114, 97, 100, 101]⟩, .slice (some ⟨w.heap.size + 1, 0, none⟩) 2 2] 24)).alloc (.cells #[.string ⟨#[115, 121, 109]⟩, .int .i64 4, .string ⟨#[112, 114, 105, 99, 101]⟩, .int .i64 2] 52)) (some ⟨w.heap.size + 1, 0, none⟩) 2 tNm tKd := by
  refine Or.inr ⟨_, _, rfl, fun i hi => ?_⟩
  have : i = 0 ∨ i = 1 := by omega
  rcases this with rfl | rfl
  · exact ⟨by go_simp; rfl, by go_simp; rfl⟩
  · exact ⟨by go_simp; rfl, by go_simp; rfl⟩
set_option maxHeartbeats 4000000 in
theorem trade_any (w : World) : Calls Tryd.prog 28 #[] w fun e w' => ∃ a, e = .returned (.agg #[.string ⟨#[84, 114, 97, 100, 101]⟩, .slice (some a) 2 2]) ∧ ColsAt w' (some a) 2 tNm tKd ∧ Below w.heap.size w w' := by
  have hcols := trade_cols w
  go_enter Tryd.func28, Tryd.ntmps28
  go_wp2
  refine bodyPost_ret (v := .agg #[.string ⟨#[84, 114, 97, 100, 101]⟩, .slice (some ⟨w.heap.size + 1, 0, none⟩) 2 2]) (by simp [results, Tryd.results28, go_sem]) rfl ⟨_, rfl, hcols, (Bel.out (by repeat (first | exact Bel.refl _ | assumption | refine Bel.drew ?_ | refine Bel.drewN ?_ _ | refine Bel.alloc ?_ _ | refine Bel.setCell ?_ (by simp <;> omega) _ | refine Bel.step ?_ (by assumption))))⟩

def vK (i : Nat) : Int := if i = 0 then 4 else 2
def vN (i : Nat) : Int := if i = 0 then 0 else 5
def vT (i : Nat) : ByteArray := if i = 0 then ⟨#[65]⟩ else ⟨#[]⟩
theorem row_at (w : World) : ValsAt (w.alloc (.cells #[.int .i64 4, .int .i64 0, .string ⟨#[65]⟩, .int .i64 2, .int .i64 5, .string ⟨#[]⟩] 50)) (some ⟨w.heap.size, 0, none⟩) 2 vK vN vT := by
  refine Or.inr ⟨_, _, rfl, fun i hi => ?_⟩
  have : i = 0 ∨ i = 1 := by omega
  rcases this with rfl | rfl
  · exact ⟨by go_simp; rfl, by go_simp; rfl, by go_simp; rfl⟩
  · exact ⟨by go_simp; rfl, by go_simp; rfl, by go_simp; rfl⟩
theorem null_at (w : World) : ValsAt (w.alloc (.cells #[.int .i64 0, .int .i64 0, .string ⟨#[]⟩] 50)) (some ⟨w.heap.size, 0, none⟩) 1 (fun _ => 0) (fun _ => 0) (fun _ => ⟨#[]⟩) := by
  refine Or.inr ⟨_, _, rfl, fun i hi => ?_⟩
  have : i = 0 := by omega
  subst this
  exact ⟨by go_simp, by go_simp, by go_simp⟩
theorem p1 : plI (plF tNm ⟨#[112, 114, 105, 99, 101]⟩ 2) = 1 := by decide +kernel
theorem p2 : (plF tNm ⟨#[112, 114, 105, 99, 101]⟩ 2).isSome = true := by decide +kernel
theorem p3 : erI 30 (checkS ⟨#[84, 114, 97, 100, 101]⟩ 2 tNm tKd) = 0 := by decide +kernel
theorem p4 : erI 31 (fitsS 2 tKd 2 vK vN vT) = 0 := by decide +kernel
theorem p5 : erI 31 (fitsS 2 tKd 1 (fun _ => 0) (fun _ => 0) (fun _ => ⟨#[]⟩)) = 31 := by decide +kernel
theorem p6 : nameS ⟨#[97, 57]⟩ = true := by decide +kernel
theorem p7 : nameS ⟨#[57, 97]⟩ = false := by decide +kernel

set_option maxHeartbeats 8000000 in
theorem awake_any (w : World) (hR : Ready w) : Calls Tryd.prog 14 #[] w fun e w' => e = .returned (.bool true) ∧ Below w.heap.size w w' := by
  have f6 := p6
  have f7 := p7
  go_enter Tryd.func14, Tryd.ntmps14
  go_wp2_with (first | (go_at_call 28; refine (trade_any _).mono ?_; rintro e wT ⟨aT, rfl, hcT, hbT⟩) | (go_at_call 8; refine (Place_any _ _ _ _ _ tNm tKd _ (by omega) hcT).mono ?_; rintro e w8 ⟨rfl, hb8⟩; rw [p1, p2]) | (go_at_call 10; refine (SCheck_any _ _ _ _ tNm tKd _ hcT).mono ?_; rintro e w10 ⟨rfl, hb10⟩; rw [p3]))
  refine (Fits_any _ _ _ _ _ _ _ tNm tKd vK vN vT _ (hR.below (Bel.out (by repeat (first | exact Bel.refl _ | assumption | refine Bel.drew ?_ | refine Bel.drewN ?_ _ | refine Bel.alloc ?_ _ | refine Bel.setCell ?_ (by simp <;> omega) _ | refine Bel.step ?_ (by assumption))))) (by omega) (hcT.alloc _) (row_at _)).mono ?_
  rintro e w15 ⟨rfl, hb15⟩
  rw [p4]
  go_wp2_with (go_at_call 28; refine (trade_any _).mono ?_; rintro e wT ⟨aT, rfl, hcT, hbT⟩)
  refine (Fits_any _ _ _ _ _ _ _ tNm tKd (fun _ => 0) (fun _ => 0) (fun _ => ⟨#[]⟩) _ (hR.below (Bel.out (by repeat (first | exact Bel.refl _ | assumption | refine Bel.drew ?_ | refine Bel.drewN ?_ _ | refine Bel.alloc ?_ _ | refine Bel.setCell ?_ (by simp <;> omega) _ | refine Bel.step ?_ (by assumption))))) (by omega) (hcT.alloc _) (null_at _)).mono ?_
  rintro e w16 ⟨rfl, hb16⟩
  rw [p5]
  go_wp2_with (go_at_call 12; refine (Name_any _ _).mono ?_; rintro e w12 ⟨rfl, rfl⟩)
  go_ret
  exact ⟨rfl, (Bel.out (by repeat (first | exact Bel.refl _ | assumption | refine Bel.drew ?_ | refine Bel.drewN ?_ _ | refine Bel.alloc ?_ _ | refine Bel.setCell ?_ (by simp <;> omega) _ | refine Bel.step ?_ (by assumption))))⟩
end Go.Proofs.YtjncoihppmbijaaDoor
