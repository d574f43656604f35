/- Which rows fit a schema: package schema and the document's answer. -/
import Derived.Test.YtjncoihppmbijaaDoorMem
import Derived.Test.YtjncoihppmbijaaDoorRMay
namespace Go.Proofs.YtjncoihppmbijaaDoor
open Go.ChangeShapes Go.WideShapes Go.ChangeAt Go.RowKit
attribute [local go_sem ↓] Go.wp_at_zero Go.wp_at_succ

theorem kp1 {w wx w' : World} {p0 o0 : Nat} {c0 : Value} (hS : wx.cell? ⟨p0, o0, none⟩ = some c0 ∧ Below w.heap.size w wx) (hb : Below wx.heap.size wx w') : w'.cell? ⟨p0, o0, none⟩ = some c0 ∧ Below w.heap.size w w' :=
  ⟨cell_below hb hS.1, hS.2.trans (hb.mono hS.2.size)⟩
theorem kp1d {w wx : World} {p0 o0 : Nat} {c0 : Value} (hS : wx.cell? ⟨p0, o0, none⟩ = some c0 ∧ Below w.heap.size w wx) : wx.drew.cell? ⟨p0, o0, none⟩ = some c0 ∧ Below w.heap.size w wx.drew :=
  ⟨hS.1, hS.2.drew⟩
theorem kp1r {w wx : World} {p0 o0 : Nat} {c0 : Value} (hR : Ready w) (hS : wx.cell? ⟨p0, o0, none⟩ = some c0 ∧ Below w.heap.size w wx) : Ready wx := hR.below hS.2
theorem kp1l {w wx : World} {p0 o0 : Nat} {c0 : Value} (hS : wx.cell? ⟨p0, o0, none⟩ = some c0 ∧ Below w.heap.size w wx) : Below w.heap.size w wx := hS.2
theorem kp2 {w wx w' : World} {p0 o0 p1 o1 : Nat} {c0 c1 : Value} (hS : wx.cell? ⟨p0, o0, none⟩ = some c0 ∧ wx.cell? ⟨p1, o1, none⟩ = some c1 ∧ Below w.heap.size w wx) (hb : Below wx.heap.size wx w') : w'.cell? ⟨p0, o0, none⟩ = some c0 ∧ w'.cell? ⟨p1, o1, none⟩ = some c1 ∧ Below w.heap.size w w' :=
  ⟨cell_below hb hS.1, cell_below hb hS.2.1, hS.2.2.trans (hb.mono hS.2.2.size)⟩
theorem kp2d {w wx : World} {p0 o0 p1 o1 : Nat} {c0 c1 : Value} (hS : wx.cell? ⟨p0, o0, none⟩ = some c0 ∧ wx.cell? ⟨p1, o1, none⟩ = some c1 ∧ Below w.heap.size w wx) : wx.drew.cell? ⟨p0, o0, none⟩ = some c0 ∧ wx.drew.cell? ⟨p1, o1, none⟩ = some c1 ∧ Below w.heap.size w wx.drew :=
  ⟨hS.1, hS.2.1, hS.2.2.drew⟩
theorem kp2r {w wx : World} {p0 o0 p1 o1 : Nat} {c0 c1 : Value} (hR : Ready w) (hS : wx.cell? ⟨p0, o0, none⟩ = some c0 ∧ wx.cell? ⟨p1, o1, none⟩ = some c1 ∧ Below w.heap.size w wx) : Ready wx := hR.below hS.2.2
theorem kp2l {w wx : World} {p0 o0 p1 o1 : Nat} {c0 c1 : Value} (hS : wx.cell? ⟨p0, o0, none⟩ = some c0 ∧ wx.cell? ⟨p1, o1, none⟩ = some c1 ∧ Below w.heap.size w wx) : Below w.heap.size w wx := hS.2.2
theorem kp3 {w wx w' : World} {p0 o0 p1 o1 p2 o2 : Nat} {c0 c1 c2 : Value} (hS : wx.cell? ⟨p0, o0, none⟩ = some c0 ∧ wx.cell? ⟨p1, o1, none⟩ = some c1 ∧ wx.cell? ⟨p2, o2, none⟩ = some c2 ∧ Below w.heap.size w wx) (hb : Below wx.heap.size wx w') : w'.cell? ⟨p0, o0, none⟩ = some c0 ∧ w'.cell? ⟨p1, o1, none⟩ = some c1 ∧ w'.cell? ⟨p2, o2, none⟩ = some c2 ∧ Below w.heap.size w w' :=
  ⟨cell_below hb hS.1, cell_below hb hS.2.1, cell_below hb hS.2.2.1, hS.2.2.2.trans (hb.mono hS.2.2.2.size)⟩
theorem kp3d {w wx : World} {p0 o0 p1 o1 p2 o2 : Nat} {c0 c1 c2 : Value} (hS : wx.cell? ⟨p0, o0, none⟩ = some c0 ∧ wx.cell? ⟨p1, o1, none⟩ = some c1 ∧ wx.cell? ⟨p2, o2, none⟩ = some c2 ∧ Below w.heap.size w wx) : wx.drew.cell? ⟨p0, o0, none⟩ = some c0 ∧ wx.drew.cell? ⟨p1, o1, none⟩ = some c1 ∧ wx.drew.cell? ⟨p2, o2, none⟩ = some c2 ∧ Below w.heap.size w wx.drew :=
  ⟨hS.1, hS.2.1, hS.2.2.1, hS.2.2.2.drew⟩
theorem kp3r {w wx : World} {p0 o0 p1 o1 p2 o2 : Nat} {c0 c1 c2 : Value} (hR : Ready w) (hS : wx.cell? ⟨p0, o0, none⟩ = some c0 ∧ wx.cell? ⟨p1, o1, none⟩ = some c1 ∧ wx.cell? ⟨p2, o2, none⟩ = some c2 ∧ Below w.heap.size w wx) : Ready wx := hR.below hS.2.2.2
theorem kp3l {w wx : World} {p0 o0 p1 o1 p2 o2 : Nat} {c0 c1 c2 : Value} (hS : wx.cell? ⟨p0, o0, none⟩ = some c0 ∧ wx.cell? ⟨p1, o1, none⟩ = some c1 ∧ wx.cell? ⟨p2, o2, none⟩ = some c2 ∧ Below w.heap.size w wx) : Below w.heap.size w wx := hS.2.2.2
theorem kp4 {w wx w' : World} {p0 o0 p1 o1 p2 o2 p3 o3 : Nat} {c0 c1 c2 c3 : Value} (hS : wx.cell? ⟨p0, o0, none⟩ = some c0 ∧ wx.cell? ⟨p1, o1, none⟩ = some c1 ∧ wx.cell? ⟨p2, o2, none⟩ = some c2 ∧ wx.cell? ⟨p3, o3, none⟩ = some c3 ∧ Below w.heap.size w wx) (hb : Below wx.heap.size wx w') : w'.cell? ⟨p0, o0, none⟩ = some c0 ∧ w'.cell? ⟨p1, o1, none⟩ = some c1 ∧ w'.cell? ⟨p2, o2, none⟩ = some c2 ∧ w'.cell? ⟨p3, o3, none⟩ = some c3 ∧ Below w.heap.size w w' :=
  ⟨cell_below hb hS.1, cell_below hb hS.2.1, cell_below hb hS.2.2.1, cell_below hb hS.2.2.2.1, hS.2.2.2.2.trans (hb.mono hS.2.2.2.2.size)⟩
theorem kp4d {w wx : World} {p0 o0 p1 o1 p2 o2 p3 o3 : Nat} {c0 c1 c2 c3 : Value} (hS : wx.cell? ⟨p0, o0, none⟩ = some c0 ∧ wx.cell? ⟨p1, o1, none⟩ = some c1 ∧ wx.cell? ⟨p2, o2, none⟩ = some c2 ∧ wx.cell? ⟨p3, o3, none⟩ = some c3 ∧ Below w.heap.size w wx) : wx.drew.cell? ⟨p0, o0, none⟩ = some c0 ∧ wx.drew.cell? ⟨p1, o1, none⟩ = some c1 ∧ wx.drew.cell? ⟨p2, o2, none⟩ = some c2 ∧ wx.drew.cell? ⟨p3, o3, none⟩ = some c3 ∧ Below w.heap.size w wx.drew :=
  ⟨hS.1, hS.2.1, hS.2.2.1, hS.2.2.2.1, hS.2.2.2.2.drew⟩
theorem kp4r {w wx : World} {p0 o0 p1 o1 p2 o2 p3 o3 : Nat} {c0 c1 c2 c3 : Value} (hR : Ready w) (hS : wx.cell? ⟨p0, o0, none⟩ = some c0 ∧ wx.cell? ⟨p1, o1, none⟩ = some c1 ∧ wx.cell? ⟨p2, o2, none⟩ = some c2 ∧ wx.cell? ⟨p3, o3, none⟩ = some c3 ∧ Below w.heap.size w wx) : Ready wx := hR.below hS.2.2.2.2
theorem kp4l {w wx : World} {p0 o0 p1 o1 p2 o2 p3 o3 : Nat} {c0 c1 c2 c3 : Value} (hS : wx.cell? ⟨p0, o0, none⟩ = some c0 ∧ wx.cell? ⟨p1, o1, none⟩ = some c1 ∧ wx.cell? ⟨p2, o2, none⟩ = some c2 ∧ wx.cell? ⟨p3, o3, none⟩ = some c3 ∧ Below w.heap.size w wx) : Below w.heap.size w wx := hS.2.2.2.2
theorem kp5 {w wx w' : World} {p0 o0 p1 o1 p2 o2 p3 o3 p4 o4 : Nat} {c0 c1 c2 c3 c4 : Value} (hS : wx.cell? ⟨p0, o0, none⟩ = some c0 ∧ wx.cell? ⟨p1, o1, none⟩ = some c1 ∧ wx.cell? ⟨p2, o2, none⟩ = some c2 ∧ wx.cell? ⟨p3, o3, none⟩ = some c3 ∧ wx.cell? ⟨p4, o4, none⟩ = some c4 ∧ Below w.heap.size w wx) (hb : Below wx.heap.size wx w') : w'.cell? ⟨p0, o0, none⟩ = some c0 ∧ w'.cell? ⟨p1, o1, none⟩ = some c1 ∧ w'.cell? ⟨p2, o2, none⟩ = some c2 ∧ w'.cell? ⟨p3, o3, none⟩ = some c3 ∧ w'.cell? ⟨p4, o4, none⟩ = some c4 ∧ Below w.heap.size w w' :=
  ⟨cell_below hb hS.1, cell_below hb hS.2.1, cell_below hb hS.2.2.1, cell_below hb hS.2.2.2.1, cell_below hb hS.2.2.2.2.1, hS.2.2.2.2.2.trans (hb.mono hS.2.2.2.2.2.size)⟩
theorem kp5d {w wx : World} {p0 o0 p1 o1 p2 o2 p3 o3 p4 o4 : Nat} {c0 c1 c2 c3 c4 : Value} (hS : wx.cell? ⟨p0, o0, none⟩ = some c0 ∧ wx.cell? ⟨p1, o1, none⟩ = some c1 ∧ wx.cell? ⟨p2, o2, none⟩ = some c2 ∧ wx.cell? ⟨p3, o3, none⟩ = some c3 ∧ wx.cell? ⟨p4, o4, none⟩ = some c4 ∧ Below w.heap.size w wx) : wx.drew.cell? ⟨p0, o0, none⟩ = some c0 ∧ wx.drew.cell? ⟨p1, o1, none⟩ = some c1 ∧ wx.drew.cell? ⟨p2, o2, none⟩ = some c2 ∧ wx.drew.cell? ⟨p3, o3, none⟩ = some c3 ∧ wx.drew.cell? ⟨p4, o4, none⟩ = some c4 ∧ Below w.heap.size w wx.drew :=
  ⟨hS.1, hS.2.1, hS.2.2.1, hS.2.2.2.1, hS.2.2.2.2.1, hS.2.2.2.2.2.drew⟩
theorem kp5r {w wx : World} {p0 o0 p1 o1 p2 o2 p3 o3 p4 o4 : Nat} {c0 c1 c2 c3 c4 : Value} (hR : Ready w) (hS : wx.cell? ⟨p0, o0, none⟩ = some c0 ∧ wx.cell? ⟨p1, o1, none⟩ = some c1 ∧ wx.cell? ⟨p2, o2, none⟩ = some c2 ∧ wx.cell? ⟨p3, o3, none⟩ = some c3 ∧ wx.cell? ⟨p4, o4, none⟩ = some c4 ∧ Below w.heap.size w wx) : Ready wx := hR.below hS.2.2.2.2.2
theorem kp5l {w wx : World} {p0 o0 p1 o1 p2 o2 p3 o3 p4 o4 : Nat} {c0 c1 c2 c3 c4 : Value} (hS : wx.cell? ⟨p0, o0, none⟩ = some c0 ∧ wx.cell? ⟨p1, o1, none⟩ = some c1 ∧ wx.cell? ⟨p2, o2, none⟩ = some c2 ∧ wx.cell? ⟨p3, o3, none⟩ = some c3 ∧ wx.cell? ⟨p4, o4, none⟩ = some c4 ∧ Below w.heap.size w wx) : Below w.heap.size w wx := hS.2.2.2.2.2
theorem kp6 {w wx w' : World} {p0 o0 p1 o1 p2 o2 p3 o3 p4 o4 p5 o5 : Nat} {c0 c1 c2 c3 c4 c5 : Value} (hS : wx.cell? ⟨p0, o0, none⟩ = some c0 ∧ wx.cell? ⟨p1, o1, none⟩ = some c1 ∧ wx.cell? ⟨p2, o2, none⟩ = some c2 ∧ wx.cell? ⟨p3, o3, none⟩ = some c3 ∧ wx.cell? ⟨p4, o4, none⟩ = some c4 ∧ wx.cell? ⟨p5, o5, none⟩ = some c5 ∧ Below w.heap.size w wx) (hb : Below wx.heap.size wx w') : w'.cell? ⟨p0, o0, none⟩ = some c0 ∧ w'.cell? ⟨p1, o1, none⟩ = some c1 ∧ w'.cell? ⟨p2, o2, none⟩ = some c2 ∧ w'.cell? ⟨p3, o3, none⟩ = some c3 ∧ w'.cell? ⟨p4, o4, none⟩ = some c4 ∧ w'.cell? ⟨p5, o5, none⟩ = some c5 ∧ Below w.heap.size w w' :=
  ⟨cell_below hb hS.1, cell_below hb hS.2.1, cell_below hb hS.2.2.1, cell_below hb hS.2.2.2.1, cell_below hb hS.2.2.2.2.1, cell_below hb hS.2.2.2.2.2.1, hS.2.2.2.2.2.2.trans (hb.mono hS.2.2.2.2.2.2.size)⟩
theorem kp6d {w wx : World} {p0 o0 p1 o1 p2 o2 p3 o3 p4 o4 p5 o5 : Nat} {c0 c1 c2 c3 c4 c5 : Value} (hS : wx.cell? ⟨p0, o0, none⟩ = some c0 ∧ wx.cell? ⟨p1, o1, none⟩ = some c1 ∧ wx.cell? ⟨p2, o2, none⟩ = some c2 ∧ wx.cell? ⟨p3, o3, none⟩ = some c3 ∧ wx.cell? ⟨p4, o4, none⟩ = some c4 ∧ wx.cell? ⟨p5, o5, none⟩ = some c5 ∧ Below w.heap.size w wx) : wx.drew.cell? ⟨p0, o0, none⟩ = some c0 ∧ wx.drew.cell? ⟨p1, o1, none⟩ = some c1 ∧ wx.drew.cell? ⟨p2, o2, none⟩ = some c2 ∧ wx.drew.cell? ⟨p3, o3, none⟩ = some c3 ∧ wx.drew.cell? ⟨p4, o4, none⟩ = some c4 ∧ wx.drew.cell? ⟨p5, o5, none⟩ = some c5 ∧ Below w.heap.size w wx.drew :=
  ⟨hS.1, hS.2.1, hS.2.2.1, hS.2.2.2.1, hS.2.2.2.2.1, hS.2.2.2.2.2.1, hS.2.2.2.2.2.2.drew⟩
theorem kp6r {w wx : World} {p0 o0 p1 o1 p2 o2 p3 o3 p4 o4 p5 o5 : Nat} {c0 c1 c2 c3 c4 c5 : Value} (hR : Ready w) (hS : wx.cell? ⟨p0, o0, none⟩ = some c0 ∧ wx.cell? ⟨p1, o1, none⟩ = some c1 ∧ wx.cell? ⟨p2, o2, none⟩ = some c2 ∧ wx.cell? ⟨p3, o3, none⟩ = some c3 ∧ wx.cell? ⟨p4, o4, none⟩ = some c4 ∧ wx.cell? ⟨p5, o5, none⟩ = some c5 ∧ Below w.heap.size w wx) : Ready wx := hR.below hS.2.2.2.2.2.2
theorem kp6l {w wx : World} {p0 o0 p1 o1 p2 o2 p3 o3 p4 o4 p5 o5 : Nat} {c0 c1 c2 c3 c4 c5 : Value} (hS : wx.cell? ⟨p0, o0, none⟩ = some c0 ∧ wx.cell? ⟨p1, o1, none⟩ = some c1 ∧ wx.cell? ⟨p2, o2, none⟩ = some c2 ∧ wx.cell? ⟨p3, o3, none⟩ = some c3 ∧ wx.cell? ⟨p4, o4, none⟩ = some c4 ∧ wx.cell? ⟨p5, o5, none⟩ = some c5 ∧ Below w.heap.size w wx) : Below w.heap.size w wx := hS.2.2.2.2.2.2

/-- Does a value fit a column of a kind? -/
def fcB (kd k n : Int) (t : ByteArray) : Bool := mayS k n t && (k == 0 || k == kd)
set_option maxHeartbeats 4000000 in
theorem fitsColumn_any (nm : ByteArray) (kd k n : Int) (t : ByteArray) (w : World) (hR : Ready w) : Calls Tryd.prog 29 #[.agg #[.string nm, .int .i64 kd], .agg #[.int .i64 k, .int .i64 n, .string t]] w fun e w' => e = .returned (.bool (fcB kd k n t)) ∧ Below w.heap.size w w' := by
  generalize hm : mayS k n t = M
  generalize h0 : (k == 0) = Z
  generalize h1 : (k == kd) = E
  have HF : Hid (fcB kd k n t = (M && (Z || E))) := by show _ = _; unfold fcB; rw [hm, h0, h1]
  have hB1 : Below w.heap.size w (w.alloc (.cells #[.string nm, .int .i64 kd] 52)) := (Below.refl _ _).alloc (Nat.le_refl _) _
  have hR2 : Ready ((w.alloc (.cells #[.string nm, .int .i64 kd] 52)).alloc (.cells #[.int .i64 k, .int .i64 n, .string t] 50)) := (hR.alloc _).alloc _
  cases M <;> cases Z <;> cases E
  all_goals
    go_enter Tryd.func29, Tryd.ntmps29
    go_wp2_with (go_at_call 36; refine (Check_any k n t _ hR2).mono ?_; rintro e w1 ⟨rfl, hb1⟩; rw [hm]; have q0 : w1.cell? ⟨w.heap.size, 1, none⟩ = some (.int .i64 kd) := cell_below hb1 (by go_simp); have q1 : w1.cell? ⟨w.heap.size + 1, 0, none⟩ = some (.int .i64 k) := cell_below hb1 (by go_simp))
  all_goals go_ret
  all_goals exact ⟨ret_bool (by rw [HF.out]; rfl), (Bel.out (by repeat (first | exact Bel.refl _ | assumption | refine Bel.drew ?_ | refine Bel.drewN ?_ _ | refine Bel.alloc ?_ _ | refine Bel.setCell ?_ (by simp <;> omega) _ | refine Bel.step ?_ (by assumption))))⟩

def ftP (kd k v : Nat → Int) (t : Nat → ByteArray) : Nat → Bool := fun j => fcB (kd j) (k j) (v j) (t j)
/-- Does a row fit the columns? -/
def fitsS (len : Nat) (kd : Nat → Int) (n : Nat) (k v : Nat → Int) (t : Nat → ByteArray) : Bool := decide (n = len) && allF (ftP kd k v t) n 0
set_option maxHeartbeats 8000000 in
theorem Fits_go (sn : ByteArray) (b off len cap b2 off2 cap2 : Nat) (nm : Nat → ByteArray) (kd k v : Nat → Int) (t : Nat → ByteArray) (w : World) (hR : Ready w) (hlen : len ≤ 9223372036854775807)
    (hc : ∀ i, i < len → w.cell? ⟨b, off + i * 2, none⟩ = some (.string (nm i)) ∧ w.cell? ⟨b, off + i * 2 + 1, none⟩ = some (.int .i64 (kd i)))
    (hv : ∀ i, i < len → w.cell? ⟨b2, off2 + i * 3, none⟩ = some (.int .i64 (k i)) ∧ w.cell? ⟨b2, off2 + i * 3 + 1, none⟩ = some (.int .i64 (v i)) ∧ w.cell? ⟨b2, off2 + i * 3 + 2, none⟩ = some (.string (t i))) :
    Calls Tryd.prog 15 #[.agg #[.string sn, .slice (some ⟨b, off, none⟩) len cap], .slice (some ⟨b2, off2, none⟩) len cap2] w fun e w' => e = .returned (.int .i64 (erI 31 (allF (ftP kd k v t) len 0))) ∧ Below w.heap.size w w' := by
  go_enter Tryd.func15, Tryd.ntmps15
  go_wp2
  go_loopw [15] (fun i wr => ∃ m : Nat, m ≤ len ∧ i = .int .i64 m ∧ allF (ftP kd k v t) len m = allF (ftP kd k v t) len 0 ∧ Bel (w.alloc (.cells #[.string sn, .slice (some ⟨b, off, none⟩) len cap] 24)).heap.size (w.alloc (.cells #[.string sn, .slice (some ⟨b, off, none⟩) len cap] 24)) wr) (fun i _ => len - (intOf i).toNat)
  case atStart => exact ⟨0, Nat.zero_le _, rfl, rfl, Bel.refl _⟩
  case round =>
    obtain ⟨m, hm, rfl, hV, HB⟩ := hrel
    have HV : Hid (allF (ftP kd k v t) len m = allF (ftP kd k v t) len 0) := hV
    clear hV
    have hB1 : Below w.heap.size w (w.alloc (.cells #[.string sn, .slice (some ⟨b, off, none⟩) len cap] 24)) := (Below.refl _ _).alloc (Nat.le_refl _) _
    have hB2 := HB.out
    have hW : Below w.heap.size w wr := (Bel.out (by repeat (first | exact Bel.refl _ | assumption | refine Bel.drew ?_ | refine Bel.drewN ?_ _ | refine Bel.alloc ?_ _ | refine Bel.setCell ?_ (by simp <;> omega) _ | refine Bel.step ?_ (by assumption))))
    rcases Nat.lt_or_ge m len with hlt | hge
    · have c0 : wr.cell? ⟨b, off + m * 2, none⟩ = some (.string (nm m)) := cell_below hW (hc m hlt).1
      have c1 : wr.cell? ⟨b, off + m * 2 + 1, none⟩ = some (.int .i64 (kd m)) := cell_below hW (hc m hlt).2
      have d0 : wr.cell? ⟨b2, off2 + m * 3, none⟩ = some (.int .i64 (k m)) := cell_below hW (hv m hlt).1
      have d1 : wr.cell? ⟨b2, off2 + m * 3 + 1, none⟩ = some (.int .i64 (v m)) := cell_below hW (hv m hlt).2.1
      have d2 : wr.cell? ⟨b2, off2 + m * 3 + 2, none⟩ = some (.string (t m)) := cell_below hW (hv m hlt).2.2
      have x1 : wr.cell? ⟨w.heap.size, 1, none⟩ = some (.slice (some ⟨b, off, none⟩) len cap) := cell_below hB2 (by go_simp)
      have hz : w.heap.size < wr.heap.size := cell_lt x1
      clear hc hv
      have hR1 : Ready (w.alloc (.cells #[.string sn, .slice (some ⟨b, off, none⟩) len cap] 24)) := hR.alloc _
      have hB3 : Below wr.heap.size wr (wr.alloc (.cells #[.int .i64 (k m), .int .i64 (v m), .string (t m)] 50)) := (Below.refl _ _).alloc (Nat.le_refl _) _
      have S0 : (wr.alloc (.cells #[.int .i64 (k m), .int .i64 (v m), .string (t m)] 50)).cell? ⟨w.heap.size, 1, none⟩ = some (.slice (some ⟨b, off, none⟩) len cap) ∧ (wr.alloc (.cells #[.int .i64 (k m), .int .i64 (v m), .string (t m)] 50)).cell? ⟨b, off + m * 2, none⟩ = some (.string (nm m)) ∧ (wr.alloc (.cells #[.int .i64 (k m), .int .i64 (v m), .string (t m)] 50)).cell? ⟨b, off + m * 2 + 1, none⟩ = some (.int .i64 (kd m)) ∧ (wr.alloc (.cells #[.int .i64 (k m), .int .i64 (v m), .string (t m)] 50)).cell? ⟨wr.heap.size, 0, none⟩ = some (.int .i64 (k m)) ∧ (wr.alloc (.cells #[.int .i64 (k m), .int .i64 (v m), .string (t m)] 50)).cell? ⟨wr.heap.size, 1, none⟩ = some (.int .i64 (v m)) ∧ (wr.alloc (.cells #[.int .i64 (k m), .int .i64 (v m), .string (t m)] 50)).cell? ⟨wr.heap.size, 2, none⟩ = some (.string (t m)) ∧ Below (w.alloc (.cells #[.string sn, .slice (some ⟨b, off, none⟩) len cap] 24)).heap.size (w.alloc (.cells #[.string sn, .slice (some ⟨b, off, none⟩) len cap] 24)) (wr.alloc (.cells #[.int .i64 (k m), .int .i64 (v m), .string (t m)] 50)) :=
        ⟨cell_below hB3 x1, cell_below hB3 c0, cell_below hB3 c1, by go_simp, by go_simp, by go_simp, (Bel.out (by repeat (first | exact Bel.refl _ | assumption | refine Bel.drew ?_ | refine Bel.drewN ?_ _ | refine Bel.alloc ?_ _ | refine Bel.setCell ?_ (by simp <;> omega) _ | refine Bel.step ?_ (by assumption))))⟩
      generalize hF : fcB (kd m) (k m) (v m) (t m) = F
      cases F
      · have HN : Hid (false = allF (ftP kd k v t) len 0) := by show _ = _; rw [← HV.out]; exact (allF_miss hlt hF).symm
        go_wp2
        go_region_held3 (fun wS => wS.cell? ⟨w.heap.size, 1, none⟩ = some (.slice (some ⟨b, off, none⟩) len cap) ∧ wS.cell? ⟨b, off + m * 2, none⟩ = some (.string (nm m)) ∧ wS.cell? ⟨b, off + m * 2 + 1, none⟩ = some (.int .i64 (kd m)) ∧ wS.cell? ⟨wr.heap.size, 0, none⟩ = some (.int .i64 (k m)) ∧ wS.cell? ⟨wr.heap.size, 1, none⟩ = some (.int .i64 (v m)) ∧ wS.cell? ⟨wr.heap.size, 2, none⟩ = some (.string (t m)) ∧ Below (w.alloc (.cells #[.string sn, .slice (some ⟨b, off, none⟩) len cap] 24)).heap.size (w.alloc (.cells #[.string sn, .slice (some ⟨b, off, none⟩) len cap] 24)) wS) (first | exact kp6 (by assumption) hb | exact kp6d S0) (first | (go_at_call 29; refine (fitsColumn_any _ _ _ _ _ _ ?_).mono ?_; (exact kp6r hR1 (by assumption)); rintro e w' ⟨rfl, hb⟩))
        have hBS := kp6l (by assumption)
        go_wp2
        go_ret
        exact ⟨ret_er HN.out, (Bel.out (by repeat (first | exact Bel.refl _ | assumption | refine Bel.drew ?_ | refine Bel.drewN ?_ _ | refine Bel.alloc ?_ _ | refine Bel.setCell ?_ (by simp <;> omega) _ | refine Bel.step ?_ (by assumption))))⟩
      · have HN : Hid (allF (ftP kd k v t) len (m + 1) = allF (ftP kd k v t) len 0) := by show _ = _; rw [← HV.out]; exact (allF_hit hlt hF).symm
        go_wp2
        go_region_held3 (fun wS => wS.cell? ⟨w.heap.size, 1, none⟩ = some (.slice (some ⟨b, off, none⟩) len cap) ∧ wS.cell? ⟨b, off + m * 2, none⟩ = some (.string (nm m)) ∧ wS.cell? ⟨b, off + m * 2 + 1, none⟩ = some (.int .i64 (kd m)) ∧ wS.cell? ⟨wr.heap.size, 0, none⟩ = some (.int .i64 (k m)) ∧ wS.cell? ⟨wr.heap.size, 1, none⟩ = some (.int .i64 (v m)) ∧ wS.cell? ⟨wr.heap.size, 2, none⟩ = some (.string (t m)) ∧ Below (w.alloc (.cells #[.string sn, .slice (some ⟨b, off, none⟩) len cap] 24)).heap.size (w.alloc (.cells #[.string sn, .slice (some ⟨b, off, none⟩) len cap] 24)) wS) (first | exact kp6 (by assumption) hb | exact kp6d S0) (first | (go_at_call 29; refine (fitsColumn_any _ _ _ _ _ _ ?_).mono ?_; (exact kp6r hR1 (by assumption)); rintro e w' ⟨rfl, hb⟩))
        have hBS := kp6l (by assumption)
        go_wp2
        go_roundw
        case rel => exact ⟨m + 1, by omega, by go_num, HN.out, (by repeat (first | exact Bel.refl _ | assumption | refine Bel.drew ?_ | refine Bel.drewN ?_ _ | refine Bel.alloc ?_ _ | refine Bel.setCell ?_ (by simp <;> omega) _ | refine Bel.step ?_ (by assumption)))⟩
        case measure => simp [intOf]; omega
    · have HN : Hid (true = allF (ftP kd k v t) len 0) := by show _ = _; rw [← HV.out]; exact (allF_end hge).symm
      clear hc hv
      go_wp2
      go_ret
      exact ⟨ret_ok HN.out, (Bel.out (by repeat (first | exact Bel.refl _ | assumption | refine Bel.drew ?_ | refine Bel.drewN ?_ _ | refine Bel.alloc ?_ _ | refine Bel.setCell ?_ (by simp <;> omega) _ | refine Bel.step ?_ (by assumption))))⟩
set_option maxHeartbeats 4000000 in
theorem Fits_ne (sn : ByteArray) (a a2 : Option Addr) (len cap n cap2 : Nat) (w : World) (h : ((n : Int) == (len : Int)) = false) :
    Calls Tryd.prog 15 #[.agg #[.string sn, .slice a len cap], .slice a2 n cap2] w fun e w' => e = .returned (.int .i64 31) ∧ Below w.heap.size w w' := by
  have h' : ((n : Int) != (len : Int)) = true := by unfold bne; rw [h]; rfl
  go_enter Tryd.func15, Tryd.ntmps15
  go_wp2
  all_goals go_ret
  all_goals exact ⟨rfl, (Bel.out (by repeat (first | exact Bel.refl _ | assumption | refine Bel.drew ?_ | refine Bel.drewN ?_ _ | refine Bel.alloc ?_ _ | refine Bel.setCell ?_ (by simp <;> omega) _ | refine Bel.step ?_ (by assumption))))⟩
set_option maxHeartbeats 4000000 in
theorem Fits_0 (sn : ByteArray) (a a2 : Option Addr) (cap cap2 : Nat) (w : World) :
    Calls Tryd.prog 15 #[.agg #[.string sn, .slice a 0 cap], .slice a2 0 cap2] w fun e w' => e = .returned (.int .i64 0) ∧ Below w.heap.size w w' := by
  go_enter Tryd.func15, Tryd.ntmps15
  go_wp2
  refine wp_loop_rounds 1 ?_
  rw [rounds_succ]
  go_wp2
  go_ret
  exact ⟨rfl, (Bel.out (by repeat (first | exact Bel.refl _ | assumption | refine Bel.drew ?_ | refine Bel.drewN ?_ _ | refine Bel.alloc ?_ _ | refine Bel.setCell ?_ (by simp <;> omega) _ | refine Bel.step ?_ (by assumption))))⟩
theorem Fits_any (sn : ByteArray) (a : Option Addr) (len cap : Nat) (a2 : Option Addr) (n cap2 : Nat) (nm : Nat → ByteArray) (kd k v : Nat → Int) (t : Nat → ByteArray) (w : World) (hR : Ready w) (hlen : n ≤ 9223372036854775807)
    (hc : ColsAt w a len nm kd) (hv : ValsAt w a2 n k v t) :
    Calls Tryd.prog 15 #[.agg #[.string sn, .slice a len cap], .slice a2 n cap2] w fun e w' => e = .returned (.int .i64 (erI 31 (fitsS len kd n k v t))) ∧ Below w.heap.size w w' := by
  by_cases hn : n = len
  · subst hn
    have e : fitsS n kd n k v t = allF (ftP kd k v t) n 0 := by unfold fitsS; rw [decide_eq_true rfl, Bool.true_and]
    rw [e]
    by_cases h0 : n = 0
    · subst h0; exact Fits_0 sn a a2 cap cap2 w
    · rcases hc with hc | ⟨b, off, rfl, hc⟩
      · exact absurd hc h0
      rcases hv with hv | ⟨b2, off2, rfl, hv⟩
      · exact absurd hv h0
      exact Fits_go sn b off n cap b2 off2 cap2 nm kd k v t w hR hlen hc hv
  · have e : erI 31 (fitsS len kd n k v t) = 31 := by unfold fitsS; rw [decide_eq_false hn, Bool.false_and]; rfl
    rw [e]
    exact Fits_ne sn a a2 len cap n cap2 w (by rw [beq_eq_false_iff_ne]; omega)
end Go.Proofs.YtjncoihppmbijaaDoor
