/- Numbers: whole, fraction, decimal, period. -/
import Derived.Test.YtcemogaacicnfaaGreatDoorSgn
import Derived.Lib.AtoiErrMem
namespace Go.Proofs.YtcemogaacicnfaaGreatDoor
open Go.ChangeShapes Go.WideShapes Go.ChangeAt Go.RowKit

/-- A token of nothing, in memory. -/
def tokO : Obj := .cells #[.int .i64 0, .string ⟨#[]⟩, .int .i64 0, .int .i64 0] 78
theorem tokBox {w w2 : World} (hb : Below (w.alloc tokO).heap.size (w.alloc tokO) w2) :
    w2.cell? ⟨w.heap.size, 0, none⟩ = some (.int .i64 0) ∧ w2.cell? ⟨w.heap.size, 1, none⟩ = some (.string ⟨#[]⟩) ∧ w2.cell? ⟨w.heap.size, 2, none⟩ = some (.int .i64 0) ∧ w2.cell? ⟨w.heap.size, 3, none⟩ = some (.int .i64 0) ∧
    w2.frozen? ⟨w.heap.size, 0, none⟩ = false ∧ w2.frozen? ⟨w.heap.size, 1, none⟩ = false ∧ w2.frozen? ⟨w.heap.size, 2, none⟩ = false ∧ w2.frozen? ⟨w.heap.size, 3, none⟩ = false := by
  have hlt : w.heap.size < (w.alloc tokO).heap.size := by simp
  have hn := hb.block w.heap.size hlt
  have he : (w.alloc tokO).heap[w.heap.size]? = some tokO := by show (w.heap.push tokO)[w.heap.size]? = _; simp
  rw [he] at hn
  unfold World.cell? World.frozen?
  simp only [hn, tokO]
  refine ⟨rfl, rfl, rfl, rfl, rfl, rfl, rfl, rfl⟩
/-- Atoi, whatever comes. -/
theorem atoi_any (d : List UInt8) (w : World) (hR : Rdy w) (hl : d.length ≤ 1048576000) : Calls Tryz.prog 184 #[.string (bsA d)] w fun e w' => ((∃ v, Lib.atoiAll d = .ok v ∧ e = .returned (.tuple #[.int .i64 v, .nilIface])) ∨ ((∀ v, Lib.atoiAll d ≠ .ok v) ∧ ∃ x p, e = .returned (.tuple #[.int .i64 x, .iface 147 p]))) ∧ Below w.heap.size w w' := by
  have hz := bsA_size d
  obtain ⟨ev, hv, hev⟩ := hR.es
  obtain ⟨ev2, hv2, hev2⟩ := hR.er
  cases hd : Lib.atoiAll d with
  | ok v =>
    refine (Tryz.strconv_Atoi_ok (bsA d) (by omega) v (by rw [bsA_list]; exact hd) w).mono fun e w' h => ⟨Or.inl ⟨v, rfl, h.1⟩, ?_⟩
    rcases h.2 with rfl | ⟨t, rfl⟩
    · exact Below.refl _ _
    · exact Lib.bytesWorld_below _ _ _
  | «syntax» =>
    refine (Tryz.strconv_Atoi_syntax (bsA d) (by omega) (by rw [bsA_list]; exact hd) ev w hv hev).mono fun e w' h => ?_
    obtain ⟨N, he, _, _, hb⟩ := h
    exact ⟨Or.inr ⟨fun v e => (by cases e), _, _, he⟩, hb⟩
  | range =>
    refine (Tryz.strconv_Atoi_range (bsA d) (by omega) (by rw [bsA_list]; exact hd) ev2 w hv2 hev2).mono fun e w' h => ?_
    obtain ⟨N, he, _, _, hb⟩ := h
    exact ⟨Or.inr ⟨fun v e => (by cases e), _, _, he⟩, hb⟩
set_option maxRecDepth 20000 in
set_option maxHeartbeats 4000000 in
theorem whole_any (k : Int) (d : List UInt8) (w : World) (hR : Rdy w) (hl : d.length ≤ 1048576000) : Calls Tryz.prog 173 #[.int .i64 k, .string (bsA d)] w fun e w' => e = .returned (.tuple #[tkV (whlP k d).1 0, .int .i64 (whlP k d).2]) ∧ Below w.heap.size w w' := by
  have hc := atoi_any d (w.alloc tokO) (hR.alloc _) hl
  have hW : ∀ v, Lib.atoiAll d = .ok v → whlP k d = ((k, [], v), 0) := fun v h => by unfold whlP; rw [h]
  have hN : (∀ v, Lib.atoiAll d ≠ .ok v) → whlP k d = (tk0, 51) := fun h => by
    unfold whlP
    split
    · rename_i v e; exact absurd e (h v)
    · rfl
  have HW : Hid _ := hW
  have HN : Hid _ := hN
  clear hW hN hR
  go_enter Tryz.func173, Tryz.ntmps173
  go_wp2_with fail
  refine hc.mono ?_
  rintro e w2 ⟨⟨v, hv, rfl⟩ | ⟨hv, x, p, rfl⟩, hb⟩
  · have hE := HW.out v hv
    have HE : Hid _ := hE
    obtain ⟨y0, y1, y2, y3, f0, f1, f2, f3⟩ := tokBox hb
    have hB : Below w.heap.size w w2 := ((Below.refl _ _).alloc (Nat.le_refl _) _).trans (hb.mono (by simp))
    clear hb hc hv hE HW HN
    go_wp2
    refine bodyPost_ret (v := .tuple #[.agg #[.int .i64 k, .string ⟨#[]⟩, .int .i64 v, .int .i64 0], .int .i64 0]) (by simp [results, Tryz.results173, go_sem, y0, y1, y2, y3]) rfl ⟨by rw [HE.out]; rfl, (((hB.setCell (p := ⟨w.heap.size, 0, none⟩) (Nat.le_refl _) _).setCell (p := ⟨w.heap.size, 1, none⟩) (Nat.le_refl _) _).setCell (p := ⟨w.heap.size, 2, none⟩) (Nat.le_refl _) _).setCell (p := ⟨w.heap.size, 3, none⟩) (Nat.le_refl _) _⟩
  · have hE := HN.out hv
    have HE : Hid _ := hE
    obtain ⟨y0, y1, y2, y3, f0, f1, f2, f3⟩ := tokBox hb
    have hB : Below w.heap.size w w2 := ((Below.refl _ _).alloc (Nat.le_refl _) _).trans (hb.mono (by simp))
    clear hb hc hv hE HW HN
    go_wp2
    refine bodyPost_ret (v := .tuple #[.agg #[.int .i64 0, .string ⟨#[]⟩, .int .i64 0, .int .i64 0], .int .i64 51]) (by simp [results, Tryz.results173, go_sem, y0, y1, y2, y3]) rfl ⟨by rw [HE.out]; rfl, (((hB.setCell (p := ⟨w.heap.size, 0, none⟩) (Nat.le_refl _) _).setCell (p := ⟨w.heap.size, 1, none⟩) (Nat.le_refl _) _).setCell (p := ⟨w.heap.size, 2, none⟩) (Nat.le_refl _) _).setCell (p := ⟨w.heap.size, 3, none⟩) (Nat.le_refl _) _⟩
set_option maxRecDepth 20000 in
set_option maxHeartbeats 4000000 in
theorem fraction_any (l : List UInt8) (w : World) (hl : l.length ≤ 1048576000) : Calls Tryz.prog 171 #[.string (bsA l)] w fun e w' => e = .returned (.string (bsA (frcL l))) ∧ w' = w := by
  have hz := bsA_size l
  have hc := Tryz.strings_HasPrefix (bsA l) ⟨#[46]⟩ w
  rw [bsA_list] at hc
  change Calls Tryz.prog 135 _ w (fun e w' => e = .returned (.bool (Lib.hasPrefix l [46])) ∧ w' = w) at hc
  unfold frcL
  cases hp : Lib.hasPrefix l [46] with
  | false =>
    rw [hp] at hc
    go_enter Tryz.func171, Tryz.ntmps171
    go_wp2_with (go_at_call 135; refine hc.mono ?_; rintro e w' ⟨rfl, rfl⟩)
    go_ret
    exact ⟨rfl, rfl⟩
  | true =>
    rw [hp] at hc
    have h1 : 1 ≤ l.length := by
      cases l with
      | nil => simp [Lib.hasPrefix] at hp
      | cons c r => simp
    have hd := leading_isDigit l.tail w (by simp; omega)
    have hx : (bsA l).extract 1 l.length = bsA l.tail := by rw [ext_drop', List.drop_one]
    go_enter Tryz.func171, Tryz.ntmps171
    go_wp2_with (first | (go_at_call 135; refine hc.mono ?_; rintro e w' ⟨rfl, rfl⟩) | (go_at_call 150; refine hd.mono ?_; rintro e w' ⟨rfl, rfl⟩))
    go_ret
    exact ⟨rfl, rfl⟩
end Go.Proofs.YtcemogaacicnfaaGreatDoor
