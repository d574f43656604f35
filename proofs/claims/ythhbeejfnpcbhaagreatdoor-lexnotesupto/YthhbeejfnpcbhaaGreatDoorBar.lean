/- Tokens without their places (bare). -/
import Derived.Test.YthhbeejfnpcbhaaGreatDoorSme
namespace Go.Proofs.YthhbeejfnpcbhaaGreatDoor
open Go.ChangeShapes Go.WideShapes Go.ChangeAt Go.RowKit

def bz (r : List Tt) : List Tt := r.map fun t => (t.1, 0)
theorem bz_bar (r : List Tt) : bz r = (bar r).map fun t => (t, 0) := by unfold bz bar; rw [List.map_map]; rfl
theorem bz_len (r : List Tt) : (bz r).length = r.length := by simp [bz]
theorem bz_snoc {r : List Tt} {m : Nat} {t : Tt} (h : r[m]? = some t) : bz (r.take (m + 1)) = bz (r.take m) ++ [(t.1, 0)] := by
  rw [List.take_add_one, h]; simp [bz]
set_option maxRecDepth 20000 in
set_option maxHeartbeats 4000000 in
theorem bare_some (b off cap : Nat) (r : List Tt) (w : World) (hlen : r.length ≤ 104857600) (hc : ∀ i t, r[i]? = some t → w.cell? ⟨b, off + i * 4, none⟩ = some (.int .i64 t.1.1) ∧ w.cell? ⟨b, off + i * 4 + 1, none⟩ = some (.string (bsA t.1.2.1)) ∧ w.cell? ⟨b, off + i * 4 + 2, none⟩ = some (.int .i64 t.1.2.2) ∧ w.cell? ⟨b, off + i * 4 + 3, none⟩ = some (.int .i64 t.2)) :
    Calls Tryz.prog 17 #[.slice (some ⟨b, off, none⟩) r.length cap] w fun e w' => (∃ a' cap', e = .returned (.slice a' r.length cap') ∧ TksAt w' a' (bz r)) ∧ Below w.heap.size w w' := by
  obtain ⟨i0, hi, hz0⟩ := Option.map_eq_some_iff.1 info37
  simp only [Prod.mk.injEq] at hz0
  obtain ⟨hz, hs, hb3⟩ := hz0
  go_enter Tryz.func17, Tryz.ntmps17
  go_wp2
  go_loopw [3, 4] (fun x y wr => ∃ (m : Nat) (v1 : Value), x = v1 ∧ y = .int .i64 m ∧ m ≤ r.length ∧ wr.ownsRow w.heap.size 37 4 v1 m (rtC (bz (r.take m))) ∧ Bel w.heap.size w wr) (fun _ y _ => r.length - (intOf y).toNat)
  case atStart => exact ⟨0, _, rfl, rfl, Nat.zero_le _, World.ownsRow_nil _ _ _ _, Bel.refl _⟩
  case round =>
    obtain ⟨m, v1, hy1, rfl, hm, hO, HB⟩ := hrel
    have hy2 := hy1.symm
    clear hy1
    subst hy2
    have HO : Hid (wr.ownsRow w.heap.size 37 4 v1 m (rtC (bz (r.take m)))) := hO
    have hW := HB.out
    clear hO
    rcases Nat.lt_or_ge m r.length with hlt | hge
    · have gc : r[m]? = some r[m] := List.getElem?_eq_getElem hlt
      obtain ⟨c0, c1, c2, c3⟩ := hc m _ gc
      have c0 := cell_below hW c0
      have c1 := cell_below hW c1
      have c2 := cell_below hW c2
      have c3 := cell_below hW c3
      have hsn : Hid _ := bz_snoc gc
      clear hc
      generalize r[m] = t at *
      have hB2 : Below wr.heap.size wr (wr.alloc (Obj.cells #[Value.int IntKind.i64 t.1.1, Value.string (bsA t.1.2.1), Value.int IntKind.i64 t.1.2.2, Value.int IntKind.i64 0] 37)) := (Below.refl _ _).alloc (Nat.le_refl _) _
      have hrow : Hid (((wr.alloc (Obj.cells #[Value.int IntKind.i64 t.1.1, Value.string (bsA t.1.2.1), Value.int IntKind.i64 t.1.2.2, Value.int IntKind.i64 0] 37)).alloc (Obj.cells #[Value.int IntKind.i64 t.1.1, Value.string (bsA t.1.2.1), Value.int IntKind.i64 t.1.2.2, Value.int IntKind.i64 0] 37)).ownsRow w.heap.size 37 4 v1 m (rtC (bz (r.take m)))) := (owns_below HO.out hB2).alloc _
      have hcel : Hid _ := tkCells_new (wr.alloc (Obj.cells #[Value.int IntKind.i64 t.1.1, Value.string (bsA t.1.2.1), Value.int IntKind.i64 t.1.2.2, Value.int IntKind.i64 0] 37)) (t.1, 0)
      have hone : Hid (∀ u ∈ rtC [(t.1, 0)], u.oneCell' = true) := rtC_one _
      have hnl : m + 1 ≤ maxLen := by unfold maxLen; omega
      have hby : (m + 1) * 40 ≤ 140737488355328 := by omega
      have hbw : w.heap.size ≤ (wr.alloc (Obj.cells #[Value.int IntKind.i64 t.1.1, Value.string (bsA t.1.2.1), Value.int IntKind.i64 t.1.2.2, Value.int IntKind.i64 0] 37)).heap.size := Nat.le_trans hW.size hB2.size
      have hbw2 : w.heap.size ≤ ((wr.alloc (Obj.cells #[Value.int IntKind.i64 t.1.1, Value.string (bsA t.1.2.1), Value.int IntKind.i64 t.1.2.2, Value.int IntKind.i64 0] 37)).alloc (Obj.cells #[Value.int IntKind.i64 t.1.1, Value.string (bsA t.1.2.1), Value.int IntKind.i64 t.1.2.2, Value.int IntKind.i64 0] 37)).heap.size := by rw [World.size_alloc]; omega
      have hvl : Hid ((rtC [(t.1, 0)]).length = 1 * 4) := rtC_len _
      have esz : (wr.alloc (Obj.cells #[Value.int IntKind.i64 t.1.1, Value.string (bsA t.1.2.1), Value.int IntKind.i64 t.1.2.2, Value.int IntKind.i64 0] 37)).heap.size = wr.heap.size + 1 := World.size_alloc _ _
      rw [esz] at hcel
      clear HO gc
      go_wp2_with (at_builtin; refine wpList_append_own _ rfl _ _ 22 rfl w.heap.size 37 i0 (.agg #[.int .i64 0, .string ⟨#[]⟩, .int .i64 0, .int .i64 0]) 4 40 Tryz.underlying22 hi hz hs hb3 rfl (by decide) _ _ _ rfl hrow.out ⟨wr.heap.size + 1, 0, none⟩ 1 1 (rtC [(t.1, 0)]) rfl hvl.out hcel.out hone.out hnl hby hbw2 ?_)
      intro v3 w3 hown3 hgrow3 hi3
      clear hi3
      have HO3 : Hid (w3.ownsRow w.heap.size 37 4 v3 (m + 1) (rtC (bz (r.take (m + 1))))) := by
        show World.ownsRow _ _ _ _ _ _ _
        rw [hsn.out, rtC_snoc]; exact hown3
      have hB3 : Bel w.heap.size w w3 := by
        have h1 : Below w.heap.size w (wr.alloc (Obj.cells #[Value.int IntKind.i64 t.1.1, Value.string (bsA t.1.2.1), Value.int IntKind.i64 t.1.2.2, Value.int IntKind.i64 0] 37)) := hW.trans (hB2.mono hW.size)
        have h2 := (h1.alloc hbw (Obj.cells #[Value.int IntKind.i64 t.1.1, Value.string (bsA t.1.2.1), Value.int IntKind.i64 t.1.2.2, Value.int IntKind.i64 0] 37)).grown hgrow3 hbw2 (fun j hj => (hrow.out.lt j hj).1)
        exact ⟨h2, h2.size⟩
      clear hown3 hgrow3 hrow hcel hone hvl hB2 c0 c1 c2 c3
      go_wp2
      go_roundw
      case rel => exact ⟨m + 1, v3, rfl, by go_num, hlt, HO3.out, hB3⟩
      case measure => simp [intOf]; omega
    · have hmn : m = r.length := by omega
      subst hmn
      have hO2 := HO.out
      rw [List.take_of_length_le (Nat.le_refl _)] at hO2
      rw [show r.length = (bz r).length from (bz_len r).symm] at hO2
      obtain ⟨a, cap', hv, hra, _, _⟩ := tks_of_owns hO2
      rw [bz_len] at hv
      subst hv
      have HRA : Hid _ := hra
      clear HO hO2 hra hc
      go_wp2
      go_ret
      exact ⟨⟨a, cap', rfl, HRA.out⟩, hW⟩
set_option maxRecDepth 20000 in
set_option maxHeartbeats 4000000 in
theorem bare_0 (a : Option Addr) (cap : Nat) (w : World) :
    Calls Tryz.prog 17 #[.slice a 0 cap] w fun e w' => e = .returned (.slice none 0 0) ∧ Below w.heap.size w w' := by
  go_enter Tryz.func17, Tryz.ntmps17
  go_wp2
  refine wp_loop_rounds 1 ?_
  rw [rounds_succ]
  go_wp2
  go_ret
  exact ⟨rfl, (Bel.out (by repeat (first | exact Bel.refl _ | assumption | refine Bel.drew ?_ | refine Bel.drewN ?_ _ | refine Bel.alloc ?_ _ | refine Bel.setCell ?_ (by simp <;> omega) _ | refine Bel.step ?_ (by assumption))))⟩
theorem bare_any (a : Option Addr) (cap : Nat) (r : List Tt) (w : World) (hlen : r.length ≤ 104857600) (h : TksAt w a r) :
    Calls Tryz.prog 17 #[.slice a r.length cap] w fun e w' => (∃ a' cap', e = .returned (.slice a' (bz r).length cap') ∧ TksAt w' a' (bz r)) ∧ Below w.heap.size w w' := by
  rw [bz_len]
  rcases h with rfl | ⟨b, off, rfl, hc⟩
  · exact (bare_0 a cap w).mono fun e w' h => ⟨⟨none, 0, h.1, Or.inl rfl⟩, h.2⟩
  · exact bare_some b off cap r w hlen hc
end Go.Proofs.YthhbeejfnpcbhaaGreatDoor
