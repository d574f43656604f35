/- The words as they are told (Words), by the program and by the document. -/
import Derived.Test.YthhbeejfnpcbhaaGreatDoorShl
namespace Go.Proofs.YthhbeejfnpcbhaaGreatDoor
open Go.ChangeShapes Go.WideShapes Go.ChangeAt Go.RowKit

theorem info9 : (Tryz.prog.info? 9).map (fun i => (i.zero, i.size, i.bytes)) = some (some (.string ⟨#[]⟩), 1, 16) := by kernel_rfl
def stC (r : List (List UInt8)) : List Value := r.map fun x => .string (bsA x)
/-- A slice of texts. -/
def StsAt (w : World) (a : Option Addr) (r : List (List UInt8)) : Prop :=
  r = [] ∨ ∃ b off, a = some ⟨b, off, none⟩ ∧ ∀ i x, r[i]? = some x → w.cell? ⟨b, off + i, none⟩ = some (.string (bsA x))
theorem StsAt.below {w w' : World} {a : Option Addr} {r : List (List UInt8)} (h : StsAt w a r) (hb : Below w.heap.size w w') : StsAt w' a r := by
  rcases h with h | ⟨b, off, ha, hc⟩
  · exact Or.inl h
  · exact Or.inr ⟨b, off, ha, fun i x hi => cell_below hb (hc i x hi)⟩
theorem sts_of_owns {w : World} {base : Nat} {vv : Value} {r : List (List UInt8)} (h : w.ownsRow base 9 1 vv r.length (stC r)) : ∃ a cap, vv = .slice a r.length cap ∧ StsAt w a r := by
  have h' := h
  obtain ⟨hlen, ⟨rfl, h0⟩ | ⟨g, cap, cur, rfl, hbg, hg, hcap, hcm, hcs, htake⟩⟩ := h
  · exact ⟨none, 0, by rw [h0], Or.inl (List.length_eq_zero_iff.1 h0)⟩
  refine ⟨_, cap, rfl, Or.inr ⟨g, 0, rfl, fun i x hi => ?_⟩⟩
  have hc := h'.cells (g := g) rfl
  have ea := hc i (.string (bsA x)) (by unfold stC; rw [List.getElem?_map, hi]; rfl)
  rw [add_plain] at ea
  exact ea
set_option maxRecDepth 20000 in
set_option maxHeartbeats 4000000 in
theorem Words_any (w : World) (hR : Rdy w) : Calls Tryz.prog 13 #[] w fun e w' => (∃ a cap, e = .returned (.slice a 58 cap) ∧ StsAt w' a wdL) ∧ Below w.heap.size w w' := by
  obtain ⟨i0, hi0, hz0⟩ := Option.map_eq_some_iff.1 info9
  simp only [Prod.mk.injEq] at hz0
  obtain ⟨hz, hs, hb3⟩ := hz0
  have HV : Hid (w.rangeAt 0 0 wdV) := hR.range
  have HVm : Hid (∀ m, m < 58 → wdV[m]? = some (.string (bsA (wd m)))) := fun m h => wdV_at h
  have hVl : wdV.length = 58 := rfl
  have hi : Hid ((Tryz.prog.info? 47).map (·.size) = some wdV.length) := by show _ = _; rw [hVl]; kernel_rfl
  clear hR
  generalize wdV = V at HV HVm hVl hi
  go_enter Tryz.func13, Tryz.ntmps13
  go_upto_region 2 with fail
  refine wp_region_list ?_
  refine wpList_load_mid rfl 47 _ rfl 0 0 rfl V _ HV.out Tryz.underlying47 rfl hi.out ?_
  go_wp2_with fail
  go_loopw [1, 5] (fun x i wr => ∃ (m : Nat) (v1 : Value), m ≤ 58 ∧ x = v1 ∧ i = .int .i64 m ∧ wr.ownsRow w.heap.size 9 1 v1 m (stC (wdL.take m)) ∧ Bel w.heap.size w wr) (fun _ i _ => 58 - (intOf i).toNat)
  case atStart => exact ⟨0, _, Nat.zero_le _, rfl, rfl, World.ownsRow_nil _ _ _ _, Bel.refl _⟩
  case round =>
    obtain ⟨m, v1, hm, hy1, rfl, hO, HB⟩ := hrel
    have hy2 := hy1.symm
    clear hy1
    subst hy2
    have HO : Hid (wr.ownsRow w.heap.size 9 1 v1 m (stC (wdL.take m))) := hO
    have hW := HB.out
    clear hO
    rcases Nat.lt_or_ge m 58 with hlt | hge
    · have hx := index47 V hVl m hlt _ (HVm.out m hlt)
      have hsn : Hid (stC (wdL.take (m + 1)) = stC (wdL.take m) ++ [.string (bsA (wd m))]) := by
        show _ = _
        have e : wdL[m]? = some (wd m) := by
          have := wd_drop hlt
          have h2 := congrArg (fun l => l[0]?) this
          simpa using h2
        rw [List.take_add_one, e]
        simp [stC]
      generalize wd m = x at hx hsn
      have hrow : Hid ((wr.alloc (Obj.cells #[Value.string (bsA x)] 9)).ownsRow w.heap.size 9 1 v1 m (stC (wdL.take m))) := (HO.out).alloc _
      have hcel : Hid (∀ j u, ([Value.string (bsA x)] : List Value)[j]? = some u → (wr.alloc (Obj.cells #[Value.string (bsA x)] 9)).cell? ((⟨wr.heap.size, 0, none⟩ : Addr).add j) = some u) := fun j u hj => by
        match j, hj with
        | 0, hj => simp only [List.getElem?_cons_zero, Option.some.injEq] at hj; subst hj; rw [add_plain]; go_simp
        | j + 1, hj => simp at hj
      have hone : Hid (∀ u ∈ ([Value.string (bsA x)] : List Value), u.oneCell' = true) := fun u hu => by rw [List.mem_singleton] at hu; subst hu; rfl
      have hnl : m + 1 ≤ maxLen := by unfold maxLen; omega
      have hby : (m + 1) * 16 ≤ 140737488355328 := by omega
      have hbw2 : w.heap.size ≤ (wr.alloc (Obj.cells #[Value.string (bsA x)] 9)).heap.size := by rw [World.size_alloc]; have := hW.size; omega
      clear HO
      go_wp2_with (at_builtin; refine wpList_append_own _ rfl _ _ 31 rfl w.heap.size 9 i0 (.string ⟨#[]⟩) 1 16 Tryz.underlying31 hi0 hz hs hb3 rfl (by decide) _ _ _ rfl hrow.out ⟨wr.heap.size, 0, none⟩ 1 1 [.string (bsA x)] rfl rfl hcel.out hone.out hnl hby hbw2 ?_)
      intro v3 w3 hown3 hgrow3 hi3
      clear hi3
      have HO3 : Hid (w3.ownsRow w.heap.size 9 1 v3 (m + 1) (stC (wdL.take (m + 1)))) := by
        show World.ownsRow _ _ _ _ _ _ _
        rw [hsn.out]; exact hown3
      have hB3 : Bel w.heap.size w w3 := by
        have h2 := (hW.alloc hW.size (Obj.cells #[Value.string (bsA x)] 9)).grown hgrow3 hbw2 (fun j hj => (hrow.out.lt j hj).1)
        exact ⟨h2, h2.size⟩
      clear hown3 hgrow3 hrow hcel hone
      go_wp2
      go_roundw
      case rel => exact ⟨m + 1, v3, by omega, rfl, by go_num, HO3.out, hB3⟩
      case measure => simp [intOf]; omega
    · obtain rfl : m = 58 := by omega
      have hO2 : wr.ownsRow w.heap.size 9 1 v1 wdL.length (stC wdL) := HO.out
      obtain ⟨a, cap, rfl, hra⟩ := sts_of_owns hO2
      have HRA : Hid _ := hra
      clear HO hO2 hra
      go_wp2
      go_ret
      exact ⟨⟨a, cap, rfl, HRA.out⟩, hW⟩
theorem cell_new (w : World) (vs : List Value) (T : TypeId) (i : Nat) (v : Value) (h : vs[i]? = some v) : (w.alloc (.cells vs.toArray T)).cell? ⟨w.heap.size, 0 + i, none⟩ = some v := by
  have he : (w.alloc (.cells vs.toArray T)).heap[w.heap.size]? = some (.cells vs.toArray T) := by show (w.heap.push _)[w.heap.size]? = _; simp
  unfold World.cell?
  simp only [he, Nat.zero_add]
  simpa using h
set_option maxRecDepth 20000 in
set_option maxHeartbeats 4000000 in
theorem RWords_any (w : World) : Calls Tryz.prog 14 #[] w fun e w' => (∃ a cap, e = .returned (.slice a 58 cap) ∧ StsAt w' a wdL) ∧ Below w.heap.size w w' := by
  go_enter Tryz.func14, Tryz.ntmps14
  go_wp2
  go_ret
  refine ⟨⟨_, _, rfl, Or.inr ⟨_, _, rfl, fun i x hi => ?_⟩⟩, (Below.refl _ _).alloc (Nat.le_refl _) _⟩
  exact cell_new w (stC wdL) 9 i _ (by unfold stC; rw [List.getElem?_map, hi]; rfl)
end Go.Proofs.YthhbeejfnpcbhaaGreatDoor
