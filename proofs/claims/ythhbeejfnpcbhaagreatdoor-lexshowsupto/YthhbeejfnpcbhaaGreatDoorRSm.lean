/- The document's answer: letters made small (small). -/
import Derived.Test.YthhbeejfnpcbhaaGreatDoorRCl
import Derived.Test.YthhbeejfnpcbhaaGreatDoorTm
namespace Go.Proofs.YthhbeejfnpcbhaaGreatDoor
open Go.ChangeShapes Go.WideShapes Go.ChangeAt Go.RowKit

theorem info5 : (Tryz.prog.info? 5).map (fun i => (i.zero, i.size, i.bytes)) = some (some (.int .u8 0), 1, 1) := by kernel_rfl
/-- The cells of bytes. -/
def byC (bs : List UInt8) : List Value := bs.map fun b => .int .u8 b.toNat
theorem byC_app (a b : List UInt8) : byC (a ++ b) = byC a ++ byC b := by simp [byC]
theorem cell_one_new (w : World) (v : Value) (t : TypeId) : ∀ j u, ([v] : List Value)[j]? = some u → (w.alloc (.cells #[v] t)).cell? ((⟨w.heap.size, 0, none⟩ : Addr).add j) = some u := by
  intro j u hj
  match j, hj with
  | 0, hj =>
    simp only [List.getElem?_cons_zero, Option.some.injEq] at hj
    subst hj
    rw [add_plain]
    exact (World.cell?_alloc_mark w #[v] t _ 0).trans rfl
  | j + 1, hj => simp at hj
theorem convert_own {w : World} {base : Nat} {v : Value} {bs : List UInt8} (h : w.ownsRow base 5 1 v bs.length (byC bs)) : (convert 39 9 v).run Tryz.prog w = .ok (.string (bsA bs)) w := by
  have h' := h
  obtain ⟨h0, ⟨rfl, h1⟩ | ⟨g, cap, cur, rfl, hbg, hg, hnc, hcm, hcs, htake⟩⟩ := h
  · obtain rfl := List.length_eq_zero_iff.1 h1
    rw [run_convert_bytes_string w 39 9 5 none 0 0 Tryz.underlying39 Tryz.underlying5 Tryz.underlying9]
    rfl
  · refine run_convert_bytes_back w 39 9 5 ⟨g, 0, none⟩ cap bs Tryz.underlying39 Tryz.underlying5 Tryz.underlying9 (fun j hj => ?_)
    exact h'.cells (g := g) rfl j _ (by simp [byC, hj])
theorem low_take {l : List UInt8} {m : Nat} (h : m < l.length) : Lib.toLowerA (l.take (m + 1)) = Lib.toLowerA (l.take m) ++ [Lib.lowerB l[m]] := by
  rw [List.take_add_one, List.getElem?_eq_getElem h]; unfold Lib.toLowerA; rw [List.map_append]; rfl
theorem low_len (l : List UInt8) : (Lib.toLowerA l).length = l.length := by simp [Lib.toLowerA]
theorem low_up {c : UInt8} (h1 : 65 ≤ c.toNat) (h2 : c.toNat ≤ 90) : (Lib.lowerB c).toNat = c.toNat + 32 := by
  have h : Lib.isUpperB c = true := by
    unfold Lib.isUpperB
    rw [Bool.and_eq_true, decide_eq_true_eq, decide_eq_true_eq]
    exact ⟨UInt8.le_iff_toNat_le.2 h1, UInt8.le_iff_toNat_le.2 h2⟩
  unfold Lib.lowerB
  rw [h, if_pos rfl, UInt8.toNat_add]
  show (c.toNat + 32) % 256 = _
  omega
theorem low_no {c : UInt8} (h : ¬ (65 ≤ c.toNat ∧ c.toNat ≤ 90)) : Lib.lowerB c = c := by
  have h : Lib.isUpperB c = false := by
    unfold Lib.isUpperB
    rw [Bool.and_eq_false_iff, decide_eq_false_iff_not, decide_eq_false_iff_not, UInt8.le_iff_toNat_le, UInt8.le_iff_toNat_le]
    have e1 : (65 : UInt8).toNat = 65 := rfl
    have e2 : (90 : UInt8).toNat = 90 := rfl
    omega
  unfold Lib.lowerB
  rw [h]; rfl
set_option maxRecDepth 20000 in
set_option maxHeartbeats 4000000 in
theorem small_r (l : List UInt8) (w : World) (hl : l.length ≤ 104857600) : Calls Tryz.prog 36 #[.string (bsA l)] w fun e w' => e = .returned (.string (bsA (Lib.toLowerA l))) ∧ Below w.heap.size w w' := by
  obtain ⟨i0, hi, hz⟩ := Option.map_eq_some_iff.1 info5
  simp only [Prod.mk.injEq] at hz
  obtain ⟨hz0, hz1, hz2⟩ := hz
  have hz := bsA_size l
  go_enter Tryz.func36, Tryz.ntmps36
  go_wp2
  go_loopw [3, 4] (fun x y wr => ∃ (m : Nat) (v1 : Value), m ≤ l.length ∧ x = v1 ∧ y = .int .i64 m ∧ wr.ownsRow w.heap.size 5 1 v1 m (byC (Lib.toLowerA (l.take m))) ∧ Bel w.heap.size w wr) (fun _ y _ => l.length - (intOf y).toNat)
  case atStart => exact ⟨0, _, Nat.zero_le _, rfl, rfl, World.ownsRow_nil _ _ _ _, Bel.refl _⟩
  case round =>
    obtain ⟨m, v1, hm, hy1, rfl, hO, HB⟩ := hrel
    have hy2 := hy1.symm
    clear hy1
    subst hy2
    have HO : Hid (wr.ownsRow w.heap.size 5 1 v1 m (byC (Lib.toLowerA (l.take m)))) := hO
    clear hO
    rcases Nat.lt_or_ge m l.length with hlt | hge
    · have hii : m < (bsA l).size := by rw [hz]; exact hlt
      have e0 : ((bsA l)[m]'hii) = l[m] := rfl
      have HS : Hid _ := low_take hlt
      by_cases hup : 65 ≤ l[m].toNat ∧ l[m].toNat ≤ 90
      · have hd := low_up hup.1 hup.2
        have e1 : ((65 : Int) ≤ (l[m].toNat : Int)) = True := eq_true (by omega)
        have e2 : ((l[m].toNat : Int) ≤ (90 : Int)) = True := eq_true (by omega)
        have hw : IntKind.u8.wrap ((l[m].toNat : Int) + 32) = ((Lib.lowerB l[m]).toNat : Int) := by rw [IntKind.wrap_u8]; omega
        clear hd hup
        generalize Lib.lowerB l[m] = d at HS hw
        generalize l[m] = c at e0 e1 e2 hw
        have hnl : m + 1 ≤ maxLen := by unfold maxLen; omega
        have hby : (m + 1) * 1 ≤ 140737488355328 := by omega
        have hone : Hid (∀ u ∈ [Value.int .u8 (d.toNat : Int)], u.oneCell' = true) := by intro u hu; simp only [List.mem_singleton] at hu; subst hu; rfl
        have hcel : Hid _ := cell_one_new wr (.int .u8 (d.toNat : Int)) 5
        have hrow : Hid ((wr.alloc (.cells #[.int .u8 (d.toNat : Int)] 5)).ownsRow w.heap.size 5 1 v1 m (byC (Lib.toLowerA (l.take m)))) := HO.out.alloc _
        have hbw2 : w.heap.size ≤ (wr.alloc (.cells #[.int .u8 (d.toNat : Int)] 5)).heap.size := by have := HB.le; rw [World.size_alloc]; omega
        go_wp2_with (at_builtin; refine wpList_append_own _ rfl _ _ 39 rfl w.heap.size 5 i0 (.int .u8 0) 1 1 Tryz.underlying39 hi hz0 hz1 hz2 rfl (by decide) _ _ _ rfl hrow.out ⟨wr.heap.size, 0, none⟩ 1 1 [.int .u8 (d.toNat : Int)] rfl rfl hcel.out hone.out hnl hby hbw2 ?_)
        intro v2 w2 hown2 hgrow2 hj2
        clear hj2
        have HO2 : Hid (w2.ownsRow w.heap.size 5 1 v2 (m + 1) (byC (Lib.toLowerA (l.take (m + 1))))) := by
          show World.ownsRow _ _ _ _ _ _ _
          rw [HS.out, byC_app]; exact hown2
        have hB2 : Bel w.heap.size w w2 := by
          have h2 := (HB.out.alloc HB.le (.cells #[.int .u8 (d.toNat : Int)] 5)).grown hgrow2 hbw2 (fun j hj => (hrow.out.lt j hj).1)
          exact ⟨h2, h2.size⟩
        clear hown2 hgrow2 hone hcel hrow HO HB
        go_wp2
        go_roundw
        case rel => exact ⟨m + 1, v2, hlt, rfl, by go_num, HO2.out, hB2⟩
        case measure => simp [intOf]; omega
      · have hd := low_no hup
        have HS : Hid (Lib.toLowerA (l.take (m + 1)) = Lib.toLowerA (l.take m) ++ [l[m]]) := HS.out.trans (congrArg (fun x => Lib.toLowerA (l.take m) ++ [x]) hd)
        clear hd
        rcases Nat.lt_or_ge l[m].toNat 65 with h65 | h65
        · have e1 : ((65 : Int) ≤ (l[m].toNat : Int)) = False := eq_false (by omega)
          clear hup h65
          generalize l[m] = d at e0 e1 HS
          have hnl : m + 1 ≤ maxLen := by unfold maxLen; omega
          have hby : (m + 1) * 1 ≤ 140737488355328 := by omega
          have hone : Hid (∀ u ∈ [Value.int .u8 (d.toNat : Int)], u.oneCell' = true) := by intro u hu; simp only [List.mem_singleton] at hu; subst hu; rfl
          have hcel : Hid _ := cell_one_new wr (.int .u8 (d.toNat : Int)) 5
          have hrow : Hid ((wr.alloc (.cells #[.int .u8 (d.toNat : Int)] 5)).ownsRow w.heap.size 5 1 v1 m (byC (Lib.toLowerA (l.take m)))) := HO.out.alloc _
          have hbw2 : w.heap.size ≤ (wr.alloc (.cells #[.int .u8 (d.toNat : Int)] 5)).heap.size := by have := HB.le; rw [World.size_alloc]; omega
          go_wp2_with (at_builtin; refine wpList_append_own _ rfl _ _ 39 rfl w.heap.size 5 i0 (.int .u8 0) 1 1 Tryz.underlying39 hi hz0 hz1 hz2 rfl (by decide) _ _ _ rfl hrow.out ⟨wr.heap.size, 0, none⟩ 1 1 [.int .u8 (d.toNat : Int)] rfl rfl hcel.out hone.out hnl hby hbw2 ?_)
          intro v2 w2 hown2 hgrow2 hj2
          clear hj2
          have HO2 : Hid (w2.ownsRow w.heap.size 5 1 v2 (m + 1) (byC (Lib.toLowerA (l.take (m + 1))))) := by
            show World.ownsRow _ _ _ _ _ _ _
            rw [HS.out, byC_app]; exact hown2
          have hB2 : Bel w.heap.size w w2 := by
            have h2 := (HB.out.alloc HB.le (.cells #[.int .u8 (d.toNat : Int)] 5)).grown hgrow2 hbw2 (fun j hj => (hrow.out.lt j hj).1)
            exact ⟨h2, h2.size⟩
          clear hown2 hgrow2 hone hcel hrow HO HB
          go_wp2
          go_roundw
          case rel => exact ⟨m + 1, v2, hlt, rfl, by go_num, HO2.out, hB2⟩
          case measure => simp [intOf]; omega
        · have e1 : ((65 : Int) ≤ (l[m].toNat : Int)) = True := eq_true (by omega)
          have e2 : ((l[m].toNat : Int) ≤ (90 : Int)) = False := eq_false (by omega)
          clear hup h65
          generalize l[m] = d at e0 e1 e2 HS
          have hnl : m + 1 ≤ maxLen := by unfold maxLen; omega
          have hby : (m + 1) * 1 ≤ 140737488355328 := by omega
          have hone : Hid (∀ u ∈ [Value.int .u8 (d.toNat : Int)], u.oneCell' = true) := by intro u hu; simp only [List.mem_singleton] at hu; subst hu; rfl
          have hcel : Hid _ := cell_one_new wr (.int .u8 (d.toNat : Int)) 5
          have hrow : Hid ((wr.alloc (.cells #[.int .u8 (d.toNat : Int)] 5)).ownsRow w.heap.size 5 1 v1 m (byC (Lib.toLowerA (l.take m)))) := HO.out.alloc _
          have hbw2 : w.heap.size ≤ (wr.alloc (.cells #[.int .u8 (d.toNat : Int)] 5)).heap.size := by have := HB.le; rw [World.size_alloc]; omega
          go_wp2_with (at_builtin; refine wpList_append_own _ rfl _ _ 39 rfl w.heap.size 5 i0 (.int .u8 0) 1 1 Tryz.underlying39 hi hz0 hz1 hz2 rfl (by decide) _ _ _ rfl hrow.out ⟨wr.heap.size, 0, none⟩ 1 1 [.int .u8 (d.toNat : Int)] rfl rfl hcel.out hone.out hnl hby hbw2 ?_)
          intro v2 w2 hown2 hgrow2 hj2
          clear hj2
          have HO2 : Hid (w2.ownsRow w.heap.size 5 1 v2 (m + 1) (byC (Lib.toLowerA (l.take (m + 1))))) := by
            show World.ownsRow _ _ _ _ _ _ _
            rw [HS.out, byC_app]; exact hown2
          have hB2 : Bel w.heap.size w w2 := by
            have h2 := (HB.out.alloc HB.le (.cells #[.int .u8 (d.toNat : Int)] 5)).grown hgrow2 hbw2 (fun j hj => (hrow.out.lt j hj).1)
            exact ⟨h2, h2.size⟩
          clear hown2 hgrow2 hone hcel hrow HO HB
          go_wp2
          go_roundw
          case rel => exact ⟨m + 1, v2, hlt, rfl, by go_num, HO2.out, hB2⟩
          case measure => simp [intOf]; omega
    · obtain rfl : m = l.length := by omega
      have hO2 := HO.out
      rw [List.take_of_length_le (Nat.le_refl _)] at hO2
      have hcv := convert_own (bs := Lib.toLowerA l) (by rw [low_len]; exact hO2)
      have hBo := HB.out
      clear HO hO2 HB
      have HLL : Hid (∀ L, Lib.toLowerA l = L → Ending.returned (.string (bsA L)) = Ending.returned (.string (bsA (Lib.toLowerA l)))) := fun L h => by rw [h]
      generalize hLe : Lib.toLowerA l = L at hcv
      have HLE : Hid _ := hLe
      clear hLe
      go_wp2
      go_ret
      exact ⟨HLL.out L HLE.out, hBo⟩
end Go.Proofs.YthhbeejfnpcbhaaGreatDoor
