/- Whether an instruction may stand where it stands (namesWell). -/
import Derived.Test.YtmadofpbfgbdkaaGreatDoorEff
namespace Go.Proofs.YtmadofpbfgbdkaaGreatDoor
open Go.ChangeShapes Go.WideShapes Go.ChangeAt Go.RowKit
set_option linter.unusedSimpArgs false
set_option maxRecDepth 20000
set_option maxHeartbeats 4000000

theorem names_any (r : List Oq) (oa : Option Addr) (ocap : Nat) (f a : Int) (ha : Option Addr) (hn hcap : Nat) (i : Nat) (q : Oq) (hq : r[i]? = some q) (w : World) (hr : OpsAt w oa r) :
    Calls Tryz.prog 25 #[.agg #[.slice oa r.length ocap, .int .i64 f, .int .i64 a, .slice ha hn hcap], .int .i64 i] w fun e w' => e = .returned (.bool (mayP q i r.length f a)) ∧ Below w.heap.size w w' := by
  have hlt : i < r.length := (List.getElem?_eq_some_iff.1 hq).1
  rcases hr with h0 | ⟨b, off, rfl, hc⟩
  · rw [h0] at hlt; simp at hlt
  obtain ⟨c0, c1, c2, c3, c4, c5⟩ := hc i q hq
  obtain ⟨nn, hnn⟩ : ∃ nn, r.length = nn := ⟨_, rfl⟩
  rw [hnn] at hlt ⊢
  clear hc hq hnn
  obtain ⟨oa, hoa⟩ : ∃ oa, some (⟨b, off, none⟩ : Addr) = oa := ⟨_, rfl⟩
  obtain ⟨⟨k, n, t⟩, vk, vn, vt⟩ := q
  dsimp only at c0 c1 c2 c3 c4 c5
  rw [hoa]
  go_enter Tryz.func25, Tryz.ntmps25
  go_upto_region 1 with (fail)
  have hB : Below w.heap.size w (w.alloc (Obj.cells #[.slice oa nn ocap, .int .i64 f, .int .i64 a, .slice ha hn hcap] 47)) := (Below.refl _ _).alloc (Nat.le_refl _) _
  have z0 : (w.alloc (Obj.cells #[.slice oa nn ocap, .int .i64 f, .int .i64 a, .slice ha hn hcap] 47)).cell? ⟨w.heap.size, 0, none⟩ = some (.slice oa nn ocap) := (World.cell?_alloc_mark w #[.slice oa nn ocap, .int .i64 f, .int .i64 a, .slice ha hn hcap] 47 (0, 0) 0).trans rfl
  have z1 : (w.alloc (Obj.cells #[.slice oa nn ocap, .int .i64 f, .int .i64 a, .slice ha hn hcap] 47)).cell? ⟨w.heap.size, 1, none⟩ = some (.int .i64 f) := (World.cell?_alloc_mark w #[.slice oa nn ocap, .int .i64 f, .int .i64 a, .slice ha hn hcap] 47 (0, 0) 1).trans rfl
  have z2 : (w.alloc (Obj.cells #[.slice oa nn ocap, .int .i64 f, .int .i64 a, .slice ha hn hcap] 47)).cell? ⟨w.heap.size, 2, none⟩ = some (.int .i64 a) := (World.cell?_alloc_mark w #[.slice oa nn ocap, .int .i64 f, .int .i64 a, .slice ha hn hcap] 47 (0, 0) 2).trans rfl
  replace c0 := cell_bel hB c0
  replace c1 := cell_bel hB c1
  replace c2 := cell_bel hB c2
  replace c3 := cell_bel hB c3
  replace c4 := cell_bel hB c4
  replace c5 := cell_bel hB c5
  obtain ⟨bx, hbx⟩ : ∃ bx, w.heap.size = bx := ⟨_, rfl⟩
  have HB : Hid (Below w.heap.size w (w.alloc (Obj.cells #[.slice oa nn ocap, .int .i64 f, .int .i64 a, .slice ha hn hcap] 47))) := hB
  rw [hbx] at z0 z1 z2
  rw [hbx]
  clear hbx hB
  generalize (w.alloc (Obj.cells #[.slice oa nn ocap, .int .i64 f, .int .i64 a, .slice ha hn hcap] 47)) = w1 at *
  subst hoa
  go_upto_region 2 with (fail)
  have hB2 : Below w1.heap.size w1 (w1.alloc (Obj.cells #[.int .i64 k, .int .i64 n, .string t, .int .i64 vk, .int .i64 vn, .string vt] 35)) := (Below.refl _ _).alloc (Nat.le_refl _) _
  have HB2 : Hid (Below w.heap.size w (w1.alloc (Obj.cells #[.int .i64 k, .int .i64 n, .string t, .int .i64 vk, .int .i64 vn, .string vt] 35))) := HB.out.trans (hB2.mono HB.out.size)
  replace z0 := cell_bel hB2 z0
  replace z1 := cell_bel hB2 z1
  replace z2 := cell_bel hB2 z2
  have y0 : (w1.alloc (Obj.cells #[.int .i64 k, .int .i64 n, .string t, .int .i64 vk, .int .i64 vn, .string vt] 35)).cell? ⟨w1.heap.size, 0, none⟩ = some (.int .i64 k) := (World.cell?_alloc_mark w1 #[.int .i64 k, .int .i64 n, .string t, .int .i64 vk, .int .i64 vn, .string vt] 35 (0, 0) 0).trans rfl
  have y1 : (w1.alloc (Obj.cells #[.int .i64 k, .int .i64 n, .string t, .int .i64 vk, .int .i64 vn, .string vt] 35)).cell? ⟨w1.heap.size, 1, none⟩ = some (.int .i64 n) := (World.cell?_alloc_mark w1 #[.int .i64 k, .int .i64 n, .string t, .int .i64 vk, .int .i64 vn, .string vt] 35 (0, 0) 1).trans rfl
  have y2 : (w1.alloc (Obj.cells #[.int .i64 k, .int .i64 n, .string t, .int .i64 vk, .int .i64 vn, .string vt] 35)).cell? ⟨w1.heap.size, 2, none⟩ = some (.string t) := (World.cell?_alloc_mark w1 #[.int .i64 k, .int .i64 n, .string t, .int .i64 vk, .int .i64 vn, .string vt] 35 (0, 0) 2).trans rfl
  obtain ⟨by_, hby⟩ : ∃ bx, w1.heap.size = bx := ⟨_, rfl⟩
  rw [hby] at y0 y1 y2
  rw [hby]
  clear hby hB2 HB c0 c1 c2 c3 c4 c5
  generalize (w1.alloc (Obj.cells #[.int .i64 k, .int .i64 n, .string t, .int .i64 vk, .int .i64 vn, .string vt] 35)) = w2 at *
  have H2 := two_any t w2
  have HP : Hid (∀ v, v = mayP ((k, n, t), vk, vn, vt) i nn f a → Ending.returned (.bool v) = Ending.returned (.bool (mayP ((k, n, t), vk, vn, vt) i nn f a))) := fun v h => by rw [h]
  by_cases h1 : k = 1
  · subst h1
    clear H2
    go_wp2
    refine bodyPost_ret (v := .bool true) (by simp [results, Tryz.results25, go_sem]) rfl ⟨HP.out _ (by first | (simp [mayP]; done) | (simp [mayP]; omega) | (simp [mayP, unP]; exact ⟨q1, q2⟩) | (simp [mayP]; exact ⟨q1, q2⟩)), HB2.out⟩
  by_cases h10 : k = 10
  · subst h10
    clear H2
    go_wp2
    refine bodyPost_ret (v := .bool true) (by simp [results, Tryz.results25, go_sem]) rfl ⟨HP.out _ (by first | (simp [mayP]; done) | (simp [mayP]; omega) | (simp [mayP, unP]; exact ⟨q1, q2⟩) | (simp [mayP]; exact ⟨q1, q2⟩)), HB2.out⟩
  by_cases h2 : k = 2
  · subst h2
    clear H2
    by_cases q1 : 0 ≤ n
    · by_cases q2 : n < f
      · skip
        go_wp2
        refine bodyPost_ret (v := .bool true) (by simp [results, Tryz.results25, go_sem, q1, q2]) rfl ⟨HP.out _ (by first | (simp [mayP, q1, q2]; done) | (simp [mayP]; omega) | (simp [mayP, unP]; exact ⟨q1, q2⟩) | (simp [mayP]; exact ⟨q1, q2⟩)), HB2.out⟩
      · skip
        go_wp2
        refine bodyPost_ret (v := .bool false) (by simp [results, Tryz.results25, go_sem, q1, q2]) rfl ⟨HP.out _ (by first | (simp [mayP, q1, q2]; done) | (simp [mayP]; omega) | (simp [mayP, unP]; exact ⟨q1, q2⟩) | (simp [mayP]; exact ⟨q1, q2⟩)), HB2.out⟩
    · skip
      go_wp2
      refine bodyPost_ret (v := .bool false) (by simp [results, Tryz.results25, go_sem, q1]) rfl ⟨HP.out _ (by first | (simp [mayP, q1]; done) | (simp [mayP]; omega) | (simp [mayP, unP]; exact ⟨q1, q2⟩) | (simp [mayP]; exact ⟨q1, q2⟩)), HB2.out⟩
  by_cases h9 : k = 9
  · subst h9
    clear H2
    by_cases q1 : 0 ≤ n
    · by_cases q2 : n < a
      · skip
        go_wp2
        refine bodyPost_ret (v := .bool true) (by simp [results, Tryz.results25, go_sem, q1, q2]) rfl ⟨HP.out _ (by first | (simp [mayP, q1, q2]; done) | (simp [mayP]; omega) | (simp [mayP, unP]; exact ⟨q1, q2⟩) | (simp [mayP]; exact ⟨q1, q2⟩)), HB2.out⟩
      · skip
        go_wp2
        refine bodyPost_ret (v := .bool false) (by simp [results, Tryz.results25, go_sem, q1, q2]) rfl ⟨HP.out _ (by first | (simp [mayP, q1, q2]; done) | (simp [mayP]; omega) | (simp [mayP, unP]; exact ⟨q1, q2⟩) | (simp [mayP]; exact ⟨q1, q2⟩)), HB2.out⟩
    · skip
      go_wp2
      refine bodyPost_ret (v := .bool false) (by simp [results, Tryz.results25, go_sem, q1]) rfl ⟨HP.out _ (by first | (simp [mayP, q1]; done) | (simp [mayP]; omega) | (simp [mayP, unP]; exact ⟨q1, q2⟩) | (simp [mayP]; exact ⟨q1, q2⟩)), HB2.out⟩
  by_cases h3 : k = 3
  · subst h3
    clear H2
    by_cases q1 : t.toList = [45]
    · skip
      go_wp2
      refine bodyPost_ret (v := .bool true) (by simp [results, Tryz.results25, go_sem, unP, q1]) rfl ⟨HP.out _ (by first | (simp [mayP, unP, q1]; done) | (simp [mayP]; omega) | (simp [mayP, unP]; exact ⟨q1, q2⟩) | (simp [mayP]; exact ⟨q1, q2⟩)), HB2.out⟩
    · by_cases q2 : t.toList = [110, 111, 116]
      · skip
        go_wp2
        refine bodyPost_ret (v := .bool true) (by simp [results, Tryz.results25, go_sem, unP, q2]) rfl ⟨HP.out _ (by first | (simp [mayP, unP, q2]; done) | (simp [mayP]; omega) | (simp [mayP, unP]; exact ⟨q1, q2⟩) | (simp [mayP]; exact ⟨q1, q2⟩)), HB2.out⟩
      · skip
        go_wp2
        refine bodyPost_ret (v := .bool false) (by simp [results, Tryz.results25, go_sem, unP, q1, q2]) rfl ⟨HP.out _ (by first | (simp [mayP, unP, q1, q2]; done) | (simp [mayP]; omega) | (simp [mayP, unP]; exact ⟨q1, q2⟩) | (simp [mayP]; exact ⟨q1, q2⟩)), HB2.out⟩
  by_cases h4 : k = 4
  · subst h4
    generalize htw : twoP t = q at H2
    go_wp2_with fail
    refine H2.mono ?_
    rintro e w3 ⟨rfl, hb3⟩
    have HB3 := HB2.out.trans (hb3.mono HB2.out.size)
    clear H2 hb3
    go_wp2
    refine bodyPost_ret (v := .bool q) (by simp [results, Tryz.results25, go_sem]) rfl ⟨HP.out _ (by simp [mayP, htw]), HB3⟩
  clear H2
  by_cases h5 : k = 5
  · subst h5
    by_cases q1 : n = 0
    · subst q1
      go_wp2
      refine bodyPost_ret (v := .bool true) (by simp [results, Tryz.results25, go_sem]) rfl ⟨HP.out _ (by first | (simp [mayP]; done) | (simp [mayP]; omega) | (simp [mayP, unP]; exact ⟨q1, q2⟩) | (simp [mayP]; exact ⟨q1, q2⟩)), HB2.out⟩
    · by_cases q2 : n = 1
      · subst q2
        go_wp2
        refine bodyPost_ret (v := .bool true) (by simp [results, Tryz.results25, go_sem]) rfl ⟨HP.out _ (by first | (simp [mayP]; done) | (simp [mayP]; omega) | (simp [mayP, unP]; exact ⟨q1, q2⟩) | (simp [mayP]; exact ⟨q1, q2⟩)), HB2.out⟩
      · skip
        go_wp2
        refine bodyPost_ret (v := .bool false) (by simp [results, Tryz.results25, go_sem, q1, q2]) rfl ⟨HP.out _ (by first | (simp [mayP, q1, q2]; done) | (simp [mayP]; omega) | (simp [mayP, unP]; exact ⟨q1, q2⟩) | (simp [mayP]; exact ⟨q1, q2⟩)), HB2.out⟩
  by_cases h6 : k = 6
  · subst h6
    by_cases q1 : 0 ≤ n
    · by_cases q2 : n ≤ 1024
      · skip
        go_wp2
        refine bodyPost_ret (v := .bool true) (by simp [results, Tryz.results25, go_sem, q1, q2]) rfl ⟨HP.out _ (by first | (simp [mayP, q1, q2]; done) | (simp [mayP]; omega) | (simp [mayP, unP]; exact ⟨q1, q2⟩) | (simp [mayP]; exact ⟨q1, q2⟩)), HB2.out⟩
      · skip
        go_wp2
        refine bodyPost_ret (v := .bool false) (by simp [results, Tryz.results25, go_sem, q1, q2]) rfl ⟨HP.out _ (by first | (simp [mayP, q1, q2]; done) | (simp [mayP]; omega) | (simp [mayP, unP]; exact ⟨q1, q2⟩) | (simp [mayP]; exact ⟨q1, q2⟩)), HB2.out⟩
    · skip
      go_wp2
      refine bodyPost_ret (v := .bool false) (by simp [results, Tryz.results25, go_sem, q1]) rfl ⟨HP.out _ (by first | (simp [mayP, q1]; done) | (simp [mayP]; omega) | (simp [mayP, unP]; exact ⟨q1, q2⟩) | (simp [mayP]; exact ⟨q1, q2⟩)), HB2.out⟩
  by_cases h8 : k = 8
  · subst h8
    by_cases q1 : (i : Int) < n
    · by_cases q2 : n ≤ (nn : Int)
      · skip
        go_wp2
        refine bodyPost_ret (v := .bool true) (by simp [results, Tryz.results25, go_sem, q1, q2]) rfl ⟨HP.out _ (by first | (simp [mayP, q1, q2]; done) | (simp [mayP]; omega) | (simp [mayP, unP]; exact ⟨q1, q2⟩) | (simp [mayP]; exact ⟨q1, q2⟩)), HB2.out⟩
      · skip
        go_wp2
        refine bodyPost_ret (v := .bool false) (by simp [results, Tryz.results25, go_sem, q1, q2]) rfl ⟨HP.out _ (by first | (simp [mayP, q1, q2]; done) | (simp [mayP]; omega) | (simp [mayP, unP]; exact ⟨q1, q2⟩) | (simp [mayP]; exact ⟨q1, q2⟩)), HB2.out⟩
    · skip
      go_wp2
      refine bodyPost_ret (v := .bool false) (by simp [results, Tryz.results25, go_sem, q1]) rfl ⟨HP.out _ (by first | (simp [mayP, q1]; done) | (simp [mayP]; omega) | (simp [mayP, unP]; exact ⟨q1, q2⟩) | (simp [mayP]; exact ⟨q1, q2⟩)), HB2.out⟩
  by_cases h7 : k = 7
  · subst h7
    by_cases q1 : (i : Int) < n
    · by_cases q2 : n ≤ (nn : Int)
      · skip
        go_wp2
        refine bodyPost_ret (v := .bool true) (by simp [results, Tryz.results25, go_sem, q1, q2]) rfl ⟨HP.out _ (by first | (simp [mayP, q1, q2]; done) | (simp [mayP]; omega) | (simp [mayP, unP]; exact ⟨q1, q2⟩) | (simp [mayP]; exact ⟨q1, q2⟩)), HB2.out⟩
      · skip
        go_wp2
        refine bodyPost_ret (v := .bool false) (by simp [results, Tryz.results25, go_sem, q1, q2]) rfl ⟨HP.out _ (by first | (simp [mayP, q1, q2]; done) | (simp [mayP]; omega) | (simp [mayP, unP]; exact ⟨q1, q2⟩) | (simp [mayP]; exact ⟨q1, q2⟩)), HB2.out⟩
    · skip
      go_wp2
      refine bodyPost_ret (v := .bool false) (by simp [results, Tryz.results25, go_sem, q1]) rfl ⟨HP.out _ (by first | (simp [mayP, q1]; done) | (simp [mayP]; omega) | (simp [mayP, unP]; exact ⟨q1, q2⟩) | (simp [mayP]; exact ⟨q1, q2⟩)), HB2.out⟩
  have b1 : (k == 1) = false := by simpa using h1
  have b10 : (k == 10) = false := by simpa using h10
  have b2 : (k == 2) = false := by simpa using h2
  have b9 : (k == 9) = false := by simpa using h9
  have b3 : (k == 3) = false := by simpa using h3
  have b4 : (k == 4) = false := by simpa using h4
  have b5 : (k == 5) = false := by simpa using h5
  have b6 : (k == 6) = false := by simpa using h6
  have b8 : (k == 8) = false := by simpa using h8
  have b7 : (k == 7) = false := by simpa using h7
  go_wp2
  refine bodyPost_ret (v := .bool false) (by simp [results, Tryz.results25, go_sem, h1, h10, h2, h9, h3, h4, h5, h6, h8, h7]) rfl ⟨HP.out _ (by first | (simp [mayP, h1, h10, h2, h9, h3, h4, h5, h6, h8, h7]; done) | (simp [mayP]; omega) | (simp [mayP, unP]; exact ⟨q1, q2⟩) | (simp [mayP]; exact ⟨q1, q2⟩)), HB2.out⟩
end Go.Proofs.YtmadofpbfgbdkaaGreatDoor
