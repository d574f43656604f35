/- May an instruction stand where it stands (the document's side). -/
import Derived.Test.YtmadofpbfgbdkaaGreatDoorInn
namespace Go.Proofs.YtmadofpbfgbdkaaGreatDoor
open Go.ChangeShapes Go.WideShapes Go.ChangeAt Go.RowKit
set_option linter.unusedSimpArgs false
set_option maxRecDepth 20000
set_option maxHeartbeats 4000000

theorem strs_build {w' : World} {L : List ByteArray} {bx : Nat} (h : ∀ i, i < L.length → w'.cell? ⟨bx, i, none⟩ = (L.map Value.string)[i]?) : StrsAt w' (some ⟨bx, 0, none⟩) L := by
  refine Or.inr ⟨bx, 0, rfl, fun i t hi => ?_⟩
  rw [Nat.zero_add, h i (List.getElem?_eq_some_iff.1 hi).1, List.getElem?_map, hi]
  rfl
theorem may_any (q : Oq) (i nn f a : Int) (w : World) :
    Calls Tryz.prog 19 #[oqV q, .int .i64 i, .int .i64 nn, .int .i64 f, .int .i64 a] w fun e w' => e = .returned (.bool (mayP q i nn f a)) ∧ Below w.heap.size w w' := by
  obtain ⟨⟨k, n, t⟩, vk, vn, vt⟩ := q
  unfold oqV
  dsimp only
  go_enter Tryz.func19, Tryz.ntmps19
  go_upto_region 1 with (fail)
  have HB : Hid (Below w.heap.size w (w.alloc (Obj.cells #[.int .i64 k, .int .i64 n, .string t, .int .i64 vk, .int .i64 vn, .string vt] 35))) := (Below.refl _ _).alloc (Nat.le_refl _) _
  have y0 : (w.alloc (Obj.cells #[.int .i64 k, .int .i64 n, .string t, .int .i64 vk, .int .i64 vn, .string vt] 35)).cell? ⟨w.heap.size, 0, none⟩ = some (.int .i64 k) := (World.cell?_alloc_mark w #[.int .i64 k, .int .i64 n, .string t, .int .i64 vk, .int .i64 vn, .string vt] 35 (0, 0) 0).trans rfl
  have y1 : (w.alloc (Obj.cells #[.int .i64 k, .int .i64 n, .string t, .int .i64 vk, .int .i64 vn, .string vt] 35)).cell? ⟨w.heap.size, 1, none⟩ = some (.int .i64 n) := (World.cell?_alloc_mark w #[.int .i64 k, .int .i64 n, .string t, .int .i64 vk, .int .i64 vn, .string vt] 35 (0, 0) 1).trans rfl
  have y2 : (w.alloc (Obj.cells #[.int .i64 k, .int .i64 n, .string t, .int .i64 vk, .int .i64 vn, .string vt] 35)).cell? ⟨w.heap.size, 2, none⟩ = some (.string t) := (World.cell?_alloc_mark w #[.int .i64 k, .int .i64 n, .string t, .int .i64 vk, .int .i64 vn, .string vt] 35 (0, 0) 2).trans rfl
  have HX : Hid (w.heap.size ≤ (w.alloc (Obj.cells #[.int .i64 k, .int .i64 n, .string t, .int .i64 vk, .int .i64 vn, .string vt] 35)).heap.size) := by show _ ≤ _; rw [World.size_alloc]; omega
  obtain ⟨bx, hbx⟩ : ∃ bx, w.heap.size = bx := ⟨_, rfl⟩
  rw [hbx] at y0 y1 y2
  rw [hbx]
  clear hbx
  generalize (w.alloc (Obj.cells #[.int .i64 k, .int .i64 n, .string t, .int .i64 vk, .int .i64 vn, .string vt] 35)) = w1 at *
  have HP : Hid (∀ v, v = mayP ((k, n, t), vk, vn, vt) i nn f a → Ending.returned (.bool v) = Ending.returned (.bool (mayP ((k, n, t), vk, vn, vt) i nn f a))) := fun v h => by rw [h]
  by_cases h1 : k = 1
  · subst h1
    go_wp2
    refine bodyPost_ret (v := .bool true) (by simp [results, Tryz.results19, go_sem]) rfl ⟨HP.out _ (by first | (simp [mayP]; done) | (simp [mayP]; omega)), HB.out⟩
  by_cases h10 : k = 10
  · subst h10
    go_wp2
    refine bodyPost_ret (v := .bool true) (by simp [results, Tryz.results19, go_sem]) rfl ⟨HP.out _ (by first | (simp [mayP]; done) | (simp [mayP]; omega)), HB.out⟩
  by_cases h2 : k = 2
  · subst h2
    by_cases q1 : 0 ≤ n
    · by_cases q2 : n < f
      · skip
        go_wp2
        refine bodyPost_ret (v := .bool true) (by simp [results, Tryz.results19, go_sem, q1, q2]) rfl ⟨HP.out _ (by first | (simp [mayP, q1, q2]; done) | (simp [mayP]; omega)), HB.out⟩
      · skip
        go_wp2
        refine bodyPost_ret (v := .bool false) (by simp [results, Tryz.results19, go_sem, q1, q2]) rfl ⟨HP.out _ (by first | (simp [mayP, q1, q2]; done) | (simp [mayP]; omega)), HB.out⟩
    · skip
      go_wp2
      refine bodyPost_ret (v := .bool false) (by simp [results, Tryz.results19, go_sem, q1]) rfl ⟨HP.out _ (by first | (simp [mayP, q1]; done) | (simp [mayP]; omega)), HB.out⟩
  by_cases h9 : k = 9
  · subst h9
    by_cases q1 : 0 ≤ n
    · by_cases q2 : n < a
      · skip
        go_wp2
        refine bodyPost_ret (v := .bool true) (by simp [results, Tryz.results19, go_sem, q1, q2]) rfl ⟨HP.out _ (by first | (simp [mayP, q1, q2]; done) | (simp [mayP]; omega)), HB.out⟩
      · skip
        go_wp2
        refine bodyPost_ret (v := .bool false) (by simp [results, Tryz.results19, go_sem, q1, q2]) rfl ⟨HP.out _ (by first | (simp [mayP, q1, q2]; done) | (simp [mayP]; omega)), HB.out⟩
    · skip
      go_wp2
      refine bodyPost_ret (v := .bool false) (by simp [results, Tryz.results19, go_sem, q1]) rfl ⟨HP.out _ (by first | (simp [mayP, q1]; done) | (simp [mayP]; omega)), HB.out⟩
  by_cases h3 : k = 3
  · subst h3
    have HC := in_any t [⟨#[45]⟩, ⟨#[110, 111, 116]⟩] (some ⟨w1.heap.size, 0, none⟩) 2 2 rfl (by omega) (w1.alloc (Obj.cells #[.string ⟨#[45]⟩, .string ⟨#[110, 111, 116]⟩] 9)) (strs_build (fun j hj => (World.cell?_alloc_mark w1 #[.string ⟨#[45]⟩, .string ⟨#[110, 111, 116]⟩] 9 (0, 0) j).trans (by rcases j with _ | _ | j <;> first | rfl | (simp at hj; omega))))
    have HM : Hid ((([⟨#[45]⟩, ⟨#[110, 111, 116]⟩] : List ByteArray).map (·.toList)).contains t.toList = mayP ((3, n, t), vk, vn, vt) i nn f a) := by show _ = _; rw [Bool.eq_iff_iff]; simp [mayP, unP]
    generalize (([⟨#[45]⟩, ⟨#[110, 111, 116]⟩] : List ByteArray).map (·.toList)).contains t.toList = cb at HC HM
    have HB3 := (HB.out.alloc HX.out (Obj.cells #[.string ⟨#[45]⟩, .string ⟨#[110, 111, 116]⟩] 9))
    go_wp2_with fail
    refine HC.mono ?_
    rintro e w3 ⟨rfl, rfl⟩
    go_wp2
    refine bodyPost_ret (v := .bool cb) (by simp [results, Tryz.results19, go_sem]) rfl ⟨HP.out _ HM.out, HB3⟩
  by_cases h4 : k = 4
  · subst h4
    have HC := in_any t [⟨#[43]⟩, ⟨#[45]⟩, ⟨#[42]⟩, ⟨#[47]⟩, ⟨#[37]⟩, ⟨#[61]⟩, ⟨#[33, 61]⟩, ⟨#[60]⟩, ⟨#[60, 61]⟩, ⟨#[62]⟩, ⟨#[62, 61]⟩, ⟨#[97, 110, 100]⟩, ⟨#[111, 114]⟩] (some ⟨w1.heap.size, 0, none⟩) 13 13 rfl (by omega) (w1.alloc (Obj.cells #[.string ⟨#[43]⟩, .string ⟨#[45]⟩, .string ⟨#[42]⟩, .string ⟨#[47]⟩, .string ⟨#[37]⟩, .string ⟨#[61]⟩, .string ⟨#[33, 61]⟩, .string ⟨#[60]⟩, .string ⟨#[60, 61]⟩, .string ⟨#[62]⟩, .string ⟨#[62, 61]⟩, .string ⟨#[97, 110, 100]⟩, .string ⟨#[111, 114]⟩] 9)) (strs_build (fun j hj => (World.cell?_alloc_mark w1 #[.string ⟨#[43]⟩, .string ⟨#[45]⟩, .string ⟨#[42]⟩, .string ⟨#[47]⟩, .string ⟨#[37]⟩, .string ⟨#[61]⟩, .string ⟨#[33, 61]⟩, .string ⟨#[60]⟩, .string ⟨#[60, 61]⟩, .string ⟨#[62]⟩, .string ⟨#[62, 61]⟩, .string ⟨#[97, 110, 100]⟩, .string ⟨#[111, 114]⟩] 9 (0, 0) j).trans (by rcases j with _ | _ | _ | _ | _ | _ | _ | _ | _ | _ | _ | _ | _ | j <;> first | rfl | (simp at hj; omega))))
    have HM : Hid ((([⟨#[43]⟩, ⟨#[45]⟩, ⟨#[42]⟩, ⟨#[47]⟩, ⟨#[37]⟩, ⟨#[61]⟩, ⟨#[33, 61]⟩, ⟨#[60]⟩, ⟨#[60, 61]⟩, ⟨#[62]⟩, ⟨#[62, 61]⟩, ⟨#[97, 110, 100]⟩, ⟨#[111, 114]⟩] : List ByteArray).map (·.toList)).contains t.toList = mayP ((4, n, t), vk, vn, vt) i nn f a) := by show _ = _; rw [Bool.eq_iff_iff]; simp [mayP, twoP, twoS]
    generalize (([⟨#[43]⟩, ⟨#[45]⟩, ⟨#[42]⟩, ⟨#[47]⟩, ⟨#[37]⟩, ⟨#[61]⟩, ⟨#[33, 61]⟩, ⟨#[60]⟩, ⟨#[60, 61]⟩, ⟨#[62]⟩, ⟨#[62, 61]⟩, ⟨#[97, 110, 100]⟩, ⟨#[111, 114]⟩] : List ByteArray).map (·.toList)).contains t.toList = cb at HC HM
    have HB3 := (HB.out.alloc HX.out (Obj.cells #[.string ⟨#[43]⟩, .string ⟨#[45]⟩, .string ⟨#[42]⟩, .string ⟨#[47]⟩, .string ⟨#[37]⟩, .string ⟨#[61]⟩, .string ⟨#[33, 61]⟩, .string ⟨#[60]⟩, .string ⟨#[60, 61]⟩, .string ⟨#[62]⟩, .string ⟨#[62, 61]⟩, .string ⟨#[97, 110, 100]⟩, .string ⟨#[111, 114]⟩] 9))
    go_wp2_with fail
    refine HC.mono ?_
    rintro e w3 ⟨rfl, rfl⟩
    go_wp2
    refine bodyPost_ret (v := .bool cb) (by simp [results, Tryz.results19, go_sem]) rfl ⟨HP.out _ HM.out, HB3⟩
  by_cases h5 : k = 5
  · subst h5
    by_cases q1 : n = 0
    · subst q1
      go_wp2
      refine bodyPost_ret (v := .bool true) (by simp [results, Tryz.results19, go_sem]) rfl ⟨HP.out _ (by first | (simp [mayP]; done) | (simp [mayP]; omega)), HB.out⟩
    · by_cases q2 : n = 1
      · subst q2
        go_wp2
        refine bodyPost_ret (v := .bool true) (by simp [results, Tryz.results19, go_sem]) rfl ⟨HP.out _ (by first | (simp [mayP]; done) | (simp [mayP]; omega)), HB.out⟩
      · skip
        go_wp2
        refine bodyPost_ret (v := .bool false) (by simp [results, Tryz.results19, go_sem, q1, q2]) rfl ⟨HP.out _ (by first | (simp [mayP, q1, q2]; done) | (simp [mayP]; omega)), HB.out⟩
  by_cases h6 : k = 6
  · subst h6
    by_cases q1 : 0 ≤ n
    · by_cases q2 : n ≤ 1024
      · skip
        go_wp2
        refine bodyPost_ret (v := .bool true) (by simp [results, Tryz.results19, go_sem, q1, q2]) rfl ⟨HP.out _ (by first | (simp [mayP, q1, q2]; done) | (simp [mayP]; omega)), HB.out⟩
      · skip
        go_wp2
        refine bodyPost_ret (v := .bool false) (by simp [results, Tryz.results19, go_sem, q1, q2]) rfl ⟨HP.out _ (by first | (simp [mayP, q1, q2]; done) | (simp [mayP]; omega)), HB.out⟩
    · skip
      go_wp2
      refine bodyPost_ret (v := .bool false) (by simp [results, Tryz.results19, go_sem, q1]) rfl ⟨HP.out _ (by first | (simp [mayP, q1]; done) | (simp [mayP]; omega)), HB.out⟩
  by_cases h8 : k = 8
  · subst h8
    by_cases q1 : i < n
    · by_cases q2 : n ≤ nn
      · skip
        go_wp2
        refine bodyPost_ret (v := .bool true) (by simp [results, Tryz.results19, go_sem, q1, q2]) rfl ⟨HP.out _ (by first | (simp [mayP, q1, q2]; done) | (simp [mayP]; omega)), HB.out⟩
      · skip
        go_wp2
        refine bodyPost_ret (v := .bool false) (by simp [results, Tryz.results19, go_sem, q1, q2]) rfl ⟨HP.out _ (by first | (simp [mayP, q1, q2]; done) | (simp [mayP]; omega)), HB.out⟩
    · skip
      go_wp2
      refine bodyPost_ret (v := .bool false) (by simp [results, Tryz.results19, go_sem, q1]) rfl ⟨HP.out _ (by first | (simp [mayP, q1]; done) | (simp [mayP]; omega)), HB.out⟩
  by_cases h7 : k = 7
  · subst h7
    by_cases q1 : i < n
    · by_cases q2 : n ≤ nn
      · skip
        go_wp2
        refine bodyPost_ret (v := .bool true) (by simp [results, Tryz.results19, go_sem, q1, q2]) rfl ⟨HP.out _ (by first | (simp [mayP, q1, q2]; done) | (simp [mayP]; omega)), HB.out⟩
      · skip
        go_wp2
        refine bodyPost_ret (v := .bool false) (by simp [results, Tryz.results19, go_sem, q1, q2]) rfl ⟨HP.out _ (by first | (simp [mayP, q1, q2]; done) | (simp [mayP]; omega)), HB.out⟩
    · skip
      go_wp2
      refine bodyPost_ret (v := .bool false) (by simp [results, Tryz.results19, go_sem, q1]) rfl ⟨HP.out _ (by first | (simp [mayP, q1]; done) | (simp [mayP]; omega)), HB.out⟩
  have b1 : (k == 1) = false := by simpa using h1
  have b10 : (k == 10) = false := by simpa using h10
  have b2 : (k == 2) = false := by simpa using h2
  have b9 : (k == 9) = false := by simpa using h9
  have b3 : (k == 3) = false := by simpa using h3
  have b4 : (k == 4) = false := by simpa using h4
  have b5 : (k == 5) = false := by simpa using h5
  have b6 : (k == 6) = false := by simpa using h6
  have b8 : (k == 8) = false := by simpa using h8
  have b7 : (k == 7) = false := by simpa using h7
  go_wp2
  refine bodyPost_ret (v := .bool false) (by simp [results, Tryz.results19, go_sem, h1, h10, h2, h9, h3, h4, h5, h6, h8, h7]) rfl ⟨HP.out _ (by first | (simp [mayP, h1, h10, h2, h9, h3, h4, h5, h6, h8, h7]; done) | (simp [mayP]; omega)), HB.out⟩
end Go.Proofs.YtmadofpbfgbdkaaGreatDoor
