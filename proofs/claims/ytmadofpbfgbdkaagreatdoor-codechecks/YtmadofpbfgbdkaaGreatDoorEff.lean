/- What an instruction asks for and leaves; the signs of two values. -/
import Derived.Test.YtmadofpbfgbdkaaGreatDoorCpm
namespace Go.Proofs.YtmadofpbfgbdkaaGreatDoor
open Go.ChangeShapes Go.WideShapes Go.ChangeAt Go.RowKit
set_option linter.unusedSimpArgs false
set_option maxRecDepth 20000
set_option maxHeartbeats 4000000

theorem effect_any (o : Oq) (w : World) : Calls Tryz.prog 26 #[oqV o] w fun e w' => e = .returned (.tuple #[.int .i64 (needP o), .int .i64 (leftP o)]) ∧ Below w.heap.size w w' := by
  obtain ⟨⟨k, n, t⟩, vk, vn, vt⟩ := o
  unfold oqV
  dsimp only
  go_enter Tryz.func26, Tryz.ntmps26
  go_upto_region 1 with (fail)
  have HB : Hid (Below w.heap.size w (w.alloc (Obj.cells #[.int .i64 k, .int .i64 n, .string t, .int .i64 vk, .int .i64 vn, .string vt] 35))) := (Below.refl _ _).alloc (Nat.le_refl _) _
  have y0 : (w.alloc (Obj.cells #[.int .i64 k, .int .i64 n, .string t, .int .i64 vk, .int .i64 vn, .string vt] 35)).cell? ⟨w.heap.size, 0, none⟩ = some (.int .i64 k) := (World.cell?_alloc_mark w #[.int .i64 k, .int .i64 n, .string t, .int .i64 vk, .int .i64 vn, .string vt] 35 (0, 0) 0).trans rfl
  have y1 : (w.alloc (Obj.cells #[.int .i64 k, .int .i64 n, .string t, .int .i64 vk, .int .i64 vn, .string vt] 35)).cell? ⟨w.heap.size, 1, none⟩ = some (.int .i64 n) := (World.cell?_alloc_mark w #[.int .i64 k, .int .i64 n, .string t, .int .i64 vk, .int .i64 vn, .string vt] 35 (0, 0) 1).trans rfl
  obtain ⟨bx, hbx⟩ : ∃ bx, w.heap.size = bx := ⟨_, rfl⟩
  rw [hbx] at y0 y1
  rw [hbx]
  clear hbx
  generalize (w.alloc (Obj.cells #[.int .i64 k, .int .i64 n, .string t, .int .i64 vk, .int .i64 vn, .string vt] 35)) = w1 at *
  by_cases h7 : k = 7
  · subst h7
    have HP : Hid (Ending.returned (.tuple #[.int .i64 (0), .int .i64 0]) = Ending.returned (.tuple #[.int .i64 (needP ((7, n, t), vk, vn, vt)), .int .i64 (leftP ((7, n, t), vk, vn, vt))])) := by
      show _ = _
      simp [needP, leftP]
    go_wp2
    refine bodyPost_ret (v := .tuple #[.int .i64 0, .int .i64 0]) (by simp [results, Tryz.results26, go_sem]) rfl ⟨HP.out, HB.out⟩
  by_cases h8 : k = 8
  · subst h8
    have HP : Hid (Ending.returned (.tuple #[.int .i64 (1), .int .i64 0]) = Ending.returned (.tuple #[.int .i64 (needP ((8, n, t), vk, vn, vt)), .int .i64 (leftP ((8, n, t), vk, vn, vt))])) := by
      show _ = _
      simp [needP, leftP]
    go_wp2
    refine bodyPost_ret (v := .tuple #[.int .i64 1, .int .i64 0]) (by simp [results, Tryz.results26, go_sem]) rfl ⟨HP.out, HB.out⟩
  by_cases h3 : k = 3
  · subst h3
    have HP : Hid (Ending.returned (.tuple #[.int .i64 (1), .int .i64 1]) = Ending.returned (.tuple #[.int .i64 (needP ((3, n, t), vk, vn, vt)), .int .i64 (leftP ((3, n, t), vk, vn, vt))])) := by
      show _ = _
      simp [needP, leftP]
    go_wp2
    refine bodyPost_ret (v := .tuple #[.int .i64 1, .int .i64 1]) (by simp [results, Tryz.results26, go_sem]) rfl ⟨HP.out, HB.out⟩
  by_cases h5 : k = 5
  · subst h5
    have HP : Hid (Ending.returned (.tuple #[.int .i64 (1), .int .i64 1]) = Ending.returned (.tuple #[.int .i64 (needP ((5, n, t), vk, vn, vt)), .int .i64 (leftP ((5, n, t), vk, vn, vt))])) := by
      show _ = _
      simp [needP, leftP]
    go_wp2
    refine bodyPost_ret (v := .tuple #[.int .i64 1, .int .i64 1]) (by simp [results, Tryz.results26, go_sem]) rfl ⟨HP.out, HB.out⟩
  by_cases h10 : k = 10
  · subst h10
    have HP : Hid (Ending.returned (.tuple #[.int .i64 (1), .int .i64 1]) = Ending.returned (.tuple #[.int .i64 (needP ((10, n, t), vk, vn, vt)), .int .i64 (leftP ((10, n, t), vk, vn, vt))])) := by
      show _ = _
      simp [needP, leftP]
    go_wp2
    refine bodyPost_ret (v := .tuple #[.int .i64 1, .int .i64 1]) (by simp [results, Tryz.results26, go_sem]) rfl ⟨HP.out, HB.out⟩
  by_cases h4 : k = 4
  · subst h4
    have HP : Hid (Ending.returned (.tuple #[.int .i64 (2), .int .i64 1]) = Ending.returned (.tuple #[.int .i64 (needP ((4, n, t), vk, vn, vt)), .int .i64 (leftP ((4, n, t), vk, vn, vt))])) := by
      show _ = _
      simp [needP, leftP]
    go_wp2
    refine bodyPost_ret (v := .tuple #[.int .i64 2, .int .i64 1]) (by simp [results, Tryz.results26, go_sem]) rfl ⟨HP.out, HB.out⟩
  by_cases h6 : k = 6
  · subst h6
    have HP : Hid (Ending.returned (.tuple #[.int .i64 n, .int .i64 1]) = Ending.returned (.tuple #[.int .i64 (needP ((6, n, t), vk, vn, vt)), .int .i64 (leftP ((6, n, t), vk, vn, vt))])) := by
      show _ = _
      simp [needP, leftP]
    go_wp2
    refine bodyPost_ret (v := .tuple #[.int .i64 n, .int .i64 1]) (by simp [results, Tryz.results26, go_sem]) rfl ⟨HP.out, HB.out⟩
  have HP : Hid (Ending.returned (.tuple #[.int .i64 (0), .int .i64 1]) = Ending.returned (.tuple #[.int .i64 (needP ((k, n, t), vk, vn, vt)), .int .i64 (leftP ((k, n, t), vk, vn, vt))])) := by
    show _ = _
    simp [needP, leftP, h7, h8, h3, h5, h10, h4, h6]
  have b7 : (k == 7) = false := by simpa using h7
  have b8 : (k == 8) = false := by simpa using h8
  have b3 : (k == 3) = false := by simpa using h3
  have b5 : (k == 5) = false := by simpa using h5
  have b10 : (k == 10) = false := by simpa using h10
  have b4 : (k == 4) = false := by simpa using h4
  have b6 : (k == 6) = false := by simpa using h6
  go_wp2
  refine bodyPost_ret (v := .tuple #[.int .i64 0, .int .i64 1]) (by simp [results, Tryz.results26, go_sem]) rfl ⟨HP.out, HB.out⟩
theorem two_any (t : ByteArray) (w : World) : Calls Tryz.prog 43 #[.string t] w fun e w' => e = .returned (.bool (twoP t)) ∧ Below w.heap.size w w' := by
  go_enter Tryz.func43, Tryz.ntmps43
  by_cases h0 : t.toList = [43]
  · have HP : Hid (Ending.returned (.bool true) = Ending.returned (.bool (twoP t))) := by show _ = _; simp [twoP, twoS, h0]
    go_wp2
    go_ret
    exact ⟨HP.out, Below.refl _ _⟩
  by_cases h1 : t.toList = [45]
  · have HP : Hid (Ending.returned (.bool true) = Ending.returned (.bool (twoP t))) := by show _ = _; simp [twoP, twoS, h1]
    go_wp2
    go_ret
    exact ⟨HP.out, Below.refl _ _⟩
  by_cases h2 : t.toList = [42]
  · have HP : Hid (Ending.returned (.bool true) = Ending.returned (.bool (twoP t))) := by show _ = _; simp [twoP, twoS, h2]
    go_wp2
    go_ret
    exact ⟨HP.out, Below.refl _ _⟩
  by_cases h3 : t.toList = [47]
  · have HP : Hid (Ending.returned (.bool true) = Ending.returned (.bool (twoP t))) := by show _ = _; simp [twoP, twoS, h3]
    go_wp2
    go_ret
    exact ⟨HP.out, Below.refl _ _⟩
  by_cases h4 : t.toList = [37]
  · have HP : Hid (Ending.returned (.bool true) = Ending.returned (.bool (twoP t))) := by show _ = _; simp [twoP, twoS, h4]
    go_wp2
    go_ret
    exact ⟨HP.out, Below.refl _ _⟩
  by_cases h5 : t.toList = [61]
  · have HP : Hid (Ending.returned (.bool true) = Ending.returned (.bool (twoP t))) := by show _ = _; simp [twoP, twoS, h5]
    go_wp2
    go_ret
    exact ⟨HP.out, Below.refl _ _⟩
  by_cases h6 : t.toList = [33, 61]
  · have HP : Hid (Ending.returned (.bool true) = Ending.returned (.bool (twoP t))) := by show _ = _; simp [twoP, twoS, h6]
    go_wp2
    go_ret
    exact ⟨HP.out, Below.refl _ _⟩
  by_cases h7 : t.toList = [60]
  · have HP : Hid (Ending.returned (.bool true) = Ending.returned (.bool (twoP t))) := by show _ = _; simp [twoP, twoS, h7]
    go_wp2
    go_ret
    exact ⟨HP.out, Below.refl _ _⟩
  by_cases h8 : t.toList = [60, 61]
  · have HP : Hid (Ending.returned (.bool true) = Ending.returned (.bool (twoP t))) := by show _ = _; simp [twoP, twoS, h8]
    go_wp2
    go_ret
    exact ⟨HP.out, Below.refl _ _⟩
  by_cases h9 : t.toList = [62]
  · have HP : Hid (Ending.returned (.bool true) = Ending.returned (.bool (twoP t))) := by show _ = _; simp [twoP, twoS, h9]
    go_wp2
    go_ret
    exact ⟨HP.out, Below.refl _ _⟩
  by_cases h10 : t.toList = [62, 61]
  · have HP : Hid (Ending.returned (.bool true) = Ending.returned (.bool (twoP t))) := by show _ = _; simp [twoP, twoS, h10]
    go_wp2
    go_ret
    exact ⟨HP.out, Below.refl _ _⟩
  by_cases h11 : t.toList = [97, 110, 100]
  · have HP : Hid (Ending.returned (.bool true) = Ending.returned (.bool (twoP t))) := by show _ = _; simp [twoP, twoS, h11]
    go_wp2
    go_ret
    exact ⟨HP.out, Below.refl _ _⟩
  by_cases h12 : t.toList = [111, 114]
  · have HP : Hid (Ending.returned (.bool true) = Ending.returned (.bool (twoP t))) := by show _ = _; simp [twoP, twoS, h12]
    go_wp2
    go_ret
    exact ⟨HP.out, Below.refl _ _⟩
  have HP : Hid (Ending.returned (.bool false) = Ending.returned (.bool (twoP t))) := by show _ = _; simp [twoP, twoS, h0, h1, h2, h3, h4, h5, h6, h7, h8, h9, h10, h11, h12]
  have c0 : (t.toList == [43]) = false := by simpa using h0
  have c1 : (t.toList == [45]) = false := by simpa using h1
  have c2 : (t.toList == [42]) = false := by simpa using h2
  have c3 : (t.toList == [47]) = false := by simpa using h3
  have c4 : (t.toList == [37]) = false := by simpa using h4
  have c5 : (t.toList == [61]) = false := by simpa using h5
  have c6 : (t.toList == [33, 61]) = false := by simpa using h6
  have c7 : (t.toList == [60]) = false := by simpa using h7
  have c8 : (t.toList == [60, 61]) = false := by simpa using h8
  have c9 : (t.toList == [62]) = false := by simpa using h9
  have c10 : (t.toList == [62, 61]) = false := by simpa using h10
  have c11 : (t.toList == [97, 110, 100]) = false := by simpa using h11
  have c12 : (t.toList == [111, 114]) = false := by simpa using h12
  go_wp2
  go_ret
  exact ⟨HP.out, Below.refl _ _⟩
end Go.Proofs.YtmadofpbfgbdkaaGreatDoor
