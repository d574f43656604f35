/- What an instruction asks for and leaves (the document's side). -/
import Derived.Test.YtmadofpbfgbdkaaGreatDoorEff
namespace Go.Proofs.YtmadofpbfgbdkaaGreatDoor
open Go.ChangeShapes Go.WideShapes Go.ChangeAt Go.RowKit
set_option linter.unusedSimpArgs false
set_option maxRecDepth 20000
set_option maxHeartbeats 4000000

/-- A kind that the document names. -/
def kndP (k : Int) : Bool := decide (1 ≤ k) && decide (k ≤ 10)
theorem may_knd {o : Oq} {p n f a : Int} (h : mayP o p n f a = true) : kndP o.1.1 = true := by
  unfold kndP
  rw [Bool.and_eq_true, decide_eq_true_iff, decide_eq_true_iff]
  unfold mayP at h
  repeat' (split at h)
  all_goals first | omega | (simp at h)
def askP (o : Oq) : Int × Int := if kndP o.1.1 = true then (needP o, leftP o) else (0, 0)
theorem asks_any (o : Oq) (w : World) : Calls Tryz.prog 18 #[oqV o] w fun e w' => e = .returned (.tuple #[.int .i64 (askP o).1, .int .i64 (askP o).2]) ∧ Below w.heap.size w w' := by
  obtain ⟨⟨k, n, t⟩, vk, vn, vt⟩ := o
  unfold oqV
  dsimp only
  go_enter Tryz.func18, Tryz.ntmps18
  go_upto_region 1 with (fail)
  have HB : Hid (Below w.heap.size w (w.alloc (Obj.cells #[.int .i64 k, .int .i64 n, .string t, .int .i64 vk, .int .i64 vn, .string vt] 35))) := (Below.refl _ _).alloc (Nat.le_refl _) _
  have y0 : (w.alloc (Obj.cells #[.int .i64 k, .int .i64 n, .string t, .int .i64 vk, .int .i64 vn, .string vt] 35)).cell? ⟨w.heap.size, 0, none⟩ = some (.int .i64 k) := (World.cell?_alloc_mark w #[.int .i64 k, .int .i64 n, .string t, .int .i64 vk, .int .i64 vn, .string vt] 35 (0, 0) 0).trans rfl
  have y1 : (w.alloc (Obj.cells #[.int .i64 k, .int .i64 n, .string t, .int .i64 vk, .int .i64 vn, .string vt] 35)).cell? ⟨w.heap.size, 1, none⟩ = some (.int .i64 n) := (World.cell?_alloc_mark w #[.int .i64 k, .int .i64 n, .string t, .int .i64 vk, .int .i64 vn, .string vt] 35 (0, 0) 1).trans rfl
  obtain ⟨bx, hbx⟩ : ∃ bx, w.heap.size = bx := ⟨_, rfl⟩
  rw [hbx] at y0 y1
  rw [hbx]
  clear hbx
  generalize (w.alloc (Obj.cells #[.int .i64 k, .int .i64 n, .string t, .int .i64 vk, .int .i64 vn, .string vt] 35)) = w1 at *
  by_cases h1 : k = 1
  · subst h1
    have HP : Hid (Ending.returned (.tuple #[.int .i64 (0), .int .i64 1]) = Ending.returned (.tuple #[.int .i64 (askP ((1, n, t), vk, vn, vt)).1, .int .i64 (askP ((1, n, t), vk, vn, vt)).2])) := by
      show _ = _
      simp [askP, kndP, needP, leftP]
    go_wp2
    refine bodyPost_ret (v := .tuple #[.int .i64 0, .int .i64 1]) (by simp [results, Tryz.results18, go_sem]) rfl ⟨HP.out, HB.out⟩
  by_cases h2 : k = 2
  · subst h2
    have HP : Hid (Ending.returned (.tuple #[.int .i64 (0), .int .i64 1]) = Ending.returned (.tuple #[.int .i64 (askP ((2, n, t), vk, vn, vt)).1, .int .i64 (askP ((2, n, t), vk, vn, vt)).2])) := by
      show _ = _
      simp [askP, kndP, needP, leftP]
    go_wp2
    refine bodyPost_ret (v := .tuple #[.int .i64 0, .int .i64 1]) (by simp [results, Tryz.results18, go_sem]) rfl ⟨HP.out, HB.out⟩
  by_cases h9 : k = 9
  · subst h9
    have HP : Hid (Ending.returned (.tuple #[.int .i64 (0), .int .i64 1]) = Ending.returned (.tuple #[.int .i64 (askP ((9, n, t), vk, vn, vt)).1, .int .i64 (askP ((9, n, t), vk, vn, vt)).2])) := by
      show _ = _
      simp [askP, kndP, needP, leftP]
    go_wp2
    refine bodyPost_ret (v := .tuple #[.int .i64 0, .int .i64 1]) (by simp [results, Tryz.results18, go_sem]) rfl ⟨HP.out, HB.out⟩
  by_cases h3 : k = 3
  · subst h3
    have HP : Hid (Ending.returned (.tuple #[.int .i64 (1), .int .i64 1]) = Ending.returned (.tuple #[.int .i64 (askP ((3, n, t), vk, vn, vt)).1, .int .i64 (askP ((3, n, t), vk, vn, vt)).2])) := by
      show _ = _
      simp [askP, kndP, needP, leftP]
    go_wp2
    refine bodyPost_ret (v := .tuple #[.int .i64 1, .int .i64 1]) (by simp [results, Tryz.results18, go_sem]) rfl ⟨HP.out, HB.out⟩
  by_cases h5 : k = 5
  · subst h5
    have HP : Hid (Ending.returned (.tuple #[.int .i64 (1), .int .i64 1]) = Ending.returned (.tuple #[.int .i64 (askP ((5, n, t), vk, vn, vt)).1, .int .i64 (askP ((5, n, t), vk, vn, vt)).2])) := by
      show _ = _
      simp [askP, kndP, needP, leftP]
    go_wp2
    refine bodyPost_ret (v := .tuple #[.int .i64 1, .int .i64 1]) (by simp [results, Tryz.results18, go_sem]) rfl ⟨HP.out, HB.out⟩
  by_cases h10 : k = 10
  · subst h10
    have HP : Hid (Ending.returned (.tuple #[.int .i64 (1), .int .i64 1]) = Ending.returned (.tuple #[.int .i64 (askP ((10, n, t), vk, vn, vt)).1, .int .i64 (askP ((10, n, t), vk, vn, vt)).2])) := by
      show _ = _
      simp [askP, kndP, needP, leftP]
    go_wp2
    refine bodyPost_ret (v := .tuple #[.int .i64 1, .int .i64 1]) (by simp [results, Tryz.results18, go_sem]) rfl ⟨HP.out, HB.out⟩
  by_cases h4 : k = 4
  · subst h4
    have HP : Hid (Ending.returned (.tuple #[.int .i64 (2), .int .i64 1]) = Ending.returned (.tuple #[.int .i64 (askP ((4, n, t), vk, vn, vt)).1, .int .i64 (askP ((4, n, t), vk, vn, vt)).2])) := by
      show _ = _
      simp [askP, kndP, needP, leftP]
    go_wp2
    refine bodyPost_ret (v := .tuple #[.int .i64 2, .int .i64 1]) (by simp [results, Tryz.results18, go_sem]) rfl ⟨HP.out, HB.out⟩
  by_cases h6 : k = 6
  · subst h6
    have HP : Hid (Ending.returned (.tuple #[.int .i64 n, .int .i64 1]) = Ending.returned (.tuple #[.int .i64 (askP ((6, n, t), vk, vn, vt)).1, .int .i64 (askP ((6, n, t), vk, vn, vt)).2])) := by
      show _ = _
      simp [askP, kndP, needP, leftP]
    go_wp2
    refine bodyPost_ret (v := .tuple #[.int .i64 n, .int .i64 1]) (by simp [results, Tryz.results18, go_sem]) rfl ⟨HP.out, HB.out⟩
  by_cases h8 : k = 8
  · subst h8
    have HP : Hid (Ending.returned (.tuple #[.int .i64 (1), .int .i64 0]) = Ending.returned (.tuple #[.int .i64 (askP ((8, n, t), vk, vn, vt)).1, .int .i64 (askP ((8, n, t), vk, vn, vt)).2])) := by
      show _ = _
      simp [askP, kndP, needP, leftP]
    go_wp2
    refine bodyPost_ret (v := .tuple #[.int .i64 1, .int .i64 0]) (by simp [results, Tryz.results18, go_sem]) rfl ⟨HP.out, HB.out⟩
  by_cases h7 : k = 7
  · subst h7
    have HP : Hid (Ending.returned (.tuple #[.int .i64 (0), .int .i64 0]) = Ending.returned (.tuple #[.int .i64 (askP ((7, n, t), vk, vn, vt)).1, .int .i64 (askP ((7, n, t), vk, vn, vt)).2])) := by
      show _ = _
      simp [askP, kndP, needP, leftP]
    go_wp2
    refine bodyPost_ret (v := .tuple #[.int .i64 0, .int .i64 0]) (by simp [results, Tryz.results18, go_sem]) rfl ⟨HP.out, HB.out⟩
  have hk : kndP k = false := by
    unfold kndP
    rw [Bool.and_eq_false_iff, decide_eq_false_iff_not, decide_eq_false_iff_not]
    omega
  have HP : Hid (Ending.returned (.tuple #[.int .i64 (0), .int .i64 0]) = Ending.returned (.tuple #[.int .i64 (askP ((k, n, t), vk, vn, vt)).1, .int .i64 (askP ((k, n, t), vk, vn, vt)).2])) := by
    show _ = _
    simp [askP, needP, leftP, hk]
  have b1 : (k == 1) = false := by simpa using h1
  have b2 : (k == 2) = false := by simpa using h2
  have b9 : (k == 9) = false := by simpa using h9
  have b3 : (k == 3) = false := by simpa using h3
  have b5 : (k == 5) = false := by simpa using h5
  have b10 : (k == 10) = false := by simpa using h10
  have b4 : (k == 4) = false := by simpa using h4
  have b6 : (k == 6) = false := by simpa using h6
  have b8 : (k == 8) = false := by simpa using h8
  have b7 : (k == 7) = false := by simpa using h7
  go_wp2
  refine bodyPost_ret (v := .tuple #[.int .i64 0, .int .i64 0]) (by simp [results, Tryz.results18, go_sem]) rfl ⟨HP.out, HB.out⟩
end Go.Proofs.YtmadofpbfgbdkaaGreatDoor
