/- Names and words; decimals (name, decimal). -/
import Derived.Test.YtcemogaacicnfaaGreatDoorNum
import Derived.Test.YtcemogaacicnfaaGreatDoorWrd
namespace Go.Proofs.YtcemogaacicnfaaGreatDoor
open Go.ChangeShapes Go.WideShapes Go.ChangeAt Go.RowKit

def namP (l : List UInt8) : Tk × Int × Int := if wdL.contains (Lib.toLowerA (l.take (ldN ptB l))) then ((2, Lib.toLowerA (l.take (ldN ptB l)), 0), (l.take (ldN ptB l)).length, 0) else ((1, l.take (ldN ptB l), 0), (l.take (ldN ptB l)).length, 0)
theorem ptB_ascii {c : Nat} (h : ptB c = true) : c < 128 := by
  unfold ptB ltB dgB at h
  simp at h
  omega
theorem ld_ascii (l : List UInt8) : ∀ (j : Nat) (b : UInt8), (l.take (ldN ptB l))[j]? = some b → b.toNat < 128 := by
  intro j b hb
  have e : l.take (ldN ptB l) = l.takeWhile fun c => ptB c.toNat := by
    unfold ldN
    exact (List.prefix_iff_eq_take.1 (List.takeWhile_prefix _)).symm
  rw [e] at hb
  exact ptB_ascii (List.all_eq_true.1 (List.all_takeWhile (p := fun c : UInt8 => ptB c.toNat) (l := l)) b (List.mem_of_getElem? hb))
set_option maxRecDepth 20000 in
set_option maxHeartbeats 1000000 in
theorem name_any (l : List UInt8) (w : World) (hR : Rdy w) (hl : l.length ≤ 1048576000) : Calls Tryz.prog 143 #[.string (bsA l)] w fun e w' => e = .returned (.tuple #[tkV (namP l).1 0, .int .i64 (namP l).2.1, .int .i64 (namP l).2.2]) ∧ Below w.heap.size w w' := by
  have h1 := leading_isPart l (w.alloc tokO) hl
  have h2 := Tryz.strings_ToLower_ascii (bsA (l.take (ldN ptB l))) (w.alloc tokO) (by rw [bsA_size, List.length_take]; omega) (by rw [bsA_list]; exact ld_ascii l)
  rw [bsA_list] at h2
  change Calls Tryz.prog 152 _ _ (fun e w' => e = .returned (.string (bsA (Lib.toLowerA (l.take (ldN ptB l))))) ∧ Below (w.alloc tokO).heap.size (w.alloc tokO) w') at h2
  have hlt : (l.take (ldN ptB l)).length ≤ 1048576000 := by rw [List.length_take]; omega
  unfold namP tkV
  generalize l.take (ldN ptB l) = t at h1 h2 hlt ⊢
  have h3 := fun w2 (hb : Below (w.alloc tokO).heap.size (w.alloc tokO) w2) => isWord_any (Lib.toLowerA t) w2 ((hR.alloc tokO).below hb)
  generalize Lib.toLowerA t = s at h2 h3 ⊢
  have hz := bsA_size t
  clear hR
  cases hw : wdL.contains s with
  | true =>
    simp only [hw] at h3 ⊢
    go_enter Tryz.func143, Tryz.ntmps143
    go_wp2_with fail
    refine h1.mono ?_
    rintro e w' ⟨rfl, rfl⟩
    go_wp2_with fail
    refine h2.mono ?_
    rintro e w2 ⟨rfl, hb⟩
    have h4 := h3 w2 hb
    obtain ⟨y0, y1, y2, y3, f0, f1, f2, f3⟩ := tokBox hb
    have hB : Below w.heap.size w w2 := ((Below.refl _ _).alloc (Nat.le_refl _) _).trans (hb.mono (by simp))
    clear hb h1 h2 h3
    go_wp2_with fail
    refine h4.mono ?_
    rintro e w' ⟨rfl, rfl⟩
    go_wp2
    refine bodyPost_ret (v := .tuple #[.agg #[.int .i64 2, .string (bsA s), .int .i64 0, .int .i64 0], .int .i64 t.length, .int .i64 0]) (by simp [results, Tryz.results143, go_sem, y0, y1, y2, y3]) rfl ⟨rfl, (((hB.setCell (p := ⟨w.heap.size, 0, none⟩) (Nat.le_refl _) _).setCell (p := ⟨w.heap.size, 1, none⟩) (Nat.le_refl _) _).setCell (p := ⟨w.heap.size, 2, none⟩) (Nat.le_refl _) _).setCell (p := ⟨w.heap.size, 3, none⟩) (Nat.le_refl _) _⟩
  | false =>
    simp only [hw] at h3 ⊢
    go_enter Tryz.func143, Tryz.ntmps143
    go_wp2_with fail
    refine h1.mono ?_
    rintro e w' ⟨rfl, rfl⟩
    go_wp2_with fail
    refine h2.mono ?_
    rintro e w2 ⟨rfl, hb⟩
    have h4 := h3 w2 hb
    obtain ⟨y0, y1, y2, y3, f0, f1, f2, f3⟩ := tokBox hb
    have hB : Below w.heap.size w w2 := ((Below.refl _ _).alloc (Nat.le_refl _) _).trans (hb.mono (by simp))
    clear hb h1 h2 h3
    go_wp2_with fail
    refine h4.mono ?_
    rintro e w' ⟨rfl, rfl⟩
    go_wp2
    refine bodyPost_ret (v := .tuple #[.agg #[.int .i64 1, .string (bsA t), .int .i64 0, .int .i64 0], .int .i64 t.length, .int .i64 0]) (by simp [results, Tryz.results143, go_sem, y0, y1, y2, y3]) rfl ⟨rfl, (((hB.setCell (p := ⟨w.heap.size, 0, none⟩) (Nat.le_refl _) _).setCell (p := ⟨w.heap.size, 1, none⟩) (Nat.le_refl _) _).setCell (p := ⟨w.heap.size, 2, none⟩) (Nat.le_refl _) _).setCell (p := ⟨w.heap.size, 3, none⟩) (Nat.le_refl _) _⟩
set_option maxRecDepth 20000 in
set_option maxHeartbeats 1000000 in
theorem decimal_no (d b : List UInt8) (w : World) (hb4 : 4 < b.length) (hlb : b.length ≤ 1048576000) : Calls Tryz.prog 172 #[.string (bsA d), .string (bsA b)] w fun e w' => e = .returned (.tuple #[tkV (decP d b).1 0, .int .i64 (decP d b).2]) ∧ Below w.heap.size w w' := by
  have hz := bsA_size b
  unfold decP tkV
  rw [if_pos hb4]
  go_enter Tryz.func172, Tryz.ntmps172
  go_wp2
  refine bodyPost_ret (v := .tuple #[.agg #[.int .i64 0, .string ⟨#[]⟩, .int .i64 0, .int .i64 0], .int .i64 50]) (by simp [results, Tryz.results172, go_sem]) rfl ⟨rfl, (Bel.out (by repeat (first | exact Bel.refl _ | assumption | refine Bel.drew ?_ | refine Bel.drewN ?_ _ | refine Bel.alloc ?_ _ | refine Bel.setCell ?_ (by simp <;> omega) _ | refine Bel.step ?_ (by assumption))))⟩
theorem app_bsA (a b : List UInt8) : bsA a ++ bsA b = bsA (a ++ b) := by
  apply ba_ext
  simp [bsA]
set_option maxRecDepth 20000 in
set_option maxHeartbeats 1000000 in
theorem decimal_yes (d b : List UInt8) (w : World) (hR : Rdy w) (hb4 : b.length ≤ 4) (hld : d.length ≤ 104857600) : Calls Tryz.prog 172 #[.string (bsA d), .string (bsA b)] w fun e w' => e = .returned (.tuple #[tkV (decP d b).1 0, .int .i64 (decP d b).2]) ∧ Below w.heap.size w w' := by
  have hz := bsA_size b
  have h1 := Tryz.strings_Repeat ⟨#[48]⟩ (4 - b.length) (w.alloc tokO) (by omega) (by show 1 * _ ≤ _; omega)
  change Calls Tryz.prog 183 _ _ (fun e w' => e = .returned (.string (bsA (Lib.repeatL [48] (4 - b.length)))) ∧ Below (w.alloc tokO).heap.size (w.alloc tokO) w') at h1
  have hrl : (Lib.repeatL [48] (4 - b.length)).length ≤ 4 := by rw [Lib.repeatL_length]; simp
  have h2 := fun w2 (hb : Below (w.alloc tokO).heap.size (w.alloc tokO) w2) => whole_any 4 (d ++ (b ++ Lib.repeatL [48] (4 - b.length))) w2 ((hR.alloc tokO).below hb) (by simp only [List.length_append]; omega)
  unfold decP
  rw [if_neg (by omega), List.append_assoc]
  generalize Lib.repeatL [48] (4 - b.length) = z at h1 h2 hrl ⊢
  have hzd := bsA_size d
  have hzz := bsA_size z
  have hdb := bsA_size (d ++ b)
  simp only [List.length_append] at hdb
  have a1 := app_bsA d b
  have a2 := app_bsA (d ++ b) z
  generalize whlP 4 (d ++ (b ++ z)) = q at h2 ⊢
  obtain ⟨⟨q1, q2, q3⟩, q4⟩ := q
  unfold tkV at h2 ⊢
  dsimp only at h2 ⊢
  have hsub : (4 : Int) - (b.length : Int) = ((4 - b.length : Nat) : Int) := by omega
  clear hR
  go_enter Tryz.func172, Tryz.ntmps172
  go_wp2_with fail
  refine h1.mono ?_
  rintro e w2 ⟨rfl, hb⟩
  have h3 := h2 w2 hb
  clear h1 h2
  go_wp2_with fail
  refine h3.mono ?_
  rintro e w3 ⟨rfl, hb3⟩
  have hb' : Below (w.alloc tokO).heap.size (w.alloc tokO) w3 := hb.trans (hb3.mono hb.size)
  obtain ⟨y0, y1, y2, y3, f0, f1, f2, f3⟩ := tokBox hb'
  have hB : Below w.heap.size w w3 := ((Below.refl _ _).alloc (Nat.le_refl _) _).trans (hb'.mono (by simp))
  clear hb hb3 hb' h3
  go_wp2
  refine bodyPost_ret (v := .tuple #[.agg #[.int .i64 q1, .string (bsA q2), .int .i64 q3, .int .i64 0], .int .i64 q4]) (by simp [results, Tryz.results172, go_sem, y0, y1, y2, y3]) rfl ⟨rfl, (((hB.setCell (p := ⟨w.heap.size, 0, none⟩) (Nat.le_refl _) _).setCell (p := ⟨w.heap.size, 1, none⟩) (Nat.le_refl _) _).setCell (p := ⟨w.heap.size, 2, none⟩) (Nat.le_refl _) _).setCell (p := ⟨w.heap.size, 3, none⟩) (Nat.le_refl _) _⟩
end Go.Proofs.YtcemogaacicnfaaGreatDoor
