/- Lengths of notes, signs, units; whole numbers (lineLength, noteLength, signLength, sign, milliseconds, whole). -/
import Derived.Test.YtcemogaacicnfaaGreatDoorPure
import Derived.Lib.IndexBytes
namespace Go.Proofs.YtcemogaacicnfaaGreatDoor
open Go.ChangeShapes Go.WideShapes Go.ChangeAt Go.RowKit

theorem bsA_tl (l : List UInt8) : (bsA l).toList = l := by rw [ByteArray.toList_eq, bsA_list]
theorem ext_drop' (l : List UInt8) (z : Nat) : (bsA l).extract z l.length = bsA (l.drop z) := by rw [← ext_drop, bsA_size]
set_option maxRecDepth 20000 in
set_option maxHeartbeats 4000000 in
theorem lineLength_any (l : List UInt8) (w : World) : Calls Tryz.prog 136 #[.string (bsA l)] w fun e w' => e = .returned (.int .i64 (lineN l)) ∧ w' = w := by
  have hz := bsA_size l
  have hc := Tryz.strings_IndexByte (bsA l) 10 w
  rw [bsA_list] at hc
  rw [show (10 : Int).toNat.toUInt8 = 10 from rfl] at hc
  unfold lineN
  by_cases h : Lib.indexByte l 10 ≥ 0
  · rw [if_pos h]
    generalize Lib.indexByte l 10 = x at hc h
    have e1 : ((0 : Int) ≤ x) = True := eq_true h
    go_enter Tryz.func136, Tryz.ntmps136
    go_wp2_with (go_at_call 140; refine hc.mono ?_; rintro e w' ⟨rfl, rfl⟩)
    go_ret
    exact ⟨rfl, rfl⟩
  · rw [if_neg h]
    generalize Lib.indexByte l 10 = x at hc h
    have e1 : ((0 : Int) ≤ x) = False := eq_false h
    go_enter Tryz.func136, Tryz.ntmps136
    go_wp2_with (go_at_call 140; refine hc.mono ?_; rintro e w' ⟨rfl, rfl⟩)
    go_ret
    exact ⟨rfl, rfl⟩
set_option maxRecDepth 20000 in
set_option maxHeartbeats 4000000 in
theorem noteLength_any (l : List UInt8) (w : World) (hR : Rdy w) (h2 : 2 ≤ l.length) (hl : l.length ≤ 1048576000) : Calls Tryz.prog 137 #[.string (bsA l)] w fun e w' => e = .returned (.int .i64 (noteN l)) ∧ w' = w := by
  have hz := bsA_size l
  obtain ⟨m, hm⟩ := hR.mx
  have hc := Tryz.strings_Index (bsA (l.drop 2)) ⟨#[42, 47]⟩ m w (by rw [bsA_size]; simp; omega) hm
  rw [bsA_list] at hc
  change Calls Tryz.prog 141 _ w (fun e w' => e = .returned (.int .i64 (Lib.index (l.drop 2) [42, 47])) ∧ w' = w) at hc
  have hx := ext_drop' l 2
  have hle := Lib.index_le (l.drop 2) [42, 47]
  rw [List.length_drop] at hle
  unfold noteN
  by_cases h : Lib.index (l.drop 2) [42, 47] < 0
  · rw [if_pos h]
    generalize Lib.index (l.drop 2) [42, 47] = x at hc h hle ⊢
    have e1 : (x < (0 : Int)) = True := eq_true h
    go_enter Tryz.func137, Tryz.ntmps137
    go_wp2_with (go_at_call 141; refine hc.mono ?_; rintro e w' ⟨rfl, rfl⟩)
    go_ret
    exact ⟨rfl, rfl⟩
  · rw [if_neg h]
    generalize Lib.index (l.drop 2) [42, 47] = x at hc h hle ⊢
    have e1 : (x < (0 : Int)) = False := eq_false h
    go_enter Tryz.func137, Tryz.ntmps137
    go_wp2_with (go_at_call 141; refine hc.mono ?_; rintro e w' ⟨rfl, rfl⟩)
    go_ret
    exact ⟨ret_int (by go_num), rfl⟩
set_option maxRecDepth 20000 in
set_option maxHeartbeats 4000000 in
theorem milliseconds_any (u : List UInt8) (w : World) : Calls Tryz.prog 169 #[.string (bsA u)] w fun e w' => e = .returned (.int .i64 (msN u)) ∧ w' = w := by
  have ht := bsA_tl u
  unfold msN
  by_cases h0 : u = [109, 115]
  · rw [if_pos h0]
    subst h0
    go_enter Tryz.func169, Tryz.ntmps169
    go_wp2
    go_ret
    exact ⟨rfl, rfl⟩
  have b0 : (u == [109, 115]) = false := by rw [beq_eq_false_iff_ne]; exact h0
  rw [if_neg h0]
  clear h0
  by_cases h1 : u = [115]
  · rw [if_pos h1]
    subst h1
    go_enter Tryz.func169, Tryz.ntmps169
    go_wp2
    go_ret
    exact ⟨rfl, rfl⟩
  have b1 : (u == [115]) = false := by rw [beq_eq_false_iff_ne]; exact h1
  rw [if_neg h1]
  clear h1
  by_cases h2 : u = [109]
  · rw [if_pos h2]
    subst h2
    go_enter Tryz.func169, Tryz.ntmps169
    go_wp2
    go_ret
    exact ⟨rfl, rfl⟩
  have b2 : (u == [109]) = false := by rw [beq_eq_false_iff_ne]; exact h2
  rw [if_neg h2]
  clear h2
  by_cases h3 : u = [104]
  · rw [if_pos h3]
    subst h3
    go_enter Tryz.func169, Tryz.ntmps169
    go_wp2
    go_ret
    exact ⟨rfl, rfl⟩
  have b3 : (u == [104]) = false := by rw [beq_eq_false_iff_ne]; exact h3
  rw [if_neg h3]
  clear h3
  by_cases h4 : u = [100]
  · rw [if_pos h4]
    subst h4
    go_enter Tryz.func169, Tryz.ntmps169
    go_wp2
    go_ret
    exact ⟨rfl, rfl⟩
  have b4 : (u == [100]) = false := by rw [beq_eq_false_iff_ne]; exact h4
  rw [if_neg h4]
  clear h4
  go_enter Tryz.func169, Tryz.ntmps169
  go_wp2
  go_ret
  exact ⟨rfl, rfl⟩
set_option maxRecDepth 20000 in
set_option maxHeartbeats 4000000 in
theorem signLength_any (c : UInt8) (r : List UInt8) (w : World) (hl : (c :: r).length ≤ 1048576000) : Calls Tryz.prog 158 #[.string (bsA (c :: r))] w fun e w' => e = .returned (.int .i64 (sgnN (c :: r))) ∧ w' = w := by
  have hz := bsA_size (c :: r)
  have hx := ext_take (c :: r) 2
  have ht := bsA_tl ((c :: r).take 2)
  have h0 : (bsA (c :: r))[0]'(by rw [hz]; simp) = c := rfl
  have hc := Tryz.strings_IndexByte ⟨#[60, 62, 61, 43, 45, 42, 47, 37, 40, 41, 44, 46, 59, 91, 93, 35]⟩ (c.toNat : Int) w
  have hcc : ((c.toNat : Int).toNat.toUInt8) = c := by simp
  rw [hcc] at hc
  change Calls Tryz.prog 140 _ w (fun e w' => e = .returned (.int .i64 (Lib.indexByte shortS c)) ∧ w' = w) at hc
  have hS : sgnN (c :: r) = if sgn2 (c :: r) then 2 else if Lib.indexByte shortS c ≥ 0 then 1 else 0 := rfl
  have hlen : (c :: r).length = r.length + 1 := rfl
  rcases Nat.eq_zero_or_pos r.length with hr | hr
  · have hs2 : sgn2 (c :: r) = false := by unfold sgn2; rw [hlen, hr]; rfl
    rw [hS, hs2]
    obtain rfl := List.length_eq_zero_iff.1 hr
    rw [if_neg (by simp)]
    clear hx ht
    by_cases h : Lib.indexByte shortS c ≥ 0
    · rw [if_pos h]
      generalize Lib.indexByte shortS c = x at hc h
      have e1 : ((0 : Int) ≤ x) = True := eq_true h
      clear hS h
      go_enter Tryz.func158, Tryz.ntmps158
      go_wp2_with (go_at_call 140; refine hc.mono ?_; rintro e w' ⟨rfl, rfl⟩)
      go_ret
      exact ⟨rfl, rfl⟩
    · rw [if_neg h]
      generalize Lib.indexByte shortS c = x at hc h
      have e1 : ((0 : Int) ≤ x) = False := eq_false h
      clear hS h
      go_enter Tryz.func158, Tryz.ntmps158
      go_wp2_with (go_at_call 140; refine hc.mono ?_; rintro e w' ⟨rfl, rfl⟩)
      go_ret
      exact ⟨rfl, rfl⟩
  · have hg : 1 < (c :: r).length := by rw [hlen]; omega
    cases b0 : (c :: r).take 2 == [60, 61] with
    | true =>
      have hs2 : sgn2 (c :: r) = true := by unfold sgn2; rw [b0, decide_eq_true hg]; simp
      rw [hS, hs2, if_pos rfl]
      generalize (c :: r).take 2 = t at *
      clear hS hs2
      go_enter Tryz.func158, Tryz.ntmps158
      go_wp2
      go_ret
      exact ⟨rfl, rfl⟩
    | false =>
      cases b1 : (c :: r).take 2 == [62, 61] with
      | true =>
        have hs2 : sgn2 (c :: r) = true := by unfold sgn2; rw [b1, decide_eq_true hg]; simp
        rw [hS, hs2, if_pos rfl]
        generalize (c :: r).take 2 = t at *
        clear hS hs2
        go_enter Tryz.func158, Tryz.ntmps158
        go_wp2
        go_ret
        exact ⟨rfl, rfl⟩
      | false =>
        cases b2 : (c :: r).take 2 == [33, 61] with
        | true =>
          have hs2 : sgn2 (c :: r) = true := by unfold sgn2; rw [b2, decide_eq_true hg]; simp
          rw [hS, hs2, if_pos rfl]
          generalize (c :: r).take 2 = t at *
          clear hS hs2
          go_enter Tryz.func158, Tryz.ntmps158
          go_wp2
          go_ret
          exact ⟨rfl, rfl⟩
        | false =>
          cases b3 : (c :: r).take 2 == [45, 62] with
          | true =>
            have hs2 : sgn2 (c :: r) = true := by unfold sgn2; rw [b3, decide_eq_true hg]; simp
            rw [hS, hs2, if_pos rfl]
            generalize (c :: r).take 2 = t at *
            clear hS hs2
            go_enter Tryz.func158, Tryz.ntmps158
            go_wp2
            go_ret
            exact ⟨rfl, rfl⟩
          | false =>
            have hs2 : sgn2 (c :: r) = false := by unfold sgn2; rw [b0, b1, b2, b3]; simp
            rw [hS, hs2, if_neg (by simp)]
            generalize (c :: r).take 2 = t at *
            by_cases h : Lib.indexByte shortS c ≥ 0
            · rw [if_pos h]
              generalize Lib.indexByte shortS c = x at hc h
              have e1 : ((0 : Int) ≤ x) = True := eq_true h
              clear hS h
              go_enter Tryz.func158, Tryz.ntmps158
              go_wp2_with (go_at_call 140; refine hc.mono ?_; rintro e w' ⟨rfl, rfl⟩)
              go_ret
              exact ⟨rfl, rfl⟩
            · rw [if_neg h]
              generalize Lib.indexByte shortS c = x at hc h
              have e1 : ((0 : Int) ≤ x) = False := eq_false h
              clear hS h
              go_enter Tryz.func158, Tryz.ntmps158
              go_wp2_with (go_at_call 140; refine hc.mono ?_; rintro e w' ⟨rfl, rfl⟩)
              go_ret
              exact ⟨rfl, rfl⟩
set_option maxRecDepth 20000 in
set_option maxHeartbeats 4000000 in
theorem sign_any (c : UInt8) (r : List UInt8) (w : World) (hl : (c :: r).length ≤ 1048576000) : Calls Tryz.prog 147 #[.string (bsA (c :: r))] w fun e w' => e = .returned (.tuple #[tkV (sgnP (c :: r)).1 0, .int .i64 (sgnP (c :: r)).2.1, .int .i64 (sgnP (c :: r)).2.2]) ∧ Below w.heap.size w w' := by
  have hz := bsA_size (c :: r)
  have hc := fun w1 => signLength_any c r w1 hl
  have hle : sgnN (c :: r) ≤ (c :: r).length := by
    unfold sgnN
    split
    · rename_i h; unfold sgn2 at h; simp only [Bool.and_eq_true, decide_eq_true_eq] at h; omega
    · split
      · simp
      · simp
  unfold sgnP tkV
  generalize sgnN (c :: r) = n at hc hle ⊢
  by_cases h : n = 0
  · subst h
    rw [if_pos rfl]
    go_enter Tryz.func147, Tryz.ntmps147
    go_wp2_with (go_at_call 158; refine (hc _).mono ?_; rintro e w' ⟨rfl, rfl⟩)
    refine bodyPost_ret (v := .tuple #[.agg #[.int .i64 0, .string ⟨#[]⟩, .int .i64 0, .int .i64 0], .int .i64 0, .int .i64 50]) (by simp [results, Tryz.results147, go_sem]) rfl ⟨rfl, (Bel.out (by repeat (first | exact Bel.refl _ | assumption | refine Bel.drew ?_ | refine Bel.drewN ?_ _ | refine Bel.alloc ?_ _ | refine Bel.setCell ?_ (by simp <;> omega) _ | refine Bel.step ?_ (by assumption))))⟩
  · have hx := ext_take (c :: r) n
    rw [if_neg h]
    have e1 : ((n : Int) == 0) = false := by rw [beq_eq_false_iff_ne]; omega
    go_enter Tryz.func147, Tryz.ntmps147
    go_wp2_with (go_at_call 158; refine (hc _).mono ?_; rintro e w' ⟨rfl, rfl⟩)
    refine bodyPost_ret (v := .tuple #[.agg #[.int .i64 6, .string (bsA ((c :: r).take n)), .int .i64 0, .int .i64 0], .int .i64 n, .int .i64 0]) (by simp [results, Tryz.results147, go_sem]) rfl ⟨rfl, (Bel.out (by repeat (first | exact Bel.refl _ | assumption | refine Bel.drew ?_ | refine Bel.drewN ?_ _ | refine Bel.alloc ?_ _ | refine Bel.setCell ?_ (by simp <;> omega) _ | refine Bel.step ?_ (by assumption))))⟩
end Go.Proofs.YtcemogaacicnfaaGreatDoor
