/- The kind of kinds that are alike; which kinds each function takes. -/
import Derived.Test.YtjphmbgennadcaaGreatDoorKnd
namespace Go.Proofs.YtjphmbgennadcaaGreatDoor
set_option maxHeartbeats 4000000
set_option linter.unusedSimpArgs false
open Go.ChangeShapes Go.WideShapes Go.ChangeAt Go.RowKit


theorem ret_ib {a b : Int} {p q : Bool} (h1 : a = b) (h2 : p = q) : Ending.returned (.tuple #[.int .i64 a, .bool p]) = .returned (.tuple #[.int .i64 b, .bool q]) := by rw [h1, h2]
theorem common_some (b off cap : Nat) (l : List Int) (w : World) (hlen : l.length ≤ 9223372036854775807) (hc : ∀ i, i < l.length → w.cell? ⟨b, off + i, none⟩ = some (.int .i64 (l.getD i 0))) :
    Calls Tryz.prog 67 #[.slice (some ⟨b, off, none⟩) l.length cap] w fun e w' => e = .returned (.tuple #[.int .i64 (comG l), .bool (alkB l)]) ∧ w' = w := by
  have HC : Hid _ := hc
  clear hc
  go_enter Tryz.func67, Tryz.ntmps67
  go_wp2
  go_loop [4, 9] (fun k i => ∃ (m : Nat) (q : Int), m ≤ l.length ∧ k = .int .i64 q ∧ i = .int .i64 m ∧ comP q (l.drop m) = comP 0 l) (fun _ i => l.length - (intOf i).toNat)
  case atStart => exact ⟨0, 0, Nat.zero_le _, rfl, rfl, rfl⟩
  case round =>
    obtain ⟨m, q, hm, rfl, rfl, hV⟩ := hrel
    have HV : Hid (comP q (l.drop m) = comP 0 l) := hV
    clear hV
    rcases Nat.lt_or_ge m l.length with hlt | hge
    · have c0 := HC.out m hlt
      have HD : Hid (l.drop m = l.getD m 0 :: l.drop (m + 1)) := dropI hlt
      generalize l.getD m 0 = x at c0 HD
      by_cases hx : x = 0
      · subst hx
        have HN : Hid (comP q (l.drop (m + 1)) = comP 0 l) := by show _ = _; rw [← HV.out, HD.out, comP]; rfl
        go_wp2
        go_round
        case rel => exact ⟨m + 1, q, by omega, rfl, by go_num, HN.out⟩
        case measure => simp [intOf]; omega
      · have hx0 : (x == 0) = false := by simpa using hx
        clear hx
        by_cases hq : x = q
        · subst hq
          have HN : Hid (comP x (l.drop (m + 1)) = comP 0 l) := by show _ = _; rw [← HV.out, HD.out, comP, hx0]; simp
          go_wp2
          go_round
          case rel => exact ⟨m + 1, x, by omega, rfl, by go_num, HN.out⟩
          case measure => simp [intOf]; omega
        · have hxq : (x == q) = false := by simpa using hq
          clear hq
          by_cases hq0 : q = 0
          · subst hq0
            have HN : Hid (comP x (l.drop (m + 1)) = comP 0 l) := by show _ = _; rw [← HV.out, HD.out, comP, hx0]; rfl
            clear hxq
            go_wp2
            go_round
            case rel => exact ⟨m + 1, x, by omega, rfl, by go_num, HN.out⟩
            case measure => simp [intOf]; omega
          · have hq0' : (q == 0) = false := by simpa using hq0
            clear hq0
            have hN1 := isNumber10_any x w
            have hN2 := isNumber10_any q w
            cases hn : isNum x with
            | false =>
              rw [hn] at hN1
              have HN : Hid (comP 0 l = none) := by show _ = _; rw [← HV.out, HD.out, comP, hx0, hxq, hq0', hn]; rfl
              have H1 : Hid (comG l = 0) := by show _ = _; unfold comG; rw [HN.out]; rfl
              have H2 : Hid (alkB l = false) := by show _ = _; unfold alkB; rw [HN.out]; rfl
              clear hn hN2
              go_wp2_with fail
              refine hN1.mono ?_
              rintro e w1 ⟨rfl, rfl⟩
              go_wp2
              go_ret2
              exact ⟨ret_ib H1.out.symm H2.out.symm, rfl⟩
            | true =>
              rw [hn] at hN1
              cases hn2 : isNum q with
              | false =>
                rw [hn2] at hN2
                have HN : Hid (comP 0 l = none) := by show _ = _; rw [← HV.out, HD.out, comP, hx0, hxq, hq0', hn, hn2]; rfl
                have H1 : Hid (comG l = 0) := by show _ = _; unfold comG; rw [HN.out]; rfl
                have H2 : Hid (alkB l = false) := by show _ = _; unfold alkB; rw [HN.out]; rfl
                clear hn hn2
                go_wp2_with fail
                refine hN1.mono ?_
                rintro e w1 ⟨rfl, rfl⟩
                go_wp2_with fail
                refine hN2.mono ?_
                rintro e w1 ⟨rfl, rfl⟩
                go_wp2
                go_ret2
                exact ⟨ret_ib H1.out.symm H2.out.symm, rfl⟩
              | true =>
                rw [hn2] at hN2
                have HN : Hid (comP 3 (l.drop (m + 1)) = comP 0 l) := by show _ = _; rw [← HV.out, HD.out, comP, hx0, hxq, hq0', hn, hn2]; rfl
                clear hn hn2
                go_wp2_with fail
                refine hN1.mono ?_
                rintro e w1 ⟨rfl, rfl⟩
                go_wp2_with fail
                refine hN2.mono ?_
                rintro e w1 ⟨rfl, rfl⟩
                go_wp2
                go_round
                case rel => exact ⟨m + 1, 3, by omega, rfl, by go_num, HN.out⟩
                case measure => simp [intOf]; omega
    · obtain rfl : m = l.length := by omega
      have HN : Hid (comP 0 l = some q) := by show _ = _; rw [← HV.out, List.drop_length]; rfl
      have H1 : Hid (comG l = q) := by show _ = _; unfold comG; rw [HN.out]; rfl
      have H2 : Hid (alkB l = true) := by show _ = _; unfold alkB; rw [HN.out]; rfl
      go_wp2
      go_ret2
      exact ⟨ret_ib H1.out.symm H2.out.symm, rfl⟩
theorem common_none (a : Option Addr) (cap : Nat) (w : World) : Calls Tryz.prog 67 #[.slice a 0 cap] w fun e w' => e = .returned (.tuple #[.int .i64 0, .bool true]) ∧ w' = w := by
  go_enter Tryz.func67, Tryz.ntmps67
  go_wp2
  refine wp_loop_rounds 1 ?_
  rw [rounds_succ]
  go_wp2
  go_ret2
  exact ⟨rfl, rfl⟩
theorem common_any (a : Option Addr) (cap : Nat) (l : List Int) (w : World) (hlen : l.length ≤ 9223372036854775807) (hk : KsAt w a l) :
    Calls Tryz.prog 67 #[.slice a l.length cap] w fun e w' => e = .returned (.tuple #[.int .i64 (comG l), .bool (alkB l)]) ∧ w' = w := by
  rcases hk with h0 | ⟨b, off, rfl, hc⟩
  · obtain rfl : l = [] := List.length_eq_zero_iff.1 h0
    exact common_none a cap w
  · exact common_some b off cap l w hlen hc
theorem alike10_any (a : Option Addr) (cap : Nat) (l : List Int) (w : World) (hlen : l.length ≤ 9223372036854775807) (hk : KsAt w a l) :
    Calls Tryz.prog 85 #[.slice a l.length cap] w fun e w' => e = .returned (.bool (alkB l)) ∧ w' = w := by
  have h := common_any a cap l w hlen hk
  go_enter Tryz.func85, Tryz.ntmps85
  go_wp2_with fail
  refine h.mono ?_
  rintro e w1 ⟨rfl, rfl⟩
  go_wp2
  go_ret
  exact ⟨rfl, rfl⟩

/-- A function that tells of kinds by p. -/
structure Tak (F : FuncId) (p : List Int → Bool) : Prop where
  ent : Ent F
  run : ∀ (a : Option Addr) (cap : Nat) (l : List Int) (w : World), l.length ≤ 9223372036854775807 → l.length ≤ cap → KsAt w a l → Calls Tryz.prog F #[.slice a l.length cap] w fun e w' => e = .returned (.bool (p l)) ∧ Below w.heap.size w w'
theorem tkr_62 (a : Option Addr) (cap : Nat) (l : List Int) (w : World) (_hlen : l.length ≤ 9223372036854775807) (_ : l.length ≤ cap) (_ : KsAt w a l) : Calls Tryz.prog 62 #[.slice a l.length cap] w fun e w' => e = .returned (.bool (oneA l)) ∧ Below w.heap.size w w' := by
  have HN : Hid (oneA l = ((l.length : Int) == 1)) := by
    show _ = _
    unfold oneA lenB
    rw [Bool.eq_iff_iff]; simp; omega
  go_enter Tryz.func62, Tryz.ntmps62
  go_wp2
  go_ret
  exact ⟨ret_bool HN.out.symm, Below.refl _ _⟩
theorem tkr_41 (a : Option Addr) (cap : Nat) (l : List Int) (w : World) (hlen : l.length ≤ 9223372036854775807) (_ : l.length ≤ cap) (hk : KsAt w a l) : Calls Tryz.prog 41 #[.slice a l.length cap] w fun e w' => e = .returned (.bool (oneN l)) ∧ Below w.heap.size w w' := by
  by_cases hl : l.length = 1
  · have h1 : ((l.length : Int) == 1) = true := by rw [beq_iff_eq]; omega
    have hr := all_any 81 isNum tst_num a cap l w hlen hk
    have HN : Hid (oneN l = allK isNum l) := by show _ = _; unfold oneN lenB; rw [decide_eq_true hl]; rfl
    clear hl hk
    go_enter Tryz.func41, Tryz.ntmps41
    go_wp2_with fail
    refine hr.mono ?_
    rintro e w1 ⟨rfl, rfl⟩
    go_wp2
    go_ret
    exact ⟨ret_bool HN.out.symm, Below.refl _ _⟩
  · have h1 : ((l.length : Int) == 1) = false := by rw [beq_eq_false_iff_ne]; omega
    have HN : Hid (oneN l = false) := by show _ = _; unfold oneN lenB; rw [decide_eq_false hl]; rfl
    clear hl hk
    go_enter Tryz.func41, Tryz.ntmps41
    go_wp2
    go_ret
    exact ⟨ret_bool HN.out.symm, Below.refl _ _⟩
theorem tkr_51 (a : Option Addr) (cap : Nat) (l : List Int) (w : World) (hlen : l.length ≤ 9223372036854775807) (_ : l.length ≤ cap) (hk : KsAt w a l) : Calls Tryz.prog 51 #[.slice a l.length cap] w fun e w' => e = .returned (.bool (oneT l)) ∧ Below w.heap.size w w' := by
  by_cases hl : l.length = 1
  · have h1 : ((l.length : Int) == 1) = true := by rw [beq_iff_eq]; omega
    have hr := all_any 87 isT tst_txt a cap l w hlen hk
    have HN : Hid (oneT l = allK isT l) := by show _ = _; unfold oneT lenB; rw [decide_eq_true hl]; rfl
    clear hl hk
    go_enter Tryz.func51, Tryz.ntmps51
    go_wp2_with fail
    refine hr.mono ?_
    rintro e w1 ⟨rfl, rfl⟩
    go_wp2
    go_ret
    exact ⟨ret_bool HN.out.symm, Below.refl _ _⟩
  · have h1 : ((l.length : Int) == 1) = false := by rw [beq_eq_false_iff_ne]; omega
    have HN : Hid (oneT l = false) := by show _ = _; unfold oneT lenB; rw [decide_eq_false hl]; rfl
    clear hl hk
    go_enter Tryz.func51, Tryz.ntmps51
    go_wp2
    go_ret
    exact ⟨ret_bool HN.out.symm, Below.refl _ _⟩
theorem tkr_54 (a : Option Addr) (cap : Nat) (l : List Int) (w : World) (hlen : l.length ≤ 9223372036854775807) (_ : l.length ≤ cap) (hk : KsAt w a l) : Calls Tryz.prog 54 #[.slice a l.length cap] w fun e w' => e = .returned (.bool (twoA l)) ∧ Below w.heap.size w w' := by
  by_cases hl : l.length = 2
  · have h1 : ((l.length : Int) == 2) = true := by rw [beq_iff_eq]; omega
    have hr := alike10_any a cap l w hlen hk
    have HN : Hid (twoA l = alkB l) := by show _ = _; unfold twoA lenB; rw [decide_eq_true hl]; rfl
    clear hl hk
    go_enter Tryz.func54, Tryz.ntmps54
    go_wp2_with fail
    refine hr.mono ?_
    rintro e w1 ⟨rfl, rfl⟩
    go_wp2
    go_ret
    exact ⟨ret_bool HN.out.symm, Below.refl _ _⟩
  · have h1 : ((l.length : Int) == 2) = false := by rw [beq_eq_false_iff_ne]; omega
    have HN : Hid (twoA l = false) := by show _ = _; unfold twoA lenB; rw [decide_eq_false hl]; rfl
    clear hl hk
    go_enter Tryz.func54, Tryz.ntmps54
    go_wp2
    go_ret
    exact ⟨ret_bool HN.out.symm, Below.refl _ _⟩
theorem tkr_46 (a : Option Addr) (cap : Nat) (l : List Int) (w : World) (hlen : l.length ≤ 9223372036854775807) (_ : l.length ≤ cap) (hk : KsAt w a l) : Calls Tryz.prog 46 #[.slice a l.length cap] w fun e w' => e = .returned (.bool (somT l)) ∧ Below w.heap.size w w' := by
  by_cases hl : l.length = 0
  · have h1 : ((1 : Int) ≤ (l.length : Int)) = False := eq_false (by omega)
    have HN : Hid (somT l = false) := by show _ = _; unfold somT lenB; rw [decide_eq_true hl]; rfl
    clear hl hk
    go_enter Tryz.func46, Tryz.ntmps46
    go_wp2
    go_ret
    exact ⟨ret_bool HN.out.symm, Below.refl _ _⟩
  · have h1 : ((1 : Int) ≤ (l.length : Int)) = True := eq_true (by omega)
    have hr := all_any 87 isT tst_txt a cap l w hlen hk
    have HN : Hid (somT l = allK isT l) := by show _ = _; unfold somT lenB; rw [decide_eq_false hl]; rfl
    clear hl hk
    go_enter Tryz.func46, Tryz.ntmps46
    go_wp2_with fail
    refine hr.mono ?_
    rintro e w1 ⟨rfl, rfl⟩
    go_wp2
    go_ret
    exact ⟨ret_bool HN.out.symm, Below.refl _ _⟩
theorem tkr_44 (a : Option Addr) (cap : Nat) (l : List Int) (w : World) (hlen : l.length ≤ 9223372036854775807) (_ : l.length ≤ cap) (hk : KsAt w a l) : Calls Tryz.prog 44 #[.slice a l.length cap] w fun e w' => e = .returned (.bool (somA l)) ∧ Below w.heap.size w w' := by
  by_cases hl : l.length = 0
  · have h1 : ((1 : Int) ≤ (l.length : Int)) = False := eq_false (by omega)
    have HN : Hid (somA l = false) := by show _ = _; unfold somA lenB; rw [decide_eq_true hl]; rfl
    clear hl hk
    go_enter Tryz.func44, Tryz.ntmps44
    go_wp2
    go_ret
    exact ⟨ret_bool HN.out.symm, Below.refl _ _⟩
  · have h1 : ((1 : Int) ≤ (l.length : Int)) = True := eq_true (by omega)
    have hr := alike10_any a cap l w hlen hk
    have HN : Hid (somA l = alkB l) := by show _ = _; unfold somA lenB; rw [decide_eq_false hl]; rfl
    clear hl hk
    go_enter Tryz.func44, Tryz.ntmps44
    go_wp2_with fail
    refine hr.mono ?_
    rintro e w1 ⟨rfl, rfl⟩
    go_wp2
    go_ret
    exact ⟨ret_bool HN.out.symm, Below.refl _ _⟩

theorem tkr_58 (a : Option Addr) (cap : Nat) (l : List Int) (w : World) (hlen : l.length ≤ 9223372036854775807) (hcap : l.length ≤ cap) (hk : KsAt w a l) : Calls Tryz.prog 58 #[.slice a l.length cap] w fun e w' => e = .returned (.bool (txtP l)) ∧ Below w.heap.size w w' := by
  by_cases hl : l.length = 3
  · match l, hl with
    | [x, y, z], _ =>
      rcases hk with h0 | ⟨b, off, rfl, hc⟩
      · cases h0
      have c0 : w.cell? ⟨b, off, none⟩ = some (.int .i64 x) := hc 0 (by simp)
      have c1 : w.cell? ⟨b, off + 1, none⟩ = some (.int .i64 y) := hc 1 (by simp)
      have c2 : w.cell? ⟨b, off + 2, none⟩ = some (.int .i64 z) := hc 2 (by simp)
      have hA : Below w.heap.size w (w.alloc (.cells #[.int .i64 x] 3)) := (Below.refl _ _).alloc (Nat.le_refl _) _
      have h1 := all_any 87 isT tst_txt (some ⟨w.heap.size, 0, none⟩) 1 [x] (w.alloc (.cells #[.int .i64 x] 3)) (by simp) (Or.inr ⟨_, 0, rfl, fun i hi => by
        obtain rfl : i = 0 := by simp at hi; omega
        exact World.cell?_alloc_new _ _ _ _⟩)
      have h2 := all_any 97 isI tst_int (some ⟨b, off + 1, none⟩) (cap - 1) [y, z] (w.alloc (.cells #[.int .i64 x] 3)) (by simp) (Or.inr ⟨_, _, rfl, fun i hi => by
        simp at hi
        rcases (show i = 0 ∨ i = 1 by omega) with rfl | rfl
        · exact cell_below hA c1
        · exact cell_below hA c2⟩)
      have hcap' : 3 ≤ cap := by simpa using hcap
      have HN : Hid (txtP [x, y, z] = (allK isT [x] && allK isI [y, z])) := rfl
      generalize txtP [x, y, z] = R at HN ⊢
      generalize allK isT [x] = p at h1 HN
      generalize allK isI [y, z] = q at h2 HN
      clear hc hlen hcap c1 c2
      cases p
      · go_enter Tryz.func58, Tryz.ntmps58
        go_wp2_with fail
        refine h1.mono ?_
        rintro e w1 ⟨rfl, rfl⟩
        go_wp2
        go_ret
        exact ⟨ret_bool HN.out.symm, hA⟩
      · go_enter Tryz.func58, Tryz.ntmps58
        go_wp2_with fail
        refine h1.mono ?_
        rintro e w1 ⟨rfl, rfl⟩
        go_wp2_with fail
        refine h2.mono ?_
        rintro e w1 ⟨rfl, rfl⟩
        go_wp2
        go_ret
        exact ⟨ret_bool HN.out.symm, hA⟩
  · have h1 : ((l.length : Int) == 3) = false := by rw [beq_eq_false_iff_ne]; omega
    have HN : Hid (txtP l = false) := by show _ = _; unfold txtP lenB; rw [decide_eq_false hl]; rfl
    clear hl hk
    go_enter Tryz.func58, Tryz.ntmps58
    go_wp2
    go_ret
    exact ⟨ret_bool HN.out.symm, Below.refl _ _⟩
theorem tak_62 : Tak 62 oneA := ⟨ent_of Tryz.func62 (by kernel_rfl) rfl, tkr_62⟩
theorem tak_41 : Tak 41 oneN := ⟨ent_of Tryz.func41 (by kernel_rfl) rfl, tkr_41⟩
theorem tak_51 : Tak 51 oneT := ⟨ent_of Tryz.func51 (by kernel_rfl) rfl, tkr_51⟩
theorem tak_54 : Tak 54 twoA := ⟨ent_of Tryz.func54 (by kernel_rfl) rfl, tkr_54⟩
theorem tak_46 : Tak 46 somT := ⟨ent_of Tryz.func46 (by kernel_rfl) rfl, tkr_46⟩
theorem tak_44 : Tak 44 somA := ⟨ent_of Tryz.func44 (by kernel_rfl) rfl, tkr_44⟩
theorem tak_58 : Tak 58 txtP := ⟨ent_of Tryz.func58 (by kernel_rfl) rfl, tkr_58⟩
end Go.Proofs.YtjphmbgennadcaaGreatDoor
