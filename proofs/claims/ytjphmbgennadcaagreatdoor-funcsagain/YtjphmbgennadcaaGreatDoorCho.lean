/- Values that are alike, in their kind; which of them is chosen. -/
import Derived.Test.YtjphmbgennadcaaGreatDoorOwn
import Derived.Test.YtjphmbgennadcaaGreatDoorNmb
import Derived.Test.YtjphmbgennadcaaGreatDoorKsf
namespace Go.Proofs.YtjphmbgennadcaaGreatDoor
set_option maxHeartbeats 4000000
set_option linter.unusedSimpArgs false
open Go.ChangeShapes Go.WideShapes Go.ChangeAt Go.RowKit


def IntR (r : List Val) : Prop := ∀ v ∈ r, I64 v.2.1
theorem IntR.at {r : List Val} (h : IntR r) (i : Nat) : I64 (nAt r i) := by
  unfold nAt
  rcases Nat.lt_or_ge i r.length with h1 | h1
  · rw [List.getD_eq_getElem?_getD, List.getElem?_eq_getElem h1]
    exact h _ (List.getElem_mem h1)
  · rw [List.getD_eq_getElem?_getD, List.getElem?_eq_none h1]
    show I64 0
    unfold I64; omega
/-- A value as a decimal, and the error. -/
def dcV (v : Val) : Val × Int := (((Ar.decS v.1 v.2.1).1, (Ar.decS v.1 v.2.1).2.1, ⟨#[]⟩), (Ar.decS v.1 v.2.1).2.2)
/-- Values as decimals, or the first error. -/
def dcL : List Val → Int × List Val
  | [] => (0, [])
  | v :: r => if (dcV v).2 = 0 then (if (dcL r).1 = 0 then (0, (dcV v).1 :: (dcL r).2) else ((dcL r).1, [])) else ((dcV v).2, [])
def joi (acc : List Val) (p : Int × List Val) : Int × List Val := if p.1 = 0 then (0, acc ++ p.2) else (p.1, [])
theorem joi_ok (acc : List Val) (v : Val) (r : List Val) (h : (dcV v).2 = 0) : joi acc (dcL (v :: r)) = joi (acc ++ [(dcV v).1]) (dcL r) := by
  unfold joi
  rw [dcL, if_pos h]
  by_cases h2 : (dcL r).1 = 0
  · rw [if_pos h2, if_pos rfl, if_pos h2]; simp
  · rw [if_neg h2, if_neg h2, if_neg h2]
theorem joi_no (acc : List Val) (v : Val) (r : List Val) (h : (dcV v).2 ≠ 0) : joi acc (dcL (v :: r)) = ((dcV v).2, []) := by
  unfold joi
  rw [dcL, if_neg h, if_neg h]
theorem joi_nil (p : Int × List Val) (h : p.1 ≠ 0 → p.2 = []) : joi [] p = p := by
  unfold joi
  obtain ⟨a, b⟩ := p
  by_cases h1 : a = 0
  · simp [h1]
  · have h2 : b = [] := h h1
    simp [h1, h2]
theorem dcL_no (r : List Val) (h : (dcL r).1 ≠ 0) : (dcL r).2 = [] := by
  cases r with
  | nil => rfl
  | cons v r =>
    rw [dcL] at h ⊢
    by_cases h1 : (dcV v).2 = 0
    · rw [if_pos h1] at h ⊢
      by_cases h2 : (dcL r).1 = 0
      · rw [if_pos h2] at h; exact absurd rfl h
      · rw [if_neg h2]
    · rw [if_neg h1]
def inK (r : List Val) : Int × List Val := if comG (ksL r) = 3 then dcL r else (0, r)
/-- What inTheirKind tells. -/
def ItkP (p : Int × List Val) (e : Ending) (w' : World) : Prop :=
  if p.1 = 0 then ∃ a cap, e = .returned (.tuple #[.slice a p.2.length cap, .int .i64 0]) ∧ p.2.length ≤ cap ∧ RowAt w' a p.2 else e = .returned (.tuple #[.slice none 0 0, .int .i64 p.1])
theorem inTheir_any (a : Option Addr) (cap : Nat) (r : List Val) (w : World) (hlen : r.length * 32 ≤ 140737488355328) (hcap : r.length ≤ cap) (hI : IntR r) (hr : RowAt w a r) :
    Calls Tryz.prog 86 #[.slice a r.length cap] w fun e w' => ItkP (inK r) e w' ∧ Below w.heap.size w w' := by
  have hK := kindsOf_any a cap r w (by omega) hr
  by_cases h3 : comG (ksL r) = 3
  · obtain ⟨i0, hi, hz0⟩ := Option.map_eq_some_iff.1 info34
    simp only [Prod.mk.injEq] at hz0
    obtain ⟨hz, hs, hb3⟩ := hz0
    have HX : Hid (inK r = joi [] (dcL r)) := by show _ = _; rw [joi_nil _ (dcL_no r)]; unfold inK; rw [if_pos h3]
    generalize inK r = D at HX ⊢
    have HH3 : Hid (comG (ksL r) = 3) := h3
    obtain ⟨b, off, rfl, hc⟩ : ∃ b off, a = some ⟨b, off, none⟩ ∧ ∀ i, i < r.length → w.cell? ⟨b, off + i * 3, none⟩ = some (.int .i64 (kAt r i)) ∧ w.cell? ⟨b, off + i * 3 + 1, none⟩ = some (.int .i64 (nAt r i)) ∧ w.cell? ⟨b, off + i * 3 + 2, none⟩ = some (.string (tAt r i)) := by
      rcases hr with h0 | h
      · obtain rfl : r = [] := List.length_eq_zero_iff.1 h0
        exact absurd h3 (by decide)
      · exact h
    have HC : Hid _ := hc
    clear hc
    have HI : Hid (IntR r) := hI
    clear h3 hI hr hcap
    go_enter Tryz.func86, Tryz.ntmps86
    go_wp2_with fail
    refine hK.mono ?_
    rintro e w1 ⟨⟨a1, rfl, hks⟩, hb1⟩
    have hcm := common_any a1 r.length (ksL r) w1 (by rw [ksL_len]; omega) hks
    rw [HH3.out, ksL_len] at hcm
    clear hks hK
    go_wp2_with fail
    refine hcm.mono ?_
    rintro e w1' ⟨rfl, rfl⟩
    have HB1 : Hid (Bel w.heap.size w w1') := Bel.of hb1
    clear hb1 hcm
    go_wp2
    go_loopw [6, 22] (fun y i wr => ∃ (m : Nat) (acc : List Val) (v1 : Value), m ≤ r.length ∧ y = v1 ∧ i = .int .i64 m ∧ acc.length = m ∧ D = joi acc (dcL (r.drop m)) ∧ wr.ownsRow w.heap.size 34 3 v1 acc.length (rwC acc) ∧ Bel w.heap.size w wr) (fun _ i _ => r.length - (intOf i).toNat)
    case atStart => exact ⟨0, [], _, Nat.zero_le _, rfl, rfl, rfl, HX.out, World.ownsRow_nil _ _ _ _, HB1.out⟩
    case round =>
      obtain ⟨m, acc, v1, hm, hy1, rfl, hac, hD, hO, HB⟩ := hrel
      have hy2 := hy1.symm
      clear hy1
      subst hy2
      have HD : Hid (D = joi acc (dcL (r.drop m))) := hD
      have HO : Hid (wr.ownsRow w.heap.size 34 3 v1 acc.length (rwC acc)) := hO
      have HA : Hid (acc.length = m) := hac
      have hW := HB.out
      clear hD hO HX hac HB1
      rcases Nat.lt_or_ge m r.length with hlt | hge
      · have c0 := cell_below hW (HC.out m hlt).1
        have c1 := cell_below hW (HC.out m hlt).2.1
        have c2 := cell_below hW (HC.out m hlt).2.2
        have HDr : Hid (r.drop m = (kAt r m, nAt r m, tAt r m) :: r.drop (m + 1)) := drop_at hlt
        have hcall := fun w => Ar.Dec_any (kAt r m) (nAt r m) (tAt r m) (HI.out.at m) w
        have HV : Hid (dcV (kAt r m, nAt r m, tAt r m) = (((Ar.decS (kAt r m) (nAt r m)).1, (Ar.decS (kAt r m) (nAt r m)).2.1, ⟨#[]⟩), (Ar.decS (kAt r m) (nAt r m)).2.2)) := rfl
        generalize kAt r m = k at *
        generalize nAt r m = n at *
        generalize tAt r m = t at *
        generalize Ar.decS k n = q at *
        obtain ⟨q1, q2, q3⟩ := q
        dsimp only at HV hcall
        by_cases h0 : q3 = 0
        · subst h0
          have HN : Hid (D = joi (acc ++ [(q1, q2, ⟨#[]⟩)]) (dcL (r.drop (m + 1)))) := by
            show _ = _
            rw [HD.out, HDr.out, joi_ok _ _ _ (by rw [HV.out]), HV.out]
          clear HD HDr HV
          go_wp2_with fail
          refine (hcall _).mono ?_
          rintro e w2 ⟨rfl, hb2⟩
          have hB2 : Below wr.heap.size wr w2 := ((Below.refl _ _).alloc (Nat.le_refl _) _).trans (hb2.mono (by simp))
          clear hb2 hcall
          have hB3 : Below wr.heap.size wr (w2.alloc (.cells #[.int .i64 q1, .int .i64 q2, .string ⟨#[]⟩] 34)) := hB2.alloc hB2.size _
          have hrow : Hid (((w2.alloc (.cells #[.int .i64 q1, .int .i64 q2, .string ⟨#[]⟩] 34)).alloc (.cells #[.int .i64 q1, .int .i64 q2, .string ⟨#[]⟩] 34)).ownsRow w.heap.size 34 3 v1 acc.length (rwC acc)) := (owns_below HO.out hB3).alloc _
          have hcel : Hid (∀ j u, (rwC [(q1, q2, ⟨#[]⟩)])[j]? = some u → ((w2.alloc (.cells #[.int .i64 q1, .int .i64 q2, .string ⟨#[]⟩] 34)).alloc (.cells #[.int .i64 q1, .int .i64 q2, .string ⟨#[]⟩] 34)).cell? ((⟨w2.heap.size + 1, 0, none⟩ : Addr).add j) = some u) := by
            have h := rowCells_new (w2.alloc (.cells #[.int .i64 q1, .int .i64 q2, .string ⟨#[]⟩] 34)) (q1, q2, ⟨#[]⟩)
            rw [World.size_alloc] at h
            exact h
          have hone : Hid (∀ u ∈ rwC [(q1, q2, ⟨#[]⟩)], u.oneCell' = true) := rowC_one _ _ _ _
          have hnl : acc.length + 1 ≤ maxLen := by have := HA.out; unfold maxLen; omega
          have hby : (acc.length + 1) * 32 ≤ 140737488355328 := by have := HA.out; omega
          have hbw : w.heap.size ≤ (w2.alloc (.cells #[.int .i64 q1, .int .i64 q2, .string ⟨#[]⟩] 34)).heap.size := Nat.le_trans hW.size hB3.size
          have hbw2 : w.heap.size ≤ ((w2.alloc (.cells #[.int .i64 q1, .int .i64 q2, .string ⟨#[]⟩] 34)).alloc (.cells #[.int .i64 q1, .int .i64 q2, .string ⟨#[]⟩] 34)).heap.size := by rw [World.size_alloc]; omega
          have hvl : Hid ((rwC [((q1, q2, ⟨#[]⟩) : Val)]).length = 1 * 3) := rwC_len _
          have HB3 : Hid _ := hB3
          clear HO hB3
          go_wp2_with (at_builtin; refine wpList_append_own _ rfl _ _ 32 rfl w.heap.size 34 i0 (.agg #[.int .i64 0, .int .i64 0, .string ⟨#[]⟩]) 3 32 Tryz.underlying32 hi hz hs hb3 rfl (by decide) _ _ _ rfl hrow.out ⟨w2.heap.size + 1, 0, none⟩ 1 1 (rwC [(q1, q2, ⟨#[]⟩)]) rfl hvl.out hcel.out hone.out hnl hby hbw2 ?_)
          intro v3 w3 hown3 hgrow3 hi3
          clear hi3
          have HO3 : Hid (w3.ownsRow w.heap.size 34 3 v3 (acc ++ [((q1, q2, ⟨#[]⟩) : Val)]).length (rwC (acc ++ [((q1, q2, ⟨#[]⟩) : Val)]))) := by
            show World.ownsRow _ _ _ _ _ _ _
            have e : rwC [((q1, q2, ⟨#[]⟩) : Val)] = [.int .i64 q1, .int .i64 q2, .string ⟨#[]⟩] := by have := rwC_snoc [] ((q1, q2, ⟨#[]⟩) : Val); simpa [rwC_nil] using this
            rw [rwC_snoc, ← e, List.length_append, List.length_singleton]; exact hown3
          have HB4 : Hid (Bel w.heap.size w w3) := by
            have h1 : Below w.heap.size w (w2.alloc (.cells #[.int .i64 q1, .int .i64 q2, .string ⟨#[]⟩] 34)) := hW.trans (HB3.out.mono hW.size)
            have h2 := (h1.alloc hbw (.cells #[.int .i64 q1, .int .i64 q2, .string ⟨#[]⟩] 34)).grown hgrow3 hbw2 (fun j hj => (hrow.out.lt j hj).1)
            exact ⟨h2, h2.size⟩
          clear hown3 hgrow3 hrow hcel hone hvl hB2
          go_wp2
          go_roundw
          case rel => exact ⟨m + 1, acc ++ [(q1, q2, ⟨#[]⟩)], v3, by omega, rfl, by go_num, by rw [List.length_append, List.length_singleton, HA.out], HN.out, HO3.out, HB4.out⟩
          case measure => simp [intOf]; omega
        · have HN : Hid (D = (q3, [])) := by
            show _ = _
            rw [HD.out, HDr.out, joi_no _ _ _ (by rw [HV.out]; exact h0), HV.out]
          have HP : Hid (D.1 ≠ 0) := by show _ ≠ _; rw [HN.out]; exact h0
          have h0' : (q3 != 0) = true := by simpa using h0
          clear HD HDr HV HO h0
          go_wp2_with fail
          refine (hcall _).mono ?_
          rintro e w2 ⟨rfl, hb2⟩
          go_wp2
          go_ret2
          refine ⟨?_, (Bel.out (by repeat (first | exact Bel.refl _ | assumption | refine Bel.drew ?_ | refine Bel.drewN ?_ _ | refine Bel.alloc ?_ _ | refine Bel.setCell ?_ (by simp <;> omega) _ | refine Bel.step ?_ (by assumption))))⟩
          unfold ItkP
          rw [if_neg HP.out, HN.out]
          rfl
      · obtain rfl : m = r.length := by omega
        have HN : Hid (D = (0, acc)) := by
          show _ = _
          rw [HD.out, List.drop_length]
          simp [dcL, joi]
        have HO2 : Hid _ := row_of_owns HO.out
        obtain ⟨a2, cap2, rfl, hcp2, hra, _⟩ := HO2.out
        have HRA : Hid _ := hra
        have HCP : Hid _ := hcp2
        clear HO HO2 hra hcp2 HD
        go_wp2
        go_ret2
        refine ⟨?_, hW⟩
        unfold ItkP
        rw [HN.out, if_pos rfl]
        exact ⟨a2, cap2, rfl, HCP.out, HRA.out⟩
  · have HX : Hid (inK r = (0, r)) := by show _ = _; unfold inK; rw [if_neg h3]
    generalize inK r = D at HX ⊢
    have h3' : (comG (ksL r) != 3) = true := by simpa using h3
    have HRW : Hid (RowAt w a r) := hr
    have HCP : Hid (r.length ≤ cap) := hcap
    have HKs : Hid (ksL r = ksL r) := rfl
    generalize hkk : comG (ksL r) = kk at h3'
    have HKK : Hid (comG (ksL r) = kk) := hkk
    clear h3 hI hr hkk hcap
    go_enter Tryz.func86, Tryz.ntmps86
    go_wp2_with fail
    refine hK.mono ?_
    rintro e w1 ⟨⟨a1, rfl, hks⟩, hb1⟩
    have hcm := common_any a1 r.length (ksL r) w1 (by rw [ksL_len]; omega) hks
    rw [HKK.out, ksL_len] at hcm
    clear hks hK
    go_wp2_with fail
    refine hcm.mono ?_
    rintro e w1' ⟨rfl, rfl⟩
    go_wp2
    go_ret2
    refine ⟨?_, hb1⟩
    unfold ItkP
    rw [HX.out, if_pos rfl]
    exact ⟨a, cap, rfl, HCP.out, HRW.out.below hb1⟩
end Go.Proofs.YtjphmbgennadcaaGreatDoor
