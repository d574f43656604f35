/- The first value that is not null. -/
import Derived.Test.YtjphmbgennadcaaGreatDoorCho
namespace Go.Proofs.YtjphmbgennadcaaGreatDoor
set_option maxHeartbeats 4000000
set_option linter.unusedSimpArgs false
open Go.ChangeShapes Go.WideShapes Go.ChangeAt Go.RowKit


theorem ret_v {p : Val × Int} {k n e : Int} {t : ByteArray} (h : p = ((k, n, t), e)) : Ending.returned (.tuple #[.agg #[.int .i64 k, .int .i64 n, .string t], .int .i64 e]) = .returned (.tuple #[.agg #[.int .i64 (p).1.1, .int .i64 (p).1.2.1, .string (p).1.2.2], .int .i64 (p).2]) := by rw [h]
theorem dcL_len (r : List Val) (h : (dcL r).1 = 0) : (dcL r).2.length = r.length := by
  induction r with
  | nil => rfl
  | cons v r ih =>
    rw [dcL] at h ⊢
    by_cases h1 : (dcV v).2 = 0
    · rw [if_pos h1] at h ⊢
      by_cases h2 : (dcL r).1 = 0
      · rw [if_pos h2, List.length_cons, List.length_cons, ih h2]
      · rw [if_neg h2] at h; exact absurd h h2
    · rw [if_neg h1] at h; exact absurd h h1
theorem inK_len (r : List Val) (h : (inK r).1 = 0) : (inK r).2.length = r.length := by
  unfold inK at h ⊢
  by_cases h3 : comG (ksL r) = 3
  · rw [if_pos h3] at h ⊢; exact dcL_len r h
  · rw [if_neg h3]
theorem decS_in (k n : Int) : I64 (Ar.decS k n).2.1 := by
  unfold Ar.decS
  split
  · unfold I64; simp
  · unfold Ar.fin
    split
    · rename_i h
      have := of_decide_eq_true (show decide _ = true from h)
      exact this
    · unfold I64; simp
theorem dcL_int (r : List Val) : IntR (dcL r).2 := by
  induction r with
  | nil => intro v hv; cases hv
  | cons v r ih =>
    rw [dcL]
    by_cases h1 : (dcV v).2 = 0
    · rw [if_pos h1]
      by_cases h2 : (dcL r).1 = 0
      · rw [if_pos h2]
        intro u hu
        rcases List.mem_cons.1 hu with rfl | hu
        · exact decS_in _ _
        · exact ih u hu
      · rw [if_neg h2]; intro u hu; cases hu
    · rw [if_neg h1]; intro u hu; cases hu
theorem inK_int {r : List Val} (h : IntR r) : IntR (inK r).2 := by
  unfold inK
  split
  · exact dcL_int r
  · exact h
/-- The first that is not null. -/
def firN : List Val → Val
  | [] => dv
  | v :: r => if v.1 = 0 then firN r else v
def coaP (r : List Val) : Val × Int := if (inK r).1 = 0 then (firN (inK r).2, 0) else (dv, (inK r).1)
theorem coalesce_any (a : Option Addr) (cap : Nat) (r : List Val) (w : World) (h1 : 1 ≤ r.length) (hlen : r.length * 32 ≤ 140737488355328) (hcap : r.length ≤ cap) (hI : IntR r) (hr : RowAt w a r) :
    Calls Tryz.prog 45 #[.slice a r.length cap] w fun e w' => e = .returned (.tuple #[.agg #[.int .i64 (coaP r).1.1, .int .i64 (coaP r).1.2.1, .string (coaP r).1.2.2], .int .i64 (coaP r).2]) ∧ Below w.heap.size w w' := by
  have hA : Below w.heap.size w (w.alloc (.cells #[.int .i64 0, .int .i64 0, .string ⟨#[]⟩] 34)) := (Below.refl _ _).alloc (Nat.le_refl _) _
  have hk := inTheir_any a cap r (w.alloc (.cells #[.int .i64 0, .int .i64 0, .string ⟨#[]⟩] 34)) hlen hcap hI (hr.below hA)
  have HL : Hid ((inK r).1 = 0 → (inK r).2.length = r.length) := inK_len r
  have HP : Hid (coaP r = if (inK r).1 = 0 then (firN (inK r).2, 0) else (dv, (inK r).1)) := rfl
  generalize coaP r = R at HP ⊢
  generalize inK r = D at *
  obtain ⟨er, L⟩ := D
  dsimp only at HP HL
  by_cases h0 : er = 0
  · subst h0
    have HR : Hid (R = (firN L, 0)) := by show _ = _; rw [HP.out, if_pos rfl]
    have hLl : L.length = r.length := HL.out rfl
    have HLL : Hid (L.length = r.length) := hLl
    go_enter Tryz.func45, Tryz.ntmps45
    go_wp2_with fail
    refine hk.mono ?_
    rintro e w1 ⟨hp, hb1⟩
    unfold ItkP at hp
    rw [if_pos rfl] at hp
    obtain ⟨a2, cap2, rfl, hcp2, hra⟩ := hp
    dsimp only at hra hcp2 ⊢
    obtain ⟨b, off, rfl, hc⟩ : ∃ b off, a2 = some ⟨b, off, none⟩ ∧ ∀ i, i < L.length → w1.cell? ⟨b, off + i * 3, none⟩ = some (.int .i64 (kAt L i)) ∧ w1.cell? ⟨b, off + i * 3 + 1, none⟩ = some (.int .i64 (nAt L i)) ∧ w1.cell? ⟨b, off + i * 3 + 2, none⟩ = some (.string (tAt L i)) := by
      rcases hra with h | h
      · omega
      · exact h
    have HC : Hid _ := hc
    have HB1 : Hid _ := hb1
    have hz1 : w.heap.size < w1.heap.size := by have := hb1.size; simp at this; omega
    have hLm : L.length ≤ 9223372036854775807 := by omega
    clear hc hk hb1 hLl
    go_wp2
    go_loopw [19] (fun i wr => ∃ m : Nat, m ≤ L.length ∧ i = .int .i64 m ∧ firN (L.drop m) = firN L ∧ Bel w1.heap.size w1 wr) (fun i _ => L.length - (intOf i).toNat)
    case atStart => exact ⟨0, Nat.zero_le _, rfl, rfl, Bel.refl _⟩
    case round =>
      obtain ⟨m, hm, rfl, hV, HB⟩ := hrel
      have HV : Hid (firN (L.drop m) = firN L) := hV
      have hW := HB.out
      have hW0 : Below (w.alloc (.cells #[.int .i64 0, .int .i64 0, .string ⟨#[]⟩] 34)).heap.size (w.alloc (.cells #[.int .i64 0, .int .i64 0, .string ⟨#[]⟩] 34)) wr := HB1.out.trans (hW.mono HB1.out.size)
      have hz2 : w.heap.size < wr.heap.size := by have := hW0.size; simp at this; omega
      obtain ⟨hc1, hf1⟩ := bcell hW0
      clear hV
      rcases Nat.lt_or_ge m L.length with hlt | hge
      · have c0 := cell_below hW (HC.out m hlt).1
        have c1 := cell_below hW (HC.out m hlt).2.1
        have c2 := cell_below hW (HC.out m hlt).2.2
        have HD : Hid (L.drop m = (kAt L m, nAt L m, tAt L m) :: L.drop (m + 1)) := drop_at hlt
        generalize kAt L m = k at *
        generalize nAt L m = n at *
        generalize tAt L m = t at *
        by_cases hk0 : k = 0
        · subst hk0
          have HN : Hid (firN (L.drop (m + 1)) = firN L) := by show _ = _; rw [← HV.out, HD.out, firN]; rfl
          go_wp2
          go_roundw
          case rel => exact ⟨m + 1, by omega, by go_num, HN.out, (by repeat (first | exact Bel.refl _ | assumption | refine Bel.drew ?_ | refine Bel.drewN ?_ _ | refine Bel.alloc ?_ _ | refine Bel.setCell ?_ (by simp <;> omega) _ | refine Bel.step ?_ (by assumption)))⟩
          case measure => simp [intOf]; omega
        · have hk0' : (k != 0) = true := by simpa using hk0
          have HN : Hid (R = ((k, n, t), 0)) := by show _ = _; rw [HR.out, ← HV.out, HD.out, firN, if_neg hk0]
          clear hk0
          go_wp2
          exact bodyPost_ret (v := .tuple #[.agg #[.int .i64 k, .int .i64 n, .string t], .int .i64 0]) (by simp [results, Tryz.results45, go_sem, hc1, hz2]) rfl ⟨ret_v HN.out, (Bel.out (by repeat (first | exact Bel.refl _ | assumption | refine Bel.drew ?_ | refine Bel.drewN ?_ _ | refine Bel.alloc ?_ _ | refine Bel.setCell ?_ (by simp <;> omega) _ | refine Bel.step ?_ (by assumption))))⟩
      · obtain rfl : m = L.length := by omega
        have HN : Hid (R = ((0, 0, ⟨#[]⟩), 0)) := by show _ = _; rw [HR.out, ← HV.out, List.drop_length]; rfl
        go_wp2
        exact bodyPost_ret (v := .tuple #[.agg #[.int .i64 0, .int .i64 0, .string ⟨#[]⟩], .int .i64 0]) (by simp [results, Tryz.results45, go_sem, hc1]) rfl ⟨ret_v HN.out, (Bel.out (by repeat (first | exact Bel.refl _ | assumption | refine Bel.drew ?_ | refine Bel.drewN ?_ _ | refine Bel.alloc ?_ _ | refine Bel.setCell ?_ (by simp <;> omega) _ | refine Bel.step ?_ (by assumption))))⟩
  · have HR : Hid (R = ((0, 0, ⟨#[]⟩), er)) := by show _ = _; rw [HP.out, if_neg h0]; rfl
    have h0' : (er != 0) = true := by simpa using h0
    have HE : Hid (er ≠ 0) := h0
    clear h0
    go_enter Tryz.func45, Tryz.ntmps45
    go_wp2_with fail
    refine hk.mono ?_
    rintro e w1 ⟨hp, hb1⟩
    unfold ItkP at hp
    rw [if_neg HE.out] at hp
    subst hp
    obtain ⟨hc1, hf1⟩ := bcell hb1
    go_wp2
    exact bodyPost_ret (v := .tuple #[.agg #[.int .i64 0, .int .i64 0, .string ⟨#[]⟩], .int .i64 er]) (by simp [results, Tryz.results45, go_sem, hc1]) rfl ⟨ret_v HR.out, (Bel.out (by repeat (first | exact Bel.refl _ | assumption | refine Bel.drew ?_ | refine Bel.drewN ?_ _ | refine Bel.alloc ?_ _ | refine Bel.setCell ?_ (by simp <;> omega) _ | refine Bel.step ?_ (by assumption))))⟩
end Go.Proofs.YtjphmbgennadcaaGreatDoor
