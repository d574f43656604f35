/- Which views may be, of the document (cols, Check). -/
import Derived.Test.YtfjpdflilmcnhaaDoorMgF
namespace Go.Proofs.YtfjpdflilmcnhaaDoor
open Go.ChangeShapes Go.WideShapes Go.ChangeAt Go.RowKit

def nsA (zs : List Int) (i : Nat) : Int := zs[i]?.getD 0
theorem nsA_get {zs : List Int} {i : Nat} (h : i < zs.length) : nsA zs i = zs[i] := by unfold nsA; simp [h]
/-- The first m are unlike places of columns. -/
def okM (zs : List Int) (c : Int) (m : Nat) : Prop := (∀ i, i < m → 0 ≤ nsA zs i ∧ nsA zs i < c) ∧ ∀ i j, i < j → j < m → nsA zs i ≠ nsA zs j
theorem arB_ok {zs : List Int} {c : Int} (h0 : 0 < zs.length) (h : okM zs c zs.length) : true = arB zs c := by
  symm
  unfold arB
  rw [decide_eq_true_iff]
  refine ⟨fun e => (by rw [e] at h0; cases h0), fun z hz => ?_, ?_⟩
  · obtain ⟨i, hi, rfl⟩ := List.mem_iff_getElem.1 hz
    have := h.1 i hi
    rw [nsA_get hi] at this
    exact this
  · rw [List.nodup_iff_pairwise_ne, List.pairwise_iff_getElem]
    intro i j hi hj hij
    have := h.2 i j hij hj
    rw [nsA_get hi, nsA_get hj] at this
    exact this
theorem arB_no {zs : List Int} {c : Int} (h : ¬ okM zs c zs.length) : false = arB zs c := by
  symm
  unfold arB
  rw [decide_eq_false_iff_not]
  rintro ⟨_, h2, h3⟩
  apply h
  rw [List.nodup_iff_pairwise_ne, List.pairwise_iff_getElem] at h3
  refine ⟨fun i hi => ?_, fun i j hij hj => ?_⟩
  · rw [nsA_get hi]; exact h2 _ (List.getElem_mem hi)
  · rw [nsA_get hj, nsA_get (by omega)]; exact h3 i j (by omega) hj hij
set_option maxRecDepth 20000 in
set_option maxHeartbeats 8000000 in
theorem cols_any (a : Option Addr) (cap : Nat) (c : Int) (zs : List Int) (w : World) (hlen : zs.length ≤ 9223372036854775807) (hz : NsAt w a zs) :
    Calls Tryd.prog 21 #[.slice a zs.length cap, .int .i64 c] w fun e w' => e = .returned (.bool (arB zs c)) ∧ Below w.heap.size w w' := by
  have HZ : Hid (NsAt w a zs) := hz
  clear hz
  generalize hn : zs.length = n at hlen ⊢
  go_enter Tryd.func21, Tryd.ntmps21
  go_wp2
  go_loopw [5, 6] (fun i _ wr => ∃ m : Nat, m ≤ n ∧ i = .int .i64 m ∧ okM zs c m ∧ Bel w.heap.size w wr) (fun i _ _ => n - (intOf i).toNat)
  case atStart => exact ⟨0, Nat.zero_le _, rfl, ⟨fun i hi => by omega, fun i j h1 h2 => by omega⟩, Bel.refl _⟩
  case round =>
    obtain ⟨m, hm, rfl, hO, HB⟩ := hrel
    have HO : Hid (okM zs c m) := hO
    clear hO
    rcases Nat.lt_or_ge m n with hlt | hge
    · obtain ⟨b, off, rfl, hc⟩ : ∃ b off, a = some ⟨b, off, none⟩ ∧ ∀ i, i < zs.length → w.cell? ⟨b, off + i, none⟩ = some (.int .i64 (zs[i]?.getD 0)) := by
        rcases HZ.out with h | h
        · rw [h] at hn; simp at hn; omega
        · exact h
      have hcm := cell_below HB.out (hc m (by omega))
      have HC : Hid (∀ i, i < n → w.cell? ⟨b, off + i, none⟩ = some (.int .i64 (nsA zs i))) := fun i hi => hc i (by omega)
      change wr.cell? _ = some (.int .i64 (nsA zs m)) at hcm
      clear hc
      by_cases t1 : nsA zs m < 0
      · have HN : Hid (false = arB zs c) := arB_no fun h => by have := h.1 m (by omega); omega
        generalize nsA zs m = z at *
        go_wp2
        go_ret
        exact ⟨ret_bool HN.out, HB.out⟩
      · by_cases t2 : nsA zs m ≥ c
        · have HN : Hid (false = arB zs c) := arB_no fun h => by have := h.1 m (by omega); omega
          generalize nsA zs m = z at *
          go_wp2
          go_ret
          exact ⟨ret_bool HN.out, HB.out⟩
        · have HM : Hid (0 ≤ nsA zs m ∧ nsA zs m < c) := ⟨by omega, by omega⟩
          obtain ⟨z, hzz⟩ : ∃ z, nsA zs m = z := ⟨_, rfl⟩
          rw [hzz] at hcm t1 t2
          obtain ⟨w2, rfl⟩ : ∃ w2, w2 = wr := ⟨_, rfl⟩
          go_wp2
          go_loopw [6] (fun k wr => ∃ p : Nat, p ≤ m ∧ k = .int .i64 p ∧ (∀ i, i < p → nsA zs i ≠ nsA zs m) ∧ Bel w.heap.size w wr) (fun k _ => m - (intOf k).toNat)
          case atStart => exact ⟨0, Nat.zero_le _, rfl, fun i hi => by omega, HB⟩
          case round =>
            obtain ⟨p, hp, rfl, hP, HB2⟩ := hrel
            have HP : Hid (∀ i, i < p → nsA zs i ≠ nsA zs m) := hP
            clear hP
            rcases Nat.lt_or_ge p m with hlt2 | hge2
            · have dp := cell_below HB2.out (HC.out p (by omega))
              have dm := cell_below HB2.out (HC.out m hlt)
              rw [hzz] at dm
              obtain ⟨y, hyy⟩ : ∃ y, nsA zs p = y := ⟨_, rfl⟩
              rw [hyy] at dp
              cases he : y == z
              · have HP2 : Hid (∀ i, i < p + 1 → nsA zs i ≠ nsA zs m) := fun i hi => by
                  rcases Nat.lt_or_ge i p with h | h
                  · exact HP.out i h
                  · obtain rfl : i = p := by omega
                    rw [hyy, hzz]; exact beq_eq_false_iff_ne.1 he
                clear hyy
                go_wp2
                go_quiet (fail)
                go_wp2
                go_roundw
                case rel => exact ⟨p + 1, by omega, by go_num, HP2.out, (by repeat (first | exact Bel.refl _ | assumption | refine Bel.drew ?_ | refine Bel.drewN ?_ _ | refine Bel.alloc ?_ _ | refine Bel.setCell ?_ (by simp <;> omega) _ | refine Bel.step ?_ (by assumption)))⟩
                case measure => simp [intOf]; omega
              · have HN : Hid (false = arB zs c) := arB_no fun h => h.2 p m hlt2 (by omega) (by rw [hyy, hzz]; exact eq_of_beq he)
                clear hyy
                go_wp2
                go_quiet (fail)
                go_wp2
                go_ret
                exact ⟨ret_bool HN.out, (Bel.out (by repeat (first | exact Bel.refl _ | assumption | refine Bel.drew ?_ | refine Bel.drewN ?_ _ | refine Bel.alloc ?_ _ | refine Bel.setCell ?_ (by simp <;> omega) _ | refine Bel.step ?_ (by assumption))))⟩
            · obtain rfl : p = m := by omega
              have HO2 : Hid (okM zs c (p + 1)) := by
                refine ⟨fun i hi => ?_, fun i j h1 h2 => ?_⟩
                · rcases Nat.lt_or_ge i p with h | h
                  · exact HO.out.1 i h
                  · obtain rfl : i = p := by omega
                    exact HM.out
                · rcases Nat.lt_or_ge j p with h | h
                  · exact HO.out.2 i j h1 h
                  · obtain rfl : j = p := by omega
                    exact HP.out i h1
              go_wp2
              go_roundw
              case rel => exact ⟨p + 1, by omega, by go_num, HO2.out, HB2⟩
              case measure => simp [intOf]; omega
    · obtain rfl : m = n := by omega
      clear HZ
      rcases Nat.eq_zero_or_pos m with h0 | h0
      · have HN : Hid (false = arB zs c) := by
          show _ = _
          rw [List.length_eq_zero_iff.1 (by omega : zs.length = 0)]; rfl
        subst h0
        go_wp2
        go_ret
        exact ⟨ret_bool HN.out, HB.out⟩
      · have HN : Hid (true = arB zs c) := arB_ok (by omega) (by rw [hn]; exact HO.out)
        go_wp2
        go_ret
        exact ⟨ret_bool ((decide_eq_true (by omega : (1 : Int) ≤ (m : Int))).trans HN.out), HB.out⟩
end Go.Proofs.YtfjpdflilmcnhaaDoor

/- Which views may be, of the document (Check). -/
namespace Go.Proofs.YtfjpdflilmcnhaaDoor
open Go.ChangeShapes Go.WideShapes Go.ChangeAt Go.RowKit

set_option maxHeartbeats 4000000 in
theorem rCheck_1 (n : Int) (a : Option Addr) (cap : Nat) (d : Bool) (c : Int) (zs : List Int) (w : World) (hlen : zs.length ≤ 9223372036854775807) (hz : NsAt w a zs) :
    Calls Tryd.prog 8 #[vwV 1 n a zs.length cap d, .int .i64 c] w fun e w' => e = .returned (.int .i64 (ckE (mayB 1 n zs d c))) ∧ Below w.heap.size w w' := by
  have hcol := fun wx (hb : Below w.heap.size w wx) => cols_any a cap c zs wx hlen (hz.below hb)
  have hm : mayB 1 n zs d c = ((n == 0) && plB zs.length d) := rfl
  generalize zs.length = len at *
  generalize arB zs c = ar at *
  generalize mayB 1 n zs d c = r at *
  have hr := hm
  clear hm hlen hz
  unfold vwV
  clear hcol
  cases h1 : (n == 0)
  · have HE : Hid ((150 : Int) = ckE r) := by
      show _ = _
      rw [hr]; simp [ckE, h1]
    clear hr
    go_enter Tryd.func8, Tryd.ntmps8
    go_wp2
    go_ret
    exact ⟨ret_int HE.out, (Bel.out (by repeat (first | exact Bel.refl _ | assumption | refine Bel.drew ?_ | refine Bel.drewN ?_ _ | refine Bel.alloc ?_ _ | refine Bel.setCell ?_ (by simp <;> omega) _ | refine Bel.step ?_ (by assumption))))⟩
  · cases h2 : ((len : Int) == 0)
    · have HE : Hid ((150 : Int) = ckE r) := by
        show _ = _
        rw [hr]; simp [ckE, h1, plB, h2]
      clear hr
      go_enter Tryd.func8, Tryd.ntmps8
      go_wp2
      go_ret
      exact ⟨ret_int HE.out, (Bel.out (by repeat (first | exact Bel.refl _ | assumption | refine Bel.drew ?_ | refine Bel.drewN ?_ _ | refine Bel.alloc ?_ _ | refine Bel.setCell ?_ (by simp <;> omega) _ | refine Bel.step ?_ (by assumption))))⟩
    · cases d
      · have HE : Hid ((0 : Int) = ckE r) := by
          show _ = _
          rw [hr]; simp [ckE, h1, plB, h2]
        clear hr
        go_enter Tryd.func8, Tryd.ntmps8
        go_wp2
        go_ret
        exact ⟨ret_int HE.out, (Bel.out (by repeat (first | exact Bel.refl _ | assumption | refine Bel.drew ?_ | refine Bel.drewN ?_ _ | refine Bel.alloc ?_ _ | refine Bel.setCell ?_ (by simp <;> omega) _ | refine Bel.step ?_ (by assumption))))⟩
      · have HE : Hid ((150 : Int) = ckE r) := by
          show _ = _
          rw [hr]; simp [ckE, h1, plB, h2]
        clear hr
        go_enter Tryd.func8, Tryd.ntmps8
        go_wp2
        go_ret
        exact ⟨ret_int HE.out, (Bel.out (by repeat (first | exact Bel.refl _ | assumption | refine Bel.drew ?_ | refine Bel.drewN ?_ _ | refine Bel.alloc ?_ _ | refine Bel.setCell ?_ (by simp <;> omega) _ | refine Bel.step ?_ (by assumption))))⟩
set_option maxHeartbeats 4000000 in
theorem rCheck_8 (n : Int) (a : Option Addr) (cap : Nat) (d : Bool) (c : Int) (zs : List Int) (w : World) (hlen : zs.length ≤ 9223372036854775807) (hz : NsAt w a zs) :
    Calls Tryd.prog 8 #[vwV 8 n a zs.length cap d, .int .i64 c] w fun e w' => e = .returned (.int .i64 (ckE (mayB 8 n zs d c))) ∧ Below w.heap.size w w' := by
  have hcol := fun wx (hb : Below w.heap.size w wx) => cols_any a cap c zs wx hlen (hz.below hb)
  have hm : mayB 8 n zs d c = ((n == 0) && plB zs.length d) := rfl
  generalize zs.length = len at *
  generalize arB zs c = ar at *
  generalize mayB 8 n zs d c = r at *
  have hr := hm
  clear hm hlen hz
  unfold vwV
  clear hcol
  cases h1 : (n == 0)
  · have HE : Hid ((150 : Int) = ckE r) := by
      show _ = _
      rw [hr]; simp [ckE, h1]
    clear hr
    go_enter Tryd.func8, Tryd.ntmps8
    go_wp2
    go_ret
    exact ⟨ret_int HE.out, (Bel.out (by repeat (first | exact Bel.refl _ | assumption | refine Bel.drew ?_ | refine Bel.drewN ?_ _ | refine Bel.alloc ?_ _ | refine Bel.setCell ?_ (by simp <;> omega) _ | refine Bel.step ?_ (by assumption))))⟩
  · cases h2 : ((len : Int) == 0)
    · have HE : Hid ((150 : Int) = ckE r) := by
        show _ = _
        rw [hr]; simp [ckE, h1, plB, h2]
      clear hr
      go_enter Tryd.func8, Tryd.ntmps8
      go_wp2
      go_ret
      exact ⟨ret_int HE.out, (Bel.out (by repeat (first | exact Bel.refl _ | assumption | refine Bel.drew ?_ | refine Bel.drewN ?_ _ | refine Bel.alloc ?_ _ | refine Bel.setCell ?_ (by simp <;> omega) _ | refine Bel.step ?_ (by assumption))))⟩
    · cases d
      · have HE : Hid ((0 : Int) = ckE r) := by
          show _ = _
          rw [hr]; simp [ckE, h1, plB, h2]
        clear hr
        go_enter Tryd.func8, Tryd.ntmps8
        go_wp2
        go_ret
        exact ⟨ret_int HE.out, (Bel.out (by repeat (first | exact Bel.refl _ | assumption | refine Bel.drew ?_ | refine Bel.drewN ?_ _ | refine Bel.alloc ?_ _ | refine Bel.setCell ?_ (by simp <;> omega) _ | refine Bel.step ?_ (by assumption))))⟩
      · have HE : Hid ((150 : Int) = ckE r) := by
          show _ = _
          rw [hr]; simp [ckE, h1, plB, h2]
        clear hr
        go_enter Tryd.func8, Tryd.ntmps8
        go_wp2
        go_ret
        exact ⟨ret_int HE.out, (Bel.out (by repeat (first | exact Bel.refl _ | assumption | refine Bel.drew ?_ | refine Bel.drewN ?_ _ | refine Bel.alloc ?_ _ | refine Bel.setCell ?_ (by simp <;> omega) _ | refine Bel.step ?_ (by assumption))))⟩
set_option maxHeartbeats 4000000 in
theorem rCheck_9 (n : Int) (a : Option Addr) (cap : Nat) (d : Bool) (c : Int) (zs : List Int) (w : World) (hlen : zs.length ≤ 9223372036854775807) (hz : NsAt w a zs) :
    Calls Tryd.prog 8 #[vwV 9 n a zs.length cap d, .int .i64 c] w fun e w' => e = .returned (.int .i64 (ckE (mayB 9 n zs d c))) ∧ Below w.heap.size w w' := by
  have hcol := fun wx (hb : Below w.heap.size w wx) => cols_any a cap c zs wx hlen (hz.below hb)
  have hm : mayB 9 n zs d c = ((n == 0) && plB zs.length d) := rfl
  generalize zs.length = len at *
  generalize arB zs c = ar at *
  generalize mayB 9 n zs d c = r at *
  have hr := hm
  clear hm hlen hz
  unfold vwV
  clear hcol
  cases h1 : (n == 0)
  · have HE : Hid ((150 : Int) = ckE r) := by
      show _ = _
      rw [hr]; simp [ckE, h1]
    clear hr
    go_enter Tryd.func8, Tryd.ntmps8
    go_wp2
    go_ret
    exact ⟨ret_int HE.out, (Bel.out (by repeat (first | exact Bel.refl _ | assumption | refine Bel.drew ?_ | refine Bel.drewN ?_ _ | refine Bel.alloc ?_ _ | refine Bel.setCell ?_ (by simp <;> omega) _ | refine Bel.step ?_ (by assumption))))⟩
  · cases h2 : ((len : Int) == 0)
    · have HE : Hid ((150 : Int) = ckE r) := by
        show _ = _
        rw [hr]; simp [ckE, h1, plB, h2]
      clear hr
      go_enter Tryd.func8, Tryd.ntmps8
      go_wp2
      go_ret
      exact ⟨ret_int HE.out, (Bel.out (by repeat (first | exact Bel.refl _ | assumption | refine Bel.drew ?_ | refine Bel.drewN ?_ _ | refine Bel.alloc ?_ _ | refine Bel.setCell ?_ (by simp <;> omega) _ | refine Bel.step ?_ (by assumption))))⟩
    · cases d
      · have HE : Hid ((0 : Int) = ckE r) := by
          show _ = _
          rw [hr]; simp [ckE, h1, plB, h2]
        clear hr
        go_enter Tryd.func8, Tryd.ntmps8
        go_wp2
        go_ret
        exact ⟨ret_int HE.out, (Bel.out (by repeat (first | exact Bel.refl _ | assumption | refine Bel.drew ?_ | refine Bel.drewN ?_ _ | refine Bel.alloc ?_ _ | refine Bel.setCell ?_ (by simp <;> omega) _ | refine Bel.step ?_ (by assumption))))⟩
      · have HE : Hid ((150 : Int) = ckE r) := by
          show _ = _
          rw [hr]; simp [ckE, h1, plB, h2]
        clear hr
        go_enter Tryd.func8, Tryd.ntmps8
        go_wp2
        go_ret
        exact ⟨ret_int HE.out, (Bel.out (by repeat (first | exact Bel.refl _ | assumption | refine Bel.drew ?_ | refine Bel.drewN ?_ _ | refine Bel.alloc ?_ _ | refine Bel.setCell ?_ (by simp <;> omega) _ | refine Bel.step ?_ (by assumption))))⟩
set_option maxHeartbeats 4000000 in
theorem rCheck_2 (n : Int) (a : Option Addr) (cap : Nat) (d : Bool) (c : Int) (zs : List Int) (w : World) (hlen : zs.length ≤ 9223372036854775807) (hz : NsAt w a zs) :
    Calls Tryd.prog 8 #[vwV 2 n a zs.length cap d, .int .i64 c] w fun e w' => e = .returned (.int .i64 (ckE (mayB 2 n zs d c))) ∧ Below w.heap.size w w' := by
  have hcol := fun wx (hb : Below w.heap.size w wx) => cols_any a cap c zs wx hlen (hz.below hb)
  have hm : mayB 2 n zs d c = (utB n 65536 && plB zs.length d) := rfl
  generalize zs.length = len at *
  generalize arB zs c = ar at *
  generalize mayB 2 n zs d c = r at *
  have hr := hm
  clear hm hlen hz
  unfold vwV
  clear hcol
  by_cases h1 : 1 ≤ n
  · by_cases h3 : n ≤ 65536
    · cases h2 : ((len : Int) == 0)
      · have HE : Hid ((150 : Int) = ckE r) := by
          show _ = _
          rw [hr]; simp [ckE, utB, h1, h3, plB, h2]
        clear hr
        go_enter Tryd.func8, Tryd.ntmps8
        go_wp2
        go_ret
        exact ⟨ret_int HE.out, (Bel.out (by repeat (first | exact Bel.refl _ | assumption | refine Bel.drew ?_ | refine Bel.drewN ?_ _ | refine Bel.alloc ?_ _ | refine Bel.setCell ?_ (by simp <;> omega) _ | refine Bel.step ?_ (by assumption))))⟩
      · cases d
        · have HE : Hid ((0 : Int) = ckE r) := by
            show _ = _
            rw [hr]; simp [ckE, utB, h1, h3, plB, h2]
          clear hr
          go_enter Tryd.func8, Tryd.ntmps8
          go_wp2
          go_ret
          exact ⟨ret_int HE.out, (Bel.out (by repeat (first | exact Bel.refl _ | assumption | refine Bel.drew ?_ | refine Bel.drewN ?_ _ | refine Bel.alloc ?_ _ | refine Bel.setCell ?_ (by simp <;> omega) _ | refine Bel.step ?_ (by assumption))))⟩
        · have HE : Hid ((150 : Int) = ckE r) := by
            show _ = _
            rw [hr]; simp [ckE, utB, h1, h3, plB, h2]
          clear hr
          go_enter Tryd.func8, Tryd.ntmps8
          go_wp2
          go_ret
          exact ⟨ret_int HE.out, (Bel.out (by repeat (first | exact Bel.refl _ | assumption | refine Bel.drew ?_ | refine Bel.drewN ?_ _ | refine Bel.alloc ?_ _ | refine Bel.setCell ?_ (by simp <;> omega) _ | refine Bel.step ?_ (by assumption))))⟩
    · have HE : Hid ((150 : Int) = ckE r) := by
        show _ = _
        rw [hr]; simp [ckE, utB, h1, h3]
      clear hr
      go_enter Tryd.func8, Tryd.ntmps8
      go_wp2
      go_ret
      exact ⟨ret_int HE.out, (Bel.out (by repeat (first | exact Bel.refl _ | assumption | refine Bel.drew ?_ | refine Bel.drewN ?_ _ | refine Bel.alloc ?_ _ | refine Bel.setCell ?_ (by simp <;> omega) _ | refine Bel.step ?_ (by assumption))))⟩
  · have HE : Hid ((150 : Int) = ckE r) := by
      show _ = _
      rw [hr]; simp [ckE, utB, h1]
    clear hr
    go_enter Tryd.func8, Tryd.ntmps8
    go_wp2
    go_ret
    exact ⟨ret_int HE.out, (Bel.out (by repeat (first | exact Bel.refl _ | assumption | refine Bel.drew ?_ | refine Bel.drewN ?_ _ | refine Bel.alloc ?_ _ | refine Bel.setCell ?_ (by simp <;> omega) _ | refine Bel.step ?_ (by assumption))))⟩
set_option maxHeartbeats 4000000 in
theorem rCheck_4 (n : Int) (a : Option Addr) (cap : Nat) (d : Bool) (c : Int) (zs : List Int) (w : World) (hlen : zs.length ≤ 9223372036854775807) (hz : NsAt w a zs) :
    Calls Tryd.prog 8 #[vwV 4 n a zs.length cap d, .int .i64 c] w fun e w' => e = .returned (.int .i64 (ckE (mayB 4 n zs d c))) ∧ Below w.heap.size w w' := by
  have hcol := fun wx (hb : Below w.heap.size w wx) => cols_any a cap c zs wx hlen (hz.below hb)
  have hm : mayB 4 n zs d c = (utB n 65536 && plB zs.length d) := rfl
  generalize zs.length = len at *
  generalize arB zs c = ar at *
  generalize mayB 4 n zs d c = r at *
  have hr := hm
  clear hm hlen hz
  unfold vwV
  clear hcol
  by_cases h1 : 1 ≤ n
  · by_cases h3 : n ≤ 65536
    · cases h2 : ((len : Int) == 0)
      · have HE : Hid ((150 : Int) = ckE r) := by
          show _ = _
          rw [hr]; simp [ckE, utB, h1, h3, plB, h2]
        clear hr
        go_enter Tryd.func8, Tryd.ntmps8
        go_wp2
        go_ret
        exact ⟨ret_int HE.out, (Bel.out (by repeat (first | exact Bel.refl _ | assumption | refine Bel.drew ?_ | refine Bel.drewN ?_ _ | refine Bel.alloc ?_ _ | refine Bel.setCell ?_ (by simp <;> omega) _ | refine Bel.step ?_ (by assumption))))⟩
      · cases d
        · have HE : Hid ((0 : Int) = ckE r) := by
            show _ = _
            rw [hr]; simp [ckE, utB, h1, h3, plB, h2]
          clear hr
          go_enter Tryd.func8, Tryd.ntmps8
          go_wp2
          go_ret
          exact ⟨ret_int HE.out, (Bel.out (by repeat (first | exact Bel.refl _ | assumption | refine Bel.drew ?_ | refine Bel.drewN ?_ _ | refine Bel.alloc ?_ _ | refine Bel.setCell ?_ (by simp <;> omega) _ | refine Bel.step ?_ (by assumption))))⟩
        · have HE : Hid ((150 : Int) = ckE r) := by
            show _ = _
            rw [hr]; simp [ckE, utB, h1, h3, plB, h2]
          clear hr
          go_enter Tryd.func8, Tryd.ntmps8
          go_wp2
          go_ret
          exact ⟨ret_int HE.out, (Bel.out (by repeat (first | exact Bel.refl _ | assumption | refine Bel.drew ?_ | refine Bel.drewN ?_ _ | refine Bel.alloc ?_ _ | refine Bel.setCell ?_ (by simp <;> omega) _ | refine Bel.step ?_ (by assumption))))⟩
    · have HE : Hid ((150 : Int) = ckE r) := by
        show _ = _
        rw [hr]; simp [ckE, utB, h1, h3]
      clear hr
      go_enter Tryd.func8, Tryd.ntmps8
      go_wp2
      go_ret
      exact ⟨ret_int HE.out, (Bel.out (by repeat (first | exact Bel.refl _ | assumption | refine Bel.drew ?_ | refine Bel.drewN ?_ _ | refine Bel.alloc ?_ _ | refine Bel.setCell ?_ (by simp <;> omega) _ | refine Bel.step ?_ (by assumption))))⟩
  · have HE : Hid ((150 : Int) = ckE r) := by
      show _ = _
      rw [hr]; simp [ckE, utB, h1]
    clear hr
    go_enter Tryd.func8, Tryd.ntmps8
    go_wp2
    go_ret
    exact ⟨ret_int HE.out, (Bel.out (by repeat (first | exact Bel.refl _ | assumption | refine Bel.drew ?_ | refine Bel.drewN ?_ _ | refine Bel.alloc ?_ _ | refine Bel.setCell ?_ (by simp <;> omega) _ | refine Bel.step ?_ (by assumption))))⟩
set_option maxHeartbeats 4000000 in
theorem rCheck_3 (n : Int) (a : Option Addr) (cap : Nat) (d : Bool) (c : Int) (zs : List Int) (w : World) (hlen : zs.length ≤ 9223372036854775807) (hz : NsAt w a zs) :
    Calls Tryd.prog 8 #[vwV 3 n a zs.length cap d, .int .i64 c] w fun e w' => e = .returned (.int .i64 (ckE (mayB 3 n zs d c))) ∧ Below w.heap.size w w' := by
  have hcol := fun wx (hb : Below w.heap.size w wx) => cols_any a cap c zs wx hlen (hz.below hb)
  have hm : mayB 3 n zs d c = (utB n 1099511627776 && plB zs.length d) := rfl
  generalize zs.length = len at *
  generalize arB zs c = ar at *
  generalize mayB 3 n zs d c = r at *
  have hr := hm
  clear hm hlen hz
  unfold vwV
  clear hcol
  by_cases h1 : 1 ≤ n
  · by_cases h3 : n ≤ 1099511627776
    · cases h2 : ((len : Int) == 0)
      · have HE : Hid ((150 : Int) = ckE r) := by
          show _ = _
          rw [hr]; simp [ckE, utB, h1, h3, plB, h2]
        clear hr
        go_enter Tryd.func8, Tryd.ntmps8
        go_wp2
        go_ret
        exact ⟨ret_int HE.out, (Bel.out (by repeat (first | exact Bel.refl _ | assumption | refine Bel.drew ?_ | refine Bel.drewN ?_ _ | refine Bel.alloc ?_ _ | refine Bel.setCell ?_ (by simp <;> omega) _ | refine Bel.step ?_ (by assumption))))⟩
      · cases d
        · have HE : Hid ((0 : Int) = ckE r) := by
            show _ = _
            rw [hr]; simp [ckE, utB, h1, h3, plB, h2]
          clear hr
          go_enter Tryd.func8, Tryd.ntmps8
          go_wp2
          go_ret
          exact ⟨ret_int HE.out, (Bel.out (by repeat (first | exact Bel.refl _ | assumption | refine Bel.drew ?_ | refine Bel.drewN ?_ _ | refine Bel.alloc ?_ _ | refine Bel.setCell ?_ (by simp <;> omega) _ | refine Bel.step ?_ (by assumption))))⟩
        · have HE : Hid ((150 : Int) = ckE r) := by
            show _ = _
            rw [hr]; simp [ckE, utB, h1, h3, plB, h2]
          clear hr
          go_enter Tryd.func8, Tryd.ntmps8
          go_wp2
          go_ret
          exact ⟨ret_int HE.out, (Bel.out (by repeat (first | exact Bel.refl _ | assumption | refine Bel.drew ?_ | refine Bel.drewN ?_ _ | refine Bel.alloc ?_ _ | refine Bel.setCell ?_ (by simp <;> omega) _ | refine Bel.step ?_ (by assumption))))⟩
    · have HE : Hid ((150 : Int) = ckE r) := by
        show _ = _
        rw [hr]; simp [ckE, utB, h1, h3]
      clear hr
      go_enter Tryd.func8, Tryd.ntmps8
      go_wp2
      go_ret
      exact ⟨ret_int HE.out, (Bel.out (by repeat (first | exact Bel.refl _ | assumption | refine Bel.drew ?_ | refine Bel.drewN ?_ _ | refine Bel.alloc ?_ _ | refine Bel.setCell ?_ (by simp <;> omega) _ | refine Bel.step ?_ (by assumption))))⟩
  · have HE : Hid ((150 : Int) = ckE r) := by
      show _ = _
      rw [hr]; simp [ckE, utB, h1]
    clear hr
    go_enter Tryd.func8, Tryd.ntmps8
    go_wp2
    go_ret
    exact ⟨ret_int HE.out, (Bel.out (by repeat (first | exact Bel.refl _ | assumption | refine Bel.drew ?_ | refine Bel.drewN ?_ _ | refine Bel.alloc ?_ _ | refine Bel.setCell ?_ (by simp <;> omega) _ | refine Bel.step ?_ (by assumption))))⟩
set_option maxHeartbeats 4000000 in
theorem rCheck_5 (n : Int) (a : Option Addr) (cap : Nat) (d : Bool) (c : Int) (zs : List Int) (w : World) (hlen : zs.length ≤ 9223372036854775807) (hz : NsAt w a zs) :
    Calls Tryd.prog 8 #[vwV 5 n a zs.length cap d, .int .i64 c] w fun e w' => e = .returned (.int .i64 (ckE (mayB 5 n zs d c))) ∧ Below w.heap.size w w' := by
  have hcol := fun wx (hb : Below w.heap.size w wx) => cols_any a cap c zs wx hlen (hz.below hb)
  have hm : mayB 5 n zs d c = (utB n 1099511627776 && plB zs.length d) := rfl
  generalize zs.length = len at *
  generalize arB zs c = ar at *
  generalize mayB 5 n zs d c = r at *
  have hr := hm
  clear hm hlen hz
  unfold vwV
  clear hcol
  by_cases h1 : 1 ≤ n
  · by_cases h3 : n ≤ 1099511627776
    · cases h2 : ((len : Int) == 0)
      · have HE : Hid ((150 : Int) = ckE r) := by
          show _ = _
          rw [hr]; simp [ckE, utB, h1, h3, plB, h2]
        clear hr
        go_enter Tryd.func8, Tryd.ntmps8
        go_wp2
        go_ret
        exact ⟨ret_int HE.out, (Bel.out (by repeat (first | exact Bel.refl _ | assumption | refine Bel.drew ?_ | refine Bel.drewN ?_ _ | refine Bel.alloc ?_ _ | refine Bel.setCell ?_ (by simp <;> omega) _ | refine Bel.step ?_ (by assumption))))⟩
      · cases d
        · have HE : Hid ((0 : Int) = ckE r) := by
            show _ = _
            rw [hr]; simp [ckE, utB, h1, h3, plB, h2]
          clear hr
          go_enter Tryd.func8, Tryd.ntmps8
          go_wp2
          go_ret
          exact ⟨ret_int HE.out, (Bel.out (by repeat (first | exact Bel.refl _ | assumption | refine Bel.drew ?_ | refine Bel.drewN ?_ _ | refine Bel.alloc ?_ _ | refine Bel.setCell ?_ (by simp <;> omega) _ | refine Bel.step ?_ (by assumption))))⟩
        · have HE : Hid ((150 : Int) = ckE r) := by
            show _ = _
            rw [hr]; simp [ckE, utB, h1, h3, plB, h2]
          clear hr
          go_enter Tryd.func8, Tryd.ntmps8
          go_wp2
          go_ret
          exact ⟨ret_int HE.out, (Bel.out (by repeat (first | exact Bel.refl _ | assumption | refine Bel.drew ?_ | refine Bel.drewN ?_ _ | refine Bel.alloc ?_ _ | refine Bel.setCell ?_ (by simp <;> omega) _ | refine Bel.step ?_ (by assumption))))⟩
    · have HE : Hid ((150 : Int) = ckE r) := by
        show _ = _
        rw [hr]; simp [ckE, utB, h1, h3]
      clear hr
      go_enter Tryd.func8, Tryd.ntmps8
      go_wp2
      go_ret
      exact ⟨ret_int HE.out, (Bel.out (by repeat (first | exact Bel.refl _ | assumption | refine Bel.drew ?_ | refine Bel.drewN ?_ _ | refine Bel.alloc ?_ _ | refine Bel.setCell ?_ (by simp <;> omega) _ | refine Bel.step ?_ (by assumption))))⟩
  · have HE : Hid ((150 : Int) = ckE r) := by
      show _ = _
      rw [hr]; simp [ckE, utB, h1]
    clear hr
    go_enter Tryd.func8, Tryd.ntmps8
    go_wp2
    go_ret
    exact ⟨ret_int HE.out, (Bel.out (by repeat (first | exact Bel.refl _ | assumption | refine Bel.drew ?_ | refine Bel.drewN ?_ _ | refine Bel.alloc ?_ _ | refine Bel.setCell ?_ (by simp <;> omega) _ | refine Bel.step ?_ (by assumption))))⟩
set_option maxHeartbeats 4000000 in
theorem rCheck_6 (n : Int) (a : Option Addr) (cap : Nat) (d : Bool) (c : Int) (zs : List Int) (w : World) (hlen : zs.length ≤ 9223372036854775807) (hz : NsAt w a zs) :
    Calls Tryd.prog 8 #[vwV 6 n a zs.length cap d, .int .i64 c] w fun e w' => e = .returned (.int .i64 (ckE (mayB 6 n zs d c))) ∧ Below w.heap.size w w' := by
  have hcol := fun wx (hb : Below w.heap.size w wx) => cols_any a cap c zs wx hlen (hz.below hb)
  have hm : mayB 6 n zs d c = (((n == 0) && !d) && arB zs c) := rfl
  generalize zs.length = len at *
  generalize arB zs c = ar at *
  generalize mayB 6 n zs d c = r at *
  have hr := hm
  clear hm hlen hz
  unfold vwV
  cases h1 : (n == 0)
  · clear hcol
    have HE : Hid ((150 : Int) = ckE r) := by
      show _ = _
      rw [hr]; simp [ckE, h1]
    clear hr
    go_enter Tryd.func8, Tryd.ntmps8
    go_wp2
    go_ret
    exact ⟨ret_int HE.out, (Bel.out (by repeat (first | exact Bel.refl _ | assumption | refine Bel.drew ?_ | refine Bel.drewN ?_ _ | refine Bel.alloc ?_ _ | refine Bel.setCell ?_ (by simp <;> omega) _ | refine Bel.step ?_ (by assumption))))⟩
  · cases ar
    · have HE : Hid ((150 : Int) = ckE r) := by
        show _ = _
        rw [hr]; simp [ckE, h1]
      clear hr
      go_enter Tryd.func8, Tryd.ntmps8
      go_wp2_with fail
      refine (hcol _ (Bel.out (by repeat (first | exact Bel.refl _ | assumption | refine Bel.drew ?_ | refine Bel.drewN ?_ _ | refine Bel.alloc ?_ _ | refine Bel.setCell ?_ (by simp <;> omega) _ | refine Bel.step ?_ (by assumption))))).mono ?_
      rintro e w1 ⟨rfl, hb1⟩
      have y3 : w1.cell? ⟨w.heap.size, 3, none⟩ = some (.bool d) := cell_below hb1 (by go_simp)
      clear hcol
      go_wp2
      go_ret
      exact ⟨ret_int HE.out, (Bel.out (by repeat (first | exact Bel.refl _ | assumption | refine Bel.drew ?_ | refine Bel.drewN ?_ _ | refine Bel.alloc ?_ _ | refine Bel.setCell ?_ (by simp <;> omega) _ | refine Bel.step ?_ (by assumption))))⟩
    · cases d
      · have HE : Hid ((0 : Int) = ckE r) := by
          show _ = _
          rw [hr]; simp [ckE, h1]
        clear hr
        go_enter Tryd.func8, Tryd.ntmps8
        go_wp2_with fail
        refine (hcol _ (Bel.out (by repeat (first | exact Bel.refl _ | assumption | refine Bel.drew ?_ | refine Bel.drewN ?_ _ | refine Bel.alloc ?_ _ | refine Bel.setCell ?_ (by simp <;> omega) _ | refine Bel.step ?_ (by assumption))))).mono ?_
        rintro e w1 ⟨rfl, hb1⟩
        have y3 : w1.cell? ⟨w.heap.size, 3, none⟩ = some (.bool false) := cell_below hb1 (by go_simp)
        clear hcol
        go_wp2
        go_ret
        exact ⟨ret_int HE.out, (Bel.out (by repeat (first | exact Bel.refl _ | assumption | refine Bel.drew ?_ | refine Bel.drewN ?_ _ | refine Bel.alloc ?_ _ | refine Bel.setCell ?_ (by simp <;> omega) _ | refine Bel.step ?_ (by assumption))))⟩
      · have HE : Hid ((150 : Int) = ckE r) := by
          show _ = _
          rw [hr]; simp [ckE, h1]
        clear hr
        go_enter Tryd.func8, Tryd.ntmps8
        go_wp2_with fail
        refine (hcol _ (Bel.out (by repeat (first | exact Bel.refl _ | assumption | refine Bel.drew ?_ | refine Bel.drewN ?_ _ | refine Bel.alloc ?_ _ | refine Bel.setCell ?_ (by simp <;> omega) _ | refine Bel.step ?_ (by assumption))))).mono ?_
        rintro e w1 ⟨rfl, hb1⟩
        have y3 : w1.cell? ⟨w.heap.size, 3, none⟩ = some (.bool true) := cell_below hb1 (by go_simp)
        clear hcol
        go_wp2
        go_ret
        exact ⟨ret_int HE.out, (Bel.out (by repeat (first | exact Bel.refl _ | assumption | refine Bel.drew ?_ | refine Bel.drewN ?_ _ | refine Bel.alloc ?_ _ | refine Bel.setCell ?_ (by simp <;> omega) _ | refine Bel.step ?_ (by assumption))))⟩
set_option maxHeartbeats 4000000 in
theorem rCheck_7 (n : Int) (a : Option Addr) (cap : Nat) (d : Bool) (c : Int) (zs : List Int) (w : World) (hlen : zs.length ≤ 9223372036854775807) (hz : NsAt w a zs) :
    Calls Tryd.prog 8 #[vwV 7 n a zs.length cap d, .int .i64 c] w fun e w' => e = .returned (.int .i64 (ckE (mayB 7 n zs d c))) ∧ Below w.heap.size w w' := by
  have hcol := fun wx (hb : Below w.heap.size w wx) => cols_any a cap c zs wx hlen (hz.below hb)
  have hm : mayB 7 n zs d c = ((utB n 65536 && ((zs.length : Int) == 1)) && arB zs c) := rfl
  generalize zs.length = len at *
  generalize arB zs c = ar at *
  generalize mayB 7 n zs d c = r at *
  have hr := hm
  clear hm hlen hz
  unfold vwV
  by_cases h1 : 1 ≤ n
  · by_cases h3 : n ≤ 65536
    · cases h2 : ((len : Int) == 1)
      · clear hcol
        have HE : Hid ((150 : Int) = ckE r) := by
          show _ = _
          rw [hr]; simp [ckE, utB, h1, h3, h2]
        clear hr
        go_enter Tryd.func8, Tryd.ntmps8
        go_wp2
        go_ret
        exact ⟨ret_int HE.out, (Bel.out (by repeat (first | exact Bel.refl _ | assumption | refine Bel.drew ?_ | refine Bel.drewN ?_ _ | refine Bel.alloc ?_ _ | refine Bel.setCell ?_ (by simp <;> omega) _ | refine Bel.step ?_ (by assumption))))⟩
      · cases ar
        · have HE : Hid ((150 : Int) = ckE r) := by
            show _ = _
            rw [hr]; simp [ckE, utB, h1, h3, h2]
          clear hr
          go_enter Tryd.func8, Tryd.ntmps8
          go_wp2_with fail
          refine (hcol _ (Bel.out (by repeat (first | exact Bel.refl _ | assumption | refine Bel.drew ?_ | refine Bel.drewN ?_ _ | refine Bel.alloc ?_ _ | refine Bel.setCell ?_ (by simp <;> omega) _ | refine Bel.step ?_ (by assumption))))).mono ?_
          rintro e w1 ⟨rfl, hb1⟩
          have y3 : w1.cell? ⟨w.heap.size, 3, none⟩ = some (.bool d) := cell_below hb1 (by go_simp)
          clear hcol
          go_wp2
          go_ret
          exact ⟨ret_int HE.out, (Bel.out (by repeat (first | exact Bel.refl _ | assumption | refine Bel.drew ?_ | refine Bel.drewN ?_ _ | refine Bel.alloc ?_ _ | refine Bel.setCell ?_ (by simp <;> omega) _ | refine Bel.step ?_ (by assumption))))⟩
        · have HE : Hid ((0 : Int) = ckE r) := by
            show _ = _
            rw [hr]; simp [ckE, utB, h1, h3, h2]
          clear hr
          go_enter Tryd.func8, Tryd.ntmps8
          go_wp2_with fail
          refine (hcol _ (Bel.out (by repeat (first | exact Bel.refl _ | assumption | refine Bel.drew ?_ | refine Bel.drewN ?_ _ | refine Bel.alloc ?_ _ | refine Bel.setCell ?_ (by simp <;> omega) _ | refine Bel.step ?_ (by assumption))))).mono ?_
          rintro e w1 ⟨rfl, hb1⟩
          have y3 : w1.cell? ⟨w.heap.size, 3, none⟩ = some (.bool d) := cell_below hb1 (by go_simp)
          clear hcol
          go_wp2
          go_ret
          exact ⟨ret_int HE.out, (Bel.out (by repeat (first | exact Bel.refl _ | assumption | refine Bel.drew ?_ | refine Bel.drewN ?_ _ | refine Bel.alloc ?_ _ | refine Bel.setCell ?_ (by simp <;> omega) _ | refine Bel.step ?_ (by assumption))))⟩
    · clear hcol
      have HE : Hid ((150 : Int) = ckE r) := by
        show _ = _
        rw [hr]; simp [ckE, utB, h1, h3]
      clear hr
      go_enter Tryd.func8, Tryd.ntmps8
      go_wp2
      go_ret
      exact ⟨ret_int HE.out, (Bel.out (by repeat (first | exact Bel.refl _ | assumption | refine Bel.drew ?_ | refine Bel.drewN ?_ _ | refine Bel.alloc ?_ _ | refine Bel.setCell ?_ (by simp <;> omega) _ | refine Bel.step ?_ (by assumption))))⟩
  · clear hcol
    have HE : Hid ((150 : Int) = ckE r) := by
      show _ = _
      rw [hr]; simp [ckE, utB, h1]
    clear hr
    go_enter Tryd.func8, Tryd.ntmps8
    go_wp2
    go_ret
    exact ⟨ret_int HE.out, (Bel.out (by repeat (first | exact Bel.refl _ | assumption | refine Bel.drew ?_ | refine Bel.drewN ?_ _ | refine Bel.alloc ?_ _ | refine Bel.setCell ?_ (by simp <;> omega) _ | refine Bel.step ?_ (by assumption))))⟩
set_option maxHeartbeats 4000000 in
theorem rCheck_no (k n : Int) (a : Option Addr) (len cap : Nat) (d : Bool) (c : Int) (w : World) (h1 : (k == 1) = false) (h2 : (k == 2) = false) (h3 : (k == 3) = false) (h4 : (k == 4) = false) (h5 : (k == 5) = false) (h6 : (k == 6) = false) (h7 : (k == 7) = false) (h8 : (k == 8) = false) (h9 : (k == 9) = false) :
    Calls Tryd.prog 8 #[vwV k n a len cap d, .int .i64 c] w fun e w' => e = .returned (.int .i64 150) ∧ Below w.heap.size w w' := by
  unfold vwV
  go_enter Tryd.func8, Tryd.ntmps8
  go_wp2
  go_ret
  exact ⟨rfl, (Bel.out (by repeat (first | exact Bel.refl _ | assumption | refine Bel.drew ?_ | refine Bel.drewN ?_ _ | refine Bel.alloc ?_ _ | refine Bel.setCell ?_ (by simp <;> omega) _ | refine Bel.step ?_ (by assumption))))⟩
theorem mayB_no {k n : Int} {zs : List Int} {d : Bool} {c : Int} (h : k < 1 ∨ 9 < k) : mayB k n zs d c = false := by
  have e : clsI k = 0 := by
    unfold clsI
    split
    · omega
    · rfl
  unfold mayB
  rw [e]; rfl
/-- The document's Check says what the code's says. -/
theorem rCheck_any (k n : Int) (a : Option Addr) (cap : Nat) (d : Bool) (c : Int) (zs : List Int) (w : World) (hlen : zs.length ≤ 9223372036854775807) (hz : NsAt w a zs) :
    Calls Tryd.prog 8 #[vwV k n a zs.length cap d, .int .i64 c] w fun e w' => e = .returned (.int .i64 (ckE (mayB k n zs d c))) ∧ Below w.heap.size w w' := by
  by_cases h : k < 1 ∨ 9 < k
  · rw [mayB_no h]
    have f : ∀ j : Int, 1 ≤ j → j ≤ 9 → (k == j) = false := fun j h1 h2 => beq_eq_false_iff_ne.2 (by omega)
    exact rCheck_no k n a zs.length cap d c w (f 1 (by omega) (by omega)) (f 2 (by omega) (by omega)) (f 3 (by omega) (by omega)) (f 4 (by omega) (by omega)) (f 5 (by omega) (by omega)) (f 6 (by omega) (by omega)) (f 7 (by omega) (by omega)) (f 8 (by omega) (by omega)) (f 9 (by omega) (by omega))
  · have hk : k = 1 ∨ k = 2 ∨ k = 3 ∨ k = 4 ∨ k = 5 ∨ k = 6 ∨ k = 7 ∨ k = 8 ∨ k = 9 := by omega
    rcases hk with rfl | rfl | rfl | rfl | rfl | rfl | rfl | rfl | rfl
    · exact rCheck_1 n a cap d c zs w hlen hz
    · exact rCheck_2 n a cap d c zs w hlen hz
    · exact rCheck_3 n a cap d c zs w hlen hz
    · exact rCheck_4 n a cap d c zs w hlen hz
    · exact rCheck_5 n a cap d c zs w hlen hz
    · exact rCheck_6 n a cap d c zs w hlen hz
    · exact rCheck_7 n a cap d c zs w hlen hz
    · exact rCheck_8 n a cap d c zs w hlen hz
    · exact rCheck_9 n a cap d c zs w hlen hz
end Go.Proofs.YtfjpdflilmcnhaaDoor
