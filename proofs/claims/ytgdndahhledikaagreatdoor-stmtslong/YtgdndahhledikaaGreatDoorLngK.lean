/- Lng. -/
import Derived.Test.YtgdndahhledikaaGreatDoorK45
import Derived.Laws.OwnMore
import Derived.OwnWalk
namespace Go.Proofs.YtgdndahhledikaaGreatDoor
open Go.ChangeShapes Go.WideShapes Go.ChangeAt Go.RowKit
set_option linter.unusedSimpArgs false
set_option maxRecDepth 20000
set_option maxHeartbeats 4000000
def blk (m n : Nat) : List UInt8 := List.replicate m 32 ++ List.replicate (n - m) 0
theorem blk_set {m n : Nat} (h : m < n) : (byC (blk m n)).set m (.int .u8 32) = byC (blk (m + 1) n) := by
 have e : n - m = (n - (m + 1)) + 1 := by omega
 have e2 : List.replicate (m + 1) (32 : UInt8) = List.replicate m 32 ++ [32] := List.replicate_succ'
 unfold blk byC
 rw [e, e2, List.replicate_succ, List.map_append, List.map_append, List.map_cons, List.set_append_right _ _ (by simp), List.map_append]
 simp
theorem blk_all (n : Nat) : blk n n = List.replicate n 32 := by simp [blk]
theorem blk_none (n : Nat) : List.replicate n (.int .u8 0 : Value) = byC (blk 0 n) := by simp [blk, byC]
theorem long_walk (k : Int) (w : World) (hR : Rdv w)
  (hs : ∀ w, Rdv w → Calls Tryz.prog 7 #[] w fun e w' => e = .returned (.bool true) ∧ Below w.heap.size w w')
  (h1 : ∀ n : Nat, n ≤ 65536 → ∀ w, Rdv w → Calls Tryz.prog 8 #[.string (bsA (List.replicate n 32))] w fun e w' => (∃ a c, e = .returned (.tuple #[.slice a 0 c, .int .i64 0, .int .i64 0])) ∧ Below w.heap.size w w')
  (h2 : ∀ n : Nat, 65536 < n → ∀ w, Rdv w → Calls Tryz.prog 8 #[.string (bsA (List.replicate n 32))] w fun e w' => e = .returned (.tuple #[.slice none 0 0, .int .i64 0, .int .i64 1]) ∧ Below w.heap.size w w') :
  Calls Tryz.prog 5 #[.int .i64 k] w fun e w' => e = .returned (.bool true) ∧ Below w.heap.size w w' := by
 obtain ⟨n, hn⟩ : ∃ n : Nat, max 0 (min k 65545) = (n : Int) := ⟨(max 0 (min k 65545)).toNat, by omega⟩
 have hnl : n ≤ 65545 := by omega
 obtain ⟨i0, hi, hz⟩ := Option.map_eq_some_iff.1 info5
 simp only [Prod.mk.injEq] at hz
 obtain ⟨hz0, hz1, hz2⟩ := hz
 have HS : Hid _ := hs
 have H1 : Hid _ := h1
 have H2 : Hid _ := h2
 have HR : Hid (Rdv w) := hR
 have HNL : Hid (n ≤ 65545) := hnl
 clear hs h1 h2 hR
 go_enter Tryz.func5, Tryz.ntmps5
 go_wp2_with (at_make; refine wpList_make_full _ rfl _ _ 38 rfl w.heap.size 5 i0 (.int .u8 0) 1 Tryz.underlying38 hi hz0 hz1 .i64 .i64 _ _ n rfl rfl rfl rfl (by rw [hz2]; omega) (by unfold maxLen; omega) (Nat.le_refl _) ?_)
 intro w1 hown hgrow
 have HO : Hid (w1.ownsRow w.heap.size 5 1 (.slice (some ⟨w.heap.size, 0, none⟩) n n) n (byC (blk 0 n))) := by
  rw [toList_madeCells_one, blk_none] at hown
  exact hown
 have HB : Hid (Below w.heap.size w w1) := (Below.refl _ _).grown hgrow (Nat.le_refl _) (fun _ h => by cases h)
 clear hown hgrow hi hz0 hz1 hz2 hnl
 obtain ⟨g, hg⟩ : ∃ g, w.heap.size = g := ⟨_, rfl⟩
 have HG : Hid (w.heap.size = g) := hg
 rw [hg] at HO
 go_wp2
 go_loopw [4] (fun x wr => ∃ m : Nat, m ≤ n ∧ x = .int .i64 m ∧ wr.ownsRow w.heap.size 5 1 (.slice (some ⟨w.heap.size, 0, none⟩) n n) n (byC (blk m n)) ∧ Below w.heap.size w wr) (fun x _ => n - (intOf x).toNat)
 case atStart => exact ⟨0, Nat.zero_le _, rfl, by rw [HG.out]; exact HO.out, HB.out⟩
 case round =>
  obtain ⟨m, hm, rfl, hO, hB⟩ := hrel
  have HO : Hid (wr.ownsRow w.heap.size 5 1 (.slice (some ⟨w.heap.size, 0, none⟩) n n) n (byC (blk m n))) := hO
  have HB : Hid (Below w.heap.size w wr) := hB
  clear hO hB
  rcases Nat.lt_or_ge m n with hlt | hge
  ·
   have hst := HO.out.stored m (.int .u8 32)
   have HC : Hid _ := hst
   have hcell : wr.cell? ⟨w.heap.size, m, none⟩ = some (.int .u8 0) := by
    rw [HO.out.cellAt m (by omega)]
    unfold byC blk
    rw [List.map_append, List.getElem?_append_right (by simp)]
    simp [List.getElem?_replicate]
    omega
   have hfz : wr.frozen? ⟨w.heap.size, m, none⟩ = false := HO.out.frozenAt m
   have HB2 : Hid (Below w.heap.size w (wr.setCell ⟨w.heap.size, m, none⟩ (.int .u8 32))) := HB.out.setCell (Nat.le_refl _) _
   have HO2 : Hid ((wr.setCell ⟨w.heap.size, m, none⟩ (.int .u8 32)).ownsRow w.heap.size 5 1 (.slice (some ⟨w.heap.size, 0, none⟩) n n) n (byC (blk (m + 1) n))) := by
    have h := hst.1
    rw [blk_set hlt] at h
    exact h
   rw [HG.out] at hcell hfz
   clear hst HC HO HB
   go_wp2
   go_roundw
   case rel => exact ⟨m + 1, by omega, by go_num, by rw [HG.out] at HO2; rw [HG.out]; exact HO2.out, by have h := HB2.out; rw [HG.out] at h; rw [HG.out]; exact h⟩
   case measure => simp [intOf]; omega
  ·
   obtain rfl : m = n := by omega
   have hcv := convert_own (bs := List.replicate m 32) (by have h := HO.out; rw [blk_all] at h; rw [List.length_replicate]; exact h)
   rw [HG.out] at hcv
   have hRr := HR.out.below HB.out
   clear HO
   rcases Int.lt_or_le 65536 m with hb | hb
   ·
    have hc := H2.out m (by omega) wr hRr
    have HM : Hid (m ≤ 65545) := HNL.out
    clear H1 H2 HNL hge hm hRr
    generalize bsA (List.replicate m 32) = bs at hc hcv
    go_wp2_with fail
    refine hc.mono ?_
    rintro e w2 ⟨rfl, hb2⟩
    clear hc
    have hs := HS.out w2 (HR.out.below (HB.out.trans (hb2.mono HB.out.size)))
    have HB2 : Hid (Below w.heap.size w w2) := HB.out.trans (hb2.mono HB.out.size)
    clear hb2 HS HB HR
    go_wp2_with fail
    refine hs.mono ?_
    rintro e w3 ⟨rfl, hb3⟩
    have HB3 := HB2.out.trans (hb3.mono HB2.out.size)
    clear hs hb3
    go_wp2
    go_ret
    exact ⟨rfl, HB3⟩
   ·
    have hc := H1.out m (by omega) wr hRr
    have HM : Hid (m ≤ 65545) := HNL.out
    have hb' : ¬ (65536 : Int) < m := by omega
    clear H1 H2 HNL hge hm hRr
    generalize bsA (List.replicate m 32) = bs at hc hcv
    go_wp2_with fail
    refine hc.mono ?_
    rintro e w2 ⟨⟨la, lc, rfl⟩, hb2⟩
    clear hc
    have hs := HS.out w2 (HR.out.below (HB.out.trans (hb2.mono HB.out.size)))
    have HB2 : Hid (Below w.heap.size w w2) := HB.out.trans (hb2.mono HB.out.size)
    clear hb2 HS HB HR
    go_wp2_with fail
    refine hs.mono ?_
    rintro e w3 ⟨rfl, hb3⟩
    have HB3 := HB2.out.trans (hb3.mono HB2.out.size)
    clear hs hb3
    go_wp2
    go_ret
    exact ⟨rfl, HB3⟩
theorem sk_bls : ∀ n, sk (List.replicate n (32 : UInt8)) = (n, true)
 | 0 => by decide
 | n + 1 => by
  have e : stp (List.replicate (n + 1) (32 : UInt8)) = 1 := by rw [List.replicate_succ]; exact stp_bl (by decide) _
  rw [sk_step (by omega), e]
  simp only [List.replicate_succ, Int.toNat_one, List.drop_succ_cons, List.drop_zero]
  rw [sk_bls n]
theorem lx_bls (n : Nat) : lx (List.replicate n (32 : UInt8)) 0 = ([], 0, 0) := by
 unfold lx lxF
 rw [sk_bls n]
 simp
theorem src_bls (n : Nat) (hn : n ≤ 65536) (w : World) (hR : Rdv w) : Calls Tryz.prog 8 #[.string (bsA (List.replicate n 32))] w fun e w' => (∃ a c, e = .returned (.tuple #[.slice a 0 c, .int .i64 0, .int .i64 0])) ∧ Below w.heap.size w w' := by
 refine (Source_any (List.replicate n 32) (by rw [List.length_replicate]; exact hn) [] (lx_bls n) (by simp) (fun _ _ => none) (fun rb ta cap => Rds.no 14 _) 1 w hR (.inr []) rfl).mono ?_
 rintro e w' ⟨⟨v, rfl, hv⟩, hb⟩
 rcases hv with ⟨_, rfl⟩ | ⟨g, c, m, rfl, h0, _⟩
 · exact ⟨⟨_, _, rfl⟩, hb⟩
 · exact ⟨⟨_, _, by rw [← h0]; rfl⟩, hb⟩
theorem src_big (n : Nat) (hn : 65536 < n) (w : World) : Calls Tryz.prog 8 #[.string (bsA (List.replicate n 32))] w fun e w' => e = .returned (.tuple #[.slice none 0 0, .int .i64 0, .int .i64 1]) ∧ Below w.heap.size w w' := by
 have hi : (65536 : Int) < ((bsA (List.replicate n (32 : UInt8))).size : Int) := by rw [bsA_size, List.length_replicate]; omega
 generalize bsA (List.replicate n (32 : UInt8)) = s at hi ⊢
 go_enter Tryz.func8, Tryz.ntmps8
 go_wp2
 refine bodyPost_ret (v := .tuple #[.slice none 0 0, .int .i64 0, .int .i64 1]) (by simp [results, Tryz.results8, go_sem]) rfl ⟨rfl, Below.refl _ _⟩
theorem long_all (k : Int) (w : World) (hR : Rdv w) : Calls Tryz.prog 5 #[.int .i64 k] w fun e w' => e = .returned (.bool true) ∧ Below w.heap.size w w' :=
 long_walk k w hR sure_any src_bls (fun n hn w _ => src_big n hn w)
end Go.Proofs.YtgdndahhledikaaGreatDoor
