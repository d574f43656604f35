/- Remove. -/
import Derived.Test.YtbfodpmlmhkikaaDoorPut
namespace Go.Proofs.YtbfodpmlmhkikaaDoor
open Go.ChangeShapes Go.WideShapes Go.ChangeAt Go.RowKit
open Go.ChangeMaps (setBlock)

theorem mem_rm {α β : Type} [DecidableEq α] {L : List (α × β)} {k : α} {y : α × β} (h : y ∈ rm L k) : y ∈ L := by
  induction L with
  | nil => simp [rm] at h
  | cons x L ih =>
    simp only [rm] at h
    split at h
    · exact List.mem_cons_of_mem _ h
    · rcases List.mem_cons.1 h with h | h
      · exact h ▸ List.mem_cons_self
      · exact List.mem_cons_of_mem _ (ih h)
def lvS (s : List (Pce × Way) × Int) (v : Val) : List (Pce × Way) × Int := (lvP s.1 (s.2, v), (wyD (lk s.1 (s.2, v))).1)
def lvL (s : List (Pce × Way) × Int) (r : List Val) : List (Pce × Way) × Int := r.foldl lvS s
theorem few_wy {WL : List (Pce × Way)} {c : Int} (h : Few WL c) (hc : 0 ≤ c) (p : Pce) : 0 ≤ (wyD (lk WL p)).2 ∧ (wyD (lk WL p)).2 ≤ c := by
  cases hl : lk WL p with
  | none => exact ⟨Int.le_refl _, hc⟩
  | some x => exact h.lk hl
theorem few_lv {WL : List (Pce × Way)} {c : Int} (h : Few WL c) (hc : 0 ≤ c) (p : Pce) : Few (lvP WL p) c := by
  have hw := few_wy h hc p
  unfold lvP
  split
  · intro y hy
    rcases mem_up hy with hy | rfl
    · exact h y hy
    · dsimp only; omega
  · intro y hy
    exact h y (mem_rm hy)
set_option maxHeartbeats 4000000 in
theorem Remove_no (a : Option Addr) (cap : Nat) (M : Mb) (WL : List (Pce × Way)) (HL : List (Int × Ent)) (pl bi : Int) (r : List Val) (w : World) (hlen : r.length ≤ 9223372036854775807) (hM : MpAt w M WL HL pl bi) (hr : RowAt w a r) (hf : (fdP WL HL r).2 = false) :
    Calls Tryd.prog 17 #[.pointer (some ⟨M.m, 0, none⟩), .slice a r.length cap] w fun e w' => e = .returned (.bool false) ∧ Below w.heap.size w w' := by
  have hfd := find_any a cap M WL HL pl bi r w hlen hM hr
  rw [hf] at hfd
  clear hM hr hf
  go_enter Tryd.func17, Tryd.ntmps17
  go_wp2_with (go_at_call 32; refine hfd.mono ?_; rintro e w' ⟨rfl, hb⟩)
  go_ret
  exact ⟨rfl, (Bel.out (by repeat (first | exact Bel.refl _ | assumption | refine Bel.drew ?_ | refine Bel.drewN ?_ _ | refine Bel.alloc ?_ _ | refine Bel.setCell ?_ (by simp <;> omega) _ | refine Bel.step ?_ (by assumption))))⟩
set_option maxRecDepth 20000 in
set_option maxHeartbeats 8000000 in
theorem Remove_some (b off cap : Nat) (M : Mb) (WL : List (Pce × Way)) (HL : List (Int × Ent)) (pl bi c : Int) (r : List Val) (w : World) (hlen : r.length ≤ 9223372036854775807) (hM : MpAt w M WL HL pl bi)
    (hc : ∀ i, i < r.length → w.cell? ⟨b, off + i * 3, none⟩ = some (.int .i64 (kAt r i)) ∧ w.cell? ⟨b, off + i * 3 + 1, none⟩ = some (.int .i64 (nAt r i)) ∧ w.cell? ⟨b, off + i * 3 + 2, none⟩ = some (.string (tAt r i)))
    (hb : 0 < r.length → ¬ M.own b) (hF : Few WL c) (hc0 : 0 ≤ c) (hcr : c < 4611686018427387904) (p : Int) (hf : fdP WL HL r = (p, true)) :
    Calls Tryd.prog 17 #[.pointer (some ⟨M.m, 0, none⟩), .slice (some ⟨b, off, none⟩) r.length cap] w fun e w' => e = .returned (.bool true) ∧ MpAt w' M (lvL (WL, 0) r).1 (rm HL p) pl bi ∧ Fr M.own w w' := by
  have hfd := find_some b off cap M WL HL pl bi r w hlen hM hc
  rw [hf] at hfd
  have HC : Hid _ := hc
  have HB : Hid _ := hb
  have HF : Hid _ := hF
  clear hf hc hb hF
  go_enter Tryd.func17, Tryd.ntmps17
  go_wp2_with fail
  refine hfd.mono ?_
  rintro e w1 ⟨rfl, hb1⟩
  have hM1 := hM.below hb1
  obtain ⟨es1, clk1, hH1⟩ := hM1.held
  have m1 := hM1.c1
  have hhl : M.h < w1.heap.size := heap_lt hH1.at_
  obtain ⟨es', clk', xd, hMs⟩ := hH1.erase under73 keys3 p 0
  dsimp only [itE] at xd
  have hat : (setBlock w1 M.h (.map es' clk')).heap[M.h]? = some (.map es' clk') := setBlock_at _ hhl
  have hFs : Fr (fun k => k = M.h) w1 (setBlock w1 M.h (.map es' clk')) := Fr.put (Fr.refl _ w1) _
  have hM2 : MpAt (setBlock w1 M.h (.map es' clk')) M WL (rm HL p) pl bi := hM1.turnH hFs (hMs _ hat) (fun y hy => hM1.rows y (mem_rm hy))
  have hF2 : Fr M.own w (setBlock w1 M.h (.map es' clk')) := (Fr.of hb1).trans (hFs.mono fun k e => Or.inr (Or.inr e))
  have HM2 : Hid _ := hM2
  have HF2 : Hid _ := hF2
  clear hMs hat hFs hM2 hF2 hH1 hM1 hM hfd
  go_wp2
  go_loopw [7, 27] (fun pp i wr => ∃ (m : Nat) (q : Int) (WM : List (Pce × Way)), m ≤ r.length ∧ pp = .int .i64 q ∧ i = .int .i64 m ∧ lvL (WL, 0) (r.take m) = (WM, q) ∧ Few WM c ∧ MpAt wr M WM (rm HL p) pl bi ∧ Fr M.own w wr) (fun _ i _ => r.length - (intOf i).toNat)
  case atStart => exact ⟨0, 0, WL, Nat.zero_le _, rfl, rfl, rfl, HF.out, HM2.out, HF2.out⟩
  case round =>
    obtain ⟨m, q, WM, hm, rfl, rfl, hV, hFw, hMr, hFr⟩ := hrel
    have HV : Hid (lvL (WL, 0) (r.take m) = (WM, q)) := hV
    have HFw : Hid (Few WM c) := hFw
    have HFr : Hid (Fr M.own w wr) := hFr
    have HMr : Hid (MpAt wr M WM (rm HL p) pl bi) := hMr
    clear hV hFw m1 hMr HM2 HF2
    rcases Nat.lt_or_ge m r.length with hlt | hge
    · have c0 := hFr.cell (HB.out (by omega)) (HC.out m hlt).1
      have c1 := hFr.cell (HB.out (by omega)) (HC.out m hlt).2.1
      have c2 := hFr.cell (HB.out (by omega)) (HC.out m hlt).2.2
      clear hFr
      have HN : Hid (lvL (WL, 0) (r.take (m + 1)) = (lvP WM (q, kAt r m, nAt r m, tAt r m), (wyD (lk WM (q, kAt r m, nAt r m, tAt r m))).1)) := by
        show _ = _
        rw [take_at hlt]; unfold lvL at HV ⊢; rw [List.foldl_append, HV.out]; rfl
      have HN2 : Hid (Few (lvP WM (q, kAt r m, nAt r m, tAt r m)) c) := few_lv HFw.out hc0 _
      have hwy := few_wy HFw.out hc0 (q, kAt r m, nAt r m, tAt r m)
      go_wp2_with fail
      refine (leave_any M WM (rm HL p) pl bi (q, kAt r m, nAt r m, tAt r m) _ (HMr.out.alloc _) hwy.1 (by omega)).mono ?_
      rintro e w3 ⟨rfl, hM3, hF3⟩
      have HM3 : Hid _ := hM3
      have HF3 : Hid (Fr M.own wr w3) := ((Fr.refl _ _).alloc _).trans hF3
      clear hM3 hF3
      generalize hwt : (wyD (lk WM (q, kAt r m, nAt r m, tAt r m))).1 = to at HN
      go_wp2
      go_roundw
      case rel => exact ⟨m + 1, to, _, by omega, rfl, by go_num, HN.out, HN2.out, HM3.out, HFr.out.trans HF3.out⟩
      case measure => simp [intOf]; omega
    · obtain rfl : m = r.length := by omega
      have HN : Hid (lvL (WL, 0) r = (WM, q)) := by
        show _ = _
        have := HV.out; rwa [List.take_length] at this
      clear hFr
      go_wp2
      go_ret
      exact ⟨rfl, by rw [HN.out]; exact HMr.out, HFr.out⟩
set_option maxRecDepth 20000 in
set_option maxHeartbeats 8000000 in
theorem Remove_none (a : Option Addr) (cap : Nat) (M : Mb) (WL : List (Pce × Way)) (HL : List (Int × Ent)) (pl bi : Int) (w : World) (hM : MpAt w M WL HL pl bi) (p : Int) (hf : fdP WL HL [] = (p, true)) :
    Calls Tryd.prog 17 #[.pointer (some ⟨M.m, 0, none⟩), .slice a 0 cap] w fun e w' => e = .returned (.bool true) ∧ MpAt w' M WL (rm HL p) pl bi ∧ Fr M.own w w' := by
  have hfd := find_any a cap M WL HL pl bi [] w (by decide) hM (Or.inl rfl)
  rw [hf] at hfd
  dsimp only [List.length_nil] at hfd
  clear hf
  go_enter Tryd.func17, Tryd.ntmps17
  go_wp2_with fail
  refine hfd.mono ?_
  rintro e w1 ⟨rfl, hb1⟩
  have hM1 := hM.below hb1
  obtain ⟨es1, clk1, hH1⟩ := hM1.held
  have m1 := hM1.c1
  have hhl : M.h < w1.heap.size := heap_lt hH1.at_
  obtain ⟨es', clk', xd, hMs⟩ := hH1.erase under73 keys3 p 0
  dsimp only [itE] at xd
  have hat : (setBlock w1 M.h (.map es' clk')).heap[M.h]? = some (.map es' clk') := setBlock_at _ hhl
  have hFs : Fr (fun k => k = M.h) w1 (setBlock w1 M.h (.map es' clk')) := Fr.put (Fr.refl _ w1) _
  have hM2 : MpAt (setBlock w1 M.h (.map es' clk')) M WL (rm HL p) pl bi := hM1.turnH hFs (hMs _ hat) (fun y hy => hM1.rows y (mem_rm hy))
  have hF2 : Fr M.own w (setBlock w1 M.h (.map es' clk')) := (Fr.of hb1).trans (hFs.mono fun k e => Or.inr (Or.inr e))
  have HM2 : Hid _ := hM2
  have HF2 : Hid _ := hF2
  clear hMs hat hFs hM2 hF2 hH1 hM1 hM hfd
  go_wp2
  refine wp_loop_rounds 1 ?_
  rw [rounds_succ]
  go_wp2
  go_ret
  exact ⟨rfl, HM2.out, HF2.out⟩
theorem Remove_yes (a : Option Addr) (cap : Nat) (M : Mb) (WL : List (Pce × Way)) (HL : List (Int × Ent)) (pl bi : Int) (r : List Val) (w : World) (hlen : r.length ≤ 9223372036854775807) (hM : MpAt w M WL HL pl bi) (hr : RowAt w a r) (hne : ∀ g o, a = some ⟨g, o, none⟩ → g ≠ M.m) (c : Int) (hF : Few WL c) (hc0 : 0 ≤ c) (hcr : c < 4611686018427387904) (p : Int) (hf : fdP WL HL r = (p, true)) :
    Calls Tryd.prog 17 #[.pointer (some ⟨M.m, 0, none⟩), .slice a r.length cap] w fun e w' => e = .returned (.bool true) ∧ MpAt w' M (lvL (WL, 0) r).1 (rm HL p) pl bi ∧ Fr M.own w w' := by
  rcases hr with h0 | ⟨b, off, rfl, hc⟩
  · obtain rfl : r = [] := List.length_eq_zero_iff.1 h0
    exact Remove_none a cap M WL HL pl bi w hM p hf
  · refine Remove_some b off cap M WL HL pl bi c r w hlen hM hc (fun h0 => ?_) hF hc0 hcr p hf
    obtain ⟨es, clk, hw⟩ := hM.ways
    obtain ⟨es', clk', hh⟩ := hM.held
    have hx := (hc 0 h0).1
    rintro (e | e | e)
    · exact hne b off rfl e
    · exact cell_not_map hx hw.at_ e
    · exact cell_not_map hx hh.at_ e
end Go.Proofs.YtbfodpmlmhkikaaDoor
