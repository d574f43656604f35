/- Any tokens as a source; the words (the walk). -/
import Derived.Test.YthhbeejfnpcbhaaGreatDoorRSh
import Derived.Test.YthhbeejfnpcbhaaGreatDoorBw
import Derived.Laws.AppendOwnNone
namespace Go.Proofs.YthhbeejfnpcbhaaGreatDoor
open Go.ChangeShapes Go.WideShapes Go.ChangeAt Go.RowKit

/-- What lies behind the tokens' address. -/
theorem rtC_cells {w : World} {ad : Addr} {r : List Tt} (h : TksAt w (some ad) r) : ∀ j u, (rtC r)[j]? = some u → w.cell? (ad.add j) = some u := by
  rcases h with rfl | ⟨b, off, e, hv⟩
  · intro j u hj; simp [rtC] at hj
  · injection e with e
    subst e
    intro j u hj
    have hlt : j < r.length * 4 := by
      rw [← rtC_len r]
      exact (List.getElem?_eq_some_iff.1 hj).1
    rw [add_plain]
    have hi : j / 4 < r.length := by omega
    have gc : r[j / 4]? = some r[j / 4] := List.getElem?_eq_getElem hi
    obtain ⟨a, b', c, d⟩ := rtC_at r (j / 4) _ gc
    obtain ⟨a', b'', c', d'⟩ := hv (j / 4) _ gc
    have h3 : j % 4 = 0 ∨ j % 4 = 1 ∨ j % 4 = 2 ∨ j % 4 = 3 := by omega
    rcases h3 with h3 | h3 | h3 | h3
    · have ej : j = j / 4 * 4 := by omega
      rw [ej] at hj ⊢
      rw [a] at hj; rw [a', hj]
    · have ej : j = j / 4 * 4 + 1 := by omega
      rw [ej] at hj ⊢
      rw [b'] at hj; rw [← Nat.add_assoc, b'', hj]
    · have ej : j = j / 4 * 4 + 2 := by omega
      rw [ej] at hj ⊢
      rw [c] at hj; rw [← Nat.add_assoc, c', hj]
    · have ej : j = j / 4 * 4 + 3 := by omega
      rw [ej] at hj ⊢
      rw [d] at hj; rw [← Nat.add_assoc, d', hj]
set_option maxRecDepth 20000 in
set_option maxHeartbeats 8000000 in
theorem lexShows_some (ad : Addr) (cap : Nat) (r : List Tt) (w : World) (hR : Rdy w) (hlen : r.length ≤ 2000000) (hN : ∀ t ∈ r, -9223372036854775808 ≤ t.1.2.2 ∧ t.1.2.2 ≤ 9223372036854775807 ∧ t.1.2.1.length ≤ 10000000 ∧ (shP t.1).length ≤ 10000000) (hT : TksAt w (some ad) r) : Calls Tryz.prog 4 #[.slice (some ad) r.length cap] w fun e w' => e = .returned (.bool true) ∧ Below w.heap.size w w' := by
  obtain ⟨i0, hi, hz0⟩ := Option.map_eq_some_iff.1 info37
  simp only [Prod.mk.injEq] at hz0
  obtain ⟨hz, hs, hb3⟩ := hz0
  have HI : Hid (Tryz.prog.info? 37 = some i0 ∧ i0.zero = some (.agg #[.int .i64 0, .string ⟨#[]⟩, .int .i64 0, .int .i64 0]) ∧ i0.size = 4 ∧ i0.bytes = 40) := ⟨hi, hz, hs, hb3⟩
  clear hi hz hs hb3
  have h1 := Words_any w hR
  have HT : Hid (TksAt w (some ad) r) := hT
  have HN : Hid _ := hN
  clear hT hN
  go_enter Tryz.func4, Tryz.ntmps4
  go_wp2_with fail
  refine h1.mono ?_
  rintro e w1 ⟨⟨a1, c1, rfl, hs1⟩, hb1⟩
  have h2 := RWords_any w1
  clear h1
  go_wp2_with fail
  refine h2.mono ?_
  rintro e w2 ⟨⟨a2, c2, rfl, hs2⟩, hb2⟩
  have hs1 := hs1.below hb2
  have hB2 : Below w.heap.size w w2 := hb1.trans (hb2.mono hb1.size)
  clear h2 hb1 hb2
  have hwl : wdL.length = 58 := by decide +kernel
  rcases hs1 with h0 | ⟨b, off, rfl, hc⟩
  · rw [h0] at hwl; cases hwl
  rcases hs2 with h0 | ⟨b', off', rfl, hd⟩
  · rw [h0] at hwl; cases hwl
  have HC : Hid _ := hc
  have HD : Hid _ := hd
  have HL : Hid (wdL.length = 58) := hwl
  clear hc hd hwl
  go_wp2
  go_loopw [5] (fun i wr => ∃ m : Nat, m ≤ 58 ∧ i = .int .i64 m ∧ Bel w2.heap.size w2 wr) (fun i _ => 58 - (intOf i).toNat)
  case atStart => exact ⟨0, Nat.zero_le _, rfl, Bel.refl _⟩
  case round =>
    obtain ⟨m, hm, rfl, HB⟩ := hrel
    have hW := HB.out
    rcases Nat.lt_or_ge m 58 with hlt | hge
    · have gc : wdL[m]? = some (wdL[m]'(by rw [HL.out]; exact hlt)) := List.getElem?_eq_getElem _
      have c0 := cell_below hW (HC.out m _ gc)
      have d0 := cell_below hW (HD.out m _ gc)
      generalize wdL[m]'(by rw [HL.out]; exact hlt) = u at c0 d0
      clear gc
      go_wp2
      go_quiet (fail)
      go_wp2
      go_roundw
      case rel => exact ⟨m + 1, by omega, by go_num, (by repeat (first | exact Bel.refl _ | assumption | refine Bel.drew ?_ | refine Bel.drewN ?_ _ | refine Bel.alloc ?_ _ | refine Bel.setCell ?_ (by simp <;> omega) _ | refine Bel.step ?_ (by assumption)))⟩
      case measure => simp [intOf]; omega
    · have hBr : Below w.heap.size w wr := hB2.trans (hW.mono hB2.size)
      clear HC HD HL HB hW hB2
      obtain ⟨hi, hz, hs, hb3⟩ := HI.out
      clear HI
      have HT0 : Hid (TksAt wr (some ad) r) := HT.out.below hBr
      have hl : Hid _ := rtC_len r
      have hone : Hid _ := rtC_one r
      have hnews : Hid _ := rtC_cells HT0.out
      have hown0 : wr.ownsRow w.heap.size 37 4 (.slice none 0 0) 0 [] := World.ownsRow_nil _ _ _ _
      have hn1 : 0 + r.length ≤ maxLen := by unfold maxLen; omega
      have hby1 : (0 + r.length) * 40 ≤ 140737488355328 := by omega
      have hbase := hBr.size
      go_wp2_with (at_builtin; refine wpList_append_own _ rfl _ _ 22 rfl w.heap.size 37 i0 (.agg #[.int .i64 0, .string ⟨#[]⟩, .int .i64 0, .int .i64 0]) 4 40 Tryz.underlying22 hi hz hs hb3 rfl (by decide) _ 0 [] rfl hown0 ad r.length cap (rtC r) rfl hl.out hnews.out hone.out hn1 hby1 hbase ?_)
      intro v1 w3 hown1 hgrow1 hi1
      clear hi1
      have hB3 : Below w.heap.size w w3 := hBr.grown hgrow1 hbase (fun kk hk => by cases hk)
      obtain ⟨a3, cap3, hv, hcc, _, _⟩ := tks_of_owns (r := r) (by simpa using hown1)
      rw [hv]
      have HT3 : Hid (TksAt w3 a3 r) := hcc
      clear hown1 hgrow1 hv hl hone hnews hown0 hn1 hby1 hbase hi hz hs hb3 hcc HT0
      have h3 := Show_any a3 cap3 r w3 (hR.below hB3) (by omega) HN.out HT3.out
      go_wp2_with fail
      refine h3.mono ?_
      rintro e w4 ⟨rfl, hb4⟩
      have hB4 := hB3.trans (hb4.mono hB3.size)
      have h4 := RShow_any (some ad) cap r w4 (by omega) HN.out (HT.out.below hB4)
      clear h3 hb4 hB3 HT3
      go_wp2_with fail
      refine h4.mono ?_
      rintro e w5 ⟨rfl, hb5⟩
      have hB5 := hB4.trans (hb5.mono hB4.size)
      have h5 := awake_any w5 (hR.below hB5)
      clear h4 hb5 hB4
      go_wp2_with fail
      refine h5.mono ?_
      rintro e w6 ⟨rfl, hb6⟩
      have hB6 := hB5.trans (hb6.mono hB5.size)
      clear h5 hb6 hB5
      go_wp2
      go_ret
      exact ⟨rfl, hB6⟩
set_option maxRecDepth 20000 in
set_option maxHeartbeats 8000000 in
theorem lexShows_nil (w : World) (hR : Rdy w) : Calls Tryz.prog 4 #[.slice none 0 0] w fun e w' => e = .returned (.bool true) ∧ Below w.heap.size w w' := by
  obtain ⟨i0, hi, hz0⟩ := Option.map_eq_some_iff.1 info37
  simp only [Prod.mk.injEq] at hz0
  obtain ⟨hz, hs, hb3⟩ := hz0
  have HI : Hid (Tryz.prog.info? 37 = some i0 ∧ i0.zero = some (.agg #[.int .i64 0, .string ⟨#[]⟩, .int .i64 0, .int .i64 0]) ∧ i0.size = 4 ∧ i0.bytes = 40) := ⟨hi, hz, hs, hb3⟩
  clear hi hz hs hb3
  have h1 := Words_any w hR
  go_enter Tryz.func4, Tryz.ntmps4
  go_wp2_with fail
  refine h1.mono ?_
  rintro e w1 ⟨⟨a1, c1, rfl, hs1⟩, hb1⟩
  have h2 := RWords_any w1
  clear h1
  go_wp2_with fail
  refine h2.mono ?_
  rintro e w2 ⟨⟨a2, c2, rfl, hs2⟩, hb2⟩
  have hs1 := hs1.below hb2
  have hB2 : Below w.heap.size w w2 := hb1.trans (hb2.mono hb1.size)
  clear h2 hb1 hb2
  have hwl : wdL.length = 58 := by decide +kernel
  rcases hs1 with h0 | ⟨b, off, rfl, hc⟩
  · rw [h0] at hwl; cases hwl
  rcases hs2 with h0 | ⟨b', off', rfl, hd⟩
  · rw [h0] at hwl; cases hwl
  have HC : Hid _ := hc
  have HD : Hid _ := hd
  have HL : Hid (wdL.length = 58) := hwl
  clear hc hd hwl
  go_wp2
  go_loopw [5] (fun i wr => ∃ m : Nat, m ≤ 58 ∧ i = .int .i64 m ∧ Bel w2.heap.size w2 wr) (fun i _ => 58 - (intOf i).toNat)
  case atStart => exact ⟨0, Nat.zero_le _, rfl, Bel.refl _⟩
  case round =>
    obtain ⟨m, hm, rfl, HB⟩ := hrel
    have hW := HB.out
    rcases Nat.lt_or_ge m 58 with hlt | hge
    · have gc : wdL[m]? = some (wdL[m]'(by rw [HL.out]; exact hlt)) := List.getElem?_eq_getElem _
      have c0 := cell_below hW (HC.out m _ gc)
      have d0 := cell_below hW (HD.out m _ gc)
      generalize wdL[m]'(by rw [HL.out]; exact hlt) = u at c0 d0
      clear gc
      go_wp2
      go_quiet (fail)
      go_wp2
      go_roundw
      case rel => exact ⟨m + 1, by omega, by go_num, (by repeat (first | exact Bel.refl _ | assumption | refine Bel.drew ?_ | refine Bel.drewN ?_ _ | refine Bel.alloc ?_ _ | refine Bel.setCell ?_ (by simp <;> omega) _ | refine Bel.step ?_ (by assumption)))⟩
      case measure => simp [intOf]; omega
    · have hBr : Below w.heap.size w wr := hB2.trans (hW.mono hB2.size)
      clear HC HD HL HB hW hB2
      obtain ⟨hi, hz, hs, hb3⟩ := HI.out
      clear HI
      have hown0 : wr.ownsRow w.heap.size 37 4 (.slice none 0 0) 0 [] := World.ownsRow_nil _ _ _ _
      go_wp2_with (at_builtin; refine wpList_append_own_none _ rfl _ _ 22 rfl w.heap.size 37 i0 4 Tryz.underlying22 hi _ 0 [] rfl hown0 rfl ?_)
      clear hown0 hi hz hs hb3
      have h3 := Show_0 none 0 wr
      go_wp2_with fail
      refine h3.mono ?_
      rintro e w4 ⟨rfl, hb4⟩
      have hB4 := hBr.trans (hb4.mono hBr.size)
      have h4 := RShow_0 none 0 w4
      clear h3 hb4 hBr
      go_wp2_with fail
      refine h4.mono ?_
      rintro e w5 ⟨rfl, hb5⟩
      have hB5 := hB4.trans (hb5.mono hB4.size)
      have h5 := awake_any w5 (hR.below hB5)
      clear h4 hb5 hB4
      go_wp2_with fail
      refine h5.mono ?_
      rintro e w6 ⟨rfl, hb6⟩
      have hB6 := hB5.trans (hb6.mono hB5.size)
      clear h5 hb6 hB5
      go_wp2
      go_ret
      exact ⟨rfl, hB6⟩
end Go.Proofs.YthhbeejfnpcbhaaGreatDoor
