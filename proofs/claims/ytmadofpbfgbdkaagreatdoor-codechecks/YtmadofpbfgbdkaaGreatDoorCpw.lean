/- CodeChecks: the copy, the walk. -/
import Derived.Test.YtmadofpbfgbdkaaGreatDoorSam
namespace Go.Proofs.YtmadofpbfgbdkaaGreatDoor
open Go.ChangeShapes Go.WideShapes Go.ChangeAt Go.RowKit
set_option linter.unusedSimpArgs false
set_option maxRecDepth 20000
set_option maxHeartbeats 4000000

theorem info35 : (Tryz.prog.info? 35).map (fun i => (i.zero, i.size, i.bytes)) = some (some (.agg #[.int .i64 0, .int .i64 0, .string ⟨#[]⟩, .int .i64 0, .int .i64 0, .string ⟨#[]⟩]), 6, 64) := by kernel_rfl
def oqC (o : Oq) : List Value := [.int .i64 o.1.1, .int .i64 o.1.2.1, .string o.1.2.2, .int .i64 o.2.1, .int .i64 o.2.2.1, .string o.2.2.2]
def opC : List Oq → List Value
  | [] => []
  | o :: l => oqC o ++ opC l
theorem opC_len : ∀ l : List Oq, (opC l).length = l.length * 6
  | [] => rfl
  | o :: l => by simp [opC, opC_len l, oqC]; omega
theorem opC_at : ∀ (l : List Oq) (i j : Nat) (o : Oq), l[i]? = some o → j < 6 → (opC l)[i * 6 + j]? = (oqC o)[j]?
  | [], _, _, _, h, _ => by simp at h
  | x :: l, 0, j, o, h, hj => by
    simp at h
    subst h
    rw [opC, List.getElem?_append_left (by simp [oqC]; omega)]
    congr 1
    omega
  | x :: l, i + 1, j, o, h, hj => by
    rw [opC, List.getElem?_append_right (by simp [oqC]; omega), show (i + 1) * 6 + j - (oqC x).length = i * 6 + j by simp [oqC]; omega]
    exact opC_at l i j o (by simpa using h) hj
theorem opC_one (l : List Oq) : ∀ u ∈ opC l, u.oneCell' = true := by
  induction l with
  | nil => intro u hu; cases hu
  | cons o l ih =>
    intro u hu
    rw [opC, List.mem_append] at hu
    rcases hu with hu | hu
    · simp only [oqC, List.mem_cons, List.not_mem_nil, or_false] at hu
      rcases hu with rfl | rfl | rfl | rfl | rfl | rfl <;> rfl
    · exact ih u hu
theorem addp (b off k : Nat) : (⟨b, off, none⟩ : Addr).add k = ⟨b, off + k, none⟩ := by
  unfold Addr.add
  split
  · rename_i h; simp [h]
  · rfl
theorem opC_cells {w : World} {b off : Nat} {r : List Oq} (h : ∀ i o, r[i]? = some o → OqAt w b (off + i * 6) o) : ∀ j u, (opC r)[j]? = some u → w.cell? ((⟨b, off, none⟩ : Addr).add j) = some u := by
  intro j u hj
  have hlt : j < r.length * 6 := by
    rw [← opC_len r]
    exact (List.getElem?_eq_some_iff.1 hj).1
  rw [addp]
  have hi : j / 6 < r.length := by omega
  have ho := h (j / 6) _ (List.getElem?_eq_getElem hi)
  have hk := opC_at r (j / 6) (j % 6) _ (List.getElem?_eq_getElem hi) (by omega)
  rw [show j / 6 * 6 + j % 6 = j by omega, hj] at hk
  generalize r[j / 6] = o at ho hk
  have e : off + j = off + j / 6 * 6 + j % 6 := by omega
  rw [e]
  have h6 : j % 6 < 6 := by omega
  generalize j % 6 = m at hk h6
  obtain ⟨c0, c1, c2, c3, c4, c5⟩ := ho
  match m, h6 with
  | 0, _ => rw [hk]; exact c0
  | 1, _ => rw [hk]; exact c1
  | 2, _ => rw [hk]; exact c2
  | 3, _ => rw [hk]; exact c3
  | 4, _ => rw [hk]; exact c4
  | 5, _ => rw [hk]; exact c5
theorem ops_of_owns {w : World} {base n : Nat} {vv : Value} {r : List Oq} (hn : r.length = n) (h : w.ownsRow base 35 6 vv n (opC r)) : ∃ a cap, vv = .slice a n cap ∧ OpsAt w a r := by
  have h' := h
  obtain ⟨hlen, ⟨rfl, h0⟩ | ⟨g, cap, cur, rfl, hbg, hg, hcap, hcm, hcs, htake⟩⟩ := h
  · subst h0
    exact ⟨none, 0, rfl, Or.inl (List.length_eq_zero_iff.1 hn)⟩
  refine ⟨_, cap, rfl, Or.inr ⟨g, 0, rfl, fun i o hi => ?_⟩⟩
  have hc := h'.cells (g := g) rfl
  have at' : ∀ j u, j < 6 → (oqC o)[j]? = some u → w.cell? ⟨g, 0 + i * 6 + j, none⟩ = some u := fun j u hj hu => by
    have := hc (i * 6 + j) u ((opC_at r i j o hi hj).trans hu)
    rw [addp] at this
    rwa [show 0 + i * 6 + j = 0 + (i * 6 + j) by omega]
  exact ⟨at' 0 _ (by omega) rfl, at' 1 _ (by omega) rfl, at' 2 _ (by omega) rfl, at' 3 _ (by omega) rfl, at' 4 _ (by omega) rfl, at' 5 _ (by omega) rfl⟩
theorem checks_walk (r : List Oq) (oa : Option Addr) (n ocap : Nat) (f a : Int) (w : World) (hn : r.length = n) (hr : OpsAt w oa r) (hnil : oa = none → n = 0) (hlen : n * 64 ≤ 140737488355328)
    (hs : ∀ w', Below w.heap.size w w' → Calls Tryz.prog 9 #[] w' fun e w2 => e = .returned (.bool true) ∧ Below w'.heap.size w' w2) :
    Calls Tryz.prog 3 #[.slice oa n ocap, .int .i64 f, .int .i64 a] w fun e w' => e = .returned (.bool true) ∧ Below w.heap.size w w' := by
  obtain ⟨i0, hi, hz0⟩ := Option.map_eq_some_iff.1 info35
  simp only [Prod.mk.injEq] at hz0
  obtain ⟨hz, hsz, hb3⟩ := hz0
  have HN : Hid (r.length = n) := hn
  have hS : Hid (∀ w', Below w.heap.size w w' → Calls Tryz.prog 9 #[] w' fun e w2 => e = .returned (.bool true) ∧ Below w'.heap.size w' w2) := hs
  clear hs
  cases oa with
  | none =>
    obtain rfl := hnil rfl
    have HR1 : Hid (OpsAt w none r) := hr
    clear hr hn hnil
    go_enter Tryz.func3, Tryz.ntmps3
    have HB1 : Hid (Below w.heap.size w w) := Below.refl _ _
    have HR2 : Hid (OpsAt w none r) := HR1.out
    go_wp2_with fail
    refine (check_any r none 0 0 HN.out f a w HR2.out).mono ?_
    rintro e w2 ⟨rfl, hb2⟩
    have HA2 := HR1.out.below hb2
    have HC2 : Hid (OpsAt w2 none r) := HR2.out.below hb2
    have HW2 : Hid (Below w.heap.size w w2) := HB1.out.trans (hb2.mono HB1.out.size)
    clear hb2 HR1 HR2 HB1
    go_wp2_with fail
    refine (rcheck_any r none 0 ocap HN.out f a w2 HA2 (by have := HN.out; omega)).mono ?_
    rintro e w3 ⟨rfl, hb3⟩
    have HA3 := HA2.below hb3
    have HC3 : Hid (OpsAt w3 none r) := HC2.out.below hb3
    have HW3 : Hid (Below w.heap.size w w3) := HW2.out.trans (hb3.mono HW2.out.size)
    clear hb3 HA2 HC2 HW2
    generalize ckE (htP r f a) = ck
    have hck : (ck == ck) = true := by simp
    go_wp2_with fail
    refine (depth_any r none 0 0 HN.out w3 HC3.out).mono ?_
    rintro e w4 ⟨rfl, hb4⟩
    have HA4 := HA3.below hb4
    have HC4 : Hid (OpsAt w4 none r) := HC3.out.below hb4
    have HW4 : Hid (Below w.heap.size w w4) := HW3.out.trans (hb4.mono HW3.out.size)
    clear hb4 HA3 HC3 HW3
    go_wp2_with fail
    refine (rdepth_any r none 0 ocap HN.out w4 HA4 (by have := HN.out; omega)).mono ?_
    rintro e w5 ⟨rfl, hb5⟩
    have HA5 := HA4.below hb5
    have HC5 : Hid (OpsAt w5 none r) := HC4.out.below hb5
    have HW5 : Hid (Below w.heap.size w w5) := HW4.out.trans (hb5.mono HW4.out.size)
    clear hb5 HA4 HC4 HW4
    generalize (htP r 9223372036854775807 9223372036854775807).getD 0 = dp
    have hdp : (dp == dp) = true := by simp
    go_wp2_with fail
    refine (same_any r none none 0 0 ocap HN.out w5 HC5.out HA5 (by omega)).mono ?_
    rintro e w6 ⟨rfl, hb6⟩
    have HW6 : Hid (Below w.heap.size w w6) := HW5.out.trans (hb6.mono HW5.out.size)
    clear hb6 HA5 HC5 HW5
    go_wp2_with fail
    refine (hS.out w6 HW6.out).mono ?_
    rintro e w7 ⟨rfl, hb7⟩
    have HW7 : Hid (Below w.heap.size w w7) := HW6.out.trans (hb7.mono HW6.out.size)
    clear hb7
    go_wp2
    refine bodyPost_ret (v := .bool true) (by simp [results, Tryz.results3, go_sem]) rfl ⟨rfl, HW7.out⟩
  | some ad =>
    have hl : Hid ((opC r).length = n * 6) := by show _ = _; rw [opC_len, hn]
    have hone : Hid _ := opC_one r
    have HR : Hid (OpsAt w (some ad) r) := hr
    have hnews : Hid (∀ j u, (opC r)[j]? = some u → w.cell? (ad.add j) = some u) := by
      rcases hr with h | ⟨b, off, e, hc⟩
      · intro j u hj
        rw [h] at hj; simp [opC] at hj
      · injection e with e
        subst e
        exact opC_cells hc
    have hown0 : Hid (w.ownsRow w.heap.size 35 6 (.slice none 0 0) 0 []) := World.ownsRow_nil _ _ _ _
    have hn1 : 0 + n ≤ maxLen := by unfold maxLen; omega
    have hby1 : (0 + n) * 64 ≤ 140737488355328 := by omega
    have hbase : w.heap.size ≤ w.heap.size := Nat.le_refl _
    clear hr hn hnil
    go_enter Tryz.func3, Tryz.ntmps3
    go_wp2_with (at_builtin; refine wpList_append_own _ rfl _ _ 22 rfl w.heap.size 35 i0 (.agg #[.int .i64 0, .int .i64 0, .string ⟨#[]⟩, .int .i64 0, .int .i64 0, .string ⟨#[]⟩]) 6 64 Tryz.underlying22 hi hz hsz hb3 rfl (by decide) _ 0 [] rfl hown0.out ad n ocap (opC r) rfl hl.out hnews.out hone.out hn1 hby1 hbase ?_)
    intro v1 w1 hown1 hgrow1 hi1
    clear hi1
    have HB1 : Hid (Below w.heap.size w w1) := (Below.refl _ _).grown hgrow1 (Nat.le_refl _) (fun kk hk => by cases hk)
    obtain ⟨a2, cap2, hv, hrr⟩ := ops_of_owns (r := r) HN.out (by simpa using hown1)
    subst hv
    have HR2 : Hid (OpsAt w1 a2 r) := hrr
    have HR1 : Hid (OpsAt w1 (some ad) r) := HR.out.below (by exact HB1.out)
    clear hown1 hgrow1 hl hone hnews hown0 hn1 hby1 hbase hi hz hsz hb3 hrr HR
    go_wp2_with fail
    refine (check_any r a2 n cap2 HN.out f a w1 HR2.out).mono ?_
    rintro e w2 ⟨rfl, hb2⟩
    have HA2 := HR1.out.below hb2
    have HC2 : Hid (OpsAt w2 a2 r) := HR2.out.below hb2
    have HW2 : Hid (Below w.heap.size w w2) := HB1.out.trans (hb2.mono HB1.out.size)
    clear hb2 HR1 HR2 HB1
    go_wp2_with fail
    refine (rcheck_any r (some ad) n ocap HN.out f a w2 HA2 (by have := HN.out; omega)).mono ?_
    rintro e w3 ⟨rfl, hb3⟩
    have HA3 := HA2.below hb3
    have HC3 : Hid (OpsAt w3 a2 r) := HC2.out.below hb3
    have HW3 : Hid (Below w.heap.size w w3) := HW2.out.trans (hb3.mono HW2.out.size)
    clear hb3 HA2 HC2 HW2
    generalize ckE (htP r f a) = ck
    have hck : (ck == ck) = true := by simp
    go_wp2_with fail
    refine (depth_any r a2 n cap2 HN.out w3 HC3.out).mono ?_
    rintro e w4 ⟨rfl, hb4⟩
    have HA4 := HA3.below hb4
    have HC4 : Hid (OpsAt w4 a2 r) := HC3.out.below hb4
    have HW4 : Hid (Below w.heap.size w w4) := HW3.out.trans (hb4.mono HW3.out.size)
    clear hb4 HA3 HC3 HW3
    go_wp2_with fail
    refine (rdepth_any r (some ad) n ocap HN.out w4 HA4 (by have := HN.out; omega)).mono ?_
    rintro e w5 ⟨rfl, hb5⟩
    have HA5 := HA4.below hb5
    have HC5 : Hid (OpsAt w5 a2 r) := HC4.out.below hb5
    have HW5 : Hid (Below w.heap.size w w5) := HW4.out.trans (hb5.mono HW4.out.size)
    clear hb5 HA4 HC4 HW4
    generalize (htP r 9223372036854775807 9223372036854775807).getD 0 = dp
    have hdp : (dp == dp) = true := by simp
    go_wp2_with fail
    refine (same_any r a2 (some ad) n cap2 ocap HN.out w5 HC5.out HA5 (by omega)).mono ?_
    rintro e w6 ⟨rfl, hb6⟩
    have HW6 : Hid (Below w.heap.size w w6) := HW5.out.trans (hb6.mono HW5.out.size)
    clear hb6 HA5 HC5 HW5
    go_wp2_with fail
    refine (hS.out w6 HW6.out).mono ?_
    rintro e w7 ⟨rfl, hb7⟩
    have HW7 : Hid (Below w.heap.size w w7) := HW6.out.trans (hb7.mono HW6.out.size)
    clear hb7
    go_wp2
    refine bodyPost_ret (v := .bool true) (by simp [results, Tryz.results3, go_sem]) rfl ⟨rfl, HW7.out⟩
end Go.Proofs.YtmadofpbfgbdkaaGreatDoor
