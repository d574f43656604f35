/- The statements' own small functions. -/
import Derived.Test.YtjphmbgennadcaaGreatDoorCal
import Derived.Test.YtjphmbgennadcaaGreatDoorSame
import Derived.Laws.EntriesVeiled
namespace Go.Proofs.YtjphmbgennadcaaGreatDoor
set_option maxHeartbeats 4000000
set_option maxRecDepth 20000
set_option linter.unusedSimpArgs false
open Go.ChangeShapes Go.WideShapes Go.ChangeAt Go.RowKit


/-- What the statements' own call gives. -/
def calV (s : ByteArray) (r : List Val) : Val := if (calP s r).2 = 0 then (calP s r).1 else (77, 0, ⟨#[]⟩)
theorem num10_any (n : Int) (w : World) : Calls Tryz.prog 19 #[.int .i64 n] w fun e w' => e = .returned (.agg #[.int .i64 2, .int .i64 n, .string ⟨#[]⟩]) ∧ Below w.heap.size w w' := by
  go_enter Tryz.func19, Tryz.ntmps19
  go_wp2
  exact bodyPost_ret (v := .agg #[.int .i64 2, .int .i64 n, .string ⟨#[]⟩]) (by simp [results, Tryz.results19, go_sem]) rfl ⟨rfl, (Bel.out (by repeat (first | exact Bel.refl _ | assumption | refine Bel.drew ?_ | refine Bel.drewN ?_ _ | refine Bel.alloc ?_ _ | refine Bel.setCell ?_ (by simp <;> omega) _ | refine Bel.step ?_ (by assumption))))⟩
theorem dec10_any (n : Int) (w : World) : Calls Tryz.prog 20 #[.int .i64 n] w fun e w' => e = .returned (.agg #[.int .i64 3, .int .i64 n, .string ⟨#[]⟩]) ∧ Below w.heap.size w w' := by
  go_enter Tryz.func20, Tryz.ntmps20
  go_wp2
  exact bodyPost_ret (v := .agg #[.int .i64 3, .int .i64 n, .string ⟨#[]⟩]) (by simp [results, Tryz.results20, go_sem]) rfl ⟨rfl, (Bel.out (by repeat (first | exact Bel.refl _ | assumption | refine Bel.drew ?_ | refine Bel.drewN ?_ _ | refine Bel.alloc ?_ _ | refine Bel.setCell ?_ (by simp <;> omega) _ | refine Bel.step ?_ (by assumption))))⟩
theorem txt10_any (s : ByteArray) (w : World) : Calls Tryz.prog 17 #[.string s] w fun e w' => e = .returned (.agg #[.int .i64 4, .int .i64 0, .string s]) ∧ Below w.heap.size w w' := by
  go_enter Tryz.func17, Tryz.ntmps17
  go_wp2
  exact bodyPost_ret (v := .agg #[.int .i64 4, .int .i64 0, .string s]) (by simp [results, Tryz.results17, go_sem]) rfl ⟨rfl, (Bel.out (by repeat (first | exact Bel.refl _ | assumption | refine Bel.drew ?_ | refine Bel.drewN ?_ _ | refine Bel.alloc ?_ _ | refine Bel.setCell ?_ (by simp <;> omega) _ | refine Bel.step ?_ (by assumption))))⟩
theorem lcall_any (s : ByteArray) (a : Option Addr) (cap : Nat) (r : List Val) (w : World) (H : Arg w a cap r) :
    Calls Tryz.prog 18 #[.string s, .slice a r.length cap] w fun e w' => e = .returned (.agg #[.int .i64 (calV s r).1, .int .i64 (calV s r).2.1, .string (calV s r).2.2]) ∧ Below w.heap.size w w' := by
  have hA : Below w.heap.size w (w.alloc (.cells #[.int .i64 0, .int .i64 0, .string ⟨#[]⟩] 34)) := (Below.refl _ _).alloc (Nat.le_refl _) _
  have hk := Call_any s a cap r (w.alloc (.cells #[.int .i64 0, .int .i64 0, .string ⟨#[]⟩] 34)) (H.below hA)
  have HP : Hid (calV s r = if (calP s r).2 = 0 then (calP s r).1 else (77, 0, ⟨#[]⟩)) := rfl
  generalize calV s r = R at HP ⊢
  generalize calP s r = q at *
  obtain ⟨⟨k, n, t⟩, e0⟩ := q
  dsimp only at hk HP
  by_cases h0 : e0 = 0
  · subst h0
    have HN : Hid (R = (k, n, t)) := by show _ = _; rw [HP.out, if_pos rfl]
    obtain rfl := HN.out
    go_enter Tryz.func18, Tryz.ntmps18
    go_wp2_with fail
    refine hk.mono ?_
    rintro e w1 ⟨rfl, hb1⟩
    have hz1 : w.heap.size < w1.heap.size := by have := hb1.size; simp at this; omega
    obtain ⟨hc1, hf1⟩ := bcell hb1
    go_wp2
    exact bodyPost_ret (v := .agg #[.int .i64 k, .int .i64 n, .string t]) (by simp [results, Tryz.results18, go_sem, hc1, hz1]) rfl ⟨rfl, (Bel.out (by repeat (first | exact Bel.refl _ | assumption | refine Bel.drew ?_ | refine Bel.drewN ?_ _ | refine Bel.alloc ?_ _ | refine Bel.setCell ?_ (by simp <;> omega) _ | refine Bel.step ?_ (by assumption))))⟩
  · have HN : Hid (R = (77, 0, ⟨#[]⟩)) := by show _ = _; rw [HP.out, if_neg h0]
    obtain rfl := HN.out
    have h0' : (e0 != 0) = true := by simpa using h0
    clear h0
    go_enter Tryz.func18, Tryz.ntmps18
    go_wp2_with fail
    refine hk.mono ?_
    rintro e w1 ⟨rfl, hb1⟩
    have hz1 : w.heap.size < w1.heap.size := by have := hb1.size; simp at this; omega
    obtain ⟨hc1, hf1⟩ := bcell hb1
    go_wp2
    exact bodyPost_ret (v := .agg #[.int .i64 77, .int .i64 0, .string ⟨#[]⟩]) (by simp [results, Tryz.results18, go_sem, hc1, hz1]) rfl ⟨rfl, (Bel.out (by repeat (first | exact Bel.refl _ | assumption | refine Bel.drew ?_ | refine Bel.drewN ?_ _ | refine Bel.alloc ?_ _ | refine Bel.setCell ?_ (by simp <;> omega) _ | refine Bel.step ?_ (by assumption))))⟩
theorem arg_1 (k n : Int) (t : ByteArray) (w : World) (hR : Ready w) (h0 : I64 n) : Arg (w.alloc (.cells #[.int .i64 k, .int .i64 n, .string t] 34)) (some ⟨w.heap.size, 0, none⟩) 1 [(k, n, t)] where
  rdy := hR.alloc _
  len := by simp
  cap := Nat.le_refl _
  int := fun v hv => by
    simp only [List.mem_cons, List.not_mem_nil, or_false] at hv
    rcases hv with rfl
    exact h0
  row := Or.inr ⟨_, 0, rfl, fun i hi => by
    simp only [List.length_cons, List.length_nil] at hi
    rcases (show i = 0 by omega) with rfl
    · exact ⟨World.cell?_alloc_new _ _ _ _, World.cell?_alloc_new _ _ _ _, World.cell?_alloc_new _ _ _ _⟩⟩
theorem arg_2 (k n : Int) (t : ByteArray) (k' n' : Int) (t' : ByteArray) (w : World) (hR : Ready w) (h0 : I64 n) (h1 : I64 n') : Arg (w.alloc (.cells #[.int .i64 k, .int .i64 n, .string t, .int .i64 k', .int .i64 n', .string t'] 34)) (some ⟨w.heap.size, 0, none⟩) 2 [(k, n, t), (k', n', t')] where
  rdy := hR.alloc _
  len := by simp
  cap := Nat.le_refl _
  int := fun v hv => by
    simp only [List.mem_cons, List.not_mem_nil, or_false] at hv
    rcases hv with rfl | rfl
    · exact h0
    · exact h1
  row := Or.inr ⟨_, 0, rfl, fun i hi => by
    simp only [List.length_cons, List.length_nil] at hi
    rcases (show i = 0 ∨ i = 1 by omega) with rfl | rfl
    · exact ⟨World.cell?_alloc_new _ _ _ _, World.cell?_alloc_new _ _ _ _, World.cell?_alloc_new _ _ _ _⟩
    · exact ⟨World.cell?_alloc_new _ _ _ _, World.cell?_alloc_new _ _ _ _, World.cell?_alloc_new _ _ _ _⟩⟩
theorem arg_3 (k n : Int) (t : ByteArray) (k' n' : Int) (t' : ByteArray) (k'' n'' : Int) (t'' : ByteArray) (w : World) (hR : Ready w) (h0 : I64 n) (h1 : I64 n') (h2 : I64 n'') : Arg (w.alloc (.cells #[.int .i64 k, .int .i64 n, .string t, .int .i64 k', .int .i64 n', .string t', .int .i64 k'', .int .i64 n'', .string t''] 34)) (some ⟨w.heap.size, 0, none⟩) 3 [(k, n, t), (k', n', t'), (k'', n'', t'')] where
  rdy := hR.alloc _
  len := by simp
  cap := Nat.le_refl _
  int := fun v hv => by
    simp only [List.mem_cons, List.not_mem_nil, or_false] at hv
    rcases hv with rfl | rfl | rfl
    · exact h0
    · exact h1
    · exact h2
  row := Or.inr ⟨_, 0, rfl, fun i hi => by
    simp only [List.length_cons, List.length_nil] at hi
    rcases (show i = 0 ∨ i = 1 ∨ i = 2 by omega) with rfl | rfl | rfl
    · exact ⟨World.cell?_alloc_new _ _ _ _, World.cell?_alloc_new _ _ _ _, World.cell?_alloc_new _ _ _ _⟩
    · exact ⟨World.cell?_alloc_new _ _ _ _, World.cell?_alloc_new _ _ _ _, World.cell?_alloc_new _ _ _ _⟩
    · exact ⟨World.cell?_alloc_new _ _ _ _, World.cell?_alloc_new _ _ _ _, World.cell?_alloc_new _ _ _ _⟩⟩

theorem eq34 (k k' n n' : Int) (t t' : ByteArray) (w : World) : (binOp .eql 34 (.agg #[.int .i64 k, .int .i64 n, .string t]) (.agg #[.int .i64 k', .int .i64 n', .string t'])).run Tryz.prog w = .ok (.bool (decide (((k, n, t) : Val) = (k', n', t')))) w := by
  rw [run_eql_struct, run_equalIn_agg w 9999 34 _ _ hf53 hs53]
  simp [Op.eqFields, Program.fieldsOf, Tryz.underlying34, go_sem, Tryz.underlying9, Tryz.underlying3]
  by_cases h1 : t = t' <;> by_cases h2 : k = k' <;> by_cases h3 : n = n' <;> simp [h1, h2, h3, ba_toList]
theorem info9 : (Tryz.prog.info? 9).map (fun i => (i.zero, i.size, i.bytes)) = some (some (.string ⟨#[]⟩), 1, 16) := by kernel_rfl
/-- The first m names, as cells. -/
def nmC (m : Nat) : List Value := (List.range m).map fun i => .string (nmA i)
theorem nmC_succ (m : Nat) : nmC (m + 1) = nmC m ++ [.string (nmA m)] := by unfold nmC; rw [List.range_succ, List.map_append]; rfl
theorem nmC_len (m : Nat) : (nmC m).length = m := by simp [nmC]
theorem nmC_at (m i : Nat) (h : i < m) : (nmC m)[i]? = some (.string (nmA i)) := by simp [nmC, h]
/-- A slice that holds the names. -/
def NmsAt (w : World) (a : Option Addr) : Prop := ∃ b, a = some ⟨b, 0, none⟩ ∧ ∀ i, i < 18 → w.cell? ⟨b, i, none⟩ = some (.string (nmA i))
theorem NmsAt.below {w w' : World} {a : Option Addr} (h : NmsAt w a) (hb : Below w.heap.size w w') : NmsAt w' a := by
  obtain ⟨b, e, hc⟩ := h
  exact ⟨b, e, fun i hi => cell_below hb (hc i hi)⟩
theorem Names_any (w : World) : Calls Tryz.prog 8 #[] w fun e w' => (∃ a cap, e = .returned (.slice a 18 cap) ∧ NmsAt w' a) ∧ Below w.heap.size w w' := by
  obtain ⟨i0, hi, hz0⟩ := Option.map_eq_some_iff.1 info9
  simp only [Prod.mk.injEq] at hz0
  obtain ⟨hz, hs, hb3⟩ := hz0
  go_enter Tryz.func8, Tryz.ntmps8
  go_wp2_with (go_at_call 21; refine (table_any _).mono ?_; rintro e w1 ⟨rfl, hb1⟩)
  obtain ⟨V, hV⟩ : ∃ V, V = tabL.toArray := ⟨_, rfl⟩
  have HIx : Hid (∀ (m : Nat), m < 18 → ∀ w : World, (Instr.index 50 (.agg V) (.int .i64 m)).run Tryz.prog w = .ok (.agg #[.string (nmA m), .func (.func (tkF m)) #[] #[], .int .i64 (anI m), .func (.func (dsF m)) #[] #[], .bool (snB m)]) w) := by rw [hV]; exact fun m hm w => tab_at m hm w
  rw [← hV]
  have HB1 : Hid (Bel w.heap.size w w1) := Bel.of hb1
  clear hV hb1
  go_loopw [1, 5] (fun y i wr => ∃ (m : Nat) (v1 : Value), m ≤ 18 ∧ y = v1 ∧ i = .int .i64 m ∧ wr.ownsRow w.heap.size 9 1 v1 m (nmC m) ∧ Bel w.heap.size w wr) (fun _ i _ => 18 - (intOf i).toNat)
  case atStart => exact ⟨0, _, Nat.zero_le _, rfl, rfl, World.ownsRow_nil _ _ _ _, HB1.out⟩
  case round =>
    obtain ⟨m, v1, hm, hy1, rfl, hO, HB⟩ := hrel
    have hy2 := hy1.symm
    clear hy1
    subst hy2
    have HO : Hid (wr.ownsRow w.heap.size 9 1 v1 m (nmC m)) := hO
    have hW := HB.out
    clear hO HB1
    rcases Nat.lt_or_ge m 18 with hlt | hge
    · have hix := HIx.out m hlt
      have HS : Hid (nmC (m + 1) = nmC m ++ [.string (nmA m)]) := nmC_succ m
      generalize nmA m = n1 at *
      generalize tkF m = n2 at *
      generalize dsF m = n3 at *
      generalize snB m = n4 at *
      generalize anI m = n5 at *
      have hB3 : Below wr.heap.size wr (wr.alloc (.cells #[.string n1, .func (.func n2) #[] #[], .int .i64 n5, .func (.func n3) #[] #[], .bool n4] 49)) := (Below.refl _ _).alloc (Nat.le_refl _) _
      have hrow : Hid (((wr.alloc (.cells #[.string n1, .func (.func n2) #[] #[], .int .i64 n5, .func (.func n3) #[] #[], .bool n4] 49)).alloc (.cells #[.string n1] 9)).ownsRow w.heap.size 9 1 v1 m (nmC m)) := (owns_below HO.out hB3).alloc _
      have hcel : Hid (∀ j u, ([.string n1] : List Value)[j]? = some u → ((wr.alloc (.cells #[.string n1, .func (.func n2) #[] #[], .int .i64 n5, .func (.func n3) #[] #[], .bool n4] 49)).alloc (.cells #[.string n1] 9)).cell? ((⟨wr.heap.size + 1, 0, none⟩ : Addr).add j) = some u) := by
        intro j u hj
        rw [add_plain]
        match j, hj with
        | 0, hj =>
          simp only [List.getElem?_cons_zero, Option.some.injEq] at hj
          subst hj
          simp
        | j + 1, hj => simp at hj
      have hone : Hid (∀ u ∈ ([.string n1] : List Value), u.oneCell' = true) := fun u hu => by simp only [List.mem_singleton] at hu; subst hu; rfl
      have hnl : m + 1 ≤ maxLen := by unfold maxLen; omega
      have hby : (m + 1) * 16 ≤ 140737488355328 := by omega
      have hbw : w.heap.size ≤ (wr.alloc (.cells #[.string n1, .func (.func n2) #[] #[], .int .i64 n5, .func (.func n3) #[] #[], .bool n4] 49)).heap.size := Nat.le_trans hW.size hB3.size
      have hbw2 : w.heap.size ≤ ((wr.alloc (.cells #[.string n1, .func (.func n2) #[] #[], .int .i64 n5, .func (.func n3) #[] #[], .bool n4] 49)).alloc (.cells #[.string n1] 9)).heap.size := by rw [World.size_alloc]; omega
      have HB3 : Hid _ := hB3
      clear HO hB3
      go_wp2_with (at_builtin; refine wpList_append_own _ rfl _ _ 23 rfl w.heap.size 9 i0 (.string ⟨#[]⟩) 1 16 Tryz.underlying23 hi hz hs hb3 rfl (by decide) _ _ _ rfl hrow.out ⟨wr.heap.size + 1, 0, none⟩ 1 1 [.string n1] rfl rfl hcel.out hone.out hnl hby hbw2 ?_)
      intro v3 w3 hown3 hgrow3 hi3
      clear hi3
      have HO3 : Hid (w3.ownsRow w.heap.size 9 1 v3 (m + 1) (nmC (m + 1))) := by
        show World.ownsRow _ _ _ _ _ _ _
        rw [HS.out]; exact hown3
      have HB4 : Hid (Bel w.heap.size w w3) := by
        have h1 : Below w.heap.size w (wr.alloc (.cells #[.string n1, .func (.func n2) #[] #[], .int .i64 n5, .func (.func n3) #[] #[], .bool n4] 49)) := hW.trans (HB3.out.mono hW.size)
        have h2 := (h1.alloc hbw (.cells #[.string n1] 9)).grown hgrow3 hbw2 (fun j hj => (hrow.out.lt j hj).1)
        exact ⟨h2, h2.size⟩
      clear hown3 hgrow3 hrow hcel hone
      go_wp2
      go_roundw
      case rel => exact ⟨m + 1, v3, by omega, rfl, by go_num, HO3.out, HB4.out⟩
      case measure => simp [intOf]; omega
    · obtain rfl : m = 18 := by omega
      have h' := HO.out
      obtain ⟨hlen, ⟨rfl, h0⟩ | ⟨g, cap, cur, rfl, hbg, hg, hcap, hcm, hcs, htake⟩⟩ := HO.out
      · cases h0
      have HNm : Hid (NmsAt wr (some ⟨g, 0, none⟩)) := by
        refine ⟨g, rfl, fun i hi => ?_⟩
        have e := h'.cells (g := g) rfl i _ (nmC_at 18 i hi)
        rw [add_plain, Nat.zero_add] at e
        exact e
      clear h' hlen hg hcap hcm hcs htake HO
      go_wp2
      go_ret
      exact ⟨⟨_, _, rfl, HNm.out⟩, hW⟩
end Go.Proofs.YtjphmbgennadcaaGreatDoor
