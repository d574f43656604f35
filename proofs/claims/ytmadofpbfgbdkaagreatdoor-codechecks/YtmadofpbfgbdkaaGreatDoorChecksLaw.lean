/- For every row of instructions and every two numbers: whether it may be a program over so many fields and aggregates, and how high its stack grows, is as the document says; the row reads afterwards as it read before. Without a condition but the card's own: the package variables that the row lists hold what their text lays. -/
import Derived.Test.YtmadofpbfgbdkaaGreatDoorCpw
import Derived.Test.YtmadofpbfgbdkaaGreatDoorFrm
import Derived.Test.YtmadofpbfgbdkaaGreatDoorJfa
namespace Go.Proofs.YtmadofpbfgbdkaaGreatDoor
open Go.Shelf Go.ChangeShapes Go.WideShapes Go.ChangeAt Go.RowKit Go.Lib Go.Joins
open Go.WideMaps Go.WideElems

theorem cells35 : Tryz.prog.cellsOf 35 = 6 := by kernel_rfl
theorem cells33 : Tryz.prog.cellsOf 33 = 3 := by kernel_rfl
theorem cells3 : Tryz.prog.cellsOf 3 = 1 := by kernel_rfl
section
variable {H : Type} {enc : TypeId × Value → H} {W : World} {base : Nat} {spare : Nat → Bool} {held : Bool}
set_option maxRecDepth 100000 in
/-- Instructions that came in. -/
theorem open_opsl {fuel : Nat} {v : Value} {x : DataW H × List MemPlace} (h : DataW.trod enc Tryz.prog W base spare held fuel 22 [v] = some x) :
    ∃ a cap r, v = .slice a r.length cap ∧ OpsAt W a r ∧ (a = none → r.length = 0) := by
  rcases Deep.open_slice Tryz.underlying22 h with ⟨hcs, _⟩ | ⟨a, len, cap, m, nn, D, Pl, hcs, _, hl, hm, hmm, hx, hall⟩
  · exact ⟨none, 0, [], by simpa using hcs, Or.inl rfl, fun _ => rfl⟩
  have hle : len ≤ m := by rw [hmm]; split <;> omega
  have hv : v = .slice (some a) len cap := by simpa using hcs
  have each : ∀ i, i < len → ∃ q : Oq, W.cell? (a.add (i * 6)) = some (.int .i64 q.1.1) ∧ W.cell? (a.add (i * 6 + 1)) = some (.int .i64 q.1.2.1) ∧ W.cell? (a.add (i * 6 + 2)) = some (.string q.1.2.2) ∧ W.cell? (a.add (i * 6 + 3)) = some (.int .i64 q.2.1) ∧ W.cell? (a.add (i * 6 + 4)) = some (.int .i64 q.2.2.1) ∧ W.cell? (a.add (i * 6 + 5)) = some (.string q.2.2.2) := by
    intro i hi
    obtain ⟨cs', h1, h2⟩ := hall i (by omega)
    rw [cells35] at h1
    obtain ⟨_, hlen, hcell⟩ := World.cells?_some h1
    obtain ⟨xs, k, hk, hxy, _, hxl, hf⟩ := DataW.trod_struct Tryz.underlying35 h2
    match xs, hxl, cs', hlen with
    | [y0, y1, y2, y3], _, [v0, v1, v2, v3, v4, v5], _ =>
      have g0 := hf 0 _ rfl
      have g1 := hf 1 _ rfl
      have g2 := hf 2 _ rfl
      have g3 := hf 3 _ rfl
      simp [cells3, cells9, cells33] at g0 g1 g2 g3
      obtain ⟨xs', k', hk', hxy', _, hxl', hf'⟩ := DataW.trod_struct Tryz.underlying33 g3
      match xs', hxl' with
      | [z0, z1, z2], _ =>
        have q0 := hf' 0 _ rfl
        have q1 := hf' 1 _ rfl
        have q2 := hf' 2 _ rfl
        simp [cells3, cells9] at q0 q1 q2
        obtain ⟨e0, f0, _, _⟩ := DataW.trod_int Tryz.underlying3 g0
        obtain ⟨e1, f1, _, _⟩ := DataW.trod_int Tryz.underlying3 g1
        obtain ⟨e2, f2, _, _⟩ := DataW.trod_string Tryz.underlying9 g2
        obtain ⟨e3, f3, _, _⟩ := DataW.trod_int Tryz.underlying3 q0
        obtain ⟨e4, f4, _, _⟩ := DataW.trod_int Tryz.underlying3 q1
        obtain ⟨e5, f5, _, _⟩ := DataW.trod_string Tryz.underlying9 q2
        have c0 := hcell 0 (by omega)
        have c1 := hcell 1 (by omega)
        have c2 := hcell 2 (by omega)
        have c3 := hcell 3 (by omega)
        have c4 := hcell 4 (by omega)
        have c5 := hcell 5 (by omega)
        rw [Deep.add_add] at c0 c1 c2 c3 c4 c5
        simp only [List.cons.injEq, and_true] at f0 f1 f2 f3 f4 f5
        subst f0 f1 f2 f3 f4 f5
        exact ⟨((e0, e1, e2), (e3, e4, e5)), by simpa using c0, by simpa using c1, by simpa using c2, by simpa using c3, by simpa using c4, by simpa using c5⟩
  obtain ⟨q, hq⟩ := Deep.choose_lt each
  have hrl : ((List.range len).map q).length = len := by simp
  refine ⟨some a, cap, (List.range len).map q, by rw [hrl]; exact hv, ?_, fun e => by cases e⟩
  rcases Nat.eq_zero_or_pos len with h0 | h0
  · exact Or.inl (by simp [h0])
  obtain ⟨b, off, spot⟩ := a
  have hspot : spot = none := by simpa [Addr.add] using World.cell?_spot (hq 0 (by omega)).1
  subst hspot
  refine Or.inr ⟨b, off, rfl, fun i t hi => ?_⟩
  rw [List.getElem?_map] at hi
  rcases Nat.lt_or_ge i len with hlt | hge
  · rw [List.getElem?_range hlt] at hi
    obtain rfl : q i = t := by simpa using hi
    obtain ⟨c0, c1, c2, c3, c4, c5⟩ := hq i hlt
    rw [addp] at c0 c1 c2 c3 c4 c5
    exact ⟨c0, by rw [Nat.add_assoc]; exact c1, by rw [Nat.add_assoc]; exact c2, by rw [Nat.add_assoc]; exact c3, by rw [Nat.add_assoc]; exact c4, by rw [Nat.add_assoc]; exact c5⟩
  · rw [List.getElem?_eq_none (by simpa using hge)] at hi
    cases hi
set_option maxRecDepth 100000 in
theorem open_ops {b0 : Nat} {v : Value} {d : DataW H} {p : List MemPlace} (hv : Value.okWide Tryz.prog W .any b0 22 v) (h : DataW.Trod enc Tryz.prog W base spare held 22 v d p) (hw : ∀ y ∈ d.weights Tryz.prog 22, y ≤ reachBytes) :
    ∃ a n cap r, v = .slice a n cap ∧ r.length = n ∧ OpsAt W a r ∧ (a = none → n = 0) ∧ n * 64 ≤ 140737488355328 := by
  obtain ⟨a, len, cap, rfl⟩ := okWide_slice Tryz.underlying22 hv
  obtain ⟨fuel, hf⟩ := h
  have hf' : DataW.trod enc Tryz.prog W base spare held fuel 22 [.slice a len cap] = some (d, p) := by simpa [Value.cells] using hf
  obtain ⟨a', cap', r, e, h1, h2⟩ := open_opsl hf'
  have hlw := weigh 22 35 64 Tryz.underlying22 (by kernel_rfl) hf' hw
  injection e with e1 e2 e3
  subst e1 e3
  exact ⟨_, _, _, r, rfl, e2.symm, h1, fun e => by rw [e2]; exact h2 e, hlw⟩
end
set_option maxRecDepth 100000 in
theorem codeChecks_contract (H : Type) (enc : TypeId × Value → H) (W : World) (base : Nat) (args : Array Value) (ds gs : List (DataW H)) (before : List MemPlace)
    (hval : ∀ (j : Nat) t v, Tryz.f3.params[j]? = some t → args[j]? = some v → Value.okWide Tryz.prog W .any base t v)
    (hW : DataW.Whole enc Tryz.prog Tryz.f3.params.toList Rows.codeChecksSpec.vars false W args.toList ds gs before) (hL : laidMetH Tryz.prog Rows.codeChecksRow.laid W)
    (hsz : (DataW.weightsEach Tryz.prog (Tryz.f3.params.toList ++ (OpenSpec.ofChange Rows.codeChecksSpec).bare.plain.varTypes Tryz.prog) (ds ++ gs)).all (· ≤ reachBytes) = true) :
    Calls Tryz.prog 3 args W fun e W' => ∃ v, e = .returned v ∧ Rows.codeChecksSpec.post enc Tryz.prog Tryz.f3 false true false false W args v W' := by
  have hW' := hW
  obtain ⟨p, q, hA0, hV, rfl, hfz, hnd⟩ := hW
  have hA : DataW.TrodAll enc Tryz.prog W 0 (fun _ => true) true Tryz.f3.params.toList args.toList ds p := hA0
  rw [Tryz.params3] at hA hval
  obtain ⟨v0, v1, v2, d0, d1, d2, p0, p1, p2, rfl, rfl, rfl, h0, h1, h2⟩ := trodAll_three hA
  obtain ⟨rfl, rfl⟩ := trodVars_none hV
  clear hA0
  simp only [List.append_nil] at hW'
  have hlt : ∀ x ∈ p0 ++ (p1 ++ p2), x.block < W.heap.size := fun x hx => by simpa using hW'.lt x (by simpa using hx)
  have l0 : ∀ x ∈ p0, x.block < W.heap.size := fun x hx => hlt x (by simp [hx])
  have l1 : ∀ x ∈ p1, x.block < W.heap.size := fun x hx => hlt x (by simp [hx])
  have l2 : ∀ x ∈ p2, x.block < W.heap.size := fun x hx => hlt x (by simp [hx])
  have kept0 := h0
  have kept1 := h1
  have kept2 := h2
  have hw0 : ∀ y ∈ d0.weights Tryz.prog 22, y ≤ reachBytes := fun y hy => of_decide_eq_true (List.all_eq_true.1 hsz _ (DataW.weights_mem_each (j := 0) (t := 22) (d := d0) (by rw [Tryz.params3]; rfl) rfl y hy))
  obtain ⟨a, n, cap, r, rfl, hn, hr, hnil, hby⟩ := open_ops (hval 0 22 v0 rfl rfl) h0 hw0
  obtain ⟨a1, rfl, rfl, _, _⟩ := open_int Tryz.underlying3 (hval 1 3 v1 rfl rfl) h1
  obtain ⟨a2, rfl, rfl, _, _⟩ := open_int Tryz.underlying3 (hval 2 3 v2 rfl rfl) h2
  have hwd := Lib.laidMet.reads hL (.tail _ (.tail _ (.tail _ (.tail _ (.tail _ (.tail _ (.head _)))))))
  refine (checks_walk r a n cap a1 a2 W hn hr hnil hby (sure_of hwd)).mono fun e W' ⟨he, hb⟩ => ?_
  subst he
  refine ⟨_, rfl, _, _, _, [], p0 ++ (p1 ++ p2), [], hW', ?_, ?_, ?_, hb.frame _, fun h => by cases h⟩
  · exact trodAll_mk1 (shut_bool Tryz.underlying4 true)
  · exact trodAll_mk3 (Below.trod laidOut (by kernel_rfl) (of_decide_eq_true (by kernel_rfl)) kept0 hb l0) (Below.trod laidOut (by kernel_rfl) (of_decide_eq_true (by kernel_rfl)) kept1 hb l1) (Below.trod laidOut (by kernel_rfl) (of_decide_eq_true (by kernel_rfl)) kept2 hb l2)
  · rfl
theorem codeChecks_reads (os : Os) {H : Type} (enc : TypeId × Value → H) :
    ∃ places, DataW.whole enc Tryz.prog ((World.laidAll Tryz.prog os Rows.codeChecksRow.laid).forCall (fun _ _ => 0) ⟨#[], #[.slice none 0 0, .int .i64 0, .int .i64 0], []⟩).memory Tryz.f3.params.toList Rows.codeChecksSpec.vars false #[Value.slice none 0 0, Value.int .i64 0, Value.int .i64 0].toList 8 =
      some ([.nil, .lit (.int .i64 0), .lit (.int .i64 0)], [], places) := ⟨[], by kernel_rfl⟩
set_option maxRecDepth 100000 in
theorem codeChecks_lifted (os : Os) (started : os.Started) (H : Type) (enc : TypeId × Value → H) (F : Stop.Interp) :
    ReturnsInHanded {} Tryz.checked os 3 .any ((OpenSpec.ofChange Rows.codeChecksSpec).preRow enc Tryz.prog Tryz.f3 Rows.codeChecksRow.domain false Rows.codeChecksRow.laid) (((OpenSpec.ofChange Rows.codeChecksSpec).at F).post enc Tryz.prog Tryz.f3 false true false false) := by
  obtain ⟨places, hx⟩ := codeChecks_reads os enc
  refine returnsInHanded_of_row (C := Tryz.checked) (s := OpenSpec.ofChange Rows.codeChecksSpec) own started (by kernel_rfl) Tryz.func3
    (witness_row_shaped (enc := enc) (C := Tryz.checked) false (World.laidAll Tryz.prog os Rows.codeChecksRow.laid) #[.slice none 0 0, .int .i64 0, .int .i64 0] (World.laidAll_os _ _ _) (World.shaped_of_ZipB (by kernel_rfl) (by kernel_rfl)) (by kernel_rfl)
      (OpenSpec.preRow_of_cond 8 hx (by kernel_rfl) (fun k hk => by cases hk) (by kernel_rfl) (laid_met os _))) ?_
  intro W base args ds gs before hval hW _ _ hsz hL _ _
  exact codeChecks_contract H enc W base args ds gs before hval hW hL hsz
theorem codeChecks_said : Rows.CodeChecksSaid :=
  OpenClaim.holds_of_cond 3 Tryz.f3 rfl rfl rfl rfl rfl rfl rfl ⟨rfl, rfl, rfl, rfl, rfl⟩ rfl rfl rfl rfl rfl (by kernel_rfl) Tryz.func3 closed
    (of_decide_eq_true (by kernel_rfl)) (by unfold Func.isWrapper; rw [if_neg (of_decide_eq_false (by kernel_rfl))]; exact ⟨rfl, rfl⟩)
    (fun os started H enc _ F => by rw [OpenClaim.pre_eq_preRow]; exact codeChecks_lifted os started H enc F)
theorem codeChecks_plain (f : FuncId) (fn : Func) (hf : Tryz.pinned.checked.prog.funcNamed "marquee/marqueelaw12.CodeChecks" = some f) (hfn : Tryz.pinned.checked.prog.funcs[f]? = some fn) :
    true = Tryz.pinned.checked.prog.looks [] ∧ ∀ (j : Nat) t, fn.params[j]? = some t → Tryz.pinned.checked.prog.wantsStandIn t = false := by
  obtain rfl : f = 3 := Option.some.inj ((show Tryz.prog.funcNamed "marquee/marqueelaw12.CodeChecks" = some 3 by kernel_rfl).symm.trans hf) |>.symm
  obtain rfl : fn = Tryz.f3 := (Option.some.inj (Tryz.func3.symm.trans hfn)).symm
  refine ⟨by kernel_rfl, fun j t ht => ?_⟩
  rw [Tryz.params3] at ht
  have hm := Array.mem_of_getElem? ht
  simp only [List.mem_toArray, List.mem_cons, List.not_mem_nil, or_false] at hm
  rcases hm with rfl | rfl | rfl
  · exact (show Tryz.prog.wantsStandIn 22 = false by kernel_rfl)
  · exact (show Tryz.prog.wantsStandIn 3 = false by kernel_rfl)
  · exact (show Tryz.prog.wantsStandIn 3 = false by kernel_rfl)
theorem codeChecks_card : Rows.CodeChecksCardSaid :=
  Claim7.holds_tied_plain_at .later [] _ _ _ _ codeChecks_said (fun _ h => by cases h) (by kernel_rfl) (fun _ h => by cases h) codeChecks_row_tie rfl ⟨rfl, rfl⟩ (by kernel_rfl) rfl codeChecks_plain (by kernel_rfl)
#print axioms codeChecks_card
end Go.Proofs.YtmadofpbfgbdkaaGreatDoor
