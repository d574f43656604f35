/- For every two trees and every number: which trees are the same is as the document says, wherever they begin in a source. Without a condition but the card's own: the package variables that the row lists hold what their text lays. -/
import Derived.Test.YtcemogaacicnfaaGreatDoorTsw
import Derived.Test.YtcemogaacicnfaaGreatDoorFrm
import Derived.Deep.SlicePairs
namespace Go.Proofs.YtcemogaacicnfaaGreatDoor
open Go.Shelf Go.ChangeShapes Go.WideShapes Go.ChangeAt Go.RowKit Go.Lib Go.Joins
open Go.WideMaps Go.WideElems
open Go.ChangeMaps (open_string shut_string)

theorem cells24 : Tryz.prog.cellsOf 24 = 5 := by kernel_rfl
theorem cells22 : Tryz.prog.cellsOf 22 = 1 := by kernel_rfl
theorem bulk_one {H : Type} (d : DataW H) : 1 ≤ Rows.uptoBulk d := by
  cases d with
  | lit l => cases l <;> simp [Rows.uptoBulk]
  | _ => simp [Rows.uptoBulk]
theorem bulk_mem {H : Type} {d : DataW H} {l : List (DataW H)} (h : d ∈ l) : Rows.uptoBulk d ≤ Rows.uptoBulkAll l := by
  induction l with
  | nil => cases h
  | cons x l ih =>
    simp only [Rows.uptoBulkAll]
    rcases List.mem_cons.1 h with rfl | h
    · omega
    · have := ih h; omega
section
variable {H : Type} {enc : TypeId × Value → H} {W : World} {base : Nat} {spare : Nat → Bool} {held : Bool}
set_option maxRecDepth 100000 in
/-- A tree that came in. -/
theorem open_nd : ∀ (M fuel : Nat) (cs : List Value) (x : DataW H × List MemPlace), DataW.trod enc Tryz.prog W base spare held fuel 24 cs = some x → Rows.uptoBulk x.1 ≤ M →
    ∃ (t : Tr M) (s : Option Addr) (c : Nat), cs = [.int .i64 (kd M t), .string (bsA (tx M t)), .int .i64 (nu M t), .int .i64 (pl M t), .slice s (ks M t).length c] ∧ NdAt W M t s
  | 0, _, _, x, _, hb => absurd (bulk_one x.1) (by omega)
  | M + 1, fuel, cs, x, h, hb => by
    obtain ⟨xs, k, hk, hxy, hcl, hxl, hf⟩ := DataW.trod_struct Tryz.underlying24 h
    rw [cells24] at hcl
    match xs, hxl, cs, hcl with
    | [y0, y1, y2, y3, y4], _, [v0, v1, v2, v3, v4], _ =>
      have g0 := hf 0 _ rfl
      have g1 := hf 1 _ rfl
      have g2 := hf 2 _ rfl
      have g3 := hf 3 _ rfl
      have g4 := hf 4 _ rfl
      simp [cells3, cells9, cells22] at g0 g1 g2 g3 g4
      obtain ⟨z0, e0, _, _⟩ := DataW.trod_int Tryz.underlying3 g0
      obtain ⟨z1, e1, _, _⟩ := DataW.trod_string Tryz.underlying9 g1
      obtain ⟨z2, e2, _, _⟩ := DataW.trod_int Tryz.underlying3 g2
      obtain ⟨z3, e3, _, _⟩ := DataW.trod_int Tryz.underlying3 g3
      simp only [List.cons.injEq, and_true] at e0 e1 e2 e3
      subst e0 e1 e2 e3
      have hbx : Rows.uptoBulk y4.1 ≤ M := by
        rw [hxy] at hb
        simp only [List.map_cons, List.map_nil, Rows.uptoBulk, Rows.uptoBulkAll] at hb
        omega
      rcases Deep.open_slice Tryz.underlying22 g4 with ⟨hcs, _⟩ | ⟨a, len, cap, m, nn, D, Pl, hcs, _, hl, hm, hmm, hx, hall⟩
      · simp only [List.cons.injEq, and_true] at hcs
        subst hcs
        exact ⟨(z0, z1.data.toList, z2, z3, []), none, 0, by show (_ : List Value) = [_, Value.string (bsA z1.data.toList), _, _, _]; rw [bsA_of]; rfl, Nat.zero_le _, Or.inl rfl⟩
      · simp only [List.cons.injEq, and_true] at hcs
        subst hcs
        have hle : len ≤ m := by rw [hmm]; split <;> omega
        have hml : cap ≤ 9223372036854775807 := by have := hm; unfold maxLen at this; omega
        have each : ∀ i, i < len → ∃ q : Tr M × Option Addr × Nat, (W.cell? (a.add (i * 5)) = some (.int .i64 (kd M q.1)) ∧ W.cell? (a.add (i * 5 + 1)) = some (.string (bsA (tx M q.1))) ∧ W.cell? (a.add (i * 5 + 2)) = some (.int .i64 (nu M q.1)) ∧ W.cell? (a.add (i * 5 + 3)) = some (.int .i64 (pl M q.1)) ∧ W.cell? (a.add (i * 5 + 4)) = some (.slice q.2.1 (ks M q.1).length q.2.2)) ∧ NdAt W M q.1 q.2.1 := by
          intro i hi
          obtain ⟨cs', h1, h2⟩ := hall i (by omega)
          rw [cells24] at h1
          obtain ⟨_, hlen, hcell⟩ := World.cells?_some h1
          have hbi : Rows.uptoBulk (D i) ≤ M := by
            rw [hx] at hbx
            simp only [Rows.uptoBulk] at hbx
            have := bulk_mem (l := (List.range len).map D) (List.mem_map.2 ⟨i, List.mem_range.2 hi, rfl⟩)
            omega
          obtain ⟨t, s, c, rfl, hn⟩ := open_nd M nn cs' (D i, Pl i) h2 hbi
          have c0 := hcell 0 (by simp)
          have c1 := hcell 1 (by simp)
          have c2 := hcell 2 (by simp)
          have c3 := hcell 3 (by simp)
          have c4 := hcell 4 (by simp)
          rw [Deep.add_add] at c0 c1 c2 c3 c4
          exact ⟨(t, s, c), ⟨by simpa using c0, by simpa using c1, by simpa using c2, by simpa using c3, by simpa using c4⟩, hn⟩
        rcases Nat.eq_zero_or_pos len with h0 | h0
        · subst h0
          exact ⟨(z0, z1.data.toList, z2, z3, []), some a, cap, by show (_ : List Value) = [_, Value.string (bsA z1.data.toList), _, _, _]; rw [bsA_of]; rfl, Nat.zero_le _, Or.inl rfl⟩
        obtain ⟨q0, _⟩ := each 0 h0
        have inh : Inhabited (Tr M × Option Addr × Nat) := ⟨q0⟩
        obtain ⟨q, hq⟩ := Deep.choose_lt each
        refine ⟨(z0, z1.data.toList, z2, z3, (List.range len).map fun i => (q i).1), some a, cap, ?_, ?_, ?_⟩
        · show (_ : List Value) = [_, Value.string (bsA z1.data.toList), _, _, Value.slice (some a) ((List.range len).map fun i => (q i).1).length cap]
          rw [bsA_of, List.length_map, List.length_range]
          rfl
        · show ((List.range len).map fun i => (q i).1).length ≤ _
          rw [List.length_map, List.length_range]
          omega
        · show ((List.range len).map fun i => (q i).1) = [] ∨ _
          obtain ⟨b, off, spot⟩ := a
          have hspot : spot = none := by simpa [Addr.add] using World.cell?_spot (hq 0 (by omega)).1.1
          subst hspot
          refine Or.inr ⟨b, off, rfl, fun i y hi => ?_⟩
          change ((List.range len).map fun i => (q i).1)[i]? = some y at hi
          rw [List.getElem?_map] at hi
          have hil : i < len := by
            rcases Nat.lt_or_ge i len with h | h
            · exact h
            · rw [List.getElem?_eq_none (by simpa using h)] at hi; cases hi
          rw [List.getElem?_range hil] at hi
          obtain rfl : (q i).1 = y := by simpa using hi
          obtain ⟨hc, hn⟩ := hq i hil
          rw [WideShapes.add_plain, WideShapes.add_plain, WideShapes.add_plain, WideShapes.add_plain, WideShapes.add_plain] at hc
          exact ⟨(q i).2.1, (q i).2.2, hc, hn⟩
set_option maxRecDepth 100000 in
theorem open_node {b0 : Nat} {v : Value} {d : DataW H} {p : List MemPlace} (hv : Value.okWide Tryz.prog W .any b0 24 v) (h : DataW.Trod enc Tryz.prog W base spare held 24 v d p) (M : Nat) (hM : Rows.uptoBulk d ≤ M) :
    ∃ (t : Tr M) (s : Option Addr) (c : Nat), v = ndV M t s c ∧ NdAt W M t s := by
  obtain ⟨cs, rfl, _⟩ := okWide_struct Tryz.underlying24 hv
  obtain ⟨fuel, hf⟩ := h
  obtain ⟨t, s, c, hcs, hn⟩ := open_nd M fuel cs.toList (d, p) (by simpa [Value.cells] using hf) hM
  refine ⟨t, s, c, ?_, hn⟩
  unfold ndV
  rw [← hcs]
end
set_option maxRecDepth 100000 in
theorem treeSame_contract (H : Type) (enc : TypeId × Value → H) (W : World) (base : Nat) (args : Array Value) (ds gs : List (DataW H)) (before : List MemPlace)
    (hval : ∀ (j : Nat) t v, Tryz.f4.params[j]? = some t → args[j]? = some v → Value.okWide Tryz.prog W .any base t v)
    (hW : DataW.Whole enc Tryz.prog Tryz.f4.params.toList Rows.treeSameSpec.vars false W args.toList ds gs before) (hL : laidMetH Tryz.prog Rows.treeSameRow.laid W) (hsh : W.ShapedOpen Tryz.prog) :
    Calls Tryz.prog 4 args W fun e W' => ∃ v, e = .returned v ∧ Rows.treeSameSpec.post enc Tryz.prog Tryz.f4 false true false false W args v W' := by
  have hW' := hW
  obtain ⟨p, q, hA0, hV, rfl, hfz, hnd⟩ := hW
  have hA : DataW.TrodAll enc Tryz.prog W 0 (fun _ => true) true Tryz.f4.params.toList args.toList ds p := hA0
  rw [Tryz.params4] at hA hval
  obtain ⟨v0, v1, v2, d0, d1, d2, p0, p1, p2, rfl, rfl, rfl, h0, h1, h2⟩ := trodAll_three hA
  obtain ⟨rfl, rfl⟩ := trodVars_none hV
  clear hA0
  simp only [List.append_nil] at hW'
  have hlt : ∀ x ∈ p0 ++ (p1 ++ p2), x.block < W.heap.size := fun x hx => by simpa using hW'.lt x (by simpa using hx)
  have l0 : ∀ x ∈ p0, x.block < W.heap.size := fun x hx => hlt x (by simp [hx])
  have l1 : ∀ x ∈ p1, x.block < W.heap.size := fun x hx => hlt x (by simp [hx])
  have l2 : ∀ x ∈ p2, x.block < W.heap.size := fun x hx => hlt x (by simp [hx])
  have kept0 := h0
  have kept1 := h1
  have kept2 := h2
  obtain ⟨x, s, c, rfl, hx⟩ := open_node (hval 0 24 v0 rfl rfl) h0 (Rows.uptoBulk d0 + Rows.uptoBulk d1 + 1) (by omega)
  obtain ⟨y, s', c', rfl, hy⟩ := open_node (hval 1 24 v1 rfl rfl) h1 (Rows.uptoBulk d0 + Rows.uptoBulk d1 + 1) (by omega)
  obtain ⟨n, rfl, _, _, _⟩ := open_int Tryz.underlying3 (hval 2 3 v2 rfl rfl) h2
  have hR : Rdy W := rdy_of hL hsh
  refine (treeSame_walk (Rows.uptoBulk d0 + Rows.uptoBulk d1) x y s s' c c' n W hR hx hy).mono fun e W' ⟨he, hb⟩ => ?_
  subst he
  refine ⟨_, rfl, _, _, _, [], p0 ++ (p1 ++ p2), [], hW', ?_, ?_, ?_, hb.frame _, fun h => by cases h⟩
  · exact trodAll_mk1 (shut_bool Tryz.underlying4 true)
  · exact trodAll_mk3 (Below.trod laidOut (by kernel_rfl) (of_decide_eq_true (by kernel_rfl)) kept0 hb l0) (Below.trod laidOut (by kernel_rfl) (of_decide_eq_true (by kernel_rfl)) kept1 hb l1) (Below.trod laidOut (by kernel_rfl) (of_decide_eq_true (by kernel_rfl)) kept2 hb l2)
  · rfl
theorem treeSame_reads (os : Os) {H : Type} (enc : TypeId × Value → H) :
    ∃ places, DataW.whole enc Tryz.prog ((World.laidAll Tryz.prog os Rows.treeSameRow.laid).forCall (fun _ _ => 0) ⟨#[], #[.agg #[.int .i64 0, .string ⟨#[]⟩, .int .i64 0, .int .i64 0, .slice none 0 0], .agg #[.int .i64 0, .string ⟨#[]⟩, .int .i64 0, .int .i64 0, .slice none 0 0], .int .i64 0], []⟩).memory Tryz.f4.params.toList Rows.treeSameSpec.vars false #[Value.agg #[.int .i64 0, .string ⟨#[]⟩, .int .i64 0, .int .i64 0, .slice none 0 0], Value.agg #[.int .i64 0, .string ⟨#[]⟩, .int .i64 0, .int .i64 0, .slice none 0 0], Value.int .i64 0].toList 8 =
      some ([.agg [.lit (.int .i64 0), .lit (.string []), .lit (.int .i64 0), .lit (.int .i64 0), .nil], .agg [.lit (.int .i64 0), .lit (.string []), .lit (.int .i64 0), .lit (.int .i64 0), .nil], .lit (.int .i64 0)], [], places) := ⟨[], by kernel_rfl⟩
set_option maxRecDepth 100000 in
theorem treeSame_lifted (os : Os) (started : os.Started) (H : Type) (enc : TypeId × Value → H) (F : Stop.Interp) :
    ReturnsInHanded {} Tryz.checked os 4 .any ((OpenSpec.ofChange Rows.treeSameSpec).preRow enc Tryz.prog Tryz.f4 Rows.treeSameRow.domain false Rows.treeSameRow.laid) (((OpenSpec.ofChange Rows.treeSameSpec).at F).post enc Tryz.prog Tryz.f4 false true false false) := by
  obtain ⟨places, hx⟩ := treeSame_reads os enc
  refine returnsInHanded_of_row (C := Tryz.checked) (s := OpenSpec.ofChange Rows.treeSameSpec) own started (by kernel_rfl) Tryz.func4
    (witness_row_shaped (enc := enc) (C := Tryz.checked) false (World.laidAll Tryz.prog os Rows.treeSameRow.laid) #[.agg #[.int .i64 0, .string ⟨#[]⟩, .int .i64 0, .int .i64 0, .slice none 0 0], .agg #[.int .i64 0, .string ⟨#[]⟩, .int .i64 0, .int .i64 0, .slice none 0 0], .int .i64 0] (World.laidAll_os _ _ _) (World.shaped_of_ZipB (by kernel_rfl) (by kernel_rfl)) (by kernel_rfl)
      (OpenSpec.preRow_of_cond 8 hx (by kernel_rfl) (fun k hk => by cases hk) (by kernel_rfl) (laid_met os _))) ?_
  intro W base args ds gs before hval hW _ _ _ hL hsh _
  exact treeSame_contract H enc W base args ds gs before hval hW hL hsh
theorem treeSame_said : Rows.TreeSameSaid :=
  OpenClaim.holds_of_cond 4 Tryz.f4 rfl rfl rfl rfl rfl rfl rfl ⟨rfl, rfl, rfl, rfl, rfl⟩ rfl rfl rfl rfl rfl (by kernel_rfl) Tryz.func4 (by kernel_rfl)
    (of_decide_eq_true (by kernel_rfl)) (by unfold Func.isWrapper; rw [if_neg (of_decide_eq_false (by kernel_rfl))]; exact ⟨rfl, rfl⟩)
    (fun os started H enc _ F => by rw [OpenClaim.pre_eq_preRow]; exact treeSame_lifted os started H enc F)
theorem treeSame_plain (f : FuncId) (fn : Func) (hf : Tryz.pinned.checked.prog.funcNamed "marquee/marqueelaw06.TreeSame" = some f) (hfn : Tryz.pinned.checked.prog.funcs[f]? = some fn) :
    true = Tryz.pinned.checked.prog.looks [] ∧ ∀ (j : Nat) t, fn.params[j]? = some t → Tryz.pinned.checked.prog.wantsStandIn t = false := by
  obtain rfl : f = 4 := Option.some.inj ((show Tryz.prog.funcNamed "marquee/marqueelaw06.TreeSame" = some 4 by kernel_rfl).symm.trans hf) |>.symm
  obtain rfl : fn = Tryz.f4 := (Option.some.inj (Tryz.func4.symm.trans hfn)).symm
  refine ⟨by kernel_rfl, fun j t ht => ?_⟩
  rw [Tryz.params4] at ht
  have hm := Array.mem_of_getElem? ht
  simp only [List.mem_toArray, List.mem_cons, List.not_mem_nil, or_false] at hm
  rcases hm with rfl | rfl | rfl
  · exact (show Tryz.prog.wantsStandIn 24 = false by kernel_rfl)
  · exact (show Tryz.prog.wantsStandIn 24 = false by kernel_rfl)
  · exact (show Tryz.prog.wantsStandIn 3 = false by kernel_rfl)
theorem treeSame_card : Rows.TreeSameCardSaid :=
  Claim7.holds_tied_plain_at .later [] _ _ _ _ treeSame_said (fun _ h => by cases h) (by kernel_rfl) (fun _ h => by cases h) treeSame_row_tie rfl ⟨rfl, rfl⟩ (by kernel_rfl) rfl treeSame_plain (by kernel_rfl)
#print axioms treeSame_card
end Go.Proofs.YtcemogaacicnfaaGreatDoor
