/- For every schema, every text and every row of fields: the fields of the schema are as the document says, and which field each of five names says, with each of the first streams and with none, is as the document says, or the error. Where what is read is of bulk at most 1048576. Without a condition but the card's own: the package variables that the row lists hold what their text lays. -/
import Derived.Test.YtemfgdhcmeimoaaGreatDoorTfw
import Derived.Test.YtemfgdhcmeimoaaGreatDoorFrm
namespace Go.Proofs.YtemfgdhcmeimoaaGreatDoor
open Go.Shelf Go.ChangeShapes Go.WideShapes Go.ChangeAt Go.RowKit Go.Lib Go.Joins
open Go.WideMaps Go.WideElems
open Go.ChangeMaps (open_string shut_string)

theorem cells38 : Tryz.prog.cellsOf 38 = 2 := by kernel_rfl
theorem cells28 : Tryz.prog.cellsOf 28 = 3 := by kernel_rfl
theorem cells24 : Tryz.prog.cellsOf 24 = 2 := by kernel_rfl
theorem cells3 : Tryz.prog.cellsOf 3 = 1 := by kernel_rfl
theorem cells22 : Tryz.prog.cellsOf 22 = 1 := by kernel_rfl
theorem bulk_one {H : Type} (d : DataW H) : 1 ≤ Rows.uptoBulk d := by
  cases d with
  | lit l => cases l <;> simp [Rows.uptoBulk]
  | _ => simp [Rows.uptoBulk]
theorem bulk_len {H : Type} (l : List (DataW H)) : l.length ≤ Rows.uptoBulkAll l := by
  induction l with
  | nil => exact Nat.zero_le _
  | cons x l ih => have := bulk_one x; simp only [Rows.uptoBulkAll, List.length_cons]; omega
section
variable {H : Type} {enc : TypeId × Value → H} {W : World} {base : Nat} {spare : Nat → Bool} {held : Bool}
set_option maxRecDepth 100000 in
/-- Columns that came in. -/
theorem open_cols {fuel : Nat} {v : Value} {x : DataW H × List MemPlace} (h : DataW.trod enc Tryz.prog W base spare held fuel 22 [v] = some x) :
    ∃ a cap r, v = .slice a r.length cap ∧ CsAt W a r ∧ r.length ≤ Rows.uptoBulk x.1 := by
  rcases Deep.open_slice Tryz.underlying22 h with ⟨hcs, _⟩ | ⟨a, len, cap, m, nn, D, Pl, hcs, _, hl, hm, hmm, hx, hall⟩
  · exact ⟨none, 0, [], by simpa using hcs, Or.inl rfl, Nat.zero_le _⟩
  have hle : len ≤ m := by rw [hmm]; split <;> omega
  have hv : v = .slice (some a) len cap := by simpa using hcs
  have each : ∀ i, i < len → ∃ q : Cl, W.cell? (a.add (i * 2)) = some (.string q.1) ∧ W.cell? (a.add (i * 2 + 1)) = some (.int .i64 q.2) := by
    intro i hi
    obtain ⟨cs', h1, h2⟩ := hall i (by omega)
    rw [cells38] at h1
    obtain ⟨_, hlen, hcell⟩ := World.cells?_some h1
    obtain ⟨xs, k, hk, hxy, _, hxl, hf⟩ := DataW.trod_struct Tryz.underlying38 h2
    match xs, hxl, cs', hlen with
    | [y0, y1], _, [v0, v1], _ =>
      have g0 := hf 0 _ rfl
      have g1 := hf 1 _ rfl
      simp [cells3, cells9] at g0 g1
      obtain ⟨z0, e0, _, _⟩ := DataW.trod_string Tryz.underlying9 g0
      obtain ⟨z1, e1, _, _⟩ := DataW.trod_int Tryz.underlying3 g1
      have c0 := hcell 0 (by omega)
      have c1 := hcell 1 (by omega)
      rw [Deep.add_add] at c0 c1
      simp only [List.cons.injEq, and_true] at e0 e1
      subst e0 e1
      exact ⟨(z0, z1), by simpa using c0, by simpa using c1⟩
  obtain ⟨q, hq⟩ := Deep.choose_lt each
  have hrl : ((List.range len).map q).length = len := by simp
  refine ⟨some a, cap, (List.range len).map q, by rw [hrl]; exact hv, ?_, ?_⟩
  · rcases Nat.eq_zero_or_pos len with h0 | h0
    · exact Or.inl (by simp [h0])
    obtain ⟨b, off, spot⟩ := a
    have hspot : spot = none := by simpa [Addr.add] using World.cell?_spot (hq 0 (by omega)).1
    subst hspot
    refine Or.inr ⟨b, off, rfl, fun i t hi => ?_⟩
    rw [List.getElem?_map] at hi
    rcases Nat.lt_or_ge i len with hlt | hge
    · rw [List.getElem?_range hlt] at hi
      obtain rfl : q i = t := by simpa using hi
      have g := hq i hlt
      rw [add_plain, add_plain] at g
      exact g
    · rw [List.getElem?_eq_none (by simpa using hge)] at hi
      cases hi
  · rw [hrl, hx]
    simp only [Rows.uptoBulk]
    have := bulk_len ((List.range len).map D)
    simp at this ⊢; omega
set_option maxRecDepth 100000 in
/-- Fields that came in. -/
theorem open_flds {fuel : Nat} {v : Value} {x : DataW H × List MemPlace} (h : DataW.trod enc Tryz.prog W base spare held fuel 25 [v] = some x) :
    ∃ a cap r, v = .slice a r.length cap ∧ FsAt W a r ∧ r.length ≤ Rows.uptoBulk x.1 ∧ r.length ≤ cap := by
  rcases Deep.open_slice Tryz.underlying25 h with ⟨hcs, _⟩ | ⟨a, len, cap, m, nn, D, Pl, hcs, _, hl, hm, hmm, hx, hall⟩
  · exact ⟨none, 0, [], by simpa using hcs, Or.inl rfl, Nat.zero_le _, Nat.zero_le _⟩
  have hle : len ≤ m := by rw [hmm]; split <;> omega
  have hv : v = .slice (some a) len cap := by simpa using hcs
  have each : ∀ i, i < len → ∃ q : Fd, W.cell? (a.add (i * 3)) = some (.string q.1) ∧ W.cell? (a.add (i * 3 + 1)) = some (.string q.2.1) ∧ W.cell? (a.add (i * 3 + 2)) = some (.int .i64 q.2.2) := by
    intro i hi
    obtain ⟨cs', h1, h2⟩ := hall i (by omega)
    rw [cells28] at h1
    obtain ⟨_, hlen, hcell⟩ := World.cells?_some h1
    obtain ⟨xs, k, hk, hxy, _, hxl, hf⟩ := DataW.trod_struct Tryz.underlying28 h2
    match xs, hxl, cs', hlen with
    | [y0, y1, y2], _, [v0, v1, v2], _ =>
      have g0 := hf 0 _ rfl
      have g1 := hf 1 _ rfl
      have g2 := hf 2 _ rfl
      simp [cells3, cells9] at g0 g1 g2
      obtain ⟨z0, e0, _, _⟩ := DataW.trod_string Tryz.underlying9 g0
      obtain ⟨z1, e1, _, _⟩ := DataW.trod_string Tryz.underlying9 g1
      obtain ⟨z2, e2, _, _⟩ := DataW.trod_int Tryz.underlying3 g2
      have c0 := hcell 0 (by omega)
      have c1 := hcell 1 (by omega)
      have c2 := hcell 2 (by omega)
      rw [Deep.add_add] at c0 c1 c2
      simp only [List.cons.injEq, and_true] at e0 e1 e2
      subst e0 e1 e2
      exact ⟨(z0, z1, z2), by simpa using c0, by simpa using c1, by simpa using c2⟩
  obtain ⟨q, hq⟩ := Deep.choose_lt each
  have hrl : ((List.range len).map q).length = len := by simp
  refine ⟨some a, cap, (List.range len).map q, by rw [hrl]; exact hv, ?_, ?_, by rw [hrl]; exact hl⟩
  · rcases Nat.eq_zero_or_pos len with h0 | h0
    · exact Or.inl (by simp [h0])
    obtain ⟨b, off, spot⟩ := a
    have hspot : spot = none := by simpa [Addr.add] using World.cell?_spot (hq 0 (by omega)).1
    subst hspot
    refine Or.inr ⟨b, off, rfl, fun i t hi => ?_⟩
    rw [List.getElem?_map] at hi
    rcases Nat.lt_or_ge i len with hlt | hge
    · rw [List.getElem?_range hlt] at hi
      obtain rfl : q i = t := by simpa using hi
      have g := hq i hlt
      rw [add_plain, add_plain, add_plain] at g
      exact g
    · rw [List.getElem?_eq_none (by simpa using hge)] at hi
      cases hi
  · rw [hrl, hx]
    simp only [Rows.uptoBulk]
    have := bulk_len ((List.range len).map D)
    simp at this ⊢; omega
set_option maxRecDepth 100000 in
/-- A schema that came in. -/
theorem open_schema {b0 : Nat} {v : Value} {d : DataW H} {p : List MemPlace} (hv : Value.okWide Tryz.prog W .any b0 24 v) (h : DataW.Trod enc Tryz.prog W base spare held 24 v d p) :
    ∃ nm a cap r, v = .agg #[.string nm, .slice a r.length cap] ∧ CsAt W a r ∧ r.length ≤ Rows.uptoBulk d := by
  obtain ⟨c0, c1, y0, y1, m, rfl, rfl, rfl, hy0, hy1⟩ := open_agg2 Tryz.underlying24 (by kernel_rfl) cells24 hv h
  obtain ⟨sn, e0, _, ws⟩ := DataW.trod_string Tryz.underlying9 hy0
  obtain ⟨a, cap, r, rfl, hc, hl⟩ := open_cols hy1
  simp only [List.cons.injEq, and_true] at e0
  subst e0
  refine ⟨sn, a, cap, r, rfl, hc, ?_⟩
  simp only [Rows.uptoBulk, Rows.uptoBulkAll]
  omega
set_option maxRecDepth 100000 in
theorem open_fields {b0 : Nat} {v : Value} {d : DataW H} {p : List MemPlace} (hv : Value.okWide Tryz.prog W .any b0 25 v) (h : DataW.Trod enc Tryz.prog W base spare held 25 v d p) :
    ∃ a cap r, v = .slice a r.length cap ∧ FsAt W a r ∧ r.length ≤ Rows.uptoBulk d ∧ r.length ≤ cap := by
  obtain ⟨a, len, cap, rfl⟩ := okWide_slice Tryz.underlying25 hv
  obtain ⟨fuel, hf⟩ := h
  exact open_flds (by simpa [Value.cells] using hf)
end
set_option maxRecDepth 100000 in
theorem typesFields_contract (H : Type) (enc : TypeId × Value → H) (W : World) (base : Nat) (args : Array Value) (ds gs : List (DataW H)) (before : List MemPlace)
    (hval : ∀ (j : Nat) t v, Tryz.f3.params[j]? = some t → args[j]? = some v → Value.okWide Tryz.prog W .any base t v)
    (hW : DataW.Whole enc Tryz.prog Tryz.f3.params.toList Rows.typesFieldsSpec.vars false W args.toList ds gs before) (hL : laidMetH Tryz.prog Rows.typesFieldsUptoRow.laid W)
    (hk : Rows.uptoSmall H (ds ++ gs) = true) :
    Calls Tryz.prog 3 args W fun e W' => ∃ v, e = .returned v ∧ Rows.typesFieldsSpec.post enc Tryz.prog Tryz.f3 false true false false W args v W' := by
  have hW' := hW
  obtain ⟨p, q, hA0, hV, rfl, hfz, hnd⟩ := hW
  have hA : DataW.TrodAll enc Tryz.prog W 0 (fun _ => true) true Tryz.f3.params.toList args.toList ds p := hA0
  rw [Tryz.params3] at hA hval
  obtain ⟨v0, v1, v2, d0, d1, d2, p0, p1, p2, rfl, rfl, rfl, h0, h1, h2⟩ := trodAll_three hA
  obtain ⟨rfl, rfl⟩ := trodVars_none hV
  clear hA0
  simp only [List.append_nil] at hW'
  have hlt : ∀ x ∈ p0 ++ (p1 ++ p2), x.block < W.heap.size := fun x hx => by simpa using hW'.lt x (by simpa using hx)
  have l0 : ∀ x ∈ p0, x.block < W.heap.size := fun x hx => hlt x (by simp [hx])
  have l1 : ∀ x ∈ p1, x.block < W.heap.size := fun x hx => hlt x (by simp [hx])
  have l2 : ∀ x ∈ p2, x.block < W.heap.size := fun x hx => hlt x (by simp [hx])
  have kept0 := h0
  have kept1 := h1
  have kept2 := h2
  have hbulk : Rows.uptoBulkAll [d0, d1, d2] ≤ 1048576 := by
    have h : Rows.uptoBulkAll ([d0, d1, d2] ++ []) ≤ 1048576 := of_decide_eq_true hk
    simpa only [List.append_nil] using h
  simp only [Rows.uptoBulkAll] at hbulk
  obtain ⟨nm, a, cap, r, rfl, hc, hrl⟩ := open_schema (hval 0 24 v0 rfl rfl) h0
  obtain ⟨sn, rfl, _, _, _⟩ := open_string Tryz.underlying9 (hval 1 9 v1 rfl rfl) h1
  obtain ⟨af, capf, fs, rfl, hf, hfl, hfc⟩ := open_fields (hval 2 25 v2 rfl rfl) h2
  have hwd := Lib.laidMet.reads hL (.tail _ (.tail _ (.tail _ (.tail _ (.tail _ (.tail _ (.head _)))))))
  refine (typesFields_walk nm sn r a cap fs af capf W hc (by omega) hf (by omega) hfc (awake_of hwd)).mono fun e W' ⟨he, hb⟩ => ?_
  subst he
  refine ⟨_, rfl, _, _, _, [], p0 ++ (p1 ++ p2), [], hW', ?_, ?_, ?_, hb.frame _, fun h => by cases h⟩
  · exact trodAll_mk1 (shut_bool Tryz.underlying4 true)
  · exact trodAll_mk3 (Below.trod laidOut (by kernel_rfl) (of_decide_eq_true (by kernel_rfl)) kept0 hb l0) (Below.trod laidOut (by kernel_rfl) (of_decide_eq_true (by kernel_rfl)) kept1 hb l1) (Below.trod laidOut (by kernel_rfl) (of_decide_eq_true (by kernel_rfl)) kept2 hb l2)
  · rfl
theorem typesFields_reads (os : Os) {H : Type} (enc : TypeId × Value → H) :
    ∃ places, DataW.whole enc Tryz.prog ((World.laidAll Tryz.prog os Rows.typesFieldsUptoRow.laid).forCall (fun _ _ => 0) ⟨#[], #[.agg #[.string ⟨#[]⟩, .slice none 0 0], .string ⟨#[]⟩, .slice none 0 0], []⟩).memory Tryz.f3.params.toList Rows.typesFieldsSpec.vars false #[Value.agg #[.string ⟨#[]⟩, .slice none 0 0], Value.string ⟨#[]⟩, Value.slice none 0 0].toList 8 =
      some ([.agg [.lit (.string []), .nil], .lit (.string []), .nil], [], places) := ⟨[], by kernel_rfl⟩
set_option maxRecDepth 100000 in
theorem typesFields_lifted (os : Os) (started : os.Started) (H : Type) (enc : TypeId × Value → H) (F : Stop.Interp) :
    ReturnsInHanded {} Tryz.checked os 3 .any ((Rows.OpenSpec.upto Rows.typesFieldsSpec).preRow enc Tryz.prog Tryz.f3 Rows.typesFieldsUptoRow.domain false Rows.typesFieldsUptoRow.laid) (((Rows.OpenSpec.upto Rows.typesFieldsSpec).at F).post enc Tryz.prog Tryz.f3 false true false false) := by
  obtain ⟨places, hx⟩ := typesFields_reads os enc
  refine returnsInHanded_of_row (C := Tryz.checked) (s := Rows.OpenSpec.upto Rows.typesFieldsSpec) own started (by kernel_rfl) Tryz.func3
    (witness_row_shaped (enc := enc) (C := Tryz.checked) false (World.laidAll Tryz.prog os Rows.typesFieldsUptoRow.laid) #[.agg #[.string ⟨#[]⟩, .slice none 0 0], .string ⟨#[]⟩, .slice none 0 0] (World.laidAll_os _ _ _) (World.shaped_of_ZipB (by kernel_rfl) (by kernel_rfl)) (by kernel_rfl)
      (OpenSpec.preRow_of_cond 8 hx (by kernel_rfl) (fun k hk => by cases hk; kernel_rfl) (by kernel_rfl) (laid_met os _))) ?_
  intro W base args ds gs before hval hW _ hcond _ hL _ _
  exact typesFields_contract H enc W base args ds gs before hval hW hL (hcond _ rfl)
theorem typesFields_said : Rows.TypesFieldsUptoSaid :=
  OpenClaim.holds_of_cond 3 Tryz.f3 rfl rfl rfl rfl rfl rfl rfl ⟨rfl, rfl, rfl, rfl, rfl⟩ rfl rfl rfl rfl rfl (by kernel_rfl) Tryz.func3 (by kernel_rfl)
    (of_decide_eq_true (by kernel_rfl)) (by unfold Func.isWrapper; rw [if_neg (of_decide_eq_false (by kernel_rfl))]; exact ⟨rfl, rfl⟩)
    (fun os started H enc _ F => by rw [OpenClaim.pre_eq_preRow]; exact typesFields_lifted os started H enc F)
theorem typesFields_plain (f : FuncId) (fn : Func) (hf : Tryz.pinned.checked.prog.funcNamed "marquee/marqueelaw11.TypesFields" = some f) (hfn : Tryz.pinned.checked.prog.funcs[f]? = some fn) :
    true = Tryz.pinned.checked.prog.looks [] ∧ ∀ (j : Nat) t, fn.params[j]? = some t → Tryz.pinned.checked.prog.wantsStandIn t = false := by
  obtain rfl : f = 3 := Option.some.inj ((show Tryz.prog.funcNamed "marquee/marqueelaw11.TypesFields" = some 3 by kernel_rfl).symm.trans hf) |>.symm
  obtain rfl : fn = Tryz.f3 := (Option.some.inj (Tryz.func3.symm.trans hfn)).symm
  refine ⟨by kernel_rfl, fun j t ht => ?_⟩
  rw [Tryz.params3] at ht
  have hm := Array.mem_of_getElem? ht
  simp only [List.mem_toArray, List.mem_cons, List.not_mem_nil, or_false] at hm
  rcases hm with rfl | rfl | rfl
  · exact (show Tryz.prog.wantsStandIn 24 = false by kernel_rfl)
  · exact (show Tryz.prog.wantsStandIn 9 = false by kernel_rfl)
  · exact (show Tryz.prog.wantsStandIn 25 = false by kernel_rfl)
theorem typesFields_card : Rows.TypesFieldsUptoCardSaid :=
  Claim7.holds_tied_plain_at .later [] _ _ _ _ typesFields_said (fun _ h => by cases h) (by kernel_rfl) (fun _ h => by cases h) typesFieldsUpto_row_tie rfl ⟨rfl, rfl⟩ (by kernel_rfl) rfl typesFields_plain (by kernel_rfl)
#print axioms typesFields_card
end Go.Proofs.YtemfgdhcmeimoaaGreatDoor
