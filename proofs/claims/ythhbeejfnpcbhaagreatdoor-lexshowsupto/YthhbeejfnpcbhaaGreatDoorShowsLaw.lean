/- For any tokens: as a source they are as the document says; the words, too. Where what is read is of bulk at most 1048576. Without a condition but the card's own: the package variables that the row lists hold what their text lays. -/
import Derived.Test.YthhbeejfnpcbhaaGreatDoorSd
import Derived.Test.YthhbeejfnpcbhaaGreatDoorFrm
import Derived.Deep.SlicePairs
namespace Go.Proofs.YthhbeejfnpcbhaaGreatDoor
open Go.Shelf Go.ChangeShapes Go.WideShapes Go.ChangeAt Go.RowKit Go.Lib Go.Joins
open Go.WideMaps Go.WideElems
open Go.ChangeMaps (open_string shut_string)

theorem cells37 : Tryz.prog.cellsOf 37 = 4 := by kernel_rfl
theorem bulk_one {H : Type} (d : DataW H) : 1 ≤ Rows.uptoBulk d := by
  cases d with
  | lit l => cases l <;> simp [Rows.uptoBulk]
  | _ => simp [Rows.uptoBulk]
theorem bulk_len {H : Type} (l : List (DataW H)) : l.length ≤ Rows.uptoBulkAll l := by
  induction l with
  | nil => exact Nat.zero_le _
  | cons x l ih => have := bulk_one x; simp only [Rows.uptoBulkAll, List.length_cons]; omega
theorem bulk_mem {H : Type} {d : DataW H} {l : List (DataW H)} (h : d ∈ l) : Rows.uptoBulk d ≤ Rows.uptoBulkAll l := by
  induction l with
  | nil => cases h
  | cons x l ih =>
    simp only [Rows.uptoBulkAll]
    rcases List.mem_cons.1 h with rfl | h
    · omega
    · have := ih h; omega
theorem wf_int {z : Int} (h : (Lit.int .i64 z).wf = true) : -9223372036854775808 ≤ z ∧ z ≤ 9223372036854775807 := by
  simp only [Lit.wf, Bool.and_eq_true, decide_eq_true_eq] at h
  exact h
section
variable {H : Type} {enc : TypeId × Value → H} {W : World} {base : Nat} {spare : Nat → Bool} {held : Bool}
set_option maxRecDepth 100000 in
/-- Tokens that came in. -/
theorem open_toks {fuel : Nat} {v : Value} {x : DataW H × List MemPlace} (h : DataW.trod enc Tryz.prog W base spare held fuel 22 [v] = some x) :
    v = .slice none 0 0 ∨ ∃ ad cap r, v = .slice (some ad) r.length cap ∧ TksAt W (some ad) r ∧ (∀ t ∈ r, -9223372036854775808 ≤ t.1.2.2 ∧ t.1.2.2 ≤ 9223372036854775807 ∧ t.1.2.1.length ≤ Rows.uptoBulk x.1) ∧ r.length ≤ Rows.uptoBulk x.1 := by
  rcases Deep.open_slice Tryz.underlying22 h with ⟨hcs, _⟩ | ⟨a, len, cap, m, nn, D, Pl, hcs, _, hl, hm, hmm, hx, hall⟩
  · exact Or.inl (by simpa using hcs)
  right
  have hle : len ≤ m := by rw [hmm]; split <;> omega
  have hv : v = .slice (some a) len cap := by simpa using hcs
  have each : ∀ i, i < len → ∃ q : Tt, (W.cell? (a.add (i * 4)) = some (.int .i64 q.1.1) ∧ W.cell? (a.add (i * 4 + 1)) = some (.string (bsA q.1.2.1)) ∧ W.cell? (a.add (i * 4 + 2)) = some (.int .i64 q.1.2.2) ∧ W.cell? (a.add (i * 4 + 3)) = some (.int .i64 q.2)) ∧ ((-9223372036854775808 ≤ q.1.2.2 ∧ q.1.2.2 ≤ 9223372036854775807) ∧ q.1.2.1.length ≤ Rows.uptoBulk (D i)) := by
    intro i hi
    obtain ⟨cs', h1, h2⟩ := hall i (by omega)
    rw [cells37] at h1
    obtain ⟨_, hlen, hcell⟩ := World.cells?_some h1
    obtain ⟨xs, k, hk, hxy, _, hxl, hf⟩ := DataW.trod_struct Tryz.underlying37 h2
    match xs, hxl, cs', hlen with
    | [y0, y1, y2, y3], _, [v0, v1, v2, v3], _ =>
      have g0 := hf 0 _ rfl
      have g1 := hf 1 _ rfl
      have g2 := hf 2 _ rfl
      have g3 := hf 3 _ rfl
      simp [cells3, cells9] at g0 g1 g2 g3
      obtain ⟨z0, e0, _, _⟩ := DataW.trod_int Tryz.underlying3 g0
      obtain ⟨z1, e1, u1, _⟩ := DataW.trod_string Tryz.underlying9 g1
      obtain ⟨z2, e2, _, w2⟩ := DataW.trod_int Tryz.underlying3 g2
      obtain ⟨z3, e3, _, _⟩ := DataW.trod_int Tryz.underlying3 g3
      have c0 := hcell 0 (by omega)
      have c1 := hcell 1 (by omega)
      have c2 := hcell 2 (by omega)
      have c3 := hcell 3 (by omega)
      rw [Deep.add_add] at c0 c1 c2 c3
      simp only [List.cons.injEq, and_true] at e0 e1 e2 e3
      subst e0 e1 e2 e3
      have hd : D i = .agg [y0.1, y1.1, y2.1, y3.1] := congrArg Prod.fst hxy
      have hb : z1.data.toList.length ≤ Rows.uptoBulk (D i) := by
        rw [hd, u1]
        simp only [Rows.uptoBulk, Rows.uptoBulkAll]
        omega
      refine ⟨((z0, z1.data.toList, z2), z3), ⟨by simpa using c0, ?_, by simpa using c2, by simpa using c3⟩, wf_int w2, hb⟩
      rw [bsA_of]
      simpa using c1
  obtain ⟨q, hq⟩ := Deep.choose_lt each
  have key : ∀ i t, ((List.range len).map q)[i]? = some t → i < len ∧ t = q i := fun i t hi => by
    rw [List.getElem?_map] at hi
    rcases Nat.lt_or_ge i len with h | h
    · rw [List.getElem?_range h] at hi
      exact ⟨h, by simpa using hi.symm⟩
    · rw [List.getElem?_eq_none (by simpa using h)] at hi
      cases hi
  refine ⟨a, cap, (List.range len).map q, by simpa using hv, ?_, ?_, ?_⟩
  · rcases Nat.eq_zero_or_pos len with h0 | h0
    · exact Or.inl (by simp [h0])
    obtain ⟨b, off, spot⟩ := a
    have hspot : spot = none := by simpa [Addr.add] using World.cell?_spot (hq 0 (by omega)).1.1
    subst hspot
    refine Or.inr ⟨b, off, rfl, fun i t hi => ?_⟩
    obtain ⟨h1, rfl⟩ := key i t hi
    have g := (hq i h1).1
    rw [WideShapes.add_plain, WideShapes.add_plain, WideShapes.add_plain, WideShapes.add_plain] at g
    exact g
  · intro t ht
    obtain ⟨i, hi, rfl⟩ := List.mem_map.1 ht
    have hi' := List.mem_range.1 hi
    obtain ⟨⟨u1, u2⟩, u3⟩ := (hq i hi').2
    refine ⟨u1, u2, Nat.le_trans u3 ?_⟩
    rw [hx]
    simp only [Rows.uptoBulk]
    have := bulk_mem (l := (List.range len).map D) (List.mem_map.2 ⟨i, hi, rfl⟩)
    omega
  · rw [hx]
    simp only [Rows.uptoBulk]
    have := bulk_len ((List.range len).map D)
    simp at this ⊢; omega
set_option maxRecDepth 100000 in
theorem open_tokens {b0 : Nat} {v : Value} {d : DataW H} {p : List MemPlace} (hv : Value.okWide Tryz.prog W .any b0 22 v) (h : DataW.Trod enc Tryz.prog W base spare held 22 v d p) :
    v = .slice none 0 0 ∨ ∃ ad cap r, v = .slice (some ad) r.length cap ∧ TksAt W (some ad) r ∧ (∀ t ∈ r, -9223372036854775808 ≤ t.1.2.2 ∧ t.1.2.2 ≤ 9223372036854775807 ∧ t.1.2.1.length ≤ Rows.uptoBulk d) ∧ r.length ≤ Rows.uptoBulk d := by
  obtain ⟨a, len, cap, rfl⟩ := okWide_slice Tryz.underlying22 hv
  obtain ⟨fuel, hf⟩ := h
  exact open_toks (by simpa [Value.cells] using hf)
end
theorem lexShows_walk {W : World} {v : Value} {B : Nat} (hR : Rdy W) (hB : B ≤ 1048576)
    (h : v = .slice none 0 0 ∨ ∃ ad cap r, v = .slice (some ad) r.length cap ∧ TksAt W (some ad) r ∧ (∀ t ∈ r, -9223372036854775808 ≤ t.1.2.2 ∧ t.1.2.2 ≤ 9223372036854775807 ∧ t.1.2.1.length ≤ B) ∧ r.length ≤ B) :
    Calls Tryz.prog 4 #[v] W fun e w' => e = .returned (.bool true) ∧ Below W.heap.size W w' := by
  rcases h with rfl | ⟨ad, cap, r, rfl, hT, hN, hl⟩
  · exact lexShows_nil W hR
  · refine lexShows_some ad cap r W hR (by omega) (fun t ht => ?_) hT
    obtain ⟨h1, h2, h3⟩ := hN t ht
    have := shP_lenZ h1 h2
    exact ⟨h1, h2, by omega, by omega⟩
set_option maxRecDepth 100000 in
theorem lexShows_contract (H : Type) (enc : TypeId × Value → H) (W : World) (base : Nat) (args : Array Value) (ds gs : List (DataW H)) (before : List MemPlace)
    (hval : ∀ (j : Nat) t v, Tryz.f4.params[j]? = some t → args[j]? = some v → Value.okWide Tryz.prog W .any base t v)
    (hW : DataW.Whole enc Tryz.prog Tryz.f4.params.toList Rows.lexShowsSpec.vars false W args.toList ds gs before) (hL : laidMetH Tryz.prog Rows.lexShowsRow.laid W) (hsh : W.ShapedOpen Tryz.prog)
    (hk : Rows.uptoSmall H (ds ++ gs) = true) :
    Calls Tryz.prog 4 args W fun e W' => ∃ v, e = .returned v ∧ Rows.lexShowsSpec.post enc Tryz.prog Tryz.f4 false true false false W args v W' := by
  have hW' := hW
  obtain ⟨p, q, hA0, hV, rfl, hfz, hnd⟩ := hW
  have hA : DataW.TrodAll enc Tryz.prog W 0 (fun _ => true) true Tryz.f4.params.toList args.toList ds p := hA0
  rw [Tryz.params4] at hA hval
  obtain ⟨v0, d0, rfl, rfl, h0⟩ := trodAll_one hA
  obtain ⟨rfl, rfl⟩ := trodVars_none hV
  clear hA0
  simp only [List.append_nil] at hW'
  have hlt : ∀ x ∈ p, x.block < W.heap.size := fun x hx => by simpa using hW'.lt x (by simpa using hx)
  have l0 : ∀ x ∈ p, x.block < W.heap.size := fun x hx => hlt x (by simp [hx])
  have kept0 := h0
  have hbulk : Rows.uptoBulkAll [d0] ≤ 1048576 := by
    have h : Rows.uptoBulkAll ([d0] ++ []) ≤ 1048576 := of_decide_eq_true hk
    simpa only [List.append_nil] using h
  simp only [Rows.uptoBulkAll] at hbulk
  have hop := open_tokens (hval 0 22 v0 rfl rfl) h0
  have hR : Rdy W := rdy_of hL hsh
  refine (lexShows_walk hR (by omega) hop).mono fun e W' ⟨he, hb⟩ => ?_
  subst he
  refine ⟨_, rfl, _, _, _, [], p, [], hW', ?_, ?_, ?_, hb.frame _, fun h => by cases h⟩
  · exact trodAll_mk1 (shut_bool Tryz.underlying4 true)
  · exact trodAll_mk1 (Below.trod laidOut (by kernel_rfl) (of_decide_eq_true (by kernel_rfl)) kept0 hb l0)
  · rfl
theorem lexShows_reads (os : Os) {H : Type} (enc : TypeId × Value → H) :
    ∃ places, DataW.whole enc Tryz.prog ((World.laidAll Tryz.prog os Rows.lexBackRow.laid).forCall (fun _ _ => 0) ⟨#[], #[.slice none 0 0], []⟩).memory Tryz.f4.params.toList Rows.lexShowsSpec.vars false #[Value.slice none 0 0].toList 8 =
      some ([.nil], [], places) := ⟨[], by kernel_rfl⟩
set_option maxRecDepth 100000 in
theorem lexShows_lifted (os : Os) (started : os.Started) (H : Type) (enc : TypeId × Value → H) (F : Stop.Interp) :
    ReturnsInHanded {} Tryz.checked os 4 .any ((Rows.OpenSpec.upto Rows.lexShowsSpec).preRow enc Tryz.prog Tryz.f4 Rows.lexShowsUptoRow.domain false Rows.lexShowsUptoRow.laid) (((Rows.OpenSpec.upto Rows.lexShowsSpec).at F).post enc Tryz.prog Tryz.f4 false true false false) := by
  obtain ⟨places, hx⟩ := lexShows_reads os enc
  refine returnsInHanded_of_row (C := Tryz.checked) (s := Rows.OpenSpec.upto Rows.lexShowsSpec) own started (by kernel_rfl) Tryz.func4
    (witness_row_shaped (enc := enc) (C := Tryz.checked) false (World.laidAll Tryz.prog os Rows.lexBackRow.laid) #[.slice none 0 0] (World.laidAll_os _ _ _) (World.shaped_of_ZipB (by kernel_rfl) (by kernel_rfl)) (by kernel_rfl)
      (OpenSpec.preRow_of_cond 8 hx (by kernel_rfl) (fun k hk => by cases hk; kernel_rfl) (by kernel_rfl) (laid_met os _))) ?_
  intro W base args ds gs before hval hW _ hcond _ hL hsh _
  exact lexShows_contract H enc W base args ds gs before hval hW hL hsh (hcond _ rfl)
theorem lexShows_said : Rows.LexShowsUptoSaid :=
  OpenClaim.holds_of_cond 4 Tryz.f4 rfl rfl rfl rfl rfl rfl rfl ⟨rfl, rfl, rfl, rfl, rfl⟩ rfl rfl rfl rfl rfl (by kernel_rfl) Tryz.func4 (by kernel_rfl)
    (of_decide_eq_true (by kernel_rfl)) (by unfold Func.isWrapper; rw [if_neg (of_decide_eq_false (by kernel_rfl))]; exact ⟨rfl, rfl⟩)
    (fun os started H enc _ F => by rw [OpenClaim.pre_eq_preRow]; exact lexShows_lifted os started H enc F)
theorem lexShows_plain (f : FuncId) (fn : Func) (hf : Tryz.pinned.checked.prog.funcNamed "marquee/marqueelaw05.LexShows" = some f) (hfn : Tryz.pinned.checked.prog.funcs[f]? = some fn) :
    true = Tryz.pinned.checked.prog.looks [] ∧ ∀ (j : Nat) t, fn.params[j]? = some t → Tryz.pinned.checked.prog.wantsStandIn t = false := by
  obtain rfl : f = 4 := Option.some.inj ((show Tryz.prog.funcNamed "marquee/marqueelaw05.LexShows" = some 4 by kernel_rfl).symm.trans hf) |>.symm
  obtain rfl : fn = Tryz.f4 := (Option.some.inj (Tryz.func4.symm.trans hfn)).symm
  refine ⟨by kernel_rfl, fun j t ht => ?_⟩
  rw [Tryz.params4] at ht
  obtain rfl : t = 22 := by simpa using Array.mem_of_getElem? ht
  exact (show Tryz.prog.wantsStandIn 22 = false by kernel_rfl)
theorem lexShows_card : Rows.LexShowsUptoCardSaid :=
  Claim7.holds_tied_plain_at .later [] _ _ _ _ lexShows_said (fun _ h => by cases h) (by kernel_rfl) (fun _ h => by cases h) lexShowsUpto_row_tie rfl ⟨rfl, rfl⟩ (by kernel_rfl) rfl lexShows_plain (by kernel_rfl)
#print axioms lexShows_card
end Go.Proofs.YthhbeejfnpcbhaaGreatDoor
