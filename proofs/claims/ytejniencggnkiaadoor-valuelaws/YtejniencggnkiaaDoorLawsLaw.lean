/- PROVED HERE: for any three values logic holds together: the opposite of both is one of the opposites and the other way round, order and brackets play no part, both spreads over one (ValueLaws returns true). -/
import Derived.Test.YtejniencggnkiaaDoorThree
import Derived.Test.YtejniencggnkiaaDoorLogic2
namespace Go.Proofs.YtejniencggnkiaaDoor
open Go.Shelf Go.ChangeShapes Go.WideShapes Go.ChangeAt Go.RowKit Go.Joins
attribute [local go_sem ↓] Go.wp_at_zero Go.wp_at_succ
theorem andT_le (x y : Nat) : andT x y ≤ 2 := by unfold andT; (repeat' split) <;> omega
theorem orT_le (x y : Nat) : orT x y ≤ 2 := by unfold orT; (repeat' split) <;> omega
theorem notT_le (x : Nat) : notT x ≤ 2 := by unfold notT; (repeat' split) <;> omega
theorem law1 {x y : Nat} (hx : x ≤ 2) (hy : y ≤ 2) : notT (andT x y) = orT (notT x) (notT y) ∧ notT (orT x y) = andT (notT x) (notT y) ∧ andT y x = andT x y ∧ orT y x = orT x y := by
  rcases le2 hx with rfl | rfl | rfl <;> rcases le2 hy with rfl | rfl | rfl <;> decide
theorem law2 {x y z : Nat} (hx : x ≤ 2) (hy : y ≤ 2) (hz : z ≤ 2) : andT x (andT y z) = andT (andT x y) z ∧ andT x (orT y z) = orT (andT x y) (andT x z) := by
  rcases le2 hx with rfl | rfl | rfl <;> rcases le2 hy with rfl | rfl | rfl <;> rcases le2 hz with rfl | rfl | rfl <;> decide
set_option maxHeartbeats 16000000 in
theorem valueLaws_walk (k n k' n' k'' n'' : Int) (t t' t'' : ByteArray) (w : World) (hR : Ready w) : Calls Tryd.prog 6 #[.agg #[.int .i64 k, .int .i64 n, .string t, .int .i64 k', .int .i64 n', .string t', .int .i64 k'', .int .i64 n'', .string t'']] w fun e w' => e = .returned (.bool true) ∧ Below w.heap.size w w' := by
  have lx := lg_le k n
  have ly := lg_le k' n'
  have lz := lg_le k'' n''
  generalize hx : lg k n = x at *
  generalize hy : lg k' n' = y at *
  generalize hz : lg k'' n'' = z at *
  obtain ⟨e1, e2, e3, e4⟩ := law1 lx ly
  obtain ⟨e5, e6⟩ := law2 lx ly lz
  have eA : ∀ u v, lg (tk (andT u v)) (tn (andT u v)) = andT u v := fun u v => lg_t (andT_le u v)
  have eO : ∀ u v, lg (tk (orT u v)) (tn (orT u v)) = orT u v := fun u v => lg_t (orT_le u v)
  have eN : ∀ u, lg (tk (notT u)) (tn (notT u)) = notT u := fun u => lg_t (notT_le u)
  clear lx ly lz
  go_enter Tryd.func6, Tryd.ntmps6
  go_wp2_with fail
  go_cut [3, 4, 5] from 6 to 11 (fun s3 s4 s5 wx => ∃ b c d : Nat, s3 = .pointer (some ⟨b, 0, none⟩) ∧ s4 = .pointer (some ⟨c, 0, none⟩) ∧ s5 = .pointer (some ⟨d, 0, none⟩) ∧ wx.cell? ⟨b, 0, none⟩ = some (.int .i64 k) ∧ wx.cell? ⟨b, 1, none⟩ = some (.int .i64 n) ∧ wx.cell? ⟨b, 2, none⟩ = some (.string t) ∧ wx.cell? ⟨c, 0, none⟩ = some (.int .i64 k') ∧ wx.cell? ⟨c, 1, none⟩ = some (.int .i64 n') ∧ wx.cell? ⟨c, 2, none⟩ = some (.string t') ∧ wx.cell? ⟨d, 0, none⟩ = some (.int .i64 k'') ∧ wx.cell? ⟨d, 1, none⟩ = some (.int .i64 n'') ∧ wx.cell? ⟨d, 2, none⟩ = some (.string t'') ∧ b < wx.heap.size ∧ c < wx.heap.size ∧ d < wx.heap.size ∧ Below w.heap.size w wx)
  case first =>
    go_region_held3 (fun w' => w'.cell? ⟨w.heap.size, 0, none⟩ = some (.int .i64 k) ∧ w'.cell? ⟨w.heap.size, 1, none⟩ = some (.int .i64 n) ∧ w'.cell? ⟨w.heap.size, 2, none⟩ = some (.string t) ∧ w'.cell? ⟨w.heap.size, 3, none⟩ = some (.int .i64 k') ∧ w'.cell? ⟨w.heap.size, 4, none⟩ = some (.int .i64 n') ∧ w'.cell? ⟨w.heap.size, 5, none⟩ = some (.string t') ∧ w'.cell? ⟨w.heap.size, 6, none⟩ = some (.int .i64 k'') ∧ w'.cell? ⟨w.heap.size, 7, none⟩ = some (.int .i64 n'') ∧ w'.cell? ⟨w.heap.size, 8, none⟩ = some (.string t'')) (first | go_keep | (refine ⟨?_, ?_, ?_, ?_, ?_, ?_, ?_, ?_, ?_⟩ <;> go_simp)) (fail)
    all_goals go_wp2_with fail
    all_goals go_meet
    all_goals exact ⟨_, _, _, rfl, rfl, rfl, by go_simp, by go_simp, by go_simp, by go_simp, by go_simp, by go_simp, by go_simp, by go_simp, by go_simp, by simp <;> omega, by simp <;> omega, by simp <;> omega, (Bel.out (by repeat (first | exact Bel.refl _ | refine Bel.drew ?_ | refine Bel.drewN ?_ _ | refine Bel.alloc ?_ _ | refine Bel.setCell ?_ (by simp <;> omega) _ | refine Bel.step ?_ (by assumption))))⟩
  case rest =>
  obtain ⟨b, c, d, rfl, rfl, rfl, hcut⟩ := hcut
  go_wp2_with fail
  dsimp only [List.append]
  go_region_held3 (fun w' => w'.cell? ⟨b, 0, none⟩ = some (.int .i64 k) ∧ w'.cell? ⟨b, 1, none⟩ = some (.int .i64 n) ∧ w'.cell? ⟨b, 2, none⟩ = some (.string t) ∧ w'.cell? ⟨c, 0, none⟩ = some (.int .i64 k') ∧ w'.cell? ⟨c, 1, none⟩ = some (.int .i64 n') ∧ w'.cell? ⟨c, 2, none⟩ = some (.string t') ∧ w'.cell? ⟨d, 0, none⟩ = some (.int .i64 k'') ∧ w'.cell? ⟨d, 1, none⟩ = some (.int .i64 n'') ∧ w'.cell? ⟨d, 2, none⟩ = some (.string t'') ∧ b < w'.heap.size ∧ c < w'.heap.size ∧ d < w'.heap.size ∧ Below w.heap.size w w') (first | exact keep3 (by assumption) hb | exact keep3d hcut) (first | (go_at_call 14; refine (Not_any _ _ _ _).mono ?_; rintro e w' ⟨rfl, hb⟩) | (go_at_call 16; refine (And_any _ _ _ _ _ _ _).mono ?_; rintro e w' ⟨rfl, hb⟩) | (go_at_call 18; refine (Or_any _ _ _ _ _ _ _).mono ?_; rintro e w' ⟨rfl, hb⟩) | (go_at_call 13; refine (awake_any _ ?_).mono ?_; (exact ready3 hR (by assumption)); rintro e w' ⟨rfl, hb⟩))
  go_wp2
  go_ret
  exact ⟨by simp, last3 (by assumption)⟩

set_option maxRecDepth 100000 in
theorem valueLaws_contract (H : Type) (enc : TypeId × Value → H) (W : World) (base : Nat) (args : Array Value) (ds gs : List (DataW H)) (before : List MemPlace)
    (hval : ∀ (j : Nat) t v, Tryd.f6.params[j]? = some t → args[j]? = some v → Value.okWide Tryd.prog W .any base t v)
    (hW : DataW.Whole enc Tryd.prog Tryd.f6.params.toList Rows.valueLawsSpec.vars false W args.toList ds gs before) (hL : laidMetH Tryd.prog Rows.valueLawsRow.laid W) (hsh : W.ShapedOpen Tryd.prog) :
    Calls Tryd.prog 6 args W fun e W' => ∃ v, e = .returned v ∧ Rows.valueLawsSpec.post enc Tryd.prog Tryd.f6 false true false false W args v W' := by
  have hW' := hW
  obtain ⟨p, q, hA0, hV, rfl, hfz, hnd⟩ := hW
  have hA : DataW.TrodAll enc Tryd.prog W 0 (fun _ => true) true Tryd.f6.params.toList args.toList ds p := hA0
  rw [Tryd.params6] at hA hval
  obtain ⟨v0, d0, rfl, rfl, h0⟩ := trodAll_one hA
  obtain ⟨rfl, rfl⟩ := trodVars_none hV
  obtain ⟨k, n, k', n', k'', n'', t, t', t'', rfl, rfl, wn, wn', wn''⟩ := open_arr (hval 0 35 v0 rfl rfl) h0
  clear hA0
  simp only [List.append_nil] at hW'
  have hR : Ready W := ready_of (Lib.laidMet.reads hL (.tail _ (.tail _ (.head _)))) (Lib.laidMet.reads hL (.tail _ (.tail _ (.tail _ (.head _))))) (Lib.laidMet.reads hL (.tail _ (.tail _ (.tail _ (.tail _ (.head _)))))) hsh

  refine (valueLaws_walk k n k' n' k'' n'' t t' t'' W hR).mono fun e W' ⟨he, hb⟩ => ?_
  subst he
  refine ⟨_, rfl, _, _, _, [], [], [], hW', ?_, ?_, ?_, hb.frame _, fun h => by cases h⟩
  · exact trodAll_mk1 (shut_bool Tryd.underlying4 true)
  · exact trodAll_mk1 (Below.trod laidOut (by kernel_rfl) (of_decide_eq_true (by kernel_rfl)) h0 hb (fun x hx => by cases hx))
  · rfl
theorem valueLaws_reads (os : Os) {H : Type} (enc : TypeId × Value → H) :
    ∃ places, DataW.whole enc Tryd.prog ((laidW Tryd.prog os).forCall (fun _ _ => 0) ⟨#[], #[.agg #[.int .i64 0, .int .i64 0, .string ⟨#[]⟩, .int .i64 0, .int .i64 0, .string ⟨#[]⟩, .int .i64 0, .int .i64 0, .string ⟨#[]⟩]], []⟩).memory Tryd.f6.params.toList Rows.valueLawsSpec.vars false #[Value.agg #[.int .i64 0, .int .i64 0, .string ⟨#[]⟩, .int .i64 0, .int .i64 0, .string ⟨#[]⟩, .int .i64 0, .int .i64 0, .string ⟨#[]⟩]].toList 8 =
      some ([.agg [.agg [.lit (.int .i64 0), .lit (.int .i64 0), .lit (.string [])], .agg [.lit (.int .i64 0), .lit (.int .i64 0), .lit (.string [])], .agg [.lit (.int .i64 0), .lit (.int .i64 0), .lit (.string [])]]], [], places) := ⟨[], by kernel_rfl⟩
set_option maxRecDepth 100000 in
theorem valueLaws_lifted (os : Os) (started : os.Started) (H : Type) (enc : TypeId × Value → H) (F : Stop.Interp) :
    ReturnsInHanded {} Tryd.checked os 6 .any ((OpenSpec.ofChange Rows.valueLawsSpec).preRow enc Tryd.prog Tryd.f6 Rows.valueLawsRow.domain false Rows.valueLawsRow.laid) (((OpenSpec.ofChange Rows.valueLawsSpec).at F).post enc Tryd.prog Tryd.f6 false true false false) := by
  obtain ⟨places, hx⟩ := valueLaws_reads os enc
  refine returnsInHanded_of_row (C := Tryd.checked) (s := OpenSpec.ofChange Rows.valueLawsSpec) own started (by kernel_rfl) Tryd.func6
    (witness_row_atRef (enc := enc) (C := Tryd.checked) false (laidW Tryd.prog os) #[.agg #[.int .i64 0, .int .i64 0, .string ⟨#[]⟩, .int .i64 0, .int .i64 0, .string ⟨#[]⟩, .int .i64 0, .int .i64 0, .string ⟨#[]⟩]] rfl (by kernel_rfl) (by kernel_rfl) (by kernel_rfl)
      (OpenSpec.preRow_of_cond 8 hx (by kernel_rfl) (fun k hk => by cases hk) (by kernel_rfl) (laid_met5 os _))) ?_
  intro W base args ds gs before hval hW _ _ _ hL hsh _
  exact valueLaws_contract H enc W base args ds gs before hval hW hL hsh
theorem valueLaws_said : Rows.ValueLawsSaid :=
  OpenClaim.holds_of_cond 6 Tryd.f6 rfl rfl rfl rfl rfl rfl rfl ⟨rfl, rfl, rfl, rfl, rfl⟩ rfl rfl rfl rfl rfl (by kernel_rfl) Tryd.func6 (by kernel_rfl)
    (of_decide_eq_true (by kernel_rfl)) (by unfold Func.isWrapper; rw [if_neg (of_decide_eq_false (by kernel_rfl))]; exact ⟨rfl, rfl⟩)
    (fun os started H enc _ F => by rw [OpenClaim.pre_eq_preRow]; exact valueLaws_lifted os started H enc F)
theorem valueLaws_plain (f : FuncId) (fn : Func) (hf : Tryd.pinned.checked.prog.funcNamed "marquee/marqueelaw01.ValueLaws" = some f) (hfn : Tryd.pinned.checked.prog.funcs[f]? = some fn) :
    false = Tryd.pinned.checked.prog.looks [] ∧ ∀ (j : Nat) t, fn.params[j]? = some t → Tryd.pinned.checked.prog.wantsStandIn t = false := by
  obtain rfl : f = 6 := Option.some.inj ((show Tryd.prog.funcNamed "marquee/marqueelaw01.ValueLaws" = some 6 by kernel_rfl).symm.trans hf) |>.symm
  obtain rfl : fn = Tryd.f6 := (Option.some.inj (Tryd.func6.symm.trans hfn)).symm
  refine ⟨by kernel_rfl, fun j t ht => ?_⟩
  rw [Tryd.params6] at ht
  obtain rfl : t = 35 := by simpa using Array.mem_of_getElem? ht
  exact (show Tryd.prog.wantsStandIn 35 = false by kernel_rfl)
theorem valueLaws_card : Rows.ValueLawsCardSaid :=
  Claim7.holds_tied_plain_at .later [] _ _ _ _ valueLaws_said (fun _ h => by cases h) (by kernel_rfl) (fun _ h => by cases h) valueLaws_row_tie rfl ⟨rfl, rfl⟩ (by kernel_rfl) rfl valueLaws_plain (by kernel_rfl)
#print axioms valueLaws_card
end Go.Proofs.YtejniencggnkiaaDoor
