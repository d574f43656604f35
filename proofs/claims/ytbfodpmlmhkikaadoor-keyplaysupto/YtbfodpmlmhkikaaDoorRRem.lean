/- The document's map: a row is taken out. -/
import Derived.Test.YtbfodpmlmhkikaaDoorRNew
namespace Go.Proofs.YtbfodpmlmhkikaaDoor
open Go.ChangeShapes Go.WideShapes Go.ChangeAt Go.RowKit

theorem owns_mono {w : World} {base base' e size n : Nat} {v : Value} {xs : List Value} (h : w.ownsRow base e size v n xs) (hb : base' ≤ base) : w.ownsRow base' e size v n xs := by
  obtain ⟨h0, ⟨h1, h2⟩ | ⟨g, cap, cur, h1, h2, h3⟩⟩ := h
  · exact ⟨h0, Or.inl ⟨h1, h2⟩⟩
  · exact ⟨h0, Or.inr ⟨g, cap, cur, h1, Nat.le_trans hb h2, h3⟩⟩
theorem prC_erase (P : List Ent) (i : Nat) : prC (P.eraseIdx i) = prC (P.take i) ++ prC (P.drop (i + 1)) := by
  rw [List.eraseIdx_eq_take_drop_succ, prC_app]
theorem prC_split (P : List Ent) (i : Nat) : prC P = prC (P.take i) ++ prC (P.drop i) := by
  rw [← prC_app, List.take_append_drop]
/-- The map when its slice was laid anew without the i-th pair and is stored again. -/
theorem RfAt.less {w w2 w3 w4 : World} {X B i : Nat} {v v3 v4 : Value} {P : List Ent} (h : RfAt w X B v P) (hi : i < P.length) (hB2 : Below w.heap.size w w2) (hB3 : Below w2.heap.size w2 w3) (hBw : B ≤ w.heap.size)
    (hv3 : ∀ k, v3.ownBlock = some k → w2.heap.size ≤ k ∧ k < w3.heap.size)
    (hown : w4.ownsRow w2.heap.size 82 2 v4 (i + (P.length - (i + 1))) (prC (P.take i) ++ prC (P.drop (i + 1)))) (hgrow : w3.grownBy w4 v3.ownBlock) (_hloc : v4.ownBlock = v3.ownBlock ∨ v4.ownBlock = some w3.heap.size) :
    RfAt (w4.setCell ⟨X, 0, none⟩ v4) X B v4 (P.eraseIdx i) ∧ Fr (fun k => k = X) w w4 ∧ w4.cell? ⟨X, 0, none⟩ = some v ∧ ∀ k, v4.ownBlock = some k → w.heap.size ≤ k := by
  have hXl : X < w.heap.size := cell_lt h.c
  have hv4 : ∀ k, v4.ownBlock = some k → w.heap.size ≤ k := fun k hk => Nat.le_trans hB2.size (hown.lt k hk).1
  have hB4 : Below w.heap.size w w4 := (hB2.trans (hB3.mono hB2.size)).grown hgrow (Nat.le_trans hB2.size hB3.size) (fun j hj => Nat.le_trans hB2.size (hv3 j hj).1)
  have h4 := h.below hB4
  have hFs : Fr (fun k => k = X) w4 (w4.setCell ⟨X, 0, none⟩ v4) := (Fr.refl (fun k => k = X) w4).setCell (p := ⟨X, 0, none⟩) (Or.inl rfl) _
  have hn4 : v4.ownBlock ≠ some X := fun e => by have := hv4 X e; omega
  have hle : (P.eraseIdx i).length = i + (P.length - (i + 1)) := by rw [List.length_eraseIdx, if_pos hi]; omega
  refine ⟨⟨World.cell?_setCell_same _ _ _ h4.c, by rw [World.frozen?_setCell]; exact h4.f, ?_, fun x hx => ?_, hn4⟩, Fr.of hB4, h4.c, hv4⟩
  · rw [hle, prC_erase]
    exact (owns_mono hown (Nat.le_trans hBw hB2.size)).kept (row := some X) ⟨hFs.os, hFs.tape, hFs.output, hFs.size, fun k hk hne => hFs.block k hk (fun e => hne (by rw [e]))⟩ (Or.inr hn4)
  · have hxP := List.mem_of_mem_eraseIdx hx
    refine ⟨hFs.vals (h4.rows x hxP).1 (fun g o e => ((h4.rows x hxP).2 g o e).2.2.1), fun g o e => ?_⟩
    obtain ⟨b1, b2, b3, _⟩ := (h.rows x hxP).2 g o e
    refine ⟨b1, Nat.lt_of_lt_of_le b2 (Nat.le_trans hB4.size hFs.size), b3, fun e2 => ?_⟩
    have := hv4 g e2; omega
set_option maxRecDepth 20000 in
set_option maxHeartbeats 2000000 in
theorem RRemove_yes (X B : Nat) (v : Value) (P : List Ent) (a : Option Addr) (cap : Nat) (r : List Val) (w : World) (hM : RfAt w X B v P) (hBw : B ≤ w.heap.size) (hL : P.length ≤ 4000000) (hl : ∀ i, (pAt P i).row.length ≤ 9223372036854775807) (hr : RowAt w a r) (i : Nat) (hi : i < P.length) (hf : fnI P r = i) :
    Calls Tryd.prog 18 #[.pointer (some ⟨X, 0, none⟩), .slice a r.length cap] w fun e w' => e = .returned (.bool true) ∧ ∃ v', RfAt w' X B v' (P.eraseIdx i) ∧ Fr (fun k => k = X) w w' ∧ ∀ k, v'.ownBlock = some k → w.heap.size ≤ k := by
  have h2 := rfind_any X v P a cap r w hM.c hM.view (by omega) hl hr
  rw [hf] at h2
  obtain ⟨j0, ji, jz0, jz1, jz2⟩ := info_parts info82
  have hvs : ∃ g capL, v = .slice (some ⟨g, 0, none⟩) P.length capL ∧ P.length ≤ capL := by
    obtain ⟨hlen, ⟨rfl, h0⟩ | ⟨g, cap, cur, rfl, hbg, hg, hcap, hcm, hcs, htake⟩⟩ := hM.own
    · omega
    · exact ⟨g, cap, rfl, hcap⟩
  obtain ⟨g, capL, rfl, hcl⟩ := hvs
  have HM : Hid (RfAt w X B (.slice (some ⟨g, 0, none⟩) P.length capL) P) := hM
  have hX := hM.c
  have ei1 : ((0 : Int) ≤ (i : Int)) = True := eq_true (by omega)
  clear hM hl hr hf
  go_enter Tryd.func18, Tryd.ntmps18
  go_wp2_with fail
  refine h2.mono ?_
  rintro e w2 ⟨rfl, hB2⟩
  have dX := cell_below hB2 hX
  clear h2 hX
  have HM2 : Hid (RfAt w2 X B (.slice (some ⟨g, 0, none⟩) P.length capL) P) := HM.out.below hB2
  have hcells : ∀ j u, (prC P)[j]? = some u → w2.cell? ((⟨g, 0, none⟩ : Addr).add j) = some u := HM2.out.own.cells (g := g) rfl
  have hne1 : Hid (∀ j u, (prC (P.take i))[j]? = some u → w2.cell? ((⟨g, 0, none⟩ : Addr).add j) = some u) := fun j u hj => hcells j u (by rw [prC_split P i, List.getElem?_append_left (List.getElem?_eq_some_iff.1 hj).1]; exact hj)
  have hln1 : Hid ((prC (P.take i)).length = i * 2) := by show _ = _; rw [prC_len, List.length_take, Nat.min_eq_left (by omega)]
  have hone1 : Hid _ := prC_one (P.take i)
  have hown0 : w2.ownsRow w2.heap.size 82 2 (.slice none 0 0) 0 [] := World.ownsRow_nil _ _ _ _
  have HC : Hid _ := hcells
  have hn1 : 0 + i ≤ maxLen := by unfold maxLen; omega
  have hby1 : (0 + i) * 32 ≤ 140737488355328 := by omega
  have hbase : w2.heap.size ≤ w2.heap.size := Nat.le_refl _
  clear hcells
  go_wp2_with (at_builtin; refine wpList_append_own _ rfl _ _ 40 rfl w2.heap.size 82 j0 (.agg #[.slice none 0 0, .int .i64 0]) 2 32 Tryd.underlying40 ji jz0 jz1 jz2 rfl (by decide) _ 0 [] rfl hown0 ⟨g, 0, none⟩ i capL (prC (P.take i)) rfl hln1.out hne1.out hone1.out hn1 hby1 hbase ?_)
  intro v3 w3 hown3 hgrow3 hi3
  clear hi3
  have hB3 : Below w2.heap.size w2 w3 := (Below.refl _ _).grown hgrow3 (Nat.le_refl _) (fun kk hk => by cases hk)
  have dX3 := cell_below hB3 dX
  have HO3 : Hid (w3.ownsRow w2.heap.size 82 2 v3 i (prC (P.take i))) := hown3
  have hne2 : Hid (∀ j u, (prC (P.drop (i + 1)))[j]? = some u → w3.cell? ((⟨g, (i + 1) * 2, none⟩ : Addr).add j) = some u) := fun j u hj => by
    have h1 := HC.out ((i + 1) * 2 + j) u (by
      rw [prC_split P (i + 1), List.getElem?_append_right (by rw [prC_len, List.length_take, Nat.min_eq_left (by omega)]; omega), prC_len, List.length_take, Nat.min_eq_left (by omega)]
      rw [Nat.add_sub_cancel_left]; exact hj)
    rw [add_plain, Nat.zero_add] at h1
    rw [add_plain]
    exact cell_below hB3 h1
  have hln2 : Hid ((prC (P.drop (i + 1))).length = (P.length - (i + 1)) * 2) := by show _ = _; rw [prC_len, List.length_drop]
  have hone2 : Hid _ := prC_one (P.drop (i + 1))
  have hn2 : i + (P.length - (i + 1)) ≤ maxLen := by unfold maxLen; omega
  have hby2 : (i + (P.length - (i + 1))) * 32 ≤ 140737488355328 := by omega
  have hbase2 : w2.heap.size ≤ w3.heap.size := hB3.size
  clear hown3 hgrow3 hne1 hln1 hone1 hown0 hn1 hby1 hbase HC
  by_cases hce : capL = i + 1
  · have hne3 : Hid (∀ j u, ([] : List Value)[j]? = some u → w3.cell? ((⟨g, 0, none⟩ : Addr).add j) = some u) := fun j u hj => by simp at hj
    have hone3 : Hid (∀ u ∈ ([] : List Value), u.oneCell' = true) := fun u hu => by cases hu
    have HZ : Hid (P.length - (i + 1) = 0) := by show _ = _; omega
    have HD : Hid (prC (P.drop (i + 1)) = []) := by show _ = _; rw [List.drop_of_length_le (by omega)]; rfl
    have hn3 : i + 0 ≤ maxLen := by unfold maxLen; omega
    have hby3 : (i + 0) * 32 ≤ 140737488355328 := by omega
    subst hce
    clear hne2
    go_wp2_with (at_builtin; refine wpList_append_own_at _ rfl _ _ 40 rfl w2.heap.size 82 j0 (.agg #[.slice none 0 0, .int .i64 0]) 2 32 Tryd.underlying40 ji jz0 jz1 jz2 rfl (by decide) _ _ _ rfl HO3.out ⟨g, 0, none⟩ 0 0 [] rfl rfl hne3.out hone3.out hn3 hby3 hbase2 ?_)
    intro v4 w4 hown4 hgrow4 _ hloc4
    obtain ⟨a4, l4, c4, rfl⟩ : ∃ a4 l4 c4, v4 = .slice a4 l4 c4 := by
      obtain ⟨_, ⟨rfl, _⟩ | ⟨g5, cap5, cur5, rfl, _⟩⟩ := hown4
      · exact ⟨_, _, _, rfl⟩
      · exact ⟨_, _, _, rfl⟩
    have hM4 := HM.out.less (i := i) hi hB2 hB3 hBw HO3.out.lt (by rw [HZ.out, HD.out]; simpa using hown4) hgrow4 hloc4
    have HM4 : Hid _ := hM4.1
    have HL4 : Hid _ := hM4.2.2.2
    have hF4 := hM4.2.1
    have hXc := hM4.2.2.1
    have hXf : w4.frozen? ⟨X, 0, none⟩ = false := by
      have := hM4.1.f
      rwa [World.frozen?_setCell] at this
    clear hown4 hgrow4 hloc4 hM4
    go_wp2
    go_ret
    exact ⟨rfl, _, HM4.out, Fr.setCell (p := ⟨X, 0, none⟩) hF4 (Or.inl rfl) _, HL4.out⟩
  · have hcb : (capL == i + 1) = false := by simpa using hce
    go_wp2_with (at_builtin; refine wpList_append_own_at _ rfl _ _ 40 rfl w2.heap.size 82 j0 (.agg #[.slice none 0 0, .int .i64 0]) 2 32 Tryd.underlying40 ji jz0 jz1 jz2 rfl (by decide) _ _ _ rfl HO3.out ⟨g, (i + 1) * 2, none⟩ (P.length - (i + 1)) (capL - (i + 1)) (prC (P.drop (i + 1))) rfl hln2.out hne2.out hone2.out hn2 hby2 hbase2 ?_)
    intro v4 w4 hown4 hgrow4 _ hloc4
    obtain ⟨a4, l4, c4, rfl⟩ : ∃ a4 l4 c4, v4 = .slice a4 l4 c4 := by
      obtain ⟨_, ⟨rfl, _⟩ | ⟨g5, cap5, cur5, rfl, _⟩⟩ := hown4
      · exact ⟨_, _, _, rfl⟩
      · exact ⟨_, _, _, rfl⟩
    have hM4 := HM.out.less (i := i) hi hB2 hB3 hBw HO3.out.lt hown4 hgrow4 hloc4
    have HM4 : Hid _ := hM4.1
    have HL4 : Hid _ := hM4.2.2.2
    have hF4 := hM4.2.1
    have hXc := hM4.2.2.1
    have hXf : w4.frozen? ⟨X, 0, none⟩ = false := by
      have := hM4.1.f
      rwa [World.frozen?_setCell] at this
    clear hown4 hgrow4 hloc4 hM4
    go_wp2
    go_ret
    exact ⟨rfl, _, HM4.out, Fr.setCell (p := ⟨X, 0, none⟩) hF4 (Or.inl rfl) _, HL4.out⟩
set_option maxRecDepth 20000 in
set_option maxHeartbeats 4000000 in
theorem RRows_none (X : Nat) (w : World) (hX : w.cell? ⟨X, 0, none⟩ = some (.slice none 0 0)) :
    Calls Tryd.prog 24 #[.pointer (some ⟨X, 0, none⟩)] w fun e w' => e = .returned (.slice none 0 0) ∧ Below w.heap.size w w' := by
  go_enter Tryd.func24, Tryd.ntmps24
  go_wp2
  refine wp_loop_rounds 1 ?_
  rw [rounds_succ]
  go_wp2
  go_ret
  exact ⟨rfl, Below.refl _ _⟩
theorem RRows_any (X B : Nat) (v : Value) (P : List Ent) (w : World) (hM : RfAt w X B v P) (hL : P.length ≤ 4000000) :
    Calls Tryd.prog 24 #[.pointer (some ⟨X, 0, none⟩)] w fun e w' => (∃ a cap, e = .returned (.slice a P.length cap) ∧ RsAt w' a (P.map (·.row))) ∧ Below w.heap.size w w' := by
  have hX := hM.c
  rcases hM.view with ⟨rfl, rfl⟩ | ⟨g, capL, rfl, hP⟩
  · exact (RRows_none X w hX).mono fun e w' h => ⟨⟨none, 0, h.1, Or.inl rfl⟩, h.2⟩
  · exact RRows_some X g capL P w hX hP hL
end Go.Proofs.YtbfodpmlmhkikaaDoor
