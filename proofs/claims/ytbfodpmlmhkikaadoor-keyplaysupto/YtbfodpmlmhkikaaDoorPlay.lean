/- What each addition, removal and look does to the two maps. -/
import Derived.Test.YtbfodpmlmhkikaaDoorTwo
import Derived.Test.YtbfodpmlmhkikaaDoorRws
import Derived.Test.YtbfodpmlmhkikaaDoorGet
namespace Go.Proofs.YtbfodpmlmhkikaaDoor
open Go.ChangeShapes Go.WideShapes Go.ChangeAt Go.RowKit

/-- The number that stands at a place. -/
def nL (L : List (List Val × Int)) (i : Nat) : Int := (L.getD i ([], 0)).2
/-- Add, over pairs. -/
def adL (L : List (List Val × Int)) (r : List Val) (n : Int) : Int × Int × List (List Val × Int) := if mayR r = false then (0, 31, L) else match fnR L r with
  | none => (n, 0, L ++ [(r, n)])
  | some i => if lvI (nL L i) n then (0, 20, L) else (nL L i + n, 0, L.set i (r, nL L i + n))
/-- Remove, over pairs. -/
def rmL (L : List (List Val × Int)) (r : List Val) : Bool × List (List Val × Int) := match fnR L r with
  | none => (false, L)
  | some i => (true, L.eraseIdx i)
/-- Get, over pairs. -/
def gtL (L : List (List Val × Int)) (r : List Val) : Int × Bool := match fnR L r with
  | none => (0, false)
  | some i => (nL L i, true)
theorem adL_bad {L : List (List Val × Int)} {r : List Val} {n : Int} (h : mayR r = false) : adL L r n = (0, 31, L) := by unfold adL; rw [if_pos h]
theorem adL_new {L : List (List Val × Int)} {r : List Val} {n : Int} (h : mayR r = true) (hf : fnR L r = none) : adL L r n = (n, 0, L ++ [(r, n)]) := by
  unfold adL; rw [if_neg (by simp [h]), hf]
theorem adL_over {L : List (List Val × Int)} {r : List Val} {n : Int} {i : Nat} (h : mayR r = true) (hf : fnR L r = some i) (hl : lvI (nL L i) n = true) : adL L r n = (0, 20, L) := by
  unfold adL; rw [if_neg (by simp [h]), hf]; dsimp only; rw [if_pos hl]
theorem adL_sum {L : List (List Val × Int)} {r : List Val} {n : Int} {i : Nat} (h : mayR r = true) (hf : fnR L r = some i) (hl : lvI (nL L i) n = false) : adL L r n = (nL L i + n, 0, L.set i (r, nL L i + n)) := by
  unfold adL; rw [if_neg (by simp [h]), hf]; dsimp only; rw [if_neg (by simp [hl])]
theorem rmL_no {L : List (List Val × Int)} {r : List Val} (hf : fnR L r = none) : rmL L r = (false, L) := by unfold rmL; rw [hf]
theorem rmL_yes {L : List (List Val × Int)} {r : List Val} {i : Nat} (hf : fnR L r = some i) : rmL L r = (true, L.eraseIdx i) := by unfold rmL; rw [hf]
theorem gtL_no {L : List (List Val × Int)} {r : List Val} (hf : fnR L r = none) : gtL L r = (0, false) := by unfold gtL; rw [hf]
theorem gtL_yes {L : List (List Val × Int)} {r : List Val} {i : Nat} (hf : fnR L r = some i) : gtL L r = (nL L i, true) := by unfold gtL; rw [hf]
theorem adL_len (L : List (List Val × Int)) (r : List Val) (n : Int) : (adL L r n).2.2.length ≤ L.length + 1 := by
  unfold adL
  split
  · exact Nat.le_succ _
  · split
    · simp
    · split
      · exact Nat.le_succ _
      · simp
theorem rmL_len (L : List (List Val × Int)) (r : List Val) : (rmL L r).2.length ≤ L.length + 1 := by
  unfold rmL
  split
  · exact Nat.le_succ _
  · exact Nat.le_trans (List.length_eraseIdx_le _ _) (Nat.le_succ _)
theorem adL_mem {L : List (List Val × Int)} {r : List Val} {n : Int} {x : List Val × Int} (h : x ∈ (adL L r n).2.2) : x ∈ L ∨ x.1 = r := by
  unfold adL at h
  split at h
  · exact Or.inl h
  · split at h
    · rcases List.mem_append.1 h with h | h
      · exact Or.inl h
      · rw [List.mem_singleton] at h; subst h; exact Or.inr rfl
    · split at h
      · exact Or.inl h
      · rcases List.mem_or_eq_of_mem_set h with h | h
        · exact Or.inl h
        · subst h; exact Or.inr rfl
theorem rmL_mem {L : List (List Val × Int)} {r : List Val} {x : List Val × Int} (h : x ∈ (rmL L r).2) : x ∈ L := by
  unfold rmL at h
  split at h
  · exact h
  · exact List.mem_of_mem_eraseIdx h
theorem prs_at {HL : List (Int × Ent)} {i : Nat} {x : Int × Ent} (h : HL[i]? = some x) : nL (prs HL) i = x.2.n := by
  unfold nL prs; rw [List.getD_eq_getElem?_getD, List.getElem?_map, h]; rfl
theorem ptL_pl (r : List Val) (s : List (Pce × Way) × Int × Int) : s.2.1 ≤ (ptL s r).2.1 ∧ (ptL s r).2.1 ≤ s.2.1 + r.length := by
  induction r generalizing s with
  | nil => exact ⟨Int.le_refl _, by simp [ptL]⟩
  | cons v r ih =>
    have h := ih (ptS s v)
    have h2 : s.2.1 ≤ (ptS s v).2.1 ∧ (ptS s v).2.1 ≤ s.2.1 + 1 := by
      unfold ptS
      split
      · exact ⟨Int.le_refl _, by dsimp only; omega⟩
      · exact ⟨by dsimp only; omega, Int.le_refl _⟩
    rw [ptL_cons]
    simp only [List.length_cons, Int.natCast_add, Int.natCast_one]
    omega
/-- The document's pairs, as they lie in its map. -/
def ppr (P : List Ent) : List (List Val × Int) := P.map fun x => (x.row, x.n)
theorem ppr_len (P : List Ent) : (ppr P).length = P.length := by simp [ppr]
theorem fnR_ppr (P : List Ent) (r : List Val) : fnR (ppr P) r = P.findIdx? fun x => decide (x.row = r) := by
  unfold fnR ppr; rw [List.findIdx?_map]; rfl
theorem ppr_at (P : List Ent) (i : Nat) : nL (ppr P) i = (pAt P i).n := by
  unfold nL ppr pAt; rw [List.getD_eq_getElem?_getD, List.getElem?_map, List.getD_eq_getElem?_getD]; cases P[i]? <;> rfl
theorem fnI_ppr_no {P : List Ent} {r : List Val} (h : fnR (ppr P) r = none) : fnI P r = -1 := by
  rw [fnR_ppr] at h; unfold fnI; rw [h]
theorem fnI_ppr {P : List Ent} {r : List Val} {i : Nat} (h : fnR (ppr P) r = some i) : fnI P r = i ∧ i < P.length ∧ (pAt P i).row = r := by
  rw [fnR_ppr] at h
  refine ⟨by unfold fnI; rw [h], ?_⟩
  obtain ⟨h1, h2, _⟩ := List.findIdx?_eq_some_iff_getElem.1 h
  refine ⟨h1, ?_⟩
  have := pAt_get h1
  rw [List.getElem?_eq_getElem h1] at this
  injection this with this
  rw [← this]
  simpa using h2
variable {w w' W0 : World} {M : Mb} {X : Nat} {WL WL' : List (Pce × Way)} {HL HL' : List (Int × Ent)} {pl bi pl' bi' : Int} {v v' : Value} {P P' : List Ent}
/-- What a step on package key's map leaves. -/
structure KLeft (W0 w w' : World) (M : Mb) (X : Nat) (HL : List (Int × Ent)) (v : Value) (P : List Ent) (L : List (List Val × Int)) (p b : Int) (WL' : List (Pce × Way)) (HL' : List (Int × Ent)) (pl' bi' : Int) : Prop where
  hold : Hold WL' HL' pl' bi'
  prs : prs HL' = L
  two : Two W0 w' M X WL' HL' pl' bi' v P
  off : ∀ b, b < w.heap.size → Off M X HL v P b → Off M X HL' v P b
  fr : Fr M.own w w'
  pl : 0 ≤ pl' ∧ pl' ≤ p
  bi : 0 ≤ bi' ∧ bi' ≤ b
theorem kAdd (hT : Two W0 w M X WL HL pl bi v P) (hR : Ready W0) (hH : Hold WL HL pl bi) (a : Option Addr) (cap : Nat) (r : List Val) (n : Int) (hr : RowAt w a r) (hne : ∀ g o, a = some ⟨g, o, none⟩ → g ≠ M.m) (hn : -9223372036854775808 ≤ n ∧ n ≤ 9223372036854775807) (hlen : r.length ≤ 1048576) (hHl : HL.length ≤ 1048576) (hp : 0 ≤ pl ∧ pl ≤ 2199023255552) (hb : 0 ≤ bi ∧ bi ≤ 2199023255552) :
    Calls Tryd.prog 15 #[.pointer (some ⟨M.m, 0, none⟩), .slice a r.length cap, .int .i64 n] w fun e w' => e = .returned (.tuple #[.int .i64 (adL (prs HL) r n).1, .int .i64 (adL (prs HL) r n).2.1]) ∧ ∃ WL' HL' pl' bi', KLeft W0 w w' M X HL v P (adL (prs HL) r n).2.2 (pl + r.length) (bi + 1) WL' HL' pl' bi' := by
  have hRw : Ready w := hR.below hT.bw
  cases hm : mayR r with
  | false =>
    rw [adL_bad hm]
    exact (Add_bad a cap M WL HL pl bi n r w hRw (by omega) hT.mp hr hm).mono fun e w' h => ⟨h.1, WL, HL, pl, bi, hH, rfl, hT.below h.2, fun _ _ h => h, Fr.of h.2, by omega, by omega⟩
  | true =>
    cases hf : fnR (prs HL) r with
    | none =>
      have hrn := fnR_none hf
      rw [adL_new hm hf]
      refine (Add_new a cap M WL HL pl bi n r w hRw (by omega) hT.mp hr hm (hH.no hrn).1 hne HL.length hH.few (by omega) (by omega) hp.1 (by omega) hb.1 (by omega) (by omega)).mono fun e w' h => ?_
      obtain ⟨he, a', cap', hm', hF, hg⟩ := h
      have hq := hH.put ⟨a', cap', r, n, bi + 1⟩ hrn rfl hn
      dsimp only at hq
      have hpl := ptL_pl r (WL, pl, 0)
      generalize ptL (WL, pl, 0) r = s at hm' hq hpl
      obtain ⟨hq1, hq2⟩ := hq
      have hk := hT.kstep hm' hF (fun x hx => by
        rw [hq2] at hx
        rcases List.mem_append.1 hx with hx | hx
        · exact Or.inl ⟨x, hx, rfl, rfl⟩
        · rw [List.mem_singleton] at hx; subst hx; exact Or.inr hg)
      refine ⟨he, _, _, _, _, hq1, ?_, hk.1, hk.2, hF, by dsimp only at hpl; omega, by omega⟩
      rw [hq2]; simp [Go.Proofs.YtbfodpmlmhkikaaDoor.prs]
    | some i =>
      obtain ⟨x, hx, rfl⟩ := fnR_some hf
      have hxm := List.mem_of_getElem? hx
      obtain ⟨y1, y2, _⟩ := hH.yes hxm
      have hxn := hH.num x hxm
      have en := prs_at hx
      cases hlv : lvI x.2.n n with
      | true =>
        rw [adL_over hm hf (by rw [en]; exact hlv)]
        exact (Add_over a cap M WL HL pl bi n x.2.row w hRw (by omega) hT.mp hr hm x.1 y1 x.2 y2 hn.1 hn.2 hxn.1 hxn.2 hlv).mono fun e w' h => ⟨h.1, WL, HL, pl, bi, hH, rfl, hT.below h.2, fun _ _ h => h, Fr.of h.2, by omega, by omega⟩
      | false =>
        rw [adL_sum hm hf (by rw [en]; exact hlv), en]
        refine (Add_sum a cap M WL HL pl bi n x.2.row w hRw (by omega) hT.mp hr hm x.1 y1 x.2 y2 hn.1 hn.2 hxn.1 hxn.2 hlv).mono fun e w' h => ?_
        obtain ⟨he, hm', hF⟩ := h
        have hin : -9223372036854775808 ≤ x.2.n + n ∧ x.2.n + n ≤ 9223372036854775807 := by
          unfold lvI at hlv
          simp only [Bool.or_eq_false_iff, decide_eq_false_iff_not] at hlv
          omega
        obtain ⟨hq1, hq2⟩ := hH.sum hx (x.2.n + n) hin
        have hk := hT.kstep hm' hF (fun y hy => by
          rw [hq2] at hy
          rcases List.mem_or_eq_of_mem_set hy with hy | hy
          · exact Or.inl ⟨y, hy, rfl, rfl⟩
          · subst hy; exact Or.inl ⟨x, hxm, rfl, rfl⟩)
        refine ⟨he, _, _, _, _, hq1, ?_, hk.1, hk.2, hF, by omega, by omega⟩
        rw [hq2]; simp [Go.Proofs.YtbfodpmlmhkikaaDoor.prs, List.map_set]
theorem kRemove (hT : Two W0 w M X WL HL pl bi v P) (hH : Hold WL HL pl bi) (a : Option Addr) (cap : Nat) (r : List Val) (hr : RowAt w a r) (hne : ∀ g o, a = some ⟨g, o, none⟩ → g ≠ M.m) (hlen : r.length ≤ 1048576) (hHl : HL.length ≤ 1048576) (hp : 0 ≤ pl ∧ pl ≤ 2199023255552) (hb : 0 ≤ bi ∧ bi ≤ 2199023255552) :
    Calls Tryd.prog 17 #[.pointer (some ⟨M.m, 0, none⟩), .slice a r.length cap] w fun e w' => e = .returned (.bool (rmL (prs HL) r).1) ∧ ∃ WL' HL' pl' bi', KLeft W0 w w' M X HL v P (rmL (prs HL) r).2 (pl + r.length) (bi + 1) WL' HL' pl' bi' := by
  cases hf : fnR (prs HL) r with
  | none =>
    rw [rmL_no hf]
    exact (Remove_no a cap M WL HL pl bi r w (by omega) hT.mp hr (hH.no (fnR_none hf)).1).mono fun e w' h => ⟨h.1, WL, HL, pl, bi, hH, rfl, hT.below h.2, fun _ _ h => h, Fr.of h.2, by omega, by omega⟩
  | some i =>
    obtain ⟨x, hx, rfl⟩ := fnR_some hf
    have hxm := List.mem_of_getElem? hx
    obtain ⟨y1, y2, _⟩ := hH.yes hxm
    rw [rmL_yes hf]
    refine (Remove_yes a cap M WL HL pl bi x.2.row w (by omega) hT.mp hr hne HL.length hH.few (by omega) (by omega) x.1 y1).mono fun e w' h => ?_
    obtain ⟨he, hm', hF⟩ := h
    obtain ⟨hq1, hq2⟩ := hH.take hx
    have hk := hT.kstep hm' hF (fun y hy => by
      rw [hq2] at hy
      exact Or.inl ⟨y, List.mem_of_mem_eraseIdx hy, rfl, rfl⟩)
    refine ⟨he, _, _, _, _, hq1, ?_, hk.1, hk.2, hF, by omega, by omega⟩
    rw [hq2]; unfold Go.Proofs.YtbfodpmlmhkikaaDoor.prs; rw [erase_map]
theorem kGet (hT : Two W0 w M X WL HL pl bi v P) (hH : Hold WL HL pl bi) (a : Option Addr) (cap : Nat) (r : List Val) (hr : RowAt w a r) (hlen : r.length ≤ 1048576) :
    Calls Tryd.prog 19 #[.pointer (some ⟨M.m, 0, none⟩), .slice a r.length cap] w fun e w' => e = .returned (.tuple #[.int .i64 (gtL (prs HL) r).1, .bool (gtL (prs HL) r).2]) ∧ Below w.heap.size w w' := by
  have h := Get_any a cap M WL HL pl bi r w (by omega) hT.mp hr
  cases hf : fnR (prs HL) r with
  | none => rw [gtL_no hf]; rw [(hH.no (fnR_none hf)).2] at h; exact h
  | some i =>
    obtain ⟨x, hx, rfl⟩ := fnR_some hf
    rw [gtL_yes hf, prs_at hx]; rw [(hH.yes (List.mem_of_getElem? hx)).2.2] at h; exact h
/-- What a step on the document's map leaves. -/
structure XLeft (W0 w w' : World) (M : Mb) (X : Nat) (WL : List (Pce × Way)) (HL : List (Int × Ent)) (pl bi : Int) (v : Value) (P : List Ent) (L : List (List Val × Int)) (v' : Value) (P' : List Ent) : Prop where
  ppr : ppr P' = L
  two : Two W0 w' M X WL HL pl bi v' P'
  off : ∀ b, b < w.heap.size → Off M X HL v P b → Off M X HL v' P' b
  fr : Fr (fun k => k = X ∨ v.ownBlock = some k) w w'
theorem rows_short {P : List Ent} (h : ∀ x ∈ ppr P, x.1.length ≤ 1048576) (i : Nat) : (pAt P i).row.length ≤ 9223372036854775807 := by
  rcases Nat.lt_or_ge i P.length with hi | hi
  · have := h ((pAt P i).row, (pAt P i).n) (List.mem_map_of_mem (f := fun x : Ent => (x.row, x.n)) (pAt_mem hi))
    dsimp only at this; omega
  · unfold pAt; rw [List.getD_eq_getElem?_getD, List.getElem?_eq_none hi]; exact Nat.zero_le _
theorem xAdd (hRu : RunesSaid) (hT : Two W0 w M X WL HL pl bi v P) (hnum : ∀ x ∈ ppr P, -9223372036854775808 ≤ x.2 ∧ x.2 ≤ 9223372036854775807) (hsh : ∀ x ∈ ppr P, x.1.length ≤ 1048576) (a : Option Addr) (cap : Nat) (r : List Val) (n : Int) (hr : RowAt w a r) (hI : IntR r) (hn : -9223372036854775808 ≤ n ∧ n ≤ 9223372036854775807) (hlen : r.length ≤ 1048576) (hPl : P.length ≤ 1048576) :
    Calls Tryd.prog 16 #[.pointer (some ⟨X, 0, none⟩), .slice a r.length cap, .int .i64 n] w fun e w' => e = .returned (.tuple #[.int .i64 (adL (ppr P) r n).1, .int .i64 (adL (ppr P) r n).2.1]) ∧ ∃ v' P', XLeft W0 w w' M X WL HL pl bi v P (adL (ppr P) r n).2.2 v' P' := by
  have hl := rows_short hsh
  cases hm : mayR r with
  | false =>
    rw [adL_bad hm]
    exact (RAdd_bad hRu X a cap r n w (by omega) hr hI hm).mono fun e w' h => ⟨h.1, v, P, rfl, hT.below h.2, fun _ _ h => h, Fr.of h.2⟩
  | true =>
    cases hf : fnR (ppr P) r with
    | none =>
      rw [adL_new hm hf]
      refine (RAdd_new_any hRu X W0.heap.size v P a cap r n w hT.rf hT.bw.size (by omega) hl (by omega) hr hI hm (fnI_ppr_no hf)).mono fun e w' h => ?_
      obtain ⟨he, v', a', cap', hm', hF, hg, hv⟩ := h
      have hk := hT.rstep hm' hF hv (fun x hx => by
        rcases List.mem_append.1 hx with hx | hx
        · exact Or.inl ⟨x, hx, rfl, rfl⟩
        · rw [List.mem_singleton] at hx; subst hx; exact Or.inr hg)
      exact ⟨he, _, _, by simp [Go.Proofs.YtbfodpmlmhkikaaDoor.ppr], hk.1, hk.2, hF⟩
    | some i =>
      obtain ⟨h1, h2, h3⟩ := fnI_ppr hf
      have hxn := hnum _ (List.mem_map_of_mem (f := fun x : Ent => (x.row, x.n)) (pAt_mem h2))
      dsimp only at hxn
      have en := ppr_at P i
      cases hlv : lvI (pAt P i).n n with
      | true =>
        rw [adL_over hm hf (by rw [en]; exact hlv)]
        exact (RAdd_over hRu X W0.heap.size v P a cap r n w hT.rf (by omega) hl (by omega) hr hI hm i h2 h1 hn.1 hn.2 hxn.1 hxn.2 hlv).mono fun e w' h => ⟨h.1, v, P, rfl, hT.below h.2, fun _ _ h => h, Fr.of h.2⟩
      | false =>
        rw [adL_sum hm hf (by rw [en]; exact hlv), en]
        refine (RAdd_sum hRu X W0.heap.size v P a cap r n w hT.rf (by omega) hl (by omega) hr hI hm i h2 h1 hn.1 hn.2 hxn.1 hxn.2 hlv).mono fun e w' h => ?_
        obtain ⟨he, hm', hF⟩ := h
        have hF' : Fr (fun k => k = X ∨ v.ownBlock = some k) w w' := ⟨hF.os, hF.tape, hF.output, hF.size, fun k hk hS => hF.block k hk (fun e => hS (Or.inr e))⟩
        have hk := hT.rstep hm' hF' (fun k hk => Or.inl hk) (fun y hy => by
          rcases List.mem_or_eq_of_mem_set hy with hy | hy
          · exact Or.inl ⟨y, hy, rfl, rfl⟩
          · subst hy; exact Or.inl ⟨_, pAt_mem h2, rfl, rfl⟩)
        exact ⟨he, _, _, by simp [Go.Proofs.YtbfodpmlmhkikaaDoor.ppr, List.map_set, h3], hk.1, hk.2, hF'⟩
theorem xRemove (hT : Two W0 w M X WL HL pl bi v P) (hsh : ∀ x ∈ ppr P, x.1.length ≤ 1048576) (a : Option Addr) (cap : Nat) (r : List Val) (hr : RowAt w a r) (hPl : P.length ≤ 1048576) :
    Calls Tryd.prog 18 #[.pointer (some ⟨X, 0, none⟩), .slice a r.length cap] w fun e w' => e = .returned (.bool (rmL (ppr P) r).1) ∧ ∃ v' P', XLeft W0 w w' M X WL HL pl bi v P (rmL (ppr P) r).2 v' P' := by
  have hl := rows_short hsh
  cases hf : fnR (ppr P) r with
  | none =>
    rw [rmL_no hf]
    exact (RRemove_no X W0.heap.size v P a cap r w hT.rf (by omega) hl hr (fnI_ppr_no hf)).mono fun e w' h => ⟨h.1, v, P, rfl, hT.below h.2, fun _ _ h => h, Fr.of h.2⟩
  | some i =>
    obtain ⟨h1, h2, h3⟩ := fnI_ppr hf
    rw [rmL_yes hf]
    refine (RRemove_yes X W0.heap.size v P a cap r w hT.rf hT.bw.size (by omega) hl hr i h2 h1).mono fun e w' h => ?_
    obtain ⟨he, v', hm', hF, hv⟩ := h
    have hF' : Fr (fun k => k = X ∨ v.ownBlock = some k) w w' := ⟨hF.os, hF.tape, hF.output, hF.size, fun k hk hS => hF.block k hk (fun e => hS (Or.inl e))⟩
    have hk := hT.rstep hm' hF' (fun k hk => Or.inr (hv k hk)) (fun y hy => Or.inl ⟨y, List.mem_of_mem_eraseIdx hy, rfl, rfl⟩)
    exact ⟨he, _, _, by unfold Go.Proofs.YtbfodpmlmhkikaaDoor.ppr; rw [erase_map], hk.1, hk.2, hF'⟩
theorem xGet (hT : Two W0 w M X WL HL pl bi v P) (hsh : ∀ x ∈ ppr P, x.1.length ≤ 1048576) (a : Option Addr) (cap : Nat) (r : List Val) (hr : RowAt w a r) (hPl : P.length ≤ 1048576) :
    Calls Tryd.prog 20 #[.pointer (some ⟨X, 0, none⟩), .slice a r.length cap] w fun e w' => e = .returned (.tuple #[.int .i64 (gtL (ppr P) r).1, .bool (gtL (ppr P) r).2]) ∧ Below w.heap.size w w' := by
  have h := RGet_any X v P a cap r w hT.rf.c hT.rf.view (by omega) (rows_short hsh) hr
  have e : rgP P r = gtL (ppr P) r := by
    unfold rgP gtL
    rw [fnR_ppr]
    cases P.findIdx? (fun x => decide (x.row = r)) with
    | none => rfl
    | some i => dsimp only; rw [ppr_at]
  rw [e] at h; exact h
end Go.Proofs.YtbfodpmlmhkikaaDoor
