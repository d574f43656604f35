/- What came and what went, of the document (Diff): the lists. -/
import Derived.Test.YtfjpdflilmcnhaaDoorMgM
import Derived.Test.YtfjpdflilmcnhaaDoorFit
import Derived.Maps.AppendAt
namespace Go.Proofs.YtfjpdflilmcnhaaDoor
open Go.ChangeShapes Go.WideShapes Go.ChangeAt Go.RowKit

theorem mns_take {l gone : List Arv} {m : Nat} (h : m < l.length) : mns (l.take (m + 1)) gone = if hasS gone (aAt l m).seq then mns (l.take m) gone else mns (l.take m) gone ++ [aAt l m] := by
  unfold mns
  rw [aAt_take h, List.filter_append]
  cases hb : hasS gone (aAt l m).seq <;> simp [hb]
theorem wp_append_run {o : Oper} {a : Act} {K : Act → World → Prop} {Q : Exit → Act → World → Prop} {w w' : World} {v' : Value} (s x : Operand) (t : TypeId)
    (ho : o.op = .call { callee := .builtin .append, args := #[s, x], argTypes := #[t, t] }) (v vx : Value) (hs : a.eval s = v) (hx : a.eval x = vx)
    (hr : (Builtin.append_ #[t, t] o.type #[v, vx]).run Tryd.prog w = .ok v' w') (h : K (a.put o.dst v') w') : o.wp Tryd.prog a w K Q := by
  unfold Oper.wp execOp
  simp only [ho, resolve, invoke, builtin, Sem.run_bind, Sem.run_pure, Result.andThen_ok, List.map_toArray, List.map_cons, List.map_nil, hs, hx, hr]
  exact h
theorem cels_fr {w w1 w' : World} {X : Nat} {a : Option Addr} {l : List Arv} (h : CelsAt w a l) (hb : Below w.heap.size w w1) (hF : Fr (fun k => k = X) w1 w') (hx : w.heap.size ≤ X) : CelsAt w' a l := by
  rcases h with h | ⟨b, off, ha, hc⟩
  · exact Or.inl h
  · refine Or.inr ⟨b, off, ha, fun i hi => ?_⟩
    have hn : ¬ b = X := by have := cell_lt (hc i hi).1; omega
    exact ⟨hF.cell hn (cell_below hb (hc i hi).1), hF.cell hn (cell_below hb (hc i hi).2.1), hF.cell hn (cell_below hb (hc i hi).2.2)⟩
theorem cels_S {w w' : World} {S : Nat → Prop} {a : Option Addr} {l : List Arv} (h : CelsAt w a l) (hF : Fr S w w') (hx : ∀ g f, a = some ⟨g, f, none⟩ → ¬ S g) : CelsAt w' a l := by
  rcases h with h | ⟨b, off, ha, hc⟩
  · exact Or.inl h
  · have hb := hx b off ha
    exact Or.inr ⟨b, off, ha, fun i hi => ⟨hF.cell hb (hc i hi).1, hF.cell hb (hc i hi).2.1, hF.cell hb (hc i hi).2.2⟩⟩
theorem row_S {w w' : World} {S : Nat → Prop} {a : Option Addr} {r : List Val} (h : RowAt w a r) (hF : Fr S w w') (hS : ∀ k, S k → w.heap.size ≤ k) : RowAt w' a r := by
  by_cases h0 : r = []
  · exact Or.inl (by rw [h0]; rfl)
  · refine hF.vals h (fun g' f e => fun e2 => ?_)
    rcases rowAt_lt h e with h1 | h1
    · exact h0 h1
    · have := hS g' e2; omega
theorem Fr.weak {S T : Nat → Prop} {w w' : World} (h : Fr S w w') (hS : ∀ k, S k → T k) : Fr T w w' := ⟨h.os, h.tape, h.output, h.size, fun k hk hT => h.block k hk (fun e => hT (hS k e))⟩
/-- A list that grows in a cell of the block X. -/
structure RdI (w1 w : World) (X j : Nat) (u v : Value) (l : List Arv) : Prop where
  cell : w.cell? ⟨X, j, none⟩ = some v
  frz : w.frozen? ⟨X, j, none⟩ = false
  own : w.ownsRow w1.heap.size 40 3 v l.length (arC l)
  fr : Fr (fun k => k = X) w1 w
  lt : X < w1.heap.size
  oth : w.cell? ⟨X, 1 - j, none⟩ = some u
  ofz : w.frozen? ⟨X, 1 - j, none⟩ = false
theorem RdI.below {w1 w w' : World} {X j : Nat} {u v : Value} {l : List Arv} (h : RdI w1 w X j u v l) (hb : Below w.heap.size w w') : RdI w1 w' X j u v l :=
  ⟨cell_below hb h.cell, (hb.frozen (p := ⟨X, j, none⟩) (cell_lt h.cell)).trans h.frz, owns_below h.own hb, h.fr.step hb, h.lt, cell_below hb h.oth, (hb.frozen (p := ⟨X, 1 - j, none⟩) (cell_lt h.oth)).trans h.ofz⟩
theorem RdI.app {w1 w : World} {X j : Nat} {u v : Value} {l : List Arv} (h : RdI w1 w X j u v l) (hj : j < 2) (x : Arv) (hl : l.length ≤ 4000000) :
    ∃ v4 w4, (Builtin.append_ #[31, 31] 31 #[v, .slice (some ⟨w.heap.size, 0, none⟩) 1 1]).run Tryd.prog (World.alloc w.drew (.cells #[.int .i64 x.seq, .int .i64 x.time, .slice x.a x.row.length x.cap] 40)) = .ok v4 w4 ∧
      (∃ a4 n4 c4, v4 = .slice a4 n4 c4) ∧ w4.cell? ⟨X, j, none⟩ = some v ∧ w4.frozen? ⟨X, j, none⟩ = false ∧ RdI w1 (w4.setCell ⟨X, j, none⟩ v4) X j u v4 (l ++ [x]) ∧ Fr (fun k => k = X ∨ v.ownBlock = some k) w w4 := by
  obtain ⟨i0, hi, hz0⟩ := Option.map_eq_some_iff.1 info40
  simp only [Prod.mk.injEq] at hz0
  obtain ⟨hz, hs, hb3⟩ := hz0
  have hb0 : Below w.heap.size w (World.alloc w.drew (.cells #[.int .i64 x.seq, .int .i64 x.time, .slice x.a x.row.length x.cap] 40)) := (Below.refl w.heap.size w).drew.alloc (Nat.le_refl _) _
  have h0 := h.below hb0
  have hsz : (World.alloc w.drew (.cells #[.int .i64 x.seq, .int .i64 x.time, .slice x.a x.row.length x.cap] 40)).heap.size = w.heap.size + 1 := by rw [World.size_alloc]; rfl
  obtain ⟨v4, w4, hr4, hown4, hgrow4, _⟩ := run_append_own (P := Tryd.prog) (World.alloc w.drew (.cells #[.int .i64 x.seq, .int .i64 x.time, .slice x.a x.row.length x.cap] 40)) w1.heap.size 31 31 40 i0 (.agg #[.int .i64 0, .int .i64 0, .slice none 0 0]) 3 40 Tryd.underlying31 hi hz hs hb3 rfl (by decide) v l.length (arC l) h0.own ⟨w.heap.size, 0, none⟩ 1 1 (arC [x]) (arC_len [x]) (arCells_new w.drew x) (arC_one _) (by unfold maxLen; omega) (by omega) (by have := h.fr.size; omega)
  have hXo : ¬ v.ownBlock = some X := fun e => by have := (h.own.lt X e).1; have := h.lt; omega
  have hXs : X < w.heap.size := cell_lt h.cell
  have hbk : w4.heap[X]? = (World.alloc w.drew (.cells #[.int .i64 x.seq, .int .i64 x.time, .slice x.a x.row.length x.cap] 40)).heap[X]? := hgrow4.block X (by omega) (fun e => hXo e.symm)
  have hc4 : w4.cell? ⟨X, j, none⟩ = some v := (World.cell?_of_block (a := ⟨X, j, none⟩) hbk).trans h0.cell
  have hf4 : w4.frozen? ⟨X, j, none⟩ = false := by
    have e : w4.frozen? ⟨X, j, none⟩ = World.frozen? (World.alloc w.drew (.cells #[.int .i64 x.seq, .int .i64 x.time, .slice x.a x.row.length x.cap] 40)) ⟨X, j, none⟩ := by unfold World.frozen?; simp [hbk]
    rw [e]; exact h0.frz
  have hF : Fr (fun k => k = X ∨ v.ownBlock = some k) w w4 := (Fr.of hb0).trans ⟨hgrow4.os, hgrow4.tape, hgrow4.output, by have := hgrow4.size; omega, fun k hk hS => hgrow4.block k hk (fun e => hS (Or.inr e.symm))⟩
  have hF1 : Fr (fun k => k = X) w1 w4 := ⟨hF.os.trans h.fr.os, hF.tape.trans h.fr.tape, hF.output.trans h.fr.output, Nat.le_trans h.fr.size hF.size, fun k hk hS => (hF.block k (Nat.lt_of_lt_of_le hk h.fr.size) (by rintro (e | e); exact hS e; have := (h.own.lt k e).1; omega)).trans (h.fr.block k hk hS)⟩
  have hco : w4.cell? ⟨X, 1 - j, none⟩ = some u := (World.cell?_of_block (a := ⟨X, 1 - j, none⟩) hbk).trans h0.oth
  have hfo : w4.frozen? ⟨X, 1 - j, none⟩ = false := by
    have e : w4.frozen? ⟨X, 1 - j, none⟩ = World.frozen? (World.alloc w.drew (.cells #[.int .i64 x.seq, .int .i64 x.time, .slice x.a x.row.length x.cap] 40)) ⟨X, 1 - j, none⟩ := by unfold World.frozen?; simp [hbk]
    rw [e]; exact h0.ofz
  refine ⟨v4, w4, hr4, ⟨_, _, _, (ars_of_owns (l := l ++ [x]) (by rw [arC_snoc, ← arC_single, List.length_append, List.length_singleton]; exact hown4)).choose_spec.choose_spec.1⟩, hc4, hf4, ⟨World.cell?_setCell_same _ _ _ hc4, by rw [World.frozen?_setCell]; exact hf4, ?_, hF1.setCell (p := ⟨X, j, none⟩) (Or.inl rfl) _, h.lt, by rw [World.cell?_setCell_other _ _ _ _ (fun e => by injection e with _ e _; omega)]; exact hco, by rw [World.frozen?_setCell]; exact hfo⟩, hF⟩
  have hown5 : w4.ownsRow w1.heap.size 40 3 v4 (l ++ [x]).length (arC (l ++ [x])) := by
    rw [arC_snoc, ← arC_single, List.length_append, List.length_singleton]; exact hown4
  refine hown5.kept (row := some X) ⟨rfl, rfl, rfl, by simp [World.setCell], fun k hk hS => Below.heap_setCell _ _ _ _ (by rintro rfl; exact hS rfl)⟩ ?_
  have h1 := h.lt
  cases hvb : v4.ownBlock with
  | none => exact Or.inl rfl
  | some q =>
    have h2 := hown5.lt q hvb
    refine Or.inr fun e => ?_
    injection e with e
    omega

set_option maxRecDepth 20000 in
set_option maxHeartbeats 16000000 in
theorem RDiff_any (a b : Option Addr) (cap bcap : Nat) (l k : List Arv) (w : World) (hn : l.length ≤ 4000000) (hn2 : k.length ≤ 4000000) (hl : ArsAt w a l) (hk : ArsAt w b k) :
    Calls Tryd.prog 18 #[.slice a l.length cap, .slice b k.length bcap] w fun e w' => ∃ a' ca b' cb, e = .returned (.agg #[.slice a' (mns k l).length ca, .slice b' (mns l k).length cb]) ∧ ArsAt w' a' (mns k l) ∧ ArsAt w' b' (mns l k) ∧ Below w.heap.size w w' := by
  go_enter Tryd.func18, Tryd.ntmps18
  go_upto_region 2 with (fail)
  have HB0w1 : Hid (Below w.heap.size w ((w.alloc (Obj.cells #[.slice none 0 0, .slice none 0 0] 49)).alloc (Obj.cells #[.slice none 0 0, .slice none 0 0] 49))) := ((Below.refl w.heap.size w).alloc (Nat.le_refl _) _).alloc (by simp) _
  have x0 : World.cell? ((w.alloc (Obj.cells #[.slice none 0 0, .slice none 0 0] 49)).alloc (Obj.cells #[.slice none 0 0, .slice none 0 0] 49)) ⟨w.heap.size + 1, 0, none⟩ = some (.slice none 0 0) := by go_simp
  have x1 : World.cell? ((w.alloc (Obj.cells #[.slice none 0 0, .slice none 0 0] 49)).alloc (Obj.cells #[.slice none 0 0, .slice none 0 0] 49)) ⟨w.heap.size + 1, 1, none⟩ = some (.slice none 0 0) := by go_simp
  have f0 : World.frozen? ((w.alloc (Obj.cells #[.slice none 0 0, .slice none 0 0] 49)).alloc (Obj.cells #[.slice none 0 0, .slice none 0 0] 49)) ⟨w.heap.size + 1, 0, none⟩ = false := by go_simp
  have f1 : World.frozen? ((w.alloc (Obj.cells #[.slice none 0 0, .slice none 0 0] 49)).alloc (Obj.cells #[.slice none 0 0, .slice none 0 0] 49)) ⟨w.heap.size + 1, 1, none⟩ = false := by go_simp
  have z0 : World.cell? ((w.alloc (Obj.cells #[.slice none 0 0, .slice none 0 0] 49)).alloc (Obj.cells #[.slice none 0 0, .slice none 0 0] 49)) ⟨w.heap.size, 0, none⟩ = some (.slice none 0 0) := by go_simp
  have z1 : World.cell? ((w.alloc (Obj.cells #[.slice none 0 0, .slice none 0 0] 49)).alloc (Obj.cells #[.slice none 0 0, .slice none 0 0] 49)) ⟨w.heap.size, 1, none⟩ = some (.slice none 0 0) := by go_simp
  have g0 : World.frozen? ((w.alloc (Obj.cells #[.slice none 0 0, .slice none 0 0] 49)).alloc (Obj.cells #[.slice none 0 0, .slice none 0 0] 49)) ⟨w.heap.size, 0, none⟩ = false := by go_simp
  have g1 : World.frozen? ((w.alloc (Obj.cells #[.slice none 0 0, .slice none 0 0] 49)).alloc (Obj.cells #[.slice none 0 0, .slice none 0 0] 49)) ⟨w.heap.size, 1, none⟩ = false := by go_simp
  have hsz : (World.heap ((w.alloc (Obj.cells #[.slice none 0 0, .slice none 0 0] 49)).alloc (Obj.cells #[.slice none 0 0, .slice none 0 0] 49))).size = w.heap.size + 2 := by simp
  obtain ⟨X, hX⟩ : ∃ X, w.heap.size + 1 = X := ⟨_, rfl⟩
  obtain ⟨G, hG⟩ : ∃ G, w.heap.size = G := ⟨_, rfl⟩
  have HXg : Hid (w.heap.size ≤ X) := by show _ ≤ _; omega
  have HGX : Hid (G + 1 = X) := by show _ = _; omega
  have HGG : Hid (w.heap.size = G) := hG
  have Hl : Hid (CelsAt w a l) := hl.cels
  have Hk : Hid (CelsAt w b k) := hk.cels
  have HRl : Hid (RowsIn w l) := hl.rows
  have HRk : Hid (RowsIn w k) := hk.rows
  rw [hX] at x0 x1 f0 f1 ⊢
  rw [hG] at z0 z1 g0 g1 hsz ⊢
  clear hX hG hl hk
  generalize ((w.alloc (Obj.cells #[.slice none 0 0, .slice none 0 0] 49)).alloc (Obj.cells #[.slice none 0 0, .slice none 0 0] 49)) = w1 at *
  have HS : Hid (RdI w1 w1 X 0 (.slice none 0 0) (.slice none 0 0) (mns (k.take 0) l)) := ⟨x0, f0, World.ownsRow_nil _ _ _ _, Fr.refl _ _, by have := HGX.out; omega, x1, f1⟩
  have HZ : Hid (w1.cell? ⟨G, 0, none⟩ = some (.slice none 0 0) ∧ w1.cell? ⟨G, 1, none⟩ = some (.slice none 0 0) ∧ w1.frozen? ⟨G, 0, none⟩ = false ∧ w1.frozen? ⟨G, 1, none⟩ = false ∧ G + 2 = w1.heap.size) := ⟨z0, z1, g0, g1, hsz.symm⟩
  clear x0 x1 f0 f1 z0 z1 g0 g1 hsz
  go_wp2
  go_loopw [6] (fun i wr => ∃ (m : Nat) (v : Value), m ≤ k.length ∧ i = .int .i64 m ∧ RdI w1 wr X 0 (.slice none 0 0) v (mns (k.take m) l)) (fun i _ => k.length - (intOf i).toNat)
  case atStart => exact ⟨0, _, Nat.zero_le _, rfl, HS.out⟩
  case round =>
    obtain ⟨m, v, hm, rfl, hI⟩ := hrel
    have HI : Hid (RdI w1 wr X 0 (.slice none 0 0) v (mns (k.take m) l)) := hI
    have hF := hI.fr
    clear hI
    rcases Nat.lt_or_ge m k.length with hlt | hge
    · obtain ⟨b0, off, rfl, hc⟩ : ∃ b0 off, b = some ⟨b0, off, none⟩ ∧ ∀ i, i < k.length → w.cell? ⟨b0, off + i * 3, none⟩ = some (.int .i64 (aAt k i).seq) ∧ w.cell? ⟨b0, off + i * 3 + 1, none⟩ = some (.int .i64 (aAt k i).time) ∧ w.cell? ⟨b0, off + i * 3 + 2, none⟩ = some (.slice (aAt k i).a (aAt k i).row.length (aAt k i).cap) := by
        rcases Hk.out with h | h
        · rw [h] at hlt; cases hlt
        · exact h
      have hbl0 : b0 < w.heap.size := cell_lt (hc m hlt).1
      have hnb0 : ¬ b0 = X := by have := HXg.out; omega
      have c0 := hF.cell hnb0 (cell_below HB0w1.out (hc m hlt).1)
      have c1 := hF.cell hnb0 (cell_below HB0w1.out (hc m hlt).2.1)
      have c2 := hF.cell hnb0 (cell_below HB0w1.out (hc m hlt).2.2)
      have hbl : b0 < w1.heap.size := Nat.lt_of_lt_of_le hbl0 HB0w1.out.size
      clear hc
      have hhas := fun wx (hb : Below wr.heap.size wr wx) => Has_any a cap l (aAt k m).seq wx (by omega) (CelsAt.below (cels_fr Hl.out HB0w1.out hF HXg.out) hb)
      have hms0 : mns (k.take (m + 1)) l = if hasS l (aAt k m).seq then mns (k.take m) l else mns (k.take m) l ++ [aAt k m] := mns_take hlt
      have hml : (mns (k.take m) l).length ≤ 4000000 := by
        have h1 : (mns (k.take m) l).length ≤ (k.take m).length := List.length_filter_le _ _
        rw [List.length_take] at h1; omega
      generalize hx : aAt k m = x at *
      generalize hhb : hasS l x.seq = hb at *
      go_wp2_with fail
      refine (hhas _ (Bel.out (by repeat (first | exact Bel.refl _ | assumption | refine Bel.drew ?_ | refine Bel.drewN ?_ _ | refine Bel.alloc ?_ _ | refine Bel.setCell ?_ (by simp <;> omega) _ | refine Bel.step ?_ (by assumption))))).mono ?_
      rintro e w3 ⟨rfl, hb3⟩
      have hb03 : Below wr.heap.size wr w3 := by first | exact hb3 | exact ((Bel.out (by repeat (first | exact Bel.refl _ | assumption | refine Bel.drew ?_ | refine Bel.drewN ?_ _ | refine Bel.alloc ?_ _ | refine Bel.setCell ?_ (by simp <;> omega) _ | refine Bel.step ?_ (by assumption)))) : Below wr.heap.size wr _).trans (hb3.mono (by first | exact Nat.le_refl _ | simp))
      have HI3 : Hid (RdI w1 w3 X 0 (.slice none 0 0) v (mns (k.take m) l)) := HI.out.below hb03
      have d0 := cell_below hb03 c0
      have d1 := cell_below hb03 c1
      have d2 := cell_below hb03 c2
      clear HI hb3 hb03 hhas c0 c1 c2 hF
      cases hb
      · have hms : mns (k.take (m + 1)) l = mns (k.take m) l ++ [x] := by rw [hms0]; rfl
        obtain ⟨v4, w4, hr4, ⟨a4, n4, c4, rfl⟩, hx4, hf4, hI4, hF4⟩ := HI3.out.app (by omega) x hml
        have hF0 : Fr (fun k => k = X ∨ v.ownBlock = some k) w3 (World.alloc w3.drew (.cells #[.int .i64 x.seq, .int .i64 x.time, .slice x.a x.row.length x.cap] 40)) := (Fr.refl (fun k => k = X ∨ v.ownBlock = some k) w3).drew.alloc _
        have dX := HI3.out.cell
        have dXa : World.cell? (World.alloc w3.drew (.cells #[.int .i64 x.seq, .int .i64 x.time, .slice x.a x.row.length x.cap] 40)) ⟨X, 0, none⟩ = some v := cell_below ((Below.refl w3.heap.size w3).drew.alloc (Nat.le_refl _) _) dX
        have dXb : (w3.alloc (Obj.cells #[.int .i64 x.seq, .int .i64 x.time, .slice x.a x.row.length x.cap] 40)).cell? ⟨X, 0, none⟩ = some v := cell_below ((Below.refl w3.heap.size w3).alloc (Nat.le_refl _) _) dX
        have HI4 : Hid _ := hI4
        have hnb : ¬ (b0 = X ∨ v.ownBlock = some b0) := by
          rintro (e | e)
          · exact hnb0 e
          · have := (HI3.out.own.lt b0 e).1; omega
        clear hI4 HI3 hms0
        go_upto_region 6 with (fail)
        refine wp_region_held_drew (S := (fun wS => Fr (fun k => k = X ∨ v.ownBlock = some k) w3 wS)) (by kernel_rfl) ?_ (fun hHeld => ?_)
        · (try dsimp only); exact (Fr.refl (fun k => k = X ∨ v.ownBlock = some k) w3).drew
        refine wpAnyH_take (i := 0) (oi := { dst := some 22, op := Op.fieldAddr 49 (Operand.tmp 5) 0, type := 0, pos := "ref.go:228", after := #[], guard := none }) (v := ?_) rfl (by kernel_rfl) (by kernel_rfl) (by kernel_rfl) (fun _ _ _ h => h) (Or.inl ⟨by kernel_rfl, ?_⟩) (by assumption) ?_
        rotate_left
        · intro wS hSw; (try dsimp only at hSw); go_simp; (try with_reducible rfl)
        try simp only [Act.put, List.setIfInBounds_toArray, List.set_cons_zero, List.set_cons_succ]
        refine wpAnyH_take (i := 2) (oi := { dst := some 24, op := Op.move (Operand.tmp 1), type := 31, pos := "ref.go:228", after := #[], guard := none }) (v := ?_) rfl (by kernel_rfl) (by kernel_rfl) (by kernel_rfl) (fun _ _ _ h => h) (Or.inl ⟨by kernel_rfl, ?_⟩) (by assumption) ?_
        rotate_left
        · intro wS hSw; (try dsimp only at hSw); go_simp; (try with_reducible rfl)
        try simp only [Act.put, List.setIfInBounds_toArray, List.set_cons_zero, List.set_cons_succ]
        refine wpAnyH_take (i := 3) (oi := { dst := some 25, op := Op.move (Operand.tmp 6), type := 3, pos := "ref.go:228", after := #[], guard := none }) (v := ?_) rfl (by kernel_rfl) (by kernel_rfl) (by kernel_rfl) (fun _ _ _ h => h) (Or.inl ⟨by kernel_rfl, ?_⟩) (by assumption) ?_
        rotate_left
        · intro wS hSw; (try dsimp only at hSw); go_simp; (try with_reducible rfl)
        try simp only [Act.put, List.setIfInBounds_toArray, List.set_cons_zero, List.set_cons_succ]
        refine wpAnyH_take (i := 4) (oi := { dst := some 26, op := Op.indexAddr 31 (Operand.tmp 24) (Operand.tmp 25), type := 0, pos := "ref.go:228", after := #[{ on := 2, ground := Ground.data }, { on := 3, ground := Ground.data }], guard := none }) (v := ?_) rfl (by kernel_rfl) (by kernel_rfl) (by kernel_rfl) (fun _ _ _ h => h) (Or.inl ⟨by kernel_rfl, ?_⟩) (by assumption) ?_
        rotate_left
        · intro wS hSw; (try dsimp only at hSw); go_simp; (try with_reducible rfl)
        try simp only [Act.put, List.setIfInBounds_toArray, List.set_cons_zero, List.set_cons_succ]
        refine wpAnyH_take (i := 5) (oi := { dst := some 27, op := Op.load 40 (Operand.tmp 26), type := 40, pos := "ref.go:228", after := #[{ on := 4, ground := Ground.data }], guard := none }) (v := ?_) rfl (by kernel_rfl) (by kernel_rfl) (by kernel_rfl) (fun _ _ _ h => h) (Or.inl ⟨by kernel_rfl, ?_⟩) (by assumption) ?_
        rotate_left
        · intro wS hSw; (try dsimp only at hSw); have c0 := hSw.cell hnb d0; have c1 := hSw.cell hnb d1; have c2 := hSw.cell hnb d2; go_simp; (try with_reducible rfl)
        try simp only [Act.put, List.setIfInBounds_toArray, List.set_cons_zero, List.set_cons_succ]
        refine wpAnyH_ready (rs := [1, 6]) (by kernel_rfl) (by simp) ?_
        refine AllReadyH.cons (o := { dst := some 23, op := Op.load 31 (Operand.tmp 22), type := 31, pos := "ref.go:228", after := #[{ on := 0, ground := Ground.data }], guard := none }) rfl (fun K hK => ?_) (AllReadyH.cons (o := { dst := some 28, op := Op.buildSlice 31 1 #[(0, Operand.tmp 27)], type := 31, pos := "ref.go:228", after := #[{ on := 5, ground := Ground.data }], guard := none }) rfl (fun K hK => ?_) AllReadyH.nil)
        · go_simp
          refine hK.out _ _ ?_ (fun hH1 => ?_)
          · (try dsimp only); exact (Fr.refl (fun k => k = X ∨ v.ownBlock = some k) w3).drew
          clear hK K
          try simp only [Act.put, List.setIfInBounds_toArray, List.set_cons_zero, List.set_cons_succ]
          refine wpAnyH_ready (rs := [6]) (by kernel_rfl) (by simp) ?_
          refine AllReadyH.cons (o := { dst := some 28, op := Op.buildSlice 31 1 #[(0, Operand.tmp 27)], type := 31, pos := "ref.go:228", after := #[{ on := 5, ground := Ground.data }], guard := none }) rfl (fun K hK => ?_) AllReadyH.nil
          go_simp
          refine hK.out _ _ ?_ (fun hH6 => ?_)
          · (try dsimp only); exact hF0
          clear hK K
          try simp only [Act.put, List.setIfInBounds_toArray, List.set_cons_zero, List.set_cons_succ]
          refine wpAnyH_ready (rs := [7]) (by kernel_rfl) (by simp) ?_
          refine AllReadyH.cons (o := { dst := some 29, op := Op.call { callee := Callee.builtin Builtin.append, args := #[Operand.tmp 23, Operand.tmp 28], argTypes := #[31, 31] }, type := 31, pos := "ref.go:228", after := #[{ on := 1, ground := Ground.data }, { on := 6, ground := Ground.data }], guard := none }) rfl (fun K hK => ?_) AllReadyH.nil
          refine wp_append_run _ _ 31 rfl _ _ rfl rfl hr4 ?_
          refine hK.out _ _ ?_ (fun hH7 => ?_)
          · (try dsimp only); exact hF4
          clear hK K
          try simp only [Act.put, List.setIfInBounds_toArray, List.set_cons_zero, List.set_cons_succ]
          refine wpAnyH_take (i := 8) (oi := { dst := some 30, op := Op.fieldAddr 49 (Operand.tmp 5) 0, type := 0, pos := "ref.go:228", after := #[{ on := 0, ground := Ground.phase }, { on := 1, ground := Ground.phase }, { on := 2, ground := Ground.phase }, { on := 3, ground := Ground.phase }, { on := 4, ground := Ground.phase }, { on := 5, ground := Ground.phase }, { on := 6, ground := Ground.phase }, { on := 7, ground := Ground.phase }], guard := none }) (v := ?_) rfl (by kernel_rfl) (by kernel_rfl) (by kernel_rfl) (fun _ _ _ h => h) (Or.inl ⟨by kernel_rfl, ?_⟩) (by assumption) ?_
          rotate_left
          · intro wS hSw; (try dsimp only at hSw); go_simp; (try with_reducible rfl)
          try simp only [Act.put, List.setIfInBounds_toArray, List.set_cons_zero, List.set_cons_succ]
          refine wpAnyH_ready (rs := [9]) (by kernel_rfl) (by simp) ?_
          refine AllReadyH.cons (o := { dst := none, op := Op.store 31 (Operand.tmp 30) (Operand.tmp 29), type := 0, pos := "ref.go:228", after := #[{ on := 8, ground := Ground.data }, { on := 7, ground := Ground.data }, { on := 7, ground := Ground.chain }, { on := 0, ground := Ground.phase }, { on := 1, ground := Ground.phase }, { on := 2, ground := Ground.phase }, { on := 3, ground := Ground.phase }, { on := 4, ground := Ground.phase }, { on := 5, ground := Ground.phase }, { on := 6, ground := Ground.phase }, { on := 7, ground := Ground.phase }], guard := none }) rfl (fun K hK => ?_) AllReadyH.nil
          go_simp
          refine hK.out _ _ ?_ (fun hH9 => ?_)
          · (try dsimp only); exact hF4.setCell (p := ⟨X, 0, none⟩) (Or.inl (Or.inl rfl)) _
          clear hK K
          try simp only [Act.put, List.setIfInBounds_toArray, List.set_cons_zero, List.set_cons_succ]
          refine wpAnyH_done (by kernel_rfl) ?_ _
          go_wp2
          go_roundw
          case rel => exact ⟨m + 1, _, by omega, by go_num, (by rw [hms]; exact HI4.out)⟩
          case measure => simp [intOf]; omega
        · go_simp
          refine hK.out _ _ ?_ (fun hH6 => ?_)
          · (try dsimp only); exact hF0
          clear hK K
          try simp only [Act.put, List.setIfInBounds_toArray, List.set_cons_zero, List.set_cons_succ]
          refine wpAnyH_ready (rs := [1]) (by kernel_rfl) (by simp) ?_
          refine AllReadyH.cons (o := { dst := some 23, op := Op.load 31 (Operand.tmp 22), type := 31, pos := "ref.go:228", after := #[{ on := 0, ground := Ground.data }], guard := none }) rfl (fun K hK => ?_) AllReadyH.nil
          go_simp
          refine hK.out _ _ ?_ (fun hH1 => ?_)
          · (try dsimp only); exact hF0
          clear hK K
          try simp only [Act.put, List.setIfInBounds_toArray, List.set_cons_zero, List.set_cons_succ]
          refine wpAnyH_ready (rs := [7]) (by kernel_rfl) (by simp) ?_
          refine AllReadyH.cons (o := { dst := some 29, op := Op.call { callee := Callee.builtin Builtin.append, args := #[Operand.tmp 23, Operand.tmp 28], argTypes := #[31, 31] }, type := 31, pos := "ref.go:228", after := #[{ on := 1, ground := Ground.data }, { on := 6, ground := Ground.data }], guard := none }) rfl (fun K hK => ?_) AllReadyH.nil
          refine wp_append_run _ _ 31 rfl _ _ rfl rfl hr4 ?_
          refine hK.out _ _ ?_ (fun hH7 => ?_)
          · (try dsimp only); exact hF4
          clear hK K
          try simp only [Act.put, List.setIfInBounds_toArray, List.set_cons_zero, List.set_cons_succ]
          refine wpAnyH_take (i := 8) (oi := { dst := some 30, op := Op.fieldAddr 49 (Operand.tmp 5) 0, type := 0, pos := "ref.go:228", after := #[{ on := 0, ground := Ground.phase }, { on := 1, ground := Ground.phase }, { on := 2, ground := Ground.phase }, { on := 3, ground := Ground.phase }, { on := 4, ground := Ground.phase }, { on := 5, ground := Ground.phase }, { on := 6, ground := Ground.phase }, { on := 7, ground := Ground.phase }], guard := none }) (v := ?_) rfl (by kernel_rfl) (by kernel_rfl) (by kernel_rfl) (fun _ _ _ h => h) (Or.inl ⟨by kernel_rfl, ?_⟩) (by assumption) ?_
          rotate_left
          · intro wS hSw; (try dsimp only at hSw); go_simp; (try with_reducible rfl)
          try simp only [Act.put, List.setIfInBounds_toArray, List.set_cons_zero, List.set_cons_succ]
          refine wpAnyH_ready (rs := [9]) (by kernel_rfl) (by simp) ?_
          refine AllReadyH.cons (o := { dst := none, op := Op.store 31 (Operand.tmp 30) (Operand.tmp 29), type := 0, pos := "ref.go:228", after := #[{ on := 8, ground := Ground.data }, { on := 7, ground := Ground.data }, { on := 7, ground := Ground.chain }, { on := 0, ground := Ground.phase }, { on := 1, ground := Ground.phase }, { on := 2, ground := Ground.phase }, { on := 3, ground := Ground.phase }, { on := 4, ground := Ground.phase }, { on := 5, ground := Ground.phase }, { on := 6, ground := Ground.phase }, { on := 7, ground := Ground.phase }], guard := none }) rfl (fun K hK => ?_) AllReadyH.nil
          go_simp
          refine hK.out _ _ ?_ (fun hH9 => ?_)
          · (try dsimp only); exact hF4.setCell (p := ⟨X, 0, none⟩) (Or.inl (Or.inl rfl)) _
          clear hK K
          try simp only [Act.put, List.setIfInBounds_toArray, List.set_cons_zero, List.set_cons_succ]
          refine wpAnyH_done (by kernel_rfl) ?_ _
          go_wp2
          go_roundw
          case rel => exact ⟨m + 1, _, by omega, by go_num, (by rw [hms]; exact HI4.out)⟩
          case measure => simp [intOf]; omega
      · have hms : mns (k.take (m + 1)) l = mns (k.take m) l := by rw [hms0]; rfl
        clear d0 d1 d2 hms0
        go_wp2
        go_roundw
        case rel => exact ⟨m + 1, v, by omega, by go_num, (by rw [hms]; exact HI3.out)⟩
        case measure => simp [intOf]; omega
    · obtain rfl : m = k.length := by omega
      have hI := HI.out
      rw [List.take_of_length_le (Nat.le_refl _)] at hI
      obtain ⟨w2, rfl⟩ : ∃ w2, w2 = wr := ⟨_, rfl⟩
      obtain ⟨ai, ci, rfl, hce1, hfr1⟩ := ars_of_owns hI.own
      have HB0w2 : Hid (Below w.heap.size w w2) := hF.below (a := w) (B := w.heap.size) HB0w1.out.size (fun q hq => by have := HXg.out; omega) HB0w1.out
      have hsz2 : w1.heap.size ≤ w2.heap.size := hF.size
      have HS2 : Hid (RdI w2 w2 X 1 (.slice ai (mns k l).length ci) (.slice none 0 0) (mns (l.take 0) k)) := ⟨hI.oth, hI.ofz, World.ownsRow_nil _ _ _ _, Fr.refl _ _, by have := hI.lt; omega, hI.cell, hI.frz⟩
      have HC1 : Hid (CelsAt w2 ai (mns k l)) := hce1
      have HA1 : Hid (∀ g f, ai = some ⟨g, f, none⟩ → w1.heap.size ≤ g) := fun g f e => (hfr1 g f e).1
      have HZ2 : Hid (w2.cell? ⟨G, 0, none⟩ = some (.slice none 0 0) ∧ w2.cell? ⟨G, 1, none⟩ = some (.slice none 0 0) ∧ w2.frozen? ⟨G, 0, none⟩ = false ∧ w2.frozen? ⟨G, 1, none⟩ = false ∧ G + 2 = w1.heap.size) := by
        obtain ⟨q0, q1, q2, q3, q4⟩ := HZ.out
        have hGX : ¬ G = X := by have := HGX.out; omega
        exact ⟨hF.cell hGX q0, hF.cell hGX q1, (hF.frozen (by omega) hGX).trans q2, (hF.frozen (by omega) hGX).trans q3, q4⟩
      have HSZ : Hid (w1.heap.size ≤ w2.heap.size) := hsz2
      clear hI HI hF hce1 hfr1 hsz2 HS HZ
      go_wp2
      go_loopw [7] (fun i wr => ∃ (m : Nat) (v : Value), m ≤ l.length ∧ i = .int .i64 m ∧ RdI w2 wr X 1 (.slice ai (mns k l).length ci) v (mns (l.take m) k)) (fun i _ => l.length - (intOf i).toNat)
      case atStart => exact ⟨0, _, Nat.zero_le _, rfl, HS2.out⟩
      case round =>
        obtain ⟨m, v, hm, rfl, hI⟩ := hrel
        have HI : Hid (RdI w2 wr X 1 (.slice ai (mns k l).length ci) v (mns (l.take m) k)) := hI
        have hF := hI.fr
        clear hI
        rcases Nat.lt_or_ge m l.length with hlt | hge
        · obtain ⟨b0, off, rfl, hc⟩ : ∃ b0 off, a = some ⟨b0, off, none⟩ ∧ ∀ i, i < l.length → w.cell? ⟨b0, off + i * 3, none⟩ = some (.int .i64 (aAt l i).seq) ∧ w.cell? ⟨b0, off + i * 3 + 1, none⟩ = some (.int .i64 (aAt l i).time) ∧ w.cell? ⟨b0, off + i * 3 + 2, none⟩ = some (.slice (aAt l i).a (aAt l i).row.length (aAt l i).cap) := by
            rcases Hl.out with h | h
            · rw [h] at hlt; cases hlt
            · exact h
          have hbl0 : b0 < w.heap.size := cell_lt (hc m hlt).1
          have hnb0 : ¬ b0 = X := by have := HXg.out; omega
          have c0 := hF.cell hnb0 (cell_below HB0w2.out (hc m hlt).1)
          have c1 := hF.cell hnb0 (cell_below HB0w2.out (hc m hlt).2.1)
          have c2 := hF.cell hnb0 (cell_below HB0w2.out (hc m hlt).2.2)
          have hbl : b0 < w2.heap.size := Nat.lt_of_lt_of_le hbl0 HB0w2.out.size
          clear hc
          have hhas := fun wx (hb : Below wr.heap.size wr wx) => Has_any b bcap k (aAt l m).seq wx (by omega) (CelsAt.below (cels_fr Hk.out HB0w2.out hF HXg.out) hb)
          have hms0 : mns (l.take (m + 1)) k = if hasS k (aAt l m).seq then mns (l.take m) k else mns (l.take m) k ++ [aAt l m] := mns_take hlt
          have hml : (mns (l.take m) k).length ≤ 4000000 := by
            have h1 : (mns (l.take m) k).length ≤ (l.take m).length := List.length_filter_le _ _
            rw [List.length_take] at h1; omega
          generalize hx : aAt l m = x at *
          generalize hhb : hasS k x.seq = hb at *
          go_wp2_with fail
          refine (hhas _ (Bel.out (by repeat (first | exact Bel.refl _ | assumption | refine Bel.drew ?_ | refine Bel.drewN ?_ _ | refine Bel.alloc ?_ _ | refine Bel.setCell ?_ (by simp <;> omega) _ | refine Bel.step ?_ (by assumption))))).mono ?_
          rintro e w3 ⟨rfl, hb3⟩
          have hb03 : Below wr.heap.size wr w3 := by first | exact hb3 | exact ((Bel.out (by repeat (first | exact Bel.refl _ | assumption | refine Bel.drew ?_ | refine Bel.drewN ?_ _ | refine Bel.alloc ?_ _ | refine Bel.setCell ?_ (by simp <;> omega) _ | refine Bel.step ?_ (by assumption)))) : Below wr.heap.size wr _).trans (hb3.mono (by first | exact Nat.le_refl _ | simp))
          have HI3 : Hid (RdI w2 w3 X 1 (.slice ai (mns k l).length ci) v (mns (l.take m) k)) := HI.out.below hb03
          have d0 := cell_below hb03 c0
          have d1 := cell_below hb03 c1
          have d2 := cell_below hb03 c2
          clear HI hb3 hb03 hhas c0 c1 c2 hF
          cases hb
          · have hms : mns (l.take (m + 1)) k = mns (l.take m) k ++ [x] := by rw [hms0]; rfl
            obtain ⟨v4, w4, hr4, ⟨a4, n4, c4, rfl⟩, hx4, hf4, hI4, hF4⟩ := HI3.out.app (by omega) x hml
            have hF0 : Fr (fun k => k = X ∨ v.ownBlock = some k) w3 (World.alloc w3.drew (.cells #[.int .i64 x.seq, .int .i64 x.time, .slice x.a x.row.length x.cap] 40)) := (Fr.refl (fun k => k = X ∨ v.ownBlock = some k) w3).drew.alloc _
            have dX := HI3.out.cell
            have dXa : World.cell? (World.alloc w3.drew (.cells #[.int .i64 x.seq, .int .i64 x.time, .slice x.a x.row.length x.cap] 40)) ⟨X, 1, none⟩ = some v := cell_below ((Below.refl w3.heap.size w3).drew.alloc (Nat.le_refl _) _) dX
            have dXb : (w3.alloc (Obj.cells #[.int .i64 x.seq, .int .i64 x.time, .slice x.a x.row.length x.cap] 40)).cell? ⟨X, 1, none⟩ = some v := cell_below ((Below.refl w3.heap.size w3).alloc (Nat.le_refl _) _) dX
            have HI4 : Hid _ := hI4
            have hnb : ¬ (b0 = X ∨ v.ownBlock = some b0) := by
              rintro (e | e)
              · exact hnb0 e
              · have := (HI3.out.own.lt b0 e).1; omega
            clear hI4 HI3 hms0
            go_upto_region 11 with (fail)
            refine wp_region_held_drew (S := (fun wS => Fr (fun k => k = X ∨ v.ownBlock = some k) w3 wS)) (by kernel_rfl) ?_ (fun hHeld => ?_)
            · (try dsimp only); exact (Fr.refl (fun k => k = X ∨ v.ownBlock = some k) w3).drew
            refine wpAnyH_take (i := 0) (oi := { dst := some 45, op := Op.fieldAddr 49 (Operand.tmp 5) 1, type := 0, pos := "ref.go:233", after := #[], guard := none }) (v := ?_) rfl (by kernel_rfl) (by kernel_rfl) (by kernel_rfl) (fun _ _ _ h => h) (Or.inl ⟨by kernel_rfl, ?_⟩) (by assumption) ?_
            rotate_left
            · intro wS hSw; (try dsimp only at hSw); go_simp; (try with_reducible rfl)
            try simp only [Act.put, List.setIfInBounds_toArray, List.set_cons_zero, List.set_cons_succ]
            refine wpAnyH_take (i := 2) (oi := { dst := some 47, op := Op.move (Operand.tmp 0), type := 31, pos := "ref.go:233", after := #[], guard := none }) (v := ?_) rfl (by kernel_rfl) (by kernel_rfl) (by kernel_rfl) (fun _ _ _ h => h) (Or.inl ⟨by kernel_rfl, ?_⟩) (by assumption) ?_
            rotate_left
            · intro wS hSw; (try dsimp only at hSw); go_simp; (try with_reducible rfl)
            try simp only [Act.put, List.setIfInBounds_toArray, List.set_cons_zero, List.set_cons_succ]
            refine wpAnyH_take (i := 3) (oi := { dst := some 48, op := Op.move (Operand.tmp 7), type := 3, pos := "ref.go:233", after := #[], guard := none }) (v := ?_) rfl (by kernel_rfl) (by kernel_rfl) (by kernel_rfl) (fun _ _ _ h => h) (Or.inl ⟨by kernel_rfl, ?_⟩) (by assumption) ?_
            rotate_left
            · intro wS hSw; (try dsimp only at hSw); go_simp; (try with_reducible rfl)
            try simp only [Act.put, List.setIfInBounds_toArray, List.set_cons_zero, List.set_cons_succ]
            refine wpAnyH_take (i := 4) (oi := { dst := some 49, op := Op.indexAddr 31 (Operand.tmp 47) (Operand.tmp 48), type := 0, pos := "ref.go:233", after := #[{ on := 2, ground := Ground.data }, { on := 3, ground := Ground.data }], guard := none }) (v := ?_) rfl (by kernel_rfl) (by kernel_rfl) (by kernel_rfl) (fun _ _ _ h => h) (Or.inl ⟨by kernel_rfl, ?_⟩) (by assumption) ?_
            rotate_left
            · intro wS hSw; (try dsimp only at hSw); go_simp; (try with_reducible rfl)
            try simp only [Act.put, List.setIfInBounds_toArray, List.set_cons_zero, List.set_cons_succ]
            refine wpAnyH_take (i := 5) (oi := { dst := some 50, op := Op.load 40 (Operand.tmp 49), type := 40, pos := "ref.go:233", after := #[{ on := 4, ground := Ground.data }], guard := none }) (v := ?_) rfl (by kernel_rfl) (by kernel_rfl) (by kernel_rfl) (fun _ _ _ h => h) (Or.inl ⟨by kernel_rfl, ?_⟩) (by assumption) ?_
            rotate_left
            · intro wS hSw; (try dsimp only at hSw); have c0 := hSw.cell hnb d0; have c1 := hSw.cell hnb d1; have c2 := hSw.cell hnb d2; go_simp; (try with_reducible rfl)
            try simp only [Act.put, List.setIfInBounds_toArray, List.set_cons_zero, List.set_cons_succ]
            refine wpAnyH_ready (rs := [1, 6]) (by kernel_rfl) (by simp) ?_
            refine AllReadyH.cons (o := { dst := some 46, op := Op.load 31 (Operand.tmp 45), type := 31, pos := "ref.go:233", after := #[{ on := 0, ground := Ground.data }], guard := none }) rfl (fun K hK => ?_) (AllReadyH.cons (o := { dst := some 51, op := Op.buildSlice 31 1 #[(0, Operand.tmp 50)], type := 31, pos := "ref.go:233", after := #[{ on := 5, ground := Ground.data }], guard := none }) rfl (fun K hK => ?_) AllReadyH.nil)
            · go_simp
              refine hK.out _ _ ?_ (fun hH1 => ?_)
              · (try dsimp only); exact (Fr.refl (fun k => k = X ∨ v.ownBlock = some k) w3).drew
              clear hK K
              try simp only [Act.put, List.setIfInBounds_toArray, List.set_cons_zero, List.set_cons_succ]
              refine wpAnyH_ready (rs := [6]) (by kernel_rfl) (by simp) ?_
              refine AllReadyH.cons (o := { dst := some 51, op := Op.buildSlice 31 1 #[(0, Operand.tmp 50)], type := 31, pos := "ref.go:233", after := #[{ on := 5, ground := Ground.data }], guard := none }) rfl (fun K hK => ?_) AllReadyH.nil
              go_simp
              refine hK.out _ _ ?_ (fun hH6 => ?_)
              · (try dsimp only); exact hF0
              clear hK K
              try simp only [Act.put, List.setIfInBounds_toArray, List.set_cons_zero, List.set_cons_succ]
              refine wpAnyH_ready (rs := [7]) (by kernel_rfl) (by simp) ?_
              refine AllReadyH.cons (o := { dst := some 52, op := Op.call { callee := Callee.builtin Builtin.append, args := #[Operand.tmp 46, Operand.tmp 51], argTypes := #[31, 31] }, type := 31, pos := "ref.go:233", after := #[{ on := 1, ground := Ground.data }, { on := 6, ground := Ground.data }], guard := none }) rfl (fun K hK => ?_) AllReadyH.nil
              refine wp_append_run _ _ 31 rfl _ _ rfl rfl hr4 ?_
              refine hK.out _ _ ?_ (fun hH7 => ?_)
              · (try dsimp only); exact hF4
              clear hK K
              try simp only [Act.put, List.setIfInBounds_toArray, List.set_cons_zero, List.set_cons_succ]
              refine wpAnyH_take (i := 8) (oi := { dst := some 53, op := Op.fieldAddr 49 (Operand.tmp 5) 1, type := 0, pos := "ref.go:233", after := #[{ on := 0, ground := Ground.phase }, { on := 1, ground := Ground.phase }, { on := 2, ground := Ground.phase }, { on := 3, ground := Ground.phase }, { on := 4, ground := Ground.phase }, { on := 5, ground := Ground.phase }, { on := 6, ground := Ground.phase }, { on := 7, ground := Ground.phase }], guard := none }) (v := ?_) rfl (by kernel_rfl) (by kernel_rfl) (by kernel_rfl) (fun _ _ _ h => h) (Or.inl ⟨by kernel_rfl, ?_⟩) (by assumption) ?_
              rotate_left
              · intro wS hSw; (try dsimp only at hSw); go_simp; (try with_reducible rfl)
              try simp only [Act.put, List.setIfInBounds_toArray, List.set_cons_zero, List.set_cons_succ]
              refine wpAnyH_ready (rs := [9]) (by kernel_rfl) (by simp) ?_
              refine AllReadyH.cons (o := { dst := none, op := Op.store 31 (Operand.tmp 53) (Operand.tmp 52), type := 0, pos := "ref.go:233", after := #[{ on := 8, ground := Ground.data }, { on := 7, ground := Ground.data }, { on := 7, ground := Ground.chain }, { on := 0, ground := Ground.phase }, { on := 1, ground := Ground.phase }, { on := 2, ground := Ground.phase }, { on := 3, ground := Ground.phase }, { on := 4, ground := Ground.phase }, { on := 5, ground := Ground.phase }, { on := 6, ground := Ground.phase }, { on := 7, ground := Ground.phase }], guard := none }) rfl (fun K hK => ?_) AllReadyH.nil
              go_simp
              refine hK.out _ _ ?_ (fun hH9 => ?_)
              · (try dsimp only); exact hF4.setCell (p := ⟨X, 1, none⟩) (Or.inl (Or.inl rfl)) _
              clear hK K
              try simp only [Act.put, List.setIfInBounds_toArray, List.set_cons_zero, List.set_cons_succ]
              refine wpAnyH_done (by kernel_rfl) ?_ _
              go_wp2
              go_roundw
              case rel => exact ⟨m + 1, _, by omega, by go_num, (by rw [hms]; exact HI4.out)⟩
              case measure => simp [intOf]; omega
            · go_simp
              refine hK.out _ _ ?_ (fun hH6 => ?_)
              · (try dsimp only); exact hF0
              clear hK K
              try simp only [Act.put, List.setIfInBounds_toArray, List.set_cons_zero, List.set_cons_succ]
              refine wpAnyH_ready (rs := [1]) (by kernel_rfl) (by simp) ?_
              refine AllReadyH.cons (o := { dst := some 46, op := Op.load 31 (Operand.tmp 45), type := 31, pos := "ref.go:233", after := #[{ on := 0, ground := Ground.data }], guard := none }) rfl (fun K hK => ?_) AllReadyH.nil
              go_simp
              refine hK.out _ _ ?_ (fun hH1 => ?_)
              · (try dsimp only); exact hF0
              clear hK K
              try simp only [Act.put, List.setIfInBounds_toArray, List.set_cons_zero, List.set_cons_succ]
              refine wpAnyH_ready (rs := [7]) (by kernel_rfl) (by simp) ?_
              refine AllReadyH.cons (o := { dst := some 52, op := Op.call { callee := Callee.builtin Builtin.append, args := #[Operand.tmp 46, Operand.tmp 51], argTypes := #[31, 31] }, type := 31, pos := "ref.go:233", after := #[{ on := 1, ground := Ground.data }, { on := 6, ground := Ground.data }], guard := none }) rfl (fun K hK => ?_) AllReadyH.nil
              refine wp_append_run _ _ 31 rfl _ _ rfl rfl hr4 ?_
              refine hK.out _ _ ?_ (fun hH7 => ?_)
              · (try dsimp only); exact hF4
              clear hK K
              try simp only [Act.put, List.setIfInBounds_toArray, List.set_cons_zero, List.set_cons_succ]
              refine wpAnyH_take (i := 8) (oi := { dst := some 53, op := Op.fieldAddr 49 (Operand.tmp 5) 1, type := 0, pos := "ref.go:233", after := #[{ on := 0, ground := Ground.phase }, { on := 1, ground := Ground.phase }, { on := 2, ground := Ground.phase }, { on := 3, ground := Ground.phase }, { on := 4, ground := Ground.phase }, { on := 5, ground := Ground.phase }, { on := 6, ground := Ground.phase }, { on := 7, ground := Ground.phase }], guard := none }) (v := ?_) rfl (by kernel_rfl) (by kernel_rfl) (by kernel_rfl) (fun _ _ _ h => h) (Or.inl ⟨by kernel_rfl, ?_⟩) (by assumption) ?_
              rotate_left
              · intro wS hSw; (try dsimp only at hSw); go_simp; (try with_reducible rfl)
              try simp only [Act.put, List.setIfInBounds_toArray, List.set_cons_zero, List.set_cons_succ]
              refine wpAnyH_ready (rs := [9]) (by kernel_rfl) (by simp) ?_
              refine AllReadyH.cons (o := { dst := none, op := Op.store 31 (Operand.tmp 53) (Operand.tmp 52), type := 0, pos := "ref.go:233", after := #[{ on := 8, ground := Ground.data }, { on := 7, ground := Ground.data }, { on := 7, ground := Ground.chain }, { on := 0, ground := Ground.phase }, { on := 1, ground := Ground.phase }, { on := 2, ground := Ground.phase }, { on := 3, ground := Ground.phase }, { on := 4, ground := Ground.phase }, { on := 5, ground := Ground.phase }, { on := 6, ground := Ground.phase }, { on := 7, ground := Ground.phase }], guard := none }) rfl (fun K hK => ?_) AllReadyH.nil
              go_simp
              refine hK.out _ _ ?_ (fun hH9 => ?_)
              · (try dsimp only); exact hF4.setCell (p := ⟨X, 1, none⟩) (Or.inl (Or.inl rfl)) _
              clear hK K
              try simp only [Act.put, List.setIfInBounds_toArray, List.set_cons_zero, List.set_cons_succ]
              refine wpAnyH_done (by kernel_rfl) ?_ _
              go_wp2
              go_roundw
              case rel => exact ⟨m + 1, _, by omega, by go_num, (by rw [hms]; exact HI4.out)⟩
              case measure => simp [intOf]; omega
          · have hms : mns (l.take (m + 1)) k = mns (l.take m) k := by rw [hms0]; rfl
            clear d0 d1 d2 hms0
            go_wp2
            go_roundw
            case rel => exact ⟨m + 1, v, by omega, by go_num, (by rw [hms]; exact HI3.out)⟩
            case measure => simp [intOf]; omega
        · obtain rfl : m = l.length := by omega
          have hI := HI.out
          rw [List.take_of_length_le (Nat.le_refl _)] at hI
          obtain ⟨ao, co, rfl, hce2, hfr2⟩ := ars_of_owns hI.own
          obtain ⟨q0, q1, q2, q3, q4⟩ := HZ2.out
          have hGX : ¬ G = X := by have := HGX.out; omega
          have e0 := hF.cell hGX q0
          have e1 := hF.cell hGX q1
          have g0 : wr.frozen? ⟨G, 0, none⟩ = false := (hF.frozen (by have := HSZ.out; omega) hGX).trans q2
          have g1 : wr.frozen? ⟨G, 1, none⟩ = false := (hF.frozen (by have := HSZ.out; omega) hGX).trans q3
          have v0 : wr.cell? ⟨X, 0, none⟩ = some (.slice ai (mns k l).length ci) := hI.oth
          have v1 : wr.cell? ⟨X, 1, none⟩ = some (.slice ao (mns l k).length co) := hI.cell
          have HC2 : Hid (CelsAt wr ao (mns l k)) := hce2
          have HA2 : Hid (∀ g f, ao = some ⟨g, f, none⟩ → w2.heap.size ≤ g) := fun g f e => (hfr2 g f e).1
          have HF2 : Hid (Fr (fun q => q = X) w2 wr) := hF
          have HQ4 : Hid (G + 2 = w1.heap.size) := q4
          clear hI HI hF hce2 hfr2 q0 q1 q2 q3 q4 HS2 HZ2
          go_wp2
          have hFg := (fr_set wr G 0 (Value.slice ai (mns k l).length ci)).trans (fr_set (wr.setCell ⟨G, 0, none⟩ (Value.slice ai (mns k l).length ci)) G 1 (Value.slice ao (mns l k).length co))
          have t0 : ((wr.setCell ⟨G, 0, none⟩ (Value.slice ai (mns k l).length ci)).setCell ⟨G, 1, none⟩ (Value.slice ao (mns l k).length co)).cell? ⟨G, 0, none⟩ = some (.slice ai (mns k l).length ci) := by go_simp
          have t1 : ((wr.setCell ⟨G, 0, none⟩ (Value.slice ai (mns k l).length ci)).setCell ⟨G, 1, none⟩ (Value.slice ao (mns l k).length co)).cell? ⟨G, 1, none⟩ = some (.slice ao (mns l k).length co) := by go_simp
          have hFgw := hFg.weak (T := fun q => q = X ∨ q = G) (fun q h => Or.inr h)
          have hF2w := HF2.out.weak (T := fun q => q = X ∨ q = G) (fun q h => Or.inl h)
          have hFall := hF2w.trans hFgw
          have hFw : Fr (fun q => q = X ∨ q = G) w _ := (HB0w2.out.size |> fun _ => (Fr.of HB0w2.out : Fr (fun q => q = X ∨ q = G) w w2)).trans hFall
          have hXs : ∀ q, (q = X ∨ q = G) → w.heap.size ≤ q := by
            have := HXg.out; have := HGG.out
            rintro q (rfl | rfl) <;> omega
          refine bodyPost_ret (v := .agg #[.slice ai (mns k l).length ci, .slice ao (mns l k).length co]) (by simp [results, Tryd.results18, go_sem, t0, t1]) rfl ⟨ai, ci, ao, co, rfl, ⟨cels_S HC1.out hFall (fun g f e => ?_), fun x hx => row_S (HRk.out x (List.mem_filter.1 hx).1) hFw hXs⟩, ⟨cels_S HC2.out hFgw (fun g f e => ?_), fun x hx => row_S (HRl.out x (List.mem_filter.1 hx).1) hFw hXs⟩, ?_⟩
          · have h1 := HA1.out g f e
            have h2 := HGX.out
            have h3 := HQ4.out
            rintro (h4 | h4) <;> omega
          · have h1 := HA2.out g f e
            have h2 := HGX.out
            have h3 := HQ4.out
            have h5 := HSZ.out
            rintro (h4 | h4) <;> omega
          · exact hFall.below (a := w) (B := w.heap.size) HB0w2.out.size hXs HB0w2.out
end Go.Proofs.YtfjpdflilmcnhaaDoor
