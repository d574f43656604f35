/- A row is put behind all others (put): its ways. -/
import Derived.Test.YtbfodpmlmhkikaaDoorLeave
import Derived.Test.YtbfodpmlmhkikaaDoorClone
namespace Go.Proofs.YtbfodpmlmhkikaaDoor
open Go.ChangeShapes Go.WideShapes Go.ChangeAt Go.RowKit
open Go.ChangeMaps (setBlock)

/-- One value of a row that is put: the ways, how many places were given, the place. -/
def ptS (s : List (Pce × Way) × Int × Int) (v : Val) : List (Pce × Way) × Int × Int := match lk s.1 (s.2.2, v) with
  | some x => (up s.1 (s.2.2, v) (x.1, x.2 + 1), s.2.1, x.1)
  | none => (up s.1 (s.2.2, v) (s.2.1 + 1, 1), s.2.1 + 1, s.2.1 + 1)
def ptL (s : List (Pce × Way) × Int × Int) (r : List Val) : List (Pce × Way) × Int × Int := r.foldl ptS s
theorem new5_0 (w : World) (o : Obj) (x y z u : Value) (t : TypeId) : ((w.alloc o).alloc (.cells #[x, y, z, u] t)).cell? ⟨w.heap.size + 1, 0, none⟩ = some x := by have h := new4_0 (w.alloc o) x y z u t; rwa [World.size_alloc] at h
theorem new5_1 (w : World) (o : Obj) (x y z u : Value) (t : TypeId) : ((w.alloc o).alloc (.cells #[x, y, z, u] t)).cell? ⟨w.heap.size + 1, 1, none⟩ = some y := by have h := new4_1 (w.alloc o) x y z u t; rwa [World.size_alloc] at h
theorem new5_2 (w : World) (o : Obj) (x y z u : Value) (t : TypeId) : ((w.alloc o).alloc (.cells #[x, y, z, u] t)).cell? ⟨w.heap.size + 1, 2, none⟩ = some z := by have h := new4_2 (w.alloc o) x y z u t; rwa [World.size_alloc] at h
theorem new5_3 (w : World) (o : Obj) (x y z u : Value) (t : TypeId) : ((w.alloc o).alloc (.cells #[x, y, z, u] t)).cell? ⟨w.heap.size + 1, 3, none⟩ = some u := by have h := new4_3 (w.alloc o) x y z u t; rwa [World.size_alloc] at h
theorem Fr.cnt (w : World) (b o : Nat) (v : Value) : Fr (fun k => k = b) w (w.setCell ⟨b, o, none⟩ v) := Fr.setCell (S := fun k => k = b) (Fr.refl _ _) (Or.inl (show b = b from rfl)) v
theorem set_off {w : World} {b x y : Nat} {u : Value} (h : x ≠ y) : (w.setCell ⟨b, y, none⟩ u).cell? ⟨b, x, none⟩ = w.cell? ⟨b, x, none⟩ := World.cell?_setCell_other _ _ _ _ (by intro e; injection e with _ e2 _; exact h e2.symm)
theorem set_blk {w : World} {b c x y : Nat} {u : Value} (h : b ≠ c) : (w.setCell ⟨c, y, none⟩ u).cell? ⟨b, x, none⟩ = w.cell? ⟨b, x, none⟩ := World.cell?_setCell_other _ _ _ _ (by intro e; injection e with e2 _ _; exact h e2.symm)
/-- How many rows go each way: at most c. -/
def Few (WL : List (Pce × Way)) (c : Int) : Prop := ∀ y ∈ WL, 0 ≤ y.2.2 ∧ y.2.2 ≤ c
theorem mem_up {α β : Type} [DecidableEq α] {L : List (α × β)} {k : α} {v : β} {y : α × β} (h : y ∈ up L k v) : y ∈ L ∨ y = (k, v) := by
  induction L with
  | nil => simp only [up, List.mem_singleton] at h; exact Or.inr h
  | cons x L ih =>
    simp only [up] at h
    split at h
    · rcases List.mem_cons.1 h with h | h
      · exact Or.inr h
      · exact Or.inl (List.mem_cons_of_mem _ h)
    · rcases List.mem_cons.1 h with h | h
      · exact Or.inl (h ▸ List.mem_cons_self)
      · rcases ih h with h | h
        · exact Or.inl (List.mem_cons_of_mem _ h)
        · exact Or.inr h
theorem lk_mem {α β : Type} [DecidableEq α] {L : List (α × β)} {k : α} {v : β} (h : lk L k = some v) : (k, v) ∈ L := by
  unfold lk at h
  obtain ⟨x, hx, rfl⟩ := Option.map_eq_some_iff.1 h
  have h1 := List.find?_some hx
  have h2 := List.mem_of_find?_eq_some hx
  simp only [decide_eq_true_eq] at h1
  rw [← h1]; exact h2
theorem Few.lk {WL : List (Pce × Way)} {c : Int} (h : Few WL c) {p : Pce} {x : Way} (hl : lk WL p = some x) : 0 ≤ x.2 ∧ x.2 ≤ c := h _ (lk_mem hl)
theorem Few.up {WL : List (Pce × Way)} {c : Int} (h : Few WL c) {p : Pce} {x : Way} (hx : 0 ≤ x.2 ∧ x.2 ≤ c + 1) : Few (up WL p x) (c + 1) := by
  intro y hy
  rcases mem_up hy with hy | rfl
  · have := h y hy; omega
  · exact hx
set_option maxRecDepth 20000 in
set_option maxHeartbeats 16000000 in
theorem put_some (b off cap : Nat) (M : Mb) (WL : List (Pce × Way)) (HL : List (Int × Ent)) (pl bi c n : Int) (r : List Val) (w : World) (hM : MpAt w M WL HL pl bi)
    (hc : ∀ i, i < r.length → w.cell? ⟨b, off + i * 3, none⟩ = some (.int .i64 (kAt r i)) ∧ w.cell? ⟨b, off + i * 3 + 1, none⟩ = some (.int .i64 (nAt r i)) ∧ w.cell? ⟨b, off + i * 3 + 2, none⟩ = some (.string (tAt r i)))
    (hb : 0 < r.length → ¬ M.own b) (hF : Few WL c) (hc0 : 0 ≤ c) (hcr : c + r.length < 4611686018427387904) (hp0 : 0 ≤ pl) (hpr : pl + r.length < 4611686018427387904) (hb0 : 0 ≤ bi) (hbr : bi < 4611686018427387904) (hby : r.length * 32 ≤ 140737488355328) :
    Calls Tryd.prog 33 #[.pointer (some ⟨M.m, 0, none⟩), .slice (some ⟨b, off, none⟩) r.length cap, .int .i64 n] w fun e w' => e = .returned (.tuple #[]) ∧ ∃ a' cap', MpAt w' M (ptL (WL, pl, 0) r).1 (up HL (ptL (WL, pl, 0) r).2.2 ⟨a', cap', r, n, bi + 1⟩) (ptL (WL, pl, 0) r).2.1 (bi + 1) ∧ Fr M.own w w' ∧ ∀ g o, a' = some ⟨g, o, none⟩ → w.heap.size ≤ g := by
  have hmap : ∀ wx : World, (binOp .eql 73 (.map (some M.h)) (.map none)).run Tryd.prog wx = .ok (.bool false) wx := fun wx => by kernel_rfl
  have m1 := hM.c1
  go_enter Tryd.func33, Tryd.ntmps33
  go_wp2
  go_loopw [6, 24] (fun p i wr => ∃ (m : Nat) (q : Int) (WM : List (Pce × Way)) (pm : Int), m ≤ r.length ∧ p = .int .i64 q ∧ i = .int .i64 m ∧ ptL (WL, pl, 0) (r.take m) = (WM, pm, q) ∧ Few WM (c + m) ∧ 0 ≤ pm ∧ pm ≤ pl + m ∧ MpAt wr M WM HL pm bi ∧ Fr M.own w wr) (fun _ i _ => r.length - (intOf i).toNat)
  case atStart => exact ⟨0, 0, WL, pl, Nat.zero_le _, rfl, rfl, rfl, by simpa using hF, hp0, by omega, hM, Fr.refl _ _⟩
  case round =>
    obtain ⟨m, q, WM, pm, hm, rfl, rfl, hV, hFw, hpm0, hpm1, hMr, hFr⟩ := hrel
    have HV : Hid (ptL (WL, pl, 0) (r.take m) = (WM, pm, q)) := hV
    have HFw : Hid (Few WM (c + m)) := hFw
    have HFr : Hid (Fr M.own w wr) := hFr
    clear hV hFw m1
    rcases Nat.lt_or_ge m r.length with hlt | hge
    · have c0 := hFr.cell (hb (by omega)) (hc m hlt).1
      have c1 := hFr.cell (hb (by omega)) (hc m hlt).2.1
      have c2 := hFr.cell (hb (by omega)) (hc m hlt).2.2
      clear hc hM hF hFr
      generalize hl : lk WM (q, kAt r m, nAt r m, tAt r m) = l
      cases l with
      | none =>
        have HN : Hid (ptL (WL, pl, 0) (r.take (m + 1)) = (up WM (q, kAt r m, nAt r m, tAt r m) (pm + 1, 1), (pm + 1), (pm + 1))) := by
          show _ = _
          rw [take_at hlt]; unfold ptL at HV ⊢; rw [List.foldl_append, HV.out]
          simp only [List.foldl_cons, List.foldl_nil, ptS, hl]
        have HN2 : Hid (Few (up WM (q, kAt r m, nAt r m, tAt r m) (pm + 1, 1)) (c + (m + 1 : Nat))) := by
          show Few _ _
          rw [show c + ((m + 1 : Nat) : Int) = c + m + 1 by omega]
          exact HFw.out.up (by dsimp only; omega)
        go_wp2
        obtain ⟨W0, hW0⟩ : ∃ W0 : World, (wr.alloc (.cells #[.int .i64 (kAt r m), .int .i64 (nAt r m), .string (tAt r m)] 53)).alloc (.cells #[.int .i64 q, .int .i64 (kAt r m), .int .i64 (nAt r m), .string (tAt r m)] 85) = W0 := ⟨_, rfl⟩
        have hB0 : Below wr.heap.size wr W0 := by rw [← hW0]; exact ((Below.refl _ _).alloc (Nat.le_refl _) _).alloc (by simp) _
        have hsz : wr.heap.size + 1 < W0.heap.size := by rw [← hW0]; simp
        have p0 : W0.cell? ⟨wr.heap.size + 1, 0, none⟩ = some (.int .i64 q) := by rw [← hW0]; exact new5_0 _ _ _ _ _ _ _
        have p1 : W0.cell? ⟨wr.heap.size + 1, 1, none⟩ = some (.int .i64 (kAt r m)) := by rw [← hW0]; exact new5_1 _ _ _ _ _ _ _
        have p2 : W0.cell? ⟨wr.heap.size + 1, 2, none⟩ = some (.int .i64 (nAt r m)) := by rw [← hW0]; exact new5_2 _ _ _ _ _ _ _
        have p3 : W0.cell? ⟨wr.heap.size + 1, 3, none⟩ = some (.string (tAt r m)) := by rw [← hW0]; exact new5_3 _ _ _ _ _ _ _
        have hM0 := hMr.below hB0
        have m0 := hM0.c0
        have m2 := hM0.c2
        have mf := hM0.f2
        have hml := cell_lt m0
        have hmg : M.m ≠ W0.heap.size := by omega
        have hpm : wr.heap.size + 1 ≠ M.m := by have := cell_lt hMr.c0; omega
        obtain ⟨es, clk, hMW⟩ := hM0.ways
        rw [hW0]
        clear hW0 c0 c1 c2 hMr
        refine wp_region_held_drew (S := (fun wS => Bel W0.heap.size W0 wS)) (by kernel_rfl) ?_ (fun hHeld => ?_)
        · (try dsimp only); exact (Bel.refl _).drew
        refine wpAnyH_take (i := 0) (oi := { dst := some 32, op := Op.move (Operand.tmp 0), type := 37, pos := "key.go:199", after := #[], guard := none }) (v := ?_) rfl (by kernel_rfl) (by kernel_rfl) (by kernel_rfl) (fun _ _ _ h => h) (Or.inl ⟨by kernel_rfl, ?_⟩) (by assumption) ?_
        rotate_left
        · intro wS hSw; (try dsimp only at hSw); go_simp; (try with_reducible rfl)
        try simp only [Act.put, List.setIfInBounds_toArray, List.set_cons_zero, List.set_cons_succ]
        refine wpAnyH_take (i := 1) (oi := { dst := some 33, op := Op.nilCheck (Operand.tmp 32), type := 0, pos := "key.go:199", after := #[{ on := 0, ground := Ground.data }], guard := none }) (v := ?_) rfl (by kernel_rfl) (by kernel_rfl) (by kernel_rfl) (fun _ _ _ h => h) (Or.inl ⟨by kernel_rfl, ?_⟩) (by assumption) ?_
        rotate_left
        · intro wS hSw; (try dsimp only at hSw); go_simp; (try with_reducible rfl)
        try simp only [Act.put, List.setIfInBounds_toArray, List.set_cons_zero, List.set_cons_succ]
        refine wpAnyH_take (i := 2) (oi := { dst := some 34, op := Op.fieldAddr 75 (Operand.tmp 33) 0, type := 0, pos := "key.go:199", after := #[{ on := 1, ground := Ground.data }], guard := none }) (v := ?_) rfl (by kernel_rfl) (by kernel_rfl) (by kernel_rfl) (fun _ _ _ h => h) (Or.inl ⟨by kernel_rfl, ?_⟩) (by assumption) ?_
        rotate_left
        · intro wS hSw; (try dsimp only at hSw); go_simp; (try with_reducible rfl)
        try simp only [Act.put, List.setIfInBounds_toArray, List.set_cons_zero, List.set_cons_succ]
        refine wpAnyH_take (i := 3) (oi := { dst := some 35, op := Op.load 72 (Operand.tmp 34), type := 72, pos := "key.go:199", after := #[{ on := 2, ground := Ground.data }], guard := none }) (v := ?_) rfl (by kernel_rfl) (by kernel_rfl) (by kernel_rfl) (fun _ _ _ h => h) (Or.inl ⟨by kernel_rfl, ?_⟩) (by assumption) ?_
        rotate_left
        · intro wS hSw; (try dsimp only at hSw); have xm := cell_below hSw.out m0; go_simp; (try with_reducible rfl)
        try simp only [Act.put, List.setIfInBounds_toArray, List.set_cons_zero, List.set_cons_succ]
        refine wpAnyH_take (i := 4) (oi := { dst := some 36, op := Op.load 85 (Operand.tmp 9), type := 85, pos := "key.go:199", after := #[], guard := none }) (v := ?_) rfl (by kernel_rfl) (by kernel_rfl) (by kernel_rfl) (fun _ _ _ h => h) (Or.inl ⟨by kernel_rfl, ?_⟩) (by assumption) ?_
        rotate_left
        · intro wS hSw; (try dsimp only at hSw); have x0 := cell_below hSw.out p0; have x1 := cell_below hSw.out p1; have x2 := cell_below hSw.out p2; have x3 := cell_below hSw.out p3; go_simp; (try with_reducible rfl)
        try simp only [Act.put, List.setIfInBounds_toArray, List.set_cons_zero, List.set_cons_succ]
        refine wpAnyH_take (i := 5) (oi := { dst := some 37, op := Op.lookup 72 (Operand.tmp 35) (Operand.tmp 36) true, type := 101, pos := "key.go:199", after := #[{ on := 3, ground := Ground.data }, { on := 4, ground := Ground.data }], guard := none }) (v := ?_) rfl (by kernel_rfl) (by kernel_rfl) (by kernel_rfl) (fun _ _ _ h => h) (Or.inl ⟨by kernel_rfl, ?_⟩) (by assumption) ?_
        rotate_left
        · intro wS hSw; (try dsimp only at hSw); have xl := (hMW.below hSw.out).lookOk under72 keys85 _ zero100 (q, kAt r m, nAt r m, tAt r m); rw [hl] at xl; dsimp only [pcE, wyE, Option.map, Option.getD, Option.isSome] at xl; go_simp; (try with_reducible rfl)
        try simp only [Act.put, List.setIfInBounds_toArray, List.set_cons_zero, List.set_cons_succ]
        refine wpAnyH_take (i := 6) (oi := { dst := some 31, op := Op.move (Operand.tmp 37), type := 101, pos := "key.go:199", after := #[{ on := 5, ground := Ground.data }], guard := none }) (v := ?_) rfl (by kernel_rfl) (by kernel_rfl) (by kernel_rfl) (fun _ _ _ h => h) (Or.inl ⟨by kernel_rfl, ?_⟩) (by assumption) ?_
        rotate_left
        · intro wS hSw; (try dsimp only at hSw); go_simp; (try with_reducible rfl)
        try simp only [Act.put, List.setIfInBounds_toArray, List.set_cons_zero, List.set_cons_succ]
        refine wpAnyH_take (i := 7) (oi := { dst := some 38, op := Op.extract (Operand.tmp 31) 0, type := 100, pos := "key.go:199", after := #[{ on := 6, ground := Ground.data }], guard := none }) (v := ?_) rfl (by kernel_rfl) (by kernel_rfl) (by kernel_rfl) (fun _ _ _ h => h) (Or.inl ⟨by kernel_rfl, ?_⟩) (by assumption) ?_
        rotate_left
        · intro wS hSw; (try dsimp only at hSw); go_simp; (try with_reducible rfl)
        try simp only [Act.put, List.setIfInBounds_toArray, List.set_cons_zero, List.set_cons_succ]
        refine wpAnyH_take (i := 8) (oi := { dst := some 39, op := Op.extract (Operand.tmp 31) 1, type := 4, pos := "key.go:199", after := #[{ on := 6, ground := Ground.data }, { on := 10, ground := Ground.gcOnly Departure.lateStores }], guard := none }) (v := ?_) rfl (by kernel_rfl) (by kernel_rfl) (by kernel_rfl) (fun _ _ _ h => h) (Or.inl ⟨by kernel_rfl, ?_⟩) (by assumption) ?_
        rotate_left
        · intro wS hSw; (try dsimp only at hSw); go_simp; (try with_reducible rfl)
        try simp only [Act.put, List.setIfInBounds_toArray, List.set_cons_zero, List.set_cons_succ]
        refine wpAnyH_ready (rs := [9]) (by kernel_rfl) (by simp) ?_
        refine AllReadyH.cons (o := { dst := some 10, op := Op.alloc 100, type := 0, pos := "key.go:199", after := #[], guard := none }) rfl (fun K hK => ?_) AllReadyH.nil
        go_simp
        refine hK.out _ _ ?_ (fun hH9 => ?_)
        · (try dsimp only); exact (by repeat (first | exact Bel.refl _ | assumption | refine Bel.drew ?_ | refine Bel.drewN ?_ _ | refine Bel.alloc ?_ _ | refine Bel.setCell ?_ (by simp <;> omega) _ | refine Bel.step ?_ (by assumption)))
        clear hK K
        try simp only [Act.put, List.setIfInBounds_toArray, List.set_cons_zero, List.set_cons_succ]
        refine wpAnyH_ready (rs := [10]) (by kernel_rfl) (by simp) ?_
        refine AllReadyH.cons (o := { dst := none, op := Op.store 100 (Operand.tmp 10) (Operand.tmp 38), type := 0, pos := "key.go:199", after := #[{ on := 9, ground := Ground.data }, { on := 7, ground := Ground.data }, { on := 0, ground := Ground.phase }, { on := 1, ground := Ground.phase }, { on := 2, ground := Ground.phase }, { on := 3, ground := Ground.phase }, { on := 4, ground := Ground.phase }, { on := 5, ground := Ground.phase }, { on := 6, ground := Ground.phase }, { on := 7, ground := Ground.phase }, { on := 8, ground := Ground.textOnly Departure.lateStores }, { on := 9, ground := Ground.phase }], guard := none }) rfl (fun K hK => ?_) AllReadyH.nil
        go_simp
        refine hK.out _ _ ?_ (fun hH10 => ?_)
        · (try dsimp only); exact (by repeat (first | exact Bel.refl _ | assumption | refine Bel.drew ?_ | refine Bel.drewN ?_ _ | refine Bel.alloc ?_ _ | refine Bel.setCell ?_ (by simp <;> omega) _ | refine Bel.step ?_ (by assumption)))
        clear hK K
        try simp only [Act.put, List.setIfInBounds_toArray, List.set_cons_zero, List.set_cons_succ]
        refine wpAnyH_take (i := 11) (oi := { dst := some 11, op := Op.assign (Operand.tmp 39), type := 4, pos := "key.go:199", after := #[{ on := 8, ground := Ground.data }, { on := 10, ground := Ground.chain }, { on := 0, ground := Ground.phase }, { on := 1, ground := Ground.phase }, { on := 2, ground := Ground.phase }, { on := 3, ground := Ground.phase }, { on := 4, ground := Ground.phase }, { on := 5, ground := Ground.phase }, { on := 6, ground := Ground.phase }, { on := 7, ground := Ground.phase }, { on := 8, ground := Ground.phase }, { on := 9, ground := Ground.phase }, { on := 10, ground := Ground.phase }], guard := none }) (v := ?_) rfl (by kernel_rfl) (by kernel_rfl) (by kernel_rfl) (fun _ _ _ h => h) (Or.inl ⟨by kernel_rfl, ?_⟩) (by assumption) ?_
        rotate_left
        · intro wS hSw; (try dsimp only at hSw); go_simp; (try with_reducible rfl)
        try simp only [Act.put, List.setIfInBounds_toArray, List.set_cons_zero, List.set_cons_succ]
        refine wpAnyH_done (by kernel_rfl) ?_ _
        go_wp2
        have hMc : MpAt (W0.setCell ⟨M.m, 2, none⟩ (.int .i64 (pm + 1))) M WM HL (pm + 1) bi := hM0.turnC (Fr.cnt _ _ _ _) (by rw [set_off (by decide)]; exact hM0.c0) (by rw [set_off (by decide)]; exact hM0.c1) (World.cell?_setCell_same _ _ _ hM0.c2) (by rw [set_off (by decide)]; exact hM0.c3) (by rw [World.frozen?_setCell]; exact hM0.f2) (by rw [World.frozen?_setCell]; exact hM0.f3)
        have hFc : Fr M.own wr (W0.setCell ⟨M.m, 2, none⟩ (.int .i64 (pm + 1))) := (Fr.of hB0).setCell (Or.inl (show M.own M.m from Or.inl rfl)) _
        have hne1 : wr.heap.size + 1 ≠ M.m := hpm
        have o0 : (W0.setCell ⟨M.m, 2, none⟩ (.int .i64 (pm + 1))).cell? ⟨wr.heap.size + 1, 0, none⟩ = some (.int .i64 q) := by rw [set_blk hne1]; exact p0
        have o1 : (W0.setCell ⟨M.m, 2, none⟩ (.int .i64 (pm + 1))).cell? ⟨wr.heap.size + 1, 1, none⟩ = some (.int .i64 (kAt r m)) := by rw [set_blk hne1]; exact p1
        have o2 : (W0.setCell ⟨M.m, 2, none⟩ (.int .i64 (pm + 1))).cell? ⟨wr.heap.size + 1, 2, none⟩ = some (.int .i64 (nAt r m)) := by rw [set_blk hne1]; exact p2
        have o3 : (W0.setCell ⟨M.m, 2, none⟩ (.int .i64 (pm + 1))).cell? ⟨wr.heap.size + 1, 3, none⟩ = some (.string (tAt r m)) := by rw [set_blk hne1]; exact p3
        have hsc : (W0.setCell ⟨M.m, 2, none⟩ (.int .i64 (pm + 1))).heap.size = W0.heap.size := by simp [World.setCell]
        obtain ⟨W1, hW1⟩ : ∃ W1 : World, ((W0.setCell ⟨M.m, 2, none⟩ (.int .i64 (pm + 1))).alloc (.cells #[.int .i64 (pm + 1), .int .i64 1] 100)).drew = W1 := ⟨_, rfl⟩
        have hB1 : Below (W0.setCell ⟨M.m, 2, none⟩ (.int .i64 (pm + 1))).heap.size (W0.setCell ⟨M.m, 2, none⟩ (.int .i64 (pm + 1))) W1 := by rw [← hW1]; exact ((Below.refl _ _).alloc (Nat.le_refl _) _).drew
        have hF1 : Fr M.own wr W1 := hFc.step hB1
        have q4 : W1.cell? ⟨W0.heap.size, 0, none⟩ = some (.int .i64 (pm + 1)) := by rw [← hW1, ← hsc]; exact new2_0 _ _ _ _
        have q5 : W1.cell? ⟨W0.heap.size, 1, none⟩ = some (.int .i64 1) := by rw [← hW1, ← hsc]; exact new2_1 _ _ _ _
        clear hFc hsc
        have hM1 := hMc.below hB1
        have q0 := cell_below hB1 o0
        have q1 := cell_below hB1 o1
        have q2 := cell_below hB1 o2
        have q3 := cell_below hB1 o3
        have n0 := hM1.c0
        have hmw := hM1.mw
        obtain ⟨es1, clk1, hMW1⟩ := hM1.ways
        have hn1 : wr.heap.size + 1 ≠ M.w := cell_not_map q0 hMW1.at_
        have hn2 : W0.heap.size ≠ M.w := cell_not_map q4 hMW1.at_
        have hwl : M.w < W1.heap.size := heap_lt hMW1.at_
        have hMd := hMW1.below (Below.refl W1.heap.size W1).drew
        rw [hW1]
        clear hW1 p0 p1 p2 p3 o0 o1 o2 o3 hB1 hMW hMW1 m0 m2 mf hM0 hMc hml
        obtain ⟨es', clk', hup, hMs⟩ := hMd.store under72 keys85 (q, kAt r m, nAt r m, tAt r m) (pm + 1, 1)
        dsimp only [pcE, wyE] at hup
        refine wp_region_held_drew (S := (fun wS => Fr (fun k => k = M.w) W1 wS)) (by kernel_rfl) ?_ (fun hHeld => ?_)
        · (try dsimp only); exact (Fr.refl _ _).drew
        refine wpAnyH_take (i := 0) (oi := { dst := some 58, op := Op.move (Operand.tmp 0), type := 37, pos := "key.go:205", after := #[], guard := none }) (v := ?_) rfl (by kernel_rfl) (by kernel_rfl) (by kernel_rfl) (fun _ _ _ h => h) (Or.inl ⟨by kernel_rfl, ?_⟩) (by assumption) ?_
        rotate_left
        · intro wS hSw; (try dsimp only at hSw); go_simp; (try with_reducible rfl)
        try simp only [Act.put, List.setIfInBounds_toArray, List.set_cons_zero, List.set_cons_succ]
        refine wpAnyH_take (i := 1) (oi := { dst := some 59, op := Op.nilCheck (Operand.tmp 58), type := 0, pos := "key.go:205", after := #[{ on := 0, ground := Ground.data }], guard := none }) (v := ?_) rfl (by kernel_rfl) (by kernel_rfl) (by kernel_rfl) (fun _ _ _ h => h) (Or.inl ⟨by kernel_rfl, ?_⟩) (by assumption) ?_
        rotate_left
        · intro wS hSw; (try dsimp only at hSw); go_simp; (try with_reducible rfl)
        try simp only [Act.put, List.setIfInBounds_toArray, List.set_cons_zero, List.set_cons_succ]
        refine wpAnyH_take (i := 2) (oi := { dst := some 60, op := Op.fieldAddr 75 (Operand.tmp 59) 0, type := 0, pos := "key.go:205", after := #[{ on := 1, ground := Ground.data }], guard := none }) (v := ?_) rfl (by kernel_rfl) (by kernel_rfl) (by kernel_rfl) (fun _ _ _ h => h) (Or.inl ⟨by kernel_rfl, ?_⟩) (by assumption) ?_
        rotate_left
        · intro wS hSw; (try dsimp only at hSw); go_simp; (try with_reducible rfl)
        try simp only [Act.put, List.setIfInBounds_toArray, List.set_cons_zero, List.set_cons_succ]
        refine wpAnyH_take (i := 3) (oi := { dst := some 61, op := Op.load 72 (Operand.tmp 60), type := 72, pos := "key.go:205", after := #[{ on := 2, ground := Ground.data }], guard := none }) (v := ?_) rfl (by kernel_rfl) (by kernel_rfl) (by kernel_rfl) (fun _ _ _ h => h) (Or.inl ⟨by kernel_rfl, ?_⟩) (by assumption) ?_
        rotate_left
        · intro wS hSw; (try dsimp only at hSw); have xm := hSw.cell hmw n0; go_simp; (try with_reducible rfl)
        try simp only [Act.put, List.setIfInBounds_toArray, List.set_cons_zero, List.set_cons_succ]
        refine wpAnyH_take (i := 4) (oi := { dst := some 62, op := Op.load 85 (Operand.tmp 9), type := 85, pos := "key.go:205", after := #[], guard := none }) (v := ?_) rfl (by kernel_rfl) (by kernel_rfl) (by kernel_rfl) (fun _ _ _ h => h) (Or.inl ⟨by kernel_rfl, ?_⟩) (by assumption) ?_
        rotate_left
        · intro wS hSw; (try dsimp only at hSw); have x0 := hSw.cell hn1 q0; have x1 := hSw.cell hn1 q1; have x2 := hSw.cell hn1 q2; have x3 := hSw.cell hn1 q3; go_simp; (try with_reducible rfl)
        try simp only [Act.put, List.setIfInBounds_toArray, List.set_cons_zero, List.set_cons_succ]
        refine wpAnyH_take (i := 5) (oi := { dst := some 63, op := Op.load 100 (Operand.tmp 10), type := 100, pos := "key.go:205", after := #[], guard := none }) (v := ?_) rfl (by kernel_rfl) (by kernel_rfl) (by kernel_rfl) (fun _ _ _ h => h) (Or.inl ⟨by kernel_rfl, ?_⟩) (by assumption) ?_
        rotate_left
        · intro wS hSw; (try dsimp only at hSw); have y0 := hSw.cell hn2 q4; have y1 := hSw.cell hn2 q5; go_simp; (try with_reducible rfl)
        try simp only [Act.put, List.setIfInBounds_toArray, List.set_cons_zero, List.set_cons_succ]
        refine wpAnyH_ready (rs := [6]) (by kernel_rfl) (by simp) ?_
        refine AllReadyH.cons (o := { dst := none, op := Op.mapUpdate 72 (Operand.tmp 61) (Operand.tmp 62) (Operand.tmp 63), type := 0, pos := "key.go:205", after := #[{ on := 3, ground := Ground.data }, { on := 4, ground := Ground.data }, { on := 5, ground := Ground.data }, { on := 0, ground := Ground.phase }, { on := 1, ground := Ground.phase }, { on := 2, ground := Ground.phase }, { on := 3, ground := Ground.phase }, { on := 4, ground := Ground.phase }, { on := 5, ground := Ground.phase }], guard := none }) rfl (fun K hK => ?_) AllReadyH.nil
        go_simp
        refine hK.out _ _ ?_ (fun hH6 => ?_)
        · (try dsimp only); exact Fr.put (by assumption) _
        clear hK K
        try simp only [Act.put, List.setIfInBounds_toArray, List.set_cons_zero, List.set_cons_succ]
        refine wpAnyH_done (by kernel_rfl) ?_ _
        have hat : (setBlock W1.drew M.w (.map es' clk')).heap[M.w]? = some (.map es' clk') := setBlock_at _ hwl
        have hFs : Fr (fun k => k = M.w) W1 (setBlock W1.drew M.w (.map es' clk')) := Fr.put (Fr.refl _ W1).drew _
        have q6 := hFs.cell hn2 q4
        have HM2 : Hid (MpAt (setBlock W1.drew M.w (.map es' clk')) M (up WM (q, kAt r m, nAt r m, tAt r m) (pm + 1, 1)) HL (pm + 1) bi) := hM1.turnW hFs (hMs _ hat)
        have HF2 : Hid (Fr M.own w (setBlock W1.drew M.w (.map es' clk'))) := HFr.out.trans (hF1.trans (hFs.mono fun k e => Or.inr (Or.inl e)))
        clear hMs hFs hat hM1 hF1
        go_wp2
        go_roundw
        case rel => exact ⟨m + 1, (pm + 1), _, (pm + 1), by omega, rfl, by go_num, HN.out, HN2.out, by omega, by omega, HM2.out, HF2.out⟩
        case measure => simp [intOf]; omega
      | some x =>
        obtain ⟨hx0, hx1⟩ := HFw.out.lk hl
        have HN : Hid (ptL (WL, pl, 0) (r.take (m + 1)) = (up WM (q, kAt r m, nAt r m, tAt r m) (x.1, x.2 + 1), pm, x.1)) := by
          show _ = _
          rw [take_at hlt]; unfold ptL at HV ⊢; rw [List.foldl_append, HV.out]
          simp only [List.foldl_cons, List.foldl_nil, ptS, hl]
        have HN2 : Hid (Few (up WM (q, kAt r m, nAt r m, tAt r m) (x.1, x.2 + 1)) (c + (m + 1 : Nat))) := by
          show Few _ _
          rw [show c + ((m + 1 : Nat) : Int) = c + m + 1 by omega]
          exact HFw.out.up (by dsimp only; omega)
        go_wp2
        obtain ⟨W0, hW0⟩ : ∃ W0 : World, (wr.alloc (.cells #[.int .i64 (kAt r m), .int .i64 (nAt r m), .string (tAt r m)] 53)).alloc (.cells #[.int .i64 q, .int .i64 (kAt r m), .int .i64 (nAt r m), .string (tAt r m)] 85) = W0 := ⟨_, rfl⟩
        have hB0 : Below wr.heap.size wr W0 := by rw [← hW0]; exact ((Below.refl _ _).alloc (Nat.le_refl _) _).alloc (by simp) _
        have hsz : wr.heap.size + 1 < W0.heap.size := by rw [← hW0]; simp
        have p0 : W0.cell? ⟨wr.heap.size + 1, 0, none⟩ = some (.int .i64 q) := by rw [← hW0]; exact new5_0 _ _ _ _ _ _ _
        have p1 : W0.cell? ⟨wr.heap.size + 1, 1, none⟩ = some (.int .i64 (kAt r m)) := by rw [← hW0]; exact new5_1 _ _ _ _ _ _ _
        have p2 : W0.cell? ⟨wr.heap.size + 1, 2, none⟩ = some (.int .i64 (nAt r m)) := by rw [← hW0]; exact new5_2 _ _ _ _ _ _ _
        have p3 : W0.cell? ⟨wr.heap.size + 1, 3, none⟩ = some (.string (tAt r m)) := by rw [← hW0]; exact new5_3 _ _ _ _ _ _ _
        have hM0 := hMr.below hB0
        have m0 := hM0.c0
        have m2 := hM0.c2
        have mf := hM0.f2
        have hml := cell_lt m0
        have hmg : M.m ≠ W0.heap.size := by omega
        have hpm : wr.heap.size + 1 ≠ M.m := by have := cell_lt hMr.c0; omega
        obtain ⟨es, clk, hMW⟩ := hM0.ways
        rw [hW0]
        clear hW0 c0 c1 c2 hMr
        refine wp_region_held_drew (S := (fun wS => Bel W0.heap.size W0 wS)) (by kernel_rfl) ?_ (fun hHeld => ?_)
        · (try dsimp only); exact (Bel.refl _).drew
        refine wpAnyH_take (i := 0) (oi := { dst := some 32, op := Op.move (Operand.tmp 0), type := 37, pos := "key.go:199", after := #[], guard := none }) (v := ?_) rfl (by kernel_rfl) (by kernel_rfl) (by kernel_rfl) (fun _ _ _ h => h) (Or.inl ⟨by kernel_rfl, ?_⟩) (by assumption) ?_
        rotate_left
        · intro wS hSw; (try dsimp only at hSw); go_simp; (try with_reducible rfl)
        try simp only [Act.put, List.setIfInBounds_toArray, List.set_cons_zero, List.set_cons_succ]
        refine wpAnyH_take (i := 1) (oi := { dst := some 33, op := Op.nilCheck (Operand.tmp 32), type := 0, pos := "key.go:199", after := #[{ on := 0, ground := Ground.data }], guard := none }) (v := ?_) rfl (by kernel_rfl) (by kernel_rfl) (by kernel_rfl) (fun _ _ _ h => h) (Or.inl ⟨by kernel_rfl, ?_⟩) (by assumption) ?_
        rotate_left
        · intro wS hSw; (try dsimp only at hSw); go_simp; (try with_reducible rfl)
        try simp only [Act.put, List.setIfInBounds_toArray, List.set_cons_zero, List.set_cons_succ]
        refine wpAnyH_take (i := 2) (oi := { dst := some 34, op := Op.fieldAddr 75 (Operand.tmp 33) 0, type := 0, pos := "key.go:199", after := #[{ on := 1, ground := Ground.data }], guard := none }) (v := ?_) rfl (by kernel_rfl) (by kernel_rfl) (by kernel_rfl) (fun _ _ _ h => h) (Or.inl ⟨by kernel_rfl, ?_⟩) (by assumption) ?_
        rotate_left
        · intro wS hSw; (try dsimp only at hSw); go_simp; (try with_reducible rfl)
        try simp only [Act.put, List.setIfInBounds_toArray, List.set_cons_zero, List.set_cons_succ]
        refine wpAnyH_take (i := 3) (oi := { dst := some 35, op := Op.load 72 (Operand.tmp 34), type := 72, pos := "key.go:199", after := #[{ on := 2, ground := Ground.data }], guard := none }) (v := ?_) rfl (by kernel_rfl) (by kernel_rfl) (by kernel_rfl) (fun _ _ _ h => h) (Or.inl ⟨by kernel_rfl, ?_⟩) (by assumption) ?_
        rotate_left
        · intro wS hSw; (try dsimp only at hSw); have xm := cell_below hSw.out m0; go_simp; (try with_reducible rfl)
        try simp only [Act.put, List.setIfInBounds_toArray, List.set_cons_zero, List.set_cons_succ]
        refine wpAnyH_take (i := 4) (oi := { dst := some 36, op := Op.load 85 (Operand.tmp 9), type := 85, pos := "key.go:199", after := #[], guard := none }) (v := ?_) rfl (by kernel_rfl) (by kernel_rfl) (by kernel_rfl) (fun _ _ _ h => h) (Or.inl ⟨by kernel_rfl, ?_⟩) (by assumption) ?_
        rotate_left
        · intro wS hSw; (try dsimp only at hSw); have x0 := cell_below hSw.out p0; have x1 := cell_below hSw.out p1; have x2 := cell_below hSw.out p2; have x3 := cell_below hSw.out p3; go_simp; (try with_reducible rfl)
        try simp only [Act.put, List.setIfInBounds_toArray, List.set_cons_zero, List.set_cons_succ]
        refine wpAnyH_take (i := 5) (oi := { dst := some 37, op := Op.lookup 72 (Operand.tmp 35) (Operand.tmp 36) true, type := 101, pos := "key.go:199", after := #[{ on := 3, ground := Ground.data }, { on := 4, ground := Ground.data }], guard := none }) (v := ?_) rfl (by kernel_rfl) (by kernel_rfl) (by kernel_rfl) (fun _ _ _ h => h) (Or.inl ⟨by kernel_rfl, ?_⟩) (by assumption) ?_
        rotate_left
        · intro wS hSw; (try dsimp only at hSw); have xl := (hMW.below hSw.out).lookOk under72 keys85 _ zero100 (q, kAt r m, nAt r m, tAt r m); rw [hl] at xl; dsimp only [pcE, wyE, Option.map, Option.getD, Option.isSome] at xl; go_simp; (try with_reducible rfl)
        try simp only [Act.put, List.setIfInBounds_toArray, List.set_cons_zero, List.set_cons_succ]
        refine wpAnyH_take (i := 6) (oi := { dst := some 31, op := Op.move (Operand.tmp 37), type := 101, pos := "key.go:199", after := #[{ on := 5, ground := Ground.data }], guard := none }) (v := ?_) rfl (by kernel_rfl) (by kernel_rfl) (by kernel_rfl) (fun _ _ _ h => h) (Or.inl ⟨by kernel_rfl, ?_⟩) (by assumption) ?_
        rotate_left
        · intro wS hSw; (try dsimp only at hSw); go_simp; (try with_reducible rfl)
        try simp only [Act.put, List.setIfInBounds_toArray, List.set_cons_zero, List.set_cons_succ]
        refine wpAnyH_take (i := 7) (oi := { dst := some 38, op := Op.extract (Operand.tmp 31) 0, type := 100, pos := "key.go:199", after := #[{ on := 6, ground := Ground.data }], guard := none }) (v := ?_) rfl (by kernel_rfl) (by kernel_rfl) (by kernel_rfl) (fun _ _ _ h => h) (Or.inl ⟨by kernel_rfl, ?_⟩) (by assumption) ?_
        rotate_left
        · intro wS hSw; (try dsimp only at hSw); go_simp; (try with_reducible rfl)
        try simp only [Act.put, List.setIfInBounds_toArray, List.set_cons_zero, List.set_cons_succ]
        refine wpAnyH_take (i := 8) (oi := { dst := some 39, op := Op.extract (Operand.tmp 31) 1, type := 4, pos := "key.go:199", after := #[{ on := 6, ground := Ground.data }, { on := 10, ground := Ground.gcOnly Departure.lateStores }], guard := none }) (v := ?_) rfl (by kernel_rfl) (by kernel_rfl) (by kernel_rfl) (fun _ _ _ h => h) (Or.inl ⟨by kernel_rfl, ?_⟩) (by assumption) ?_
        rotate_left
        · intro wS hSw; (try dsimp only at hSw); go_simp; (try with_reducible rfl)
        try simp only [Act.put, List.setIfInBounds_toArray, List.set_cons_zero, List.set_cons_succ]
        refine wpAnyH_ready (rs := [9]) (by kernel_rfl) (by simp) ?_
        refine AllReadyH.cons (o := { dst := some 10, op := Op.alloc 100, type := 0, pos := "key.go:199", after := #[], guard := none }) rfl (fun K hK => ?_) AllReadyH.nil
        go_simp
        refine hK.out _ _ ?_ (fun hH9 => ?_)
        · (try dsimp only); exact (by repeat (first | exact Bel.refl _ | assumption | refine Bel.drew ?_ | refine Bel.drewN ?_ _ | refine Bel.alloc ?_ _ | refine Bel.setCell ?_ (by simp <;> omega) _ | refine Bel.step ?_ (by assumption)))
        clear hK K
        try simp only [Act.put, List.setIfInBounds_toArray, List.set_cons_zero, List.set_cons_succ]
        refine wpAnyH_ready (rs := [10]) (by kernel_rfl) (by simp) ?_
        refine AllReadyH.cons (o := { dst := none, op := Op.store 100 (Operand.tmp 10) (Operand.tmp 38), type := 0, pos := "key.go:199", after := #[{ on := 9, ground := Ground.data }, { on := 7, ground := Ground.data }, { on := 0, ground := Ground.phase }, { on := 1, ground := Ground.phase }, { on := 2, ground := Ground.phase }, { on := 3, ground := Ground.phase }, { on := 4, ground := Ground.phase }, { on := 5, ground := Ground.phase }, { on := 6, ground := Ground.phase }, { on := 7, ground := Ground.phase }, { on := 8, ground := Ground.textOnly Departure.lateStores }, { on := 9, ground := Ground.phase }], guard := none }) rfl (fun K hK => ?_) AllReadyH.nil
        go_simp
        refine hK.out _ _ ?_ (fun hH10 => ?_)
        · (try dsimp only); exact (by repeat (first | exact Bel.refl _ | assumption | refine Bel.drew ?_ | refine Bel.drewN ?_ _ | refine Bel.alloc ?_ _ | refine Bel.setCell ?_ (by simp <;> omega) _ | refine Bel.step ?_ (by assumption)))
        clear hK K
        try simp only [Act.put, List.setIfInBounds_toArray, List.set_cons_zero, List.set_cons_succ]
        refine wpAnyH_take (i := 11) (oi := { dst := some 11, op := Op.assign (Operand.tmp 39), type := 4, pos := "key.go:199", after := #[{ on := 8, ground := Ground.data }, { on := 10, ground := Ground.chain }, { on := 0, ground := Ground.phase }, { on := 1, ground := Ground.phase }, { on := 2, ground := Ground.phase }, { on := 3, ground := Ground.phase }, { on := 4, ground := Ground.phase }, { on := 5, ground := Ground.phase }, { on := 6, ground := Ground.phase }, { on := 7, ground := Ground.phase }, { on := 8, ground := Ground.phase }, { on := 9, ground := Ground.phase }, { on := 10, ground := Ground.phase }], guard := none }) (v := ?_) rfl (by kernel_rfl) (by kernel_rfl) (by kernel_rfl) (fun _ _ _ h => h) (Or.inl ⟨by kernel_rfl, ?_⟩) (by assumption) ?_
        rotate_left
        · intro wS hSw; (try dsimp only at hSw); go_simp; (try with_reducible rfl)
        try simp only [Act.put, List.setIfInBounds_toArray, List.set_cons_zero, List.set_cons_succ]
        refine wpAnyH_done (by kernel_rfl) ?_ _
        go_wp2
        have hMc := hM0
        have o0 := p0
        have o1 := p1
        have o2 := p2
        have o3 := p3
        obtain ⟨W1, hW1⟩ : ∃ W1 : World, (W0.alloc (.cells #[.int .i64 x.1, .int .i64 (x.2 + 1)] 100)).drew = W1 := ⟨_, rfl⟩
        have hB1 : Below W0.heap.size W0 W1 := by rw [← hW1]; exact ((Below.refl _ _).alloc (Nat.le_refl _) _).drew
        have hF1 : Fr M.own wr W1 := (Fr.of hB0).step hB1
        have q4 : W1.cell? ⟨W0.heap.size, 0, none⟩ = some (.int .i64 x.1) := by rw [← hW1]; exact new2_0 _ _ _ _
        have q5 : W1.cell? ⟨W0.heap.size, 1, none⟩ = some (.int .i64 (x.2 + 1)) := by rw [← hW1]; exact new2_1 _ _ _ _
        have hM1 := hMc.below hB1
        have q0 := cell_below hB1 o0
        have q1 := cell_below hB1 o1
        have q2 := cell_below hB1 o2
        have q3 := cell_below hB1 o3
        have n0 := hM1.c0
        have hmw := hM1.mw
        obtain ⟨es1, clk1, hMW1⟩ := hM1.ways
        have hn1 : wr.heap.size + 1 ≠ M.w := cell_not_map q0 hMW1.at_
        have hn2 : W0.heap.size ≠ M.w := cell_not_map q4 hMW1.at_
        have hwl : M.w < W1.heap.size := heap_lt hMW1.at_
        have hMd := hMW1.below (Below.refl W1.heap.size W1).drew
        rw [hW1]
        clear hW1 p0 p1 p2 p3 o0 o1 o2 o3 hB1 hMW hMW1 m0 m2 mf hM0 hMc hml
        obtain ⟨es', clk', hup, hMs⟩ := hMd.store under72 keys85 (q, kAt r m, nAt r m, tAt r m) (x.1, x.2 + 1)
        dsimp only [pcE, wyE] at hup
        refine wp_region_held_drew (S := (fun wS => Fr (fun k => k = M.w) W1 wS)) (by kernel_rfl) ?_ (fun hHeld => ?_)
        · (try dsimp only); exact (Fr.refl _ _).drew
        refine wpAnyH_take (i := 0) (oi := { dst := some 58, op := Op.move (Operand.tmp 0), type := 37, pos := "key.go:205", after := #[], guard := none }) (v := ?_) rfl (by kernel_rfl) (by kernel_rfl) (by kernel_rfl) (fun _ _ _ h => h) (Or.inl ⟨by kernel_rfl, ?_⟩) (by assumption) ?_
        rotate_left
        · intro wS hSw; (try dsimp only at hSw); go_simp; (try with_reducible rfl)
        try simp only [Act.put, List.setIfInBounds_toArray, List.set_cons_zero, List.set_cons_succ]
        refine wpAnyH_take (i := 1) (oi := { dst := some 59, op := Op.nilCheck (Operand.tmp 58), type := 0, pos := "key.go:205", after := #[{ on := 0, ground := Ground.data }], guard := none }) (v := ?_) rfl (by kernel_rfl) (by kernel_rfl) (by kernel_rfl) (fun _ _ _ h => h) (Or.inl ⟨by kernel_rfl, ?_⟩) (by assumption) ?_
        rotate_left
        · intro wS hSw; (try dsimp only at hSw); go_simp; (try with_reducible rfl)
        try simp only [Act.put, List.setIfInBounds_toArray, List.set_cons_zero, List.set_cons_succ]
        refine wpAnyH_take (i := 2) (oi := { dst := some 60, op := Op.fieldAddr 75 (Operand.tmp 59) 0, type := 0, pos := "key.go:205", after := #[{ on := 1, ground := Ground.data }], guard := none }) (v := ?_) rfl (by kernel_rfl) (by kernel_rfl) (by kernel_rfl) (fun _ _ _ h => h) (Or.inl ⟨by kernel_rfl, ?_⟩) (by assumption) ?_
        rotate_left
        · intro wS hSw; (try dsimp only at hSw); go_simp; (try with_reducible rfl)
        try simp only [Act.put, List.setIfInBounds_toArray, List.set_cons_zero, List.set_cons_succ]
        refine wpAnyH_take (i := 3) (oi := { dst := some 61, op := Op.load 72 (Operand.tmp 60), type := 72, pos := "key.go:205", after := #[{ on := 2, ground := Ground.data }], guard := none }) (v := ?_) rfl (by kernel_rfl) (by kernel_rfl) (by kernel_rfl) (fun _ _ _ h => h) (Or.inl ⟨by kernel_rfl, ?_⟩) (by assumption) ?_
        rotate_left
        · intro wS hSw; (try dsimp only at hSw); have xm := hSw.cell hmw n0; go_simp; (try with_reducible rfl)
        try simp only [Act.put, List.setIfInBounds_toArray, List.set_cons_zero, List.set_cons_succ]
        refine wpAnyH_take (i := 4) (oi := { dst := some 62, op := Op.load 85 (Operand.tmp 9), type := 85, pos := "key.go:205", after := #[], guard := none }) (v := ?_) rfl (by kernel_rfl) (by kernel_rfl) (by kernel_rfl) (fun _ _ _ h => h) (Or.inl ⟨by kernel_rfl, ?_⟩) (by assumption) ?_
        rotate_left
        · intro wS hSw; (try dsimp only at hSw); have x0 := hSw.cell hn1 q0; have x1 := hSw.cell hn1 q1; have x2 := hSw.cell hn1 q2; have x3 := hSw.cell hn1 q3; go_simp; (try with_reducible rfl)
        try simp only [Act.put, List.setIfInBounds_toArray, List.set_cons_zero, List.set_cons_succ]
        refine wpAnyH_take (i := 5) (oi := { dst := some 63, op := Op.load 100 (Operand.tmp 10), type := 100, pos := "key.go:205", after := #[], guard := none }) (v := ?_) rfl (by kernel_rfl) (by kernel_rfl) (by kernel_rfl) (fun _ _ _ h => h) (Or.inl ⟨by kernel_rfl, ?_⟩) (by assumption) ?_
        rotate_left
        · intro wS hSw; (try dsimp only at hSw); have y0 := hSw.cell hn2 q4; have y1 := hSw.cell hn2 q5; go_simp; (try with_reducible rfl)
        try simp only [Act.put, List.setIfInBounds_toArray, List.set_cons_zero, List.set_cons_succ]
        refine wpAnyH_ready (rs := [6]) (by kernel_rfl) (by simp) ?_
        refine AllReadyH.cons (o := { dst := none, op := Op.mapUpdate 72 (Operand.tmp 61) (Operand.tmp 62) (Operand.tmp 63), type := 0, pos := "key.go:205", after := #[{ on := 3, ground := Ground.data }, { on := 4, ground := Ground.data }, { on := 5, ground := Ground.data }, { on := 0, ground := Ground.phase }, { on := 1, ground := Ground.phase }, { on := 2, ground := Ground.phase }, { on := 3, ground := Ground.phase }, { on := 4, ground := Ground.phase }, { on := 5, ground := Ground.phase }], guard := none }) rfl (fun K hK => ?_) AllReadyH.nil
        go_simp
        refine hK.out _ _ ?_ (fun hH6 => ?_)
        · (try dsimp only); exact Fr.put (by assumption) _
        clear hK K
        try simp only [Act.put, List.setIfInBounds_toArray, List.set_cons_zero, List.set_cons_succ]
        refine wpAnyH_done (by kernel_rfl) ?_ _
        have hat : (setBlock W1.drew M.w (.map es' clk')).heap[M.w]? = some (.map es' clk') := setBlock_at _ hwl
        have hFs : Fr (fun k => k = M.w) W1 (setBlock W1.drew M.w (.map es' clk')) := Fr.put (Fr.refl _ W1).drew _
        have q6 := hFs.cell hn2 q4
        have HM2 : Hid (MpAt (setBlock W1.drew M.w (.map es' clk')) M (up WM (q, kAt r m, nAt r m, tAt r m) (x.1, x.2 + 1)) HL pm bi) := hM1.turnW hFs (hMs _ hat)
        have HF2 : Hid (Fr M.own w (setBlock W1.drew M.w (.map es' clk'))) := HFr.out.trans (hF1.trans (hFs.mono fun k e => Or.inr (Or.inl e)))
        clear hMs hFs hat hM1 hF1
        go_wp2
        go_roundw
        case rel => exact ⟨m + 1, x.1, _, pm, by omega, rfl, by go_num, HN.out, HN2.out, by omega, by omega, HM2.out, HF2.out⟩
        case measure => simp [intOf]; omega
    · obtain rfl : m = r.length := by omega
      have hrow1 : RowAt wr (some ⟨b, off, none⟩) r := by
        rcases Nat.eq_zero_or_pos r.length with h0 | h0
        · exact Or.inl h0
        · exact Or.inr ⟨b, off, rfl, fun i hi => ⟨hFr.cell (hb h0) (hc i hi).1, hFr.cell (hb h0) (hc i hi).2.1, hFr.cell (hb h0) (hc i hi).2.2⟩⟩
      have HN : Hid (ptL (WL, pl, 0) r = (WM, pm, q)) := by
        show _ = _
        have := HV.out; rwa [List.take_length] at this
      have c3 := hMr.c3
      have f3 := hMr.f3
      clear hc hM hF hFr
      go_wp2
      have hM0 : MpAt (wr.setCell ⟨M.m, 3, none⟩ (.int .i64 (bi + 1))) M WM HL pm (bi + 1) := hMr.turnC (Fr.cnt _ _ _ _) (by rw [set_off (by decide)]; exact hMr.c0) (by rw [set_off (by decide)]; exact hMr.c1) (by rw [set_off (by decide)]; exact hMr.c2) (World.cell?_setCell_same _ _ _ hMr.c3) (by rw [World.frozen?_setCell]; exact hMr.f2) (by rw [World.frozen?_setCell]; exact hMr.f3)
      have hF0 : Fr M.own wr (wr.setCell ⟨M.m, 3, none⟩ (.int .i64 (bi + 1))) := (Fr.refl _ _).setCell (Or.inl (show M.own M.m from Or.inl rfl)) _
      have hrow0 : RowAt (wr.setCell ⟨M.m, 3, none⟩ (.int .i64 (bi + 1))) (some ⟨b, off, none⟩) r := by
        rcases Nat.eq_zero_or_pos r.length with h0 | h0
        · exact Or.inl h0
        · exact hF0.vals hrow1 (fun g o e => by injection e with e; injection e with e1 _ _; rw [← e1]; exact hb h0)
      obtain ⟨W0, hW0⟩ : ∃ W0 : World, wr.setCell ⟨M.m, 3, none⟩ (.int .i64 (bi + 1)) = W0 := ⟨_, rfl⟩
      rw [hW0] at hM0 hF0 hrow0 ⊢
      have hrow := hrow0.below (Below.refl W0.heap.size W0).drew
      have n1 := hM0.c1
      have n3 := hM0.c3
      have hmh := hM0.mh
      have hml : M.m < W0.heap.size := cell_lt n1
      clear hW0 hrow1 hrow0 c3 f3 hMr
      refine wp_region_held_drew (S := (fun wS => Fr (fun k => k = M.h) W0 wS)) (by kernel_rfl) ?_ (fun hHeld => ?_)
      · (try dsimp only); exact (Fr.refl _ _).drew
      refine wpAnyH_take (i := 0) (oi := { dst := some 74, op := Op.move (Operand.tmp 0), type := 37, pos := "key.go:209", after := #[], guard := none }) (v := ?_) rfl (by kernel_rfl) (by kernel_rfl) (by kernel_rfl) (fun _ _ _ h => h) (Or.inl ⟨by kernel_rfl, ?_⟩) (by assumption) ?_
      rotate_left
      · intro wS hSw; (try dsimp only at hSw); go_simp; (try with_reducible rfl)
      try simp only [Act.put, List.setIfInBounds_toArray, List.set_cons_zero, List.set_cons_succ]
      refine wpAnyH_take (i := 1) (oi := { dst := some 75, op := Op.nilCheck (Operand.tmp 74), type := 0, pos := "key.go:209", after := #[{ on := 0, ground := Ground.data }], guard := none }) (v := ?_) rfl (by kernel_rfl) (by kernel_rfl) (by kernel_rfl) (fun _ _ _ h => h) (Or.inl ⟨by kernel_rfl, ?_⟩) (by assumption) ?_
      rotate_left
      · intro wS hSw; (try dsimp only at hSw); go_simp; (try with_reducible rfl)
      try simp only [Act.put, List.setIfInBounds_toArray, List.set_cons_zero, List.set_cons_succ]
      refine wpAnyH_take (i := 2) (oi := { dst := some 76, op := Op.fieldAddr 75 (Operand.tmp 75) 1, type := 0, pos := "key.go:209", after := #[{ on := 1, ground := Ground.data }], guard := none }) (v := ?_) rfl (by kernel_rfl) (by kernel_rfl) (by kernel_rfl) (fun _ _ _ h => h) (Or.inl ⟨by kernel_rfl, ?_⟩) (by assumption) ?_
      rotate_left
      · intro wS hSw; (try dsimp only at hSw); go_simp; (try with_reducible rfl)
      try simp only [Act.put, List.setIfInBounds_toArray, List.set_cons_zero, List.set_cons_succ]
      refine wpAnyH_take (i := 3) (oi := { dst := some 77, op := Op.load 73 (Operand.tmp 76), type := 73, pos := "key.go:209", after := #[{ on := 2, ground := Ground.data }], guard := none }) (v := ?_) rfl (by kernel_rfl) (by kernel_rfl) (by kernel_rfl) (fun _ _ _ h => h) (Or.inl ⟨by kernel_rfl, ?_⟩) (by assumption) ?_
      rotate_left
      · intro wS hSw; (try dsimp only at hSw); have xm := hSw.cell hmh n1; go_simp; (try with_reducible rfl)
      try simp only [Act.put, List.setIfInBounds_toArray, List.set_cons_zero, List.set_cons_succ]
      refine wpAnyH_take (i := 4) (oi := { dst := some 78, op := Op.move (Operand.tmp 6), type := 3, pos := "key.go:209", after := #[], guard := none }) (v := ?_) rfl (by kernel_rfl) (by kernel_rfl) (by kernel_rfl) (fun _ _ _ h => h) (Or.inl ⟨by kernel_rfl, ?_⟩) (by assumption) ?_
      rotate_left
      · intro wS hSw; (try dsimp only at hSw); go_simp; (try with_reducible rfl)
      try simp only [Act.put, List.setIfInBounds_toArray, List.set_cons_zero, List.set_cons_succ]
      refine wpAnyH_take (i := 5) (oi := { dst := some 79, op := Op.move (Operand.tmp 1), type := 22, pos := "key.go:209", after := #[], guard := none }) (v := ?_) rfl (by kernel_rfl) (by kernel_rfl) (by kernel_rfl) (fun _ _ _ h => h) (Or.inl ⟨by kernel_rfl, ?_⟩) (by assumption) ?_
      rotate_left
      · intro wS hSw; (try dsimp only at hSw); go_simp; (try with_reducible rfl)
      try simp only [Act.put, List.setIfInBounds_toArray, List.set_cons_zero, List.set_cons_succ]
      refine wpAnyH_take (i := 7) (oi := { dst := some 81, op := Op.move (Operand.tmp 2), type := 3, pos := "key.go:209", after := #[], guard := none }) (v := ?_) rfl (by kernel_rfl) (by kernel_rfl) (by kernel_rfl) (fun _ _ _ h => h) (Or.inl ⟨by kernel_rfl, ?_⟩) (by assumption) ?_
      rotate_left
      · intro wS hSw; (try dsimp only at hSw); go_simp; (try with_reducible rfl)
      try simp only [Act.put, List.setIfInBounds_toArray, List.set_cons_zero, List.set_cons_succ]
      refine wpAnyH_take (i := 8) (oi := { dst := some 82, op := Op.move (Operand.tmp 0), type := 37, pos := "key.go:209", after := #[], guard := none }) (v := ?_) rfl (by kernel_rfl) (by kernel_rfl) (by kernel_rfl) (fun _ _ _ h => h) (Or.inl ⟨by kernel_rfl, ?_⟩) (by assumption) ?_
      rotate_left
      · intro wS hSw; (try dsimp only at hSw); go_simp; (try with_reducible rfl)
      try simp only [Act.put, List.setIfInBounds_toArray, List.set_cons_zero, List.set_cons_succ]
      refine wpAnyH_take (i := 9) (oi := { dst := some 83, op := Op.nilCheck (Operand.tmp 82), type := 0, pos := "key.go:209", after := #[{ on := 8, ground := Ground.data }], guard := none }) (v := ?_) rfl (by kernel_rfl) (by kernel_rfl) (by kernel_rfl) (fun _ _ _ h => h) (Or.inl ⟨by kernel_rfl, ?_⟩) (by assumption) ?_
      rotate_left
      · intro wS hSw; (try dsimp only at hSw); go_simp; (try with_reducible rfl)
      try simp only [Act.put, List.setIfInBounds_toArray, List.set_cons_zero, List.set_cons_succ]
      refine wpAnyH_take (i := 10) (oi := { dst := some 84, op := Op.fieldAddr 75 (Operand.tmp 83) 3, type := 0, pos := "key.go:209", after := #[{ on := 9, ground := Ground.data }], guard := none }) (v := ?_) rfl (by kernel_rfl) (by kernel_rfl) (by kernel_rfl) (fun _ _ _ h => h) (Or.inl ⟨by kernel_rfl, ?_⟩) (by assumption) ?_
      rotate_left
      · intro wS hSw; (try dsimp only at hSw); go_simp; (try with_reducible rfl)
      try simp only [Act.put, List.setIfInBounds_toArray, List.set_cons_zero, List.set_cons_succ]
      refine wpAnyH_take (i := 11) (oi := { dst := some 85, op := Op.load 3 (Operand.tmp 84), type := 3, pos := "key.go:209", after := #[{ on := 10, ground := Ground.data }], guard := none }) (v := ?_) rfl (by kernel_rfl) (by kernel_rfl) (by kernel_rfl) (fun _ _ _ h => h) (Or.inl ⟨by kernel_rfl, ?_⟩) (by assumption) ?_
      rotate_left
      · intro wS hSw; (try dsimp only at hSw); have xm := hSw.cell hmh n3; go_simp; (try with_reducible rfl)
      try simp only [Act.put, List.setIfInBounds_toArray, List.set_cons_zero, List.set_cons_succ]
      refine wpAnyH_ready (rs := [6]) (by kernel_rfl) (by simp) ?_
      refine AllReadyH.cons (o := { dst := some 80, op := Op.call { callee := Callee.value (Operand.func 41), args := #[Operand.tmp 79], argTypes := #[22] }, type := 22, pos := "key.go:209", after := #[{ on := 5, ground := Ground.data }], guard := none }) rfl (fun K hK => ?_) AllReadyH.nil
      go_simp
      go_at_call 41
      refine (Clone_any (some ⟨b, off, none⟩) cap r _ hby hrow).mono ?_
      rintro e w2 ⟨a1, cap1, rfl, hr1, hg1, hb1⟩
      have hM2 := (hM0.below (Below.refl W0.heap.size W0).drew).below hb1
      obtain ⟨es2, clk2, hH2⟩ := hM2.held
      have hhl : M.h < w2.heap.size := heap_lt hH2.at_
      obtain ⟨es', clk', hup, hMs⟩ := hH2.store under73 keys3 q (⟨a1, cap1, r, n, bi + 1⟩ : Ent)
      dsimp only [itE, enE] at hup
      have HR1 : Hid _ := hr1
      have HG1 : Hid _ := hg1
      clear hr1 hg1 hH2
      refine hK.out _ _ ?_ (fun hH6 => ?_)
      · (try dsimp only); exact Fr.step (Fr.refl _ _).drew hb1
      clear hK K
      try simp only [Act.put, List.setIfInBounds_toArray, List.set_cons_zero, List.set_cons_succ]
      refine wpAnyH_take (i := 12) (oi := { dst := some 86, op := Op.build 78 #[(0, Operand.tmp 80), (1, Operand.tmp 81), (2, Operand.tmp 85)], type := 78, pos := "key.go:209", after := #[{ on := 6, ground := Ground.data }, { on := 7, ground := Ground.data }, { on := 11, ground := Ground.data }], guard := none }) (v := ?_) rfl (by kernel_rfl) (by kernel_rfl) (by kernel_rfl) (fun _ _ _ h => h) (Or.inl ⟨by kernel_rfl, ?_⟩) (by assumption) ?_
      rotate_left
      · intro wS hSw; (try dsimp only at hSw); go_simp; (try with_reducible rfl)
      try simp only [Act.put, List.setIfInBounds_toArray, List.set_cons_zero, List.set_cons_succ]
      refine wpAnyH_ready (rs := [13]) (by kernel_rfl) (by simp) ?_
      refine AllReadyH.cons (o := { dst := none, op := Op.mapUpdate 73 (Operand.tmp 77) (Operand.tmp 78) (Operand.tmp 86), type := 0, pos := "key.go:209", after := #[{ on := 3, ground := Ground.data }, { on := 4, ground := Ground.data }, { on := 12, ground := Ground.data }, { on := 6, ground := Ground.chain }, { on := 0, ground := Ground.phase }, { on := 1, ground := Ground.phase }, { on := 2, ground := Ground.phase }, { on := 3, ground := Ground.phase }, { on := 4, ground := Ground.phase }, { on := 5, ground := Ground.phase }, { on := 6, ground := Ground.phase }, { on := 7, ground := Ground.phase }, { on := 8, ground := Ground.phase }, { on := 9, ground := Ground.phase }, { on := 10, ground := Ground.phase }, { on := 11, ground := Ground.phase }, { on := 12, ground := Ground.phase }], guard := none }) rfl (fun K hK => ?_) AllReadyH.nil
      go_simp
      refine hK.out _ _ ?_ (fun hH13 => ?_)
      · (try dsimp only); exact Fr.put (by assumption) _
      clear hK K
      try simp only [Act.put, List.setIfInBounds_toArray, List.set_cons_zero, List.set_cons_succ]
      refine wpAnyH_done (by kernel_rfl) ?_ _
      have hat : (setBlock w2 M.h (.map es' clk')).heap[M.h]? = some (.map es' clk') := setBlock_at _ hhl
      have hFs : Fr (fun k => k = M.h) w2 (setBlock w2 M.h (.map es' clk')) := Fr.put (Fr.refl _ w2) _
      have HM2 : Hid (MpAt (setBlock w2 M.h (.map es' clk')) M WM (up HL q ⟨a1, cap1, r, n, bi + 1⟩) pm (bi + 1)) := hM2.turnH hFs (hMs _ hat) (fun x hx => by
        rcases mem_up hx with hx | rfl
        · exact hM2.rows x hx
        · exact ⟨HR1.out, fun g o e => by have h := (HG1.out g o e).1; simp at h; omega⟩)
      have HF2 : Hid (Fr M.own w (setBlock w2 M.h (.map es' clk'))) := HFr.out.trans (hF0.trans (((Fr.of ((Below.refl W0.heap.size W0).drew)).step hb1).trans (hFs.mono fun k e => Or.inr (Or.inr e))))
      have HSZ : Hid (w.heap.size ≤ W0.heap.size) := Nat.le_trans HFr.out.size hF0.size
      clear hMs hFs hat hM2 hF0
      go_wp2
      go_end0
      exact ⟨rfl, a1, cap1, by rw [HN.out]; exact HM2.out, HF2.out, fun g o e => by have h := (HG1.out g o e).1; have h2 := HSZ.out; simp at h; omega⟩
set_option maxRecDepth 20000 in
set_option maxHeartbeats 16000000 in
theorem put_none (a : Option Addr) (cap : Nat) (M : Mb) (WL : List (Pce × Way)) (HL : List (Int × Ent)) (pl bi n : Int) (w : World) (hM : MpAt w M WL HL pl bi) (hb0 : 0 ≤ bi) (hbr : bi < 4611686018427387904) :
    Calls Tryd.prog 33 #[.pointer (some ⟨M.m, 0, none⟩), .slice a 0 cap, .int .i64 n] w fun e w' => e = .returned (.tuple #[]) ∧ ∃ a' cap', MpAt w' M WL (up HL 0 ⟨a', cap', [], n, bi + 1⟩) pl (bi + 1) ∧ Fr M.own w w' ∧ ∀ g o, a' = some ⟨g, o, none⟩ → w.heap.size ≤ g := by
  have hmap : ∀ wx : World, (binOp .eql 73 (.map (some M.h)) (.map none)).run Tryd.prog wx = .ok (.bool false) wx := fun wx => by kernel_rfl
  have m1 := hM.c1
  have c3 := hM.c3
  have f3 := hM.f3
  go_enter Tryd.func33, Tryd.ntmps33
  go_wp2
  refine wp_loop_rounds 1 ?_
  rw [rounds_succ]
  go_wp2
  have hM0 : MpAt (w.setCell ⟨M.m, 3, none⟩ (.int .i64 (bi + 1))) M WL HL pl (bi + 1) := hM.turnC (Fr.cnt _ _ _ _) (by rw [set_off (by decide)]; exact hM.c0) (by rw [set_off (by decide)]; exact hM.c1) (by rw [set_off (by decide)]; exact hM.c2) (World.cell?_setCell_same _ _ _ hM.c3) (by rw [World.frozen?_setCell]; exact hM.f2) (by rw [World.frozen?_setCell]; exact hM.f3)
  have hF0 : Fr M.own w (w.setCell ⟨M.m, 3, none⟩ (.int .i64 (bi + 1))) := (Fr.refl _ _).setCell (Or.inl (show M.own M.m from Or.inl rfl)) _
  obtain ⟨W0, hW0⟩ : ∃ W0 : World, w.setCell ⟨M.m, 3, none⟩ (.int .i64 (bi + 1)) = W0 := ⟨_, rfl⟩
  rw [hW0] at hM0 hF0 ⊢
  have n1 := hM0.c1
  have n3 := hM0.c3
  have hmh := hM0.mh
  have hml : M.m < W0.heap.size := cell_lt n1
  clear hW0 c3 f3 m1 hM
  refine wp_region_held_drew (S := (fun wS => Fr (fun k => k = M.h) W0 wS)) (by kernel_rfl) ?_ (fun hHeld => ?_)
  · (try dsimp only); exact (Fr.refl _ _).drew
  refine wpAnyH_take (i := 0) (oi := { dst := some 74, op := Op.move (Operand.tmp 0), type := 37, pos := "key.go:209", after := #[], guard := none }) (v := ?_) rfl (by kernel_rfl) (by kernel_rfl) (by kernel_rfl) (fun _ _ _ h => h) (Or.inl ⟨by kernel_rfl, ?_⟩) (by assumption) ?_
  rotate_left
  · intro wS hSw; (try dsimp only at hSw); go_simp; (try with_reducible rfl)
  try simp only [Act.put, List.setIfInBounds_toArray, List.set_cons_zero, List.set_cons_succ]
  refine wpAnyH_take (i := 1) (oi := { dst := some 75, op := Op.nilCheck (Operand.tmp 74), type := 0, pos := "key.go:209", after := #[{ on := 0, ground := Ground.data }], guard := none }) (v := ?_) rfl (by kernel_rfl) (by kernel_rfl) (by kernel_rfl) (fun _ _ _ h => h) (Or.inl ⟨by kernel_rfl, ?_⟩) (by assumption) ?_
  rotate_left
  · intro wS hSw; (try dsimp only at hSw); go_simp; (try with_reducible rfl)
  try simp only [Act.put, List.setIfInBounds_toArray, List.set_cons_zero, List.set_cons_succ]
  refine wpAnyH_take (i := 2) (oi := { dst := some 76, op := Op.fieldAddr 75 (Operand.tmp 75) 1, type := 0, pos := "key.go:209", after := #[{ on := 1, ground := Ground.data }], guard := none }) (v := ?_) rfl (by kernel_rfl) (by kernel_rfl) (by kernel_rfl) (fun _ _ _ h => h) (Or.inl ⟨by kernel_rfl, ?_⟩) (by assumption) ?_
  rotate_left
  · intro wS hSw; (try dsimp only at hSw); go_simp; (try with_reducible rfl)
  try simp only [Act.put, List.setIfInBounds_toArray, List.set_cons_zero, List.set_cons_succ]
  refine wpAnyH_take (i := 3) (oi := { dst := some 77, op := Op.load 73 (Operand.tmp 76), type := 73, pos := "key.go:209", after := #[{ on := 2, ground := Ground.data }], guard := none }) (v := ?_) rfl (by kernel_rfl) (by kernel_rfl) (by kernel_rfl) (fun _ _ _ h => h) (Or.inl ⟨by kernel_rfl, ?_⟩) (by assumption) ?_
  rotate_left
  · intro wS hSw; (try dsimp only at hSw); have xm := hSw.cell hmh n1; go_simp; (try with_reducible rfl)
  try simp only [Act.put, List.setIfInBounds_toArray, List.set_cons_zero, List.set_cons_succ]
  refine wpAnyH_take (i := 4) (oi := { dst := some 78, op := Op.move (Operand.tmp 6), type := 3, pos := "key.go:209", after := #[], guard := none }) (v := ?_) rfl (by kernel_rfl) (by kernel_rfl) (by kernel_rfl) (fun _ _ _ h => h) (Or.inl ⟨by kernel_rfl, ?_⟩) (by assumption) ?_
  rotate_left
  · intro wS hSw; (try dsimp only at hSw); go_simp; (try with_reducible rfl)
  try simp only [Act.put, List.setIfInBounds_toArray, List.set_cons_zero, List.set_cons_succ]
  refine wpAnyH_take (i := 5) (oi := { dst := some 79, op := Op.move (Operand.tmp 1), type := 22, pos := "key.go:209", after := #[], guard := none }) (v := ?_) rfl (by kernel_rfl) (by kernel_rfl) (by kernel_rfl) (fun _ _ _ h => h) (Or.inl ⟨by kernel_rfl, ?_⟩) (by assumption) ?_
  rotate_left
  · intro wS hSw; (try dsimp only at hSw); go_simp; (try with_reducible rfl)
  try simp only [Act.put, List.setIfInBounds_toArray, List.set_cons_zero, List.set_cons_succ]
  refine wpAnyH_take (i := 7) (oi := { dst := some 81, op := Op.move (Operand.tmp 2), type := 3, pos := "key.go:209", after := #[], guard := none }) (v := ?_) rfl (by kernel_rfl) (by kernel_rfl) (by kernel_rfl) (fun _ _ _ h => h) (Or.inl ⟨by kernel_rfl, ?_⟩) (by assumption) ?_
  rotate_left
  · intro wS hSw; (try dsimp only at hSw); go_simp; (try with_reducible rfl)
  try simp only [Act.put, List.setIfInBounds_toArray, List.set_cons_zero, List.set_cons_succ]
  refine wpAnyH_take (i := 8) (oi := { dst := some 82, op := Op.move (Operand.tmp 0), type := 37, pos := "key.go:209", after := #[], guard := none }) (v := ?_) rfl (by kernel_rfl) (by kernel_rfl) (by kernel_rfl) (fun _ _ _ h => h) (Or.inl ⟨by kernel_rfl, ?_⟩) (by assumption) ?_
  rotate_left
  · intro wS hSw; (try dsimp only at hSw); go_simp; (try with_reducible rfl)
  try simp only [Act.put, List.setIfInBounds_toArray, List.set_cons_zero, List.set_cons_succ]
  refine wpAnyH_take (i := 9) (oi := { dst := some 83, op := Op.nilCheck (Operand.tmp 82), type := 0, pos := "key.go:209", after := #[{ on := 8, ground := Ground.data }], guard := none }) (v := ?_) rfl (by kernel_rfl) (by kernel_rfl) (by kernel_rfl) (fun _ _ _ h => h) (Or.inl ⟨by kernel_rfl, ?_⟩) (by assumption) ?_
  rotate_left
  · intro wS hSw; (try dsimp only at hSw); go_simp; (try with_reducible rfl)
  try simp only [Act.put, List.setIfInBounds_toArray, List.set_cons_zero, List.set_cons_succ]
  refine wpAnyH_take (i := 10) (oi := { dst := some 84, op := Op.fieldAddr 75 (Operand.tmp 83) 3, type := 0, pos := "key.go:209", after := #[{ on := 9, ground := Ground.data }], guard := none }) (v := ?_) rfl (by kernel_rfl) (by kernel_rfl) (by kernel_rfl) (fun _ _ _ h => h) (Or.inl ⟨by kernel_rfl, ?_⟩) (by assumption) ?_
  rotate_left
  · intro wS hSw; (try dsimp only at hSw); go_simp; (try with_reducible rfl)
  try simp only [Act.put, List.setIfInBounds_toArray, List.set_cons_zero, List.set_cons_succ]
  refine wpAnyH_take (i := 11) (oi := { dst := some 85, op := Op.load 3 (Operand.tmp 84), type := 3, pos := "key.go:209", after := #[{ on := 10, ground := Ground.data }], guard := none }) (v := ?_) rfl (by kernel_rfl) (by kernel_rfl) (by kernel_rfl) (fun _ _ _ h => h) (Or.inl ⟨by kernel_rfl, ?_⟩) (by assumption) ?_
  rotate_left
  · intro wS hSw; (try dsimp only at hSw); have xm := hSw.cell hmh n3; go_simp; (try with_reducible rfl)
  try simp only [Act.put, List.setIfInBounds_toArray, List.set_cons_zero, List.set_cons_succ]
  refine wpAnyH_ready (rs := [6]) (by kernel_rfl) (by simp) ?_
  refine AllReadyH.cons (o := { dst := some 80, op := Op.call { callee := Callee.value (Operand.func 41), args := #[Operand.tmp 79], argTypes := #[22] }, type := 22, pos := "key.go:209", after := #[{ on := 5, ground := Ground.data }], guard := none }) rfl (fun K hK => ?_) AllReadyH.nil
  go_simp
  go_at_call 41
  refine (Clone_any a cap [] _ (by decide) (Or.inl rfl)).mono ?_
  rintro e w2 ⟨a1, cap1, rfl, hr1, hg1, hb1⟩
  have hM2 := (hM0.below (Below.refl W0.heap.size W0).drew).below hb1
  obtain ⟨es2, clk2, hH2⟩ := hM2.held
  have hhl : M.h < w2.heap.size := heap_lt hH2.at_
  obtain ⟨es', clk', hup, hMs⟩ := hH2.store under73 keys3 0 (⟨a1, cap1, [], n, bi + 1⟩ : Ent)
  dsimp only [itE, enE, List.length_nil] at hup ⊢
  have HR1 : Hid _ := hr1
  have HG1 : Hid _ := hg1
  clear hr1 hg1 hH2
  refine hK.out _ _ ?_ (fun hH6 => ?_)
  · (try dsimp only); exact Fr.step (Fr.refl _ _).drew hb1
  clear hK K
  try simp only [Act.put, List.setIfInBounds_toArray, List.set_cons_zero, List.set_cons_succ]
  refine wpAnyH_take (i := 12) (oi := { dst := some 86, op := Op.build 78 #[(0, Operand.tmp 80), (1, Operand.tmp 81), (2, Operand.tmp 85)], type := 78, pos := "key.go:209", after := #[{ on := 6, ground := Ground.data }, { on := 7, ground := Ground.data }, { on := 11, ground := Ground.data }], guard := none }) (v := ?_) rfl (by kernel_rfl) (by kernel_rfl) (by kernel_rfl) (fun _ _ _ h => h) (Or.inl ⟨by kernel_rfl, ?_⟩) (by assumption) ?_
  rotate_left
  · intro wS hSw; (try dsimp only at hSw); go_simp; (try with_reducible rfl)
  try simp only [Act.put, List.setIfInBounds_toArray, List.set_cons_zero, List.set_cons_succ]
  refine wpAnyH_ready (rs := [13]) (by kernel_rfl) (by simp) ?_
  refine AllReadyH.cons (o := { dst := none, op := Op.mapUpdate 73 (Operand.tmp 77) (Operand.tmp 78) (Operand.tmp 86), type := 0, pos := "key.go:209", after := #[{ on := 3, ground := Ground.data }, { on := 4, ground := Ground.data }, { on := 12, ground := Ground.data }, { on := 6, ground := Ground.chain }, { on := 0, ground := Ground.phase }, { on := 1, ground := Ground.phase }, { on := 2, ground := Ground.phase }, { on := 3, ground := Ground.phase }, { on := 4, ground := Ground.phase }, { on := 5, ground := Ground.phase }, { on := 6, ground := Ground.phase }, { on := 7, ground := Ground.phase }, { on := 8, ground := Ground.phase }, { on := 9, ground := Ground.phase }, { on := 10, ground := Ground.phase }, { on := 11, ground := Ground.phase }, { on := 12, ground := Ground.phase }], guard := none }) rfl (fun K hK => ?_) AllReadyH.nil
  go_simp
  refine hK.out _ _ ?_ (fun hH13 => ?_)
  · (try dsimp only); exact Fr.put (by assumption) _
  clear hK K
  try simp only [Act.put, List.setIfInBounds_toArray, List.set_cons_zero, List.set_cons_succ]
  refine wpAnyH_done (by kernel_rfl) ?_ _
  have hat : (setBlock w2 M.h (.map es' clk')).heap[M.h]? = some (.map es' clk') := setBlock_at _ hhl
  have hFs : Fr (fun k => k = M.h) w2 (setBlock w2 M.h (.map es' clk')) := Fr.put (Fr.refl _ w2) _
  have HM2 : Hid (MpAt (setBlock w2 M.h (.map es' clk')) M WL (up HL 0 ⟨a1, cap1, [], n, bi + 1⟩) pl (bi + 1)) := hM2.turnH hFs (hMs _ hat) (fun x hx => by
    rcases mem_up hx with hx | rfl
    · exact hM2.rows x hx
    · exact ⟨HR1.out, fun g o e => by have h := (HG1.out g o e).1; simp at h; omega⟩)
  have HF2 : Hid (Fr M.own w (setBlock w2 M.h (.map es' clk'))) := hF0.trans (((Fr.of ((Below.refl W0.heap.size W0).drew)).step hb1).trans (hFs.mono fun k e => Or.inr (Or.inr e)))
  have HSZ : Hid (w.heap.size ≤ W0.heap.size) := hF0.size
  clear hMs hFs hat hM2 hF0
  go_wp2
  go_end0
  exact ⟨rfl, a1, cap1, HM2.out, HF2.out, fun g o e => by have h := (HG1.out g o e).1; have h2 := HSZ.out; simp at h; omega⟩
theorem put_any (a : Option Addr) (cap : Nat) (M : Mb) (WL : List (Pce × Way)) (HL : List (Int × Ent)) (pl bi c n : Int) (r : List Val) (w : World) (hM : MpAt w M WL HL pl bi) (hr : RowAt w a r) (hne : ∀ g o, a = some ⟨g, o, none⟩ → g ≠ M.m)
    (hF : Few WL c) (hc0 : 0 ≤ c) (hcr : c + r.length < 4611686018427387904) (hp0 : 0 ≤ pl) (hpr : pl + r.length < 4611686018427387904) (hb0 : 0 ≤ bi) (hbr : bi < 4611686018427387904) (hby : r.length * 32 ≤ 140737488355328) :
    Calls Tryd.prog 33 #[.pointer (some ⟨M.m, 0, none⟩), .slice a r.length cap, .int .i64 n] w fun e w' => e = .returned (.tuple #[]) ∧ ∃ a' cap', MpAt w' M (ptL (WL, pl, 0) r).1 (up HL (ptL (WL, pl, 0) r).2.2 ⟨a', cap', r, n, bi + 1⟩) (ptL (WL, pl, 0) r).2.1 (bi + 1) ∧ Fr M.own w w' ∧ ∀ g o, a' = some ⟨g, o, none⟩ → w.heap.size ≤ g := by
  rcases hr with h0 | ⟨b, off, rfl, hc⟩
  · obtain rfl : r = [] := List.length_eq_zero_iff.1 h0
    exact put_none a cap M WL HL pl bi n w hM hb0 hbr
  · refine put_some b off cap M WL HL pl bi c n r w hM hc (fun h0 => ?_) hF hc0 hcr hp0 hpr hb0 hbr hby
    obtain ⟨es, clk, hw⟩ := hM.ways
    obtain ⟨es', clk', hh⟩ := hM.held
    have hx := (hc 0 h0).1
    rintro (e | e | e)
    · exact hne b off rfl e
    · exact cell_not_map hx hw.at_ e
    · exact cell_not_map hx hh.at_ e
end Go.Proofs.YtbfodpmlmhkikaaDoor
