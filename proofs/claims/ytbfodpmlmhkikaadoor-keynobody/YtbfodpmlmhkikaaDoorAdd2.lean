/- Add. -/
import Derived.Test.YtbfodpmlmhkikaaDoorAdd
namespace Go.Proofs.YtbfodpmlmhkikaaDoor
open Go.ChangeShapes Go.WideShapes Go.ChangeAt Go.RowKit
open Go.ChangeMaps (setBlock)

set_option maxHeartbeats 4000000 in
theorem Add_bad (a : Option Addr) (cap : Nat) (M : Mb) (WL : List (Pce × Way)) (HL : List (Int × Ent)) (pl bi n : Int) (r : List Val) (w : World) (hR : Ready w) (hlen : r.length ≤ 9223372036854775807) (_hM : MpAt w M WL HL pl bi) (hr : RowAt w a r) (hm : mayR r = false) :
    Calls Tryd.prog 15 #[.pointer (some ⟨M.m, 0, none⟩), .slice a r.length cap, .int .i64 n] w fun e w' => e = .returned (.tuple #[.int .i64 0, .int .i64 31]) ∧ Below w.heap.size w w' := by
  have hc := mayBeR_any a cap r w hR hlen hr
  rw [hm] at hc
  clear hr hm
  go_enter Tryd.func15, Tryd.ntmps15
  go_wp2_with (go_at_call 25; refine hc.mono ?_; rintro e w' ⟨rfl, hb⟩)
  go_ret2
  exact ⟨rfl, (Bel.out (by repeat (first | exact Bel.refl _ | assumption | refine Bel.drew ?_ | refine Bel.drewN ?_ _ | refine Bel.alloc ?_ _ | refine Bel.setCell ?_ (by simp <;> omega) _ | refine Bel.step ?_ (by assumption))))⟩
set_option maxHeartbeats 4000000 in
theorem Add_new (a : Option Addr) (cap : Nat) (M : Mb) (WL : List (Pce × Way)) (HL : List (Int × Ent)) (pl bi n : Int) (r : List Val) (w : World) (hR : Ready w) (hlen : r.length ≤ 9223372036854775807) (hM : MpAt w M WL HL pl bi) (hr : RowAt w a r) (hm : mayR r = true) (hf : (fdP WL HL r).2 = false) (hne : ∀ g o, a = some ⟨g, o, none⟩ → g ≠ M.m)
    (c : Int) (hF : Few WL c) (hc0 : 0 ≤ c) (hcr : c + r.length < 4611686018427387904) (hp0 : 0 ≤ pl) (hpr : pl + r.length < 4611686018427387904) (hb0 : 0 ≤ bi) (hbr : bi < 4611686018427387904) (hby : r.length * 32 ≤ 140737488355328) :
    Calls Tryd.prog 15 #[.pointer (some ⟨M.m, 0, none⟩), .slice a r.length cap, .int .i64 n] w fun e w' => e = .returned (.tuple #[.int .i64 n, .int .i64 0]) ∧ ∃ a' cap', MpAt w' M (ptL (WL, pl, 0) r).1 (up HL (ptL (WL, pl, 0) r).2.2 ⟨a', cap', r, n, bi + 1⟩) (ptL (WL, pl, 0) r).2.1 (bi + 1) ∧ Fr M.own w w' ∧ ∀ g o, a' = some ⟨g, o, none⟩ → w.heap.size ≤ g := by
  have h1 := mayBeR_any a cap r w hR hlen hr
  rw [hm] at h1
  clear hm
  have HF : Hid (Few WL c) := hF
  have HE : Hid _ := hne
  clear hF hne
  have HM : Hid (MpAt w M WL HL pl bi) := hM
  have HR : Hid (RowAt w a r) := hr
  clear hM hr
  generalize hd : fdP WL HL r = d at hf
  obtain ⟨q, ok⟩ := d
  dsimp only at hf
  subst hf
  go_enter Tryd.func15, Tryd.ntmps15
  go_wp2_with fail
  refine h1.mono ?_
  rintro e w1 ⟨rfl, hb1⟩
  go_wp2_with fail
  refine (find_any a cap M WL HL pl bi r w1 hlen (HM.out.below hb1) (HR.out.below hb1)).mono ?_
  rintro e w2 ⟨rfl, hb2⟩
  rw [hd]
  go_wp2_with fail
  refine (put_any a cap M WL HL pl bi c n r w2 ((HM.out.below hb1).below hb2) ((HR.out.below hb1).below hb2) HE.out HF.out hc0 hcr hp0 hpr hb0 hbr hby).mono ?_
  rintro e w3 ⟨rfl, a', cap', hM3, hF3, hN3⟩
  have HM3 : Hid _ := hM3
  have HF3 : Hid _ := hF3
  have HN3 : Hid _ := hN3
  have hsz : w.heap.size ≤ w2.heap.size := Nat.le_trans hb1.size hb2.size
  clear hM3 hF3 hN3
  go_wp2
  go_ret2
  exact ⟨rfl, a', cap', HM3.out, ((Fr.of hb1).step hb2).trans HF3.out, fun g o e => Nat.le_trans hsz (HN3.out g o e)⟩
set_option maxHeartbeats 4000000 in
theorem Add_over (a : Option Addr) (cap : Nat) (M : Mb) (WL : List (Pce × Way)) (HL : List (Int × Ent)) (pl bi n : Int) (r : List Val) (w : World) (hR : Ready w) (hlen : r.length ≤ 9223372036854775807) (hM : MpAt w M WL HL pl bi) (hr : RowAt w a r) (hm : mayR r = true) (p : Int) (hf : fdP WL HL r = (p, true)) (x : Ent) (hx : lk HL p = some x) (hn1 : -9223372036854775808 ≤ n) (hn2 : n ≤ 9223372036854775807) (hx1 : -9223372036854775808 ≤ x.n) (hx2 : x.n ≤ 9223372036854775807) (hlv : lvI x.n n = true) :
    Calls Tryd.prog 15 #[.pointer (some ⟨M.m, 0, none⟩), .slice a r.length cap, .int .i64 n] w fun e w' => e = .returned (.tuple #[.int .i64 0, .int .i64 20]) ∧ Below w.heap.size w w' := by
  have h1 := mayBeR_any a cap r w hR hlen hr
  rw [hm] at h1
  clear hm
  have HM : Hid (MpAt w M WL HL pl bi) := hM
  have HR : Hid (RowAt w a r) := hr
  clear hM hr
  have hlv' := fun wx => leavesInt_any x.n n wx hx1 hx2 hn1 hn2
  rw [hlv] at hlv'
  go_enter Tryd.func15, Tryd.ntmps15
  go_wp2_with fail
  refine h1.mono ?_
  rintro e w1 ⟨rfl, hb1⟩
  go_wp2_with fail
  refine (find_any a cap M WL HL pl bi r w1 hlen (HM.out.below hb1) (HR.out.below hb1)).mono ?_
  rintro e w2 ⟨rfl, hb2⟩
  rw [hf]
  have hM2 := (HM.out.below hb1).below hb2
  obtain ⟨es, clk, hM1⟩ := hM2.held
  have m1 := hM2.c1
  have xl := hM1.look under73 keys3 _ zero78 p
  rw [hx] at xl
  dsimp only [itE, enE, Option.map, Option.getD] at xl
  clear hM2 hM1 h1
  go_wp2_with (go_at_call 34; refine (hlv' _).mono ?_; rintro e w3 ⟨rfl, hb3⟩)
  go_ret2
  exact ⟨rfl, (Bel.out (by repeat (first | exact Bel.refl _ | assumption | refine Bel.drew ?_ | refine Bel.drewN ?_ _ | refine Bel.alloc ?_ _ | refine Bel.setCell ?_ (by simp <;> omega) _ | refine Bel.step ?_ (by assumption))))⟩
set_option maxRecDepth 20000 in
set_option maxHeartbeats 8000000 in
theorem Add_sum (a : Option Addr) (cap : Nat) (M : Mb) (WL : List (Pce × Way)) (HL : List (Int × Ent)) (pl bi n : Int) (r : List Val) (w : World) (hR : Ready w) (hlen : r.length ≤ 9223372036854775807) (hM : MpAt w M WL HL pl bi) (hr : RowAt w a r) (hm : mayR r = true) (p : Int) (hf : fdP WL HL r = (p, true)) (x : Ent) (hx : lk HL p = some x) (hn1 : -9223372036854775808 ≤ n) (hn2 : n ≤ 9223372036854775807) (hx1 : -9223372036854775808 ≤ x.n) (hx2 : x.n ≤ 9223372036854775807) (hlv : lvI x.n n = false) :
    Calls Tryd.prog 15 #[.pointer (some ⟨M.m, 0, none⟩), .slice a r.length cap, .int .i64 n] w fun e w' => e = .returned (.tuple #[.int .i64 (x.n + n), .int .i64 0]) ∧ MpAt w' M WL (up HL p ⟨x.a, x.cap, x.row, x.n + n, x.born⟩) pl bi ∧ Fr M.own w w' := by
  have h1 := mayBeR_any a cap r w hR hlen hr
  rw [hm] at h1
  clear hm
  have HM : Hid (MpAt w M WL HL pl bi) := hM
  have HR : Hid (RowAt w a r) := hr
  clear hM hr
  have hlv' := fun wx => leavesInt_any x.n n wx hx1 hx2 hn1 hn2
  rw [hlv] at hlv'
  have hs1 : -9223372036854775808 ≤ x.n + n := by unfold lvI at hlv; simp at hlv; omega
  have hs2 : x.n + n ≤ 9223372036854775807 := by unfold lvI at hlv; simp at hlv; omega
  clear hlv
  go_enter Tryd.func15, Tryd.ntmps15
  go_wp2_with fail
  refine h1.mono ?_
  rintro e w1 ⟨rfl, hb1⟩
  go_wp2_with fail
  refine (find_any a cap M WL HL pl bi r w1 hlen (HM.out.below hb1) (HR.out.below hb1)).mono ?_
  rintro e w2 ⟨rfl, hb2⟩
  rw [hf]
  have hM2 := (HM.out.below hb1).below hb2
  obtain ⟨es, clk, hM1⟩ := hM2.held
  have m1 := hM2.c1
  have xl := hM1.look under73 keys3 _ zero78 p
  rw [hx] at xl
  dsimp only [itE, enE, Option.map, Option.getD] at xl
  have HM2 : Hid (MpAt w2 M WL HL pl bi) := hM2
  clear hM2 hM1 h1
  go_wp2_with fail
  refine (hlv' _).mono ?_
  rintro e w3 ⟨rfl, hb3⟩
  have q0 : w3.cell? ⟨w2.heap.size, 0, none⟩ = some (.slice x.a x.row.length x.cap) := cell_below hb3 (new3_0 _ _ _ _ _)
  have q1 : w3.cell? ⟨w2.heap.size, 1, none⟩ = some (.int .i64 x.n) := cell_below hb3 (new3_1 _ _ _ _ _)
  have q2 : w3.cell? ⟨w2.heap.size, 2, none⟩ = some (.int .i64 x.born) := cell_below hb3 (new3_2 _ _ _ _ _)
  have qf : w3.frozen? ⟨w2.heap.size, 1, none⟩ = false := (hb3.frozen (p := ⟨w2.heap.size, 1, none⟩) (by simp)).trans (by go_simp)
  clear xl m1
  go_wp2
  obtain ⟨W1, hW1⟩ : ∃ W1 : World, w3.setCell ⟨w2.heap.size, 1, none⟩ (.int .i64 (x.n + n)) = W1 := ⟨_, rfl⟩
  have hB : Below w2.heap.size w2 W1 := by rw [← hW1]; exact (((Below.refl _ _).alloc (Nat.le_refl _) _).trans (hb3.mono (by simp))).setCell (p := ⟨w2.heap.size, 1, none⟩) (Nat.le_refl _) _
  have r0 : W1.cell? ⟨w2.heap.size, 0, none⟩ = some (.slice x.a x.row.length x.cap) := by rw [← hW1, set_off (by decide)]; exact q0
  have r1 : W1.cell? ⟨w2.heap.size, 1, none⟩ = some (.int .i64 (x.n + n)) := by rw [← hW1]; exact World.cell?_setCell_same _ _ _ q1
  have r2 : W1.cell? ⟨w2.heap.size, 2, none⟩ = some (.int .i64 x.born) := by rw [← hW1, set_off (by decide)]; exact q2
  rw [hW1]
  clear hW1 q0 q1 q2 qf hb3 hlv'
  have q0 := r0
  have q1 := r1
  have q2 := r2
  have hM1 := HM2.out.below hB
  have n1 := hM1.c1
  have hmh := hM1.mh
  obtain ⟨es1, clk1, hH1⟩ := hM1.held
  have hn2 : w2.heap.size ≠ M.h := cell_not_map q0 hH1.at_
  have hhl : M.h < W1.heap.size := heap_lt hH1.at_
  obtain ⟨es', clk', hup, hMs⟩ := (hH1.below (Below.refl W1.heap.size W1).drew).store under73 keys3 p (⟨x.a, x.cap, x.row, x.n + n, x.born⟩ : Ent)
  dsimp only [itE, enE] at hup
  have hxr := hM1.rows _ (lk_mem hx)
  have HX : Hid _ := hxr
  clear hH1 hxr r0 r1 r2
  refine wp_region_held_drew (S := (fun wS => Fr (fun k => k = M.h) W1 wS)) (by kernel_rfl) ?_ (fun hHeld => ?_)
  · (try dsimp only); exact (Fr.refl _ _).drew
  refine wpAnyH_take (i := 0) (oi := { dst := some 46, op := Op.move (Operand.tmp 0), type := 37, pos := "key.go:166", after := #[], guard := none }) (v := ?_) rfl (by kernel_rfl) (by kernel_rfl) (by kernel_rfl) (fun _ _ _ h => h) (Or.inl ⟨by kernel_rfl, ?_⟩) (by assumption) ?_
  rotate_left
  · intro wS hSw; (try dsimp only at hSw); go_simp; (try with_reducible rfl)
  try simp only [Act.put, List.setIfInBounds_toArray, List.set_cons_zero, List.set_cons_succ]
  refine wpAnyH_take (i := 1) (oi := { dst := some 47, op := Op.nilCheck (Operand.tmp 46), type := 0, pos := "key.go:166", after := #[{ on := 0, ground := Ground.data }], guard := none }) (v := ?_) rfl (by kernel_rfl) (by kernel_rfl) (by kernel_rfl) (fun _ _ _ h => h) (Or.inl ⟨by kernel_rfl, ?_⟩) (by assumption) ?_
  rotate_left
  · intro wS hSw; (try dsimp only at hSw); go_simp; (try with_reducible rfl)
  try simp only [Act.put, List.setIfInBounds_toArray, List.set_cons_zero, List.set_cons_succ]
  refine wpAnyH_take (i := 2) (oi := { dst := some 48, op := Op.fieldAddr 75 (Operand.tmp 47) 1, type := 0, pos := "key.go:166", after := #[{ on := 1, ground := Ground.data }], guard := none }) (v := ?_) rfl (by kernel_rfl) (by kernel_rfl) (by kernel_rfl) (fun _ _ _ h => h) (Or.inl ⟨by kernel_rfl, ?_⟩) (by assumption) ?_
  rotate_left
  · intro wS hSw; (try dsimp only at hSw); go_simp; (try with_reducible rfl)
  try simp only [Act.put, List.setIfInBounds_toArray, List.set_cons_zero, List.set_cons_succ]
  refine wpAnyH_take (i := 3) (oi := { dst := some 49, op := Op.load 73 (Operand.tmp 48), type := 73, pos := "key.go:166", after := #[{ on := 2, ground := Ground.data }], guard := none }) (v := ?_) rfl (by kernel_rfl) (by kernel_rfl) (by kernel_rfl) (fun _ _ _ h => h) (Or.inl ⟨by kernel_rfl, ?_⟩) (by assumption) ?_
  rotate_left
  · intro wS hSw; (try dsimp only at hSw); have xm := hSw.cell hmh n1; go_simp; (try with_reducible rfl)
  try simp only [Act.put, List.setIfInBounds_toArray, List.set_cons_zero, List.set_cons_succ]
  refine wpAnyH_take (i := 4) (oi := { dst := some 50, op := Op.move (Operand.tmp 8), type := 3, pos := "key.go:166", after := #[], guard := none }) (v := ?_) rfl (by kernel_rfl) (by kernel_rfl) (by kernel_rfl) (fun _ _ _ h => h) (Or.inl ⟨by kernel_rfl, ?_⟩) (by assumption) ?_
  rotate_left
  · intro wS hSw; (try dsimp only at hSw); go_simp; (try with_reducible rfl)
  try simp only [Act.put, List.setIfInBounds_toArray, List.set_cons_zero, List.set_cons_succ]
  refine wpAnyH_take (i := 5) (oi := { dst := some 51, op := Op.load 78 (Operand.tmp 10), type := 78, pos := "key.go:166", after := #[], guard := none }) (v := ?_) rfl (by kernel_rfl) (by kernel_rfl) (by kernel_rfl) (fun _ _ _ h => h) (Or.inl ⟨by kernel_rfl, ?_⟩) (by assumption) ?_
  rotate_left
  · intro wS hSw; (try dsimp only at hSw); have x0 := hSw.cell hn2 q0; have x1 := hSw.cell hn2 q1; have x2 := hSw.cell hn2 q2; go_simp; (try with_reducible rfl)
  try simp only [Act.put, List.setIfInBounds_toArray, List.set_cons_zero, List.set_cons_succ]
  refine wpAnyH_ready (rs := [6]) (by kernel_rfl) (by simp) ?_
  refine AllReadyH.cons (o := { dst := none, op := Op.mapUpdate 73 (Operand.tmp 49) (Operand.tmp 50) (Operand.tmp 51), type := 0, pos := "key.go:166", after := #[{ on := 3, ground := Ground.data }, { on := 4, ground := Ground.data }, { on := 5, ground := Ground.data }, { on := 0, ground := Ground.phase }, { on := 1, ground := Ground.phase }, { on := 2, ground := Ground.phase }, { on := 3, ground := Ground.phase }, { on := 4, ground := Ground.phase }, { on := 5, ground := Ground.phase }], guard := none }) rfl (fun K hK => ?_) AllReadyH.nil
  go_simp
  refine hK.out _ _ ?_ (fun hH6 => ?_)
  · (try dsimp only); exact Fr.put (by assumption) _
  clear hK K
  try simp only [Act.put, List.setIfInBounds_toArray, List.set_cons_zero, List.set_cons_succ]
  refine wpAnyH_done (by kernel_rfl) ?_ _
  have hat : (setBlock W1.drew M.h (.map es' clk')).heap[M.h]? = some (.map es' clk') := setBlock_at _ hhl
  have hFs : Fr (fun k => k = M.h) W1 (setBlock W1.drew M.h (.map es' clk')) := Fr.put (Fr.refl _ W1).drew _
  have r1 := hFs.cell hn2 q1
  have HM3 : Hid (MpAt (setBlock W1.drew M.h (.map es' clk')) M WL (up HL p ⟨x.a, x.cap, x.row, x.n + n, x.born⟩) pl bi) := hM1.turnH hFs (hMs _ hat) (fun y hy => by
    rcases mem_up hy with hy | rfl
    · exact hM1.rows y hy
    · exact HX.out)
  have HF3 : Hid (Fr M.own w (setBlock W1.drew M.h (.map es' clk'))) := ((((Fr.of hb1).step hb2).step hB).trans (hFs.mono fun k e => Or.inr (Or.inr e)))
  clear hMs hFs hat hM1
  go_wp2
  go_ret2
  exact ⟨rfl, HM3.out, HF3.out⟩
end Go.Proofs.YtbfodpmlmhkikaaDoor
