/- What came and what went between any two contents (the walk of ContentDiffs). -/
import Derived.Test.YtfjpdflilmcnhaaDoorRdf
import Derived.Test.YtfjpdflilmcnhaaDoorFit
import Derived.Test.YtfjpdflilmcnhaaDoorAwk
namespace Go.Proofs.YtfjpdflilmcnhaaDoor
open Go.ChangeShapes Go.WideShapes Go.ChangeAt Go.RowKit

theorem rRowQ_nil (w : World) : Calls Tryd.prog 19 #[.slice none 0 0, .slice none 0 0] w fun e w' => e = .returned (.bool true) ∧ ∃ q, w' = w.drewN q := rRowQ_0 none none 0 0 w
/-- How many stay is the same from both sides. -/
theorem nums_nodup {l o : List Arv} {sq tm : Int} (h : FitOk l o sq tm) : (o.map (·.seq)).Nodup := by
  rw [List.nodup_iff_pairwise_ne, List.pairwise_map]
  exact h.seqs.imp fun hxy => by omega
theorem cnt_stay {l k : List Arv} (hl : (l.map (·.seq)).Nodup) (hk : (k.map (·.seq)).Nodup) : (l.filter fun x => hasS k x.seq).length = (k.filter fun x => hasS l x.seq).length := by
  have e : ∀ p q : List Arv, ((p.filter fun x => hasS q x.seq).map (·.seq)) = (p.map (·.seq)).filter fun s => decide (s ∈ q.map (·.seq)) := by
    intro p q
    rw [List.filter_map]
    congr 1
    apply List.filter_congr
    intro x _
    show hasS q x.seq = decide (x.seq ∈ q.map (·.seq))
    cases h : hasS q x.seq
    · symm; rw [decide_eq_false_iff_not]; intro h2; rw [← hasS_iff] at h2; rw [h] at h2; cases h2
    · symm; rw [decide_eq_true_iff]; exact hasS_iff.1 h
  have h1 : ((l.map (·.seq)).filter fun s => decide (s ∈ k.map (·.seq))).Perm ((k.map (·.seq)).filter fun s => decide (s ∈ l.map (·.seq))) := by
    rw [List.perm_ext_iff_of_nodup (hl.filter _) (hk.filter _)]
    intro s
    simp only [List.mem_filter, decide_eq_true_iff]
    exact ⟨fun h => ⟨h.2, h.1⟩, fun h => ⟨h.2, h.1⟩⟩
  have h2 := h1.length_eq
  rw [← e l k, ← e k l, List.length_map, List.length_map] at h2
  exact h2
theorem mns_len (l k : List Arv) : (mns l k).length + (l.filter fun x => hasS k x.seq).length = l.length := by
  unfold mns
  induction l with
  | nil => rfl
  | cons x l ih =>
    simp only [List.filter_cons]
    cases hasS k x.seq <;> simp <;> omega
theorem cnt_diff {l k : List Arv} (hl : (l.map (·.seq)).Nodup) (hk : (k.map (·.seq)).Nodup) : (l.length : Int) - (mns l k).length + (mns k l).length = k.length := by
  have h1 := mns_len l k
  have h2 := mns_len k l
  have h3 := cnt_stay hl hk
  omega
theorem rows_sub {w : World} {l o : List Arv} (h : RowsIn w l) (hs : o.Sublist l) : RowsIn w o := fun x hx => h x (hs.subset hx)
set_option maxRecDepth 20000 in
set_option maxHeartbeats 16000000 in
theorem diffs_walk (a b : Option Addr) (cap bcap : Nat) (l k : List Arv) (now : Int) (w : World) (hn : l.length ≤ 9223372036854775807) (hn2 : k.length ≤ 9223372036854775807) (hby : ∀ x ∈ l, x.row.length * 32 ≤ 140737488355328) (hby2 : ∀ x ∈ k, x.row.length * 32 ≤ 140737488355328) (hl : ArsAt w a l) (hk : ArsAt w b k) :
    Calls Tryd.prog 6 #[.slice a l.length cap, .slice b k.length bcap, .int .i64 now] w fun e w' => e = .returned (.bool true) ∧ Below w.heap.size w w' := by
  have hf1 := fun wx (hb : Below w.heap.size w wx) => Fit_any a cap l now wx hn (hl.cels.below hb)
  have hf2 := fun wx (hb : Below w.heap.size w wx) => Fit_any b bcap k now wx hn2 (hk.cels.below hb)
  have HRl : Hid (RowsIn w l) := hl.rows
  have HRk : Hid (RowsIn w k) := hk.rows
  clear hl hk
  go_enter Tryd.func6, Tryd.ntmps6
  go_wp2_with fail
  refine (hf1 _ (Bel.out (by repeat (first | exact Bel.refl _ | assumption | refine Bel.drew ?_ | refine Bel.drewN ?_ _ | refine Bel.alloc ?_ _ | refine Bel.setCell ?_ (by simp <;> omega) _ | refine Bel.step ?_ (by assumption))))).mono ?_
  rintro e w1 ⟨a1, c1, o1, sq1, tm1, nw1, rfl, _, _, hO1, hA1, hb1⟩
  have hB1 : Below w.heap.size w w1 := by first | exact hb1 | exact ((Bel.out (by repeat (first | exact Bel.refl _ | assumption | refine Bel.drew ?_ | refine Bel.drewN ?_ _ | refine Bel.alloc ?_ _ | refine Bel.setCell ?_ (by simp <;> omega) _ | refine Bel.step ?_ (by assumption)))) : Below w.heap.size w _).trans (hb1.mono (by first | exact Nat.le_refl _ | simp))
  have HO1 : Hid (FitOk l o1 sq1 tm1) := hO1
  have HA1 : Hid (CelsAt w1 a1 o1) := hA1
  have HB1 : Hid (Below w.heap.size w w1) := hB1
  clear hO1 hA1 hb1 hf1
  go_wp2_with fail
  refine (hf2 _ hB1).mono ?_
  rintro e w2 ⟨b1, d1, o2, sq2, tm2, nw2, rfl, _, _, hO2, hA2, hb2⟩
  have HO2 : Hid (FitOk k o2 sq2 tm2) := hO2
  have HB2 : Hid (Below w.heap.size w w2) := hB1.trans (hb2.mono hB1.size)
  have hX1 : ArsAt w2 a1 o1 := ⟨HA1.out.below hb2, rows_sub (HRl.out.below HB2.out) HO1.out.sub⟩
  have hX2 : ArsAt w2 b1 o2 := ⟨hA2, rows_sub (HRk.out.below HB2.out) HO2.out.sub⟩
  have hy1 : ∀ x ∈ o1, x.row.length * 32 ≤ 140737488355328 := fun x hx => hby x (HO1.out.sub.subset hx)
  have hy2 : ∀ x ∈ o2, x.row.length * 32 ≤ 140737488355328 := fun x hx => hby2 x (HO2.out.sub.subset hx)
  have hn1 : o1.length ≤ 4000000 := by have := HO1.out.len; omega
  have hn3 : o2.length ≤ 4000000 := by have := HO2.out.len; omega
  have hd := fun wx (hb : Below w2.heap.size w2 wx) => Diff_any a1 b1 c1 d1 o1 o2 wx hn1 hn3 hy1 hy2 (hX1.below hb) (hX2.below hb)
  have hrd := fun wx (hb : Below w2.heap.size w2 wx) => RDiff_any a1 b1 c1 d1 o1 o2 wx hn1 hn3 (hX1.below hb) (hX2.below hb)
  have HC : Hid ((o1.length : Int) - (mns o1 o2).length + (mns o2 o1).length = o2.length) := cnt_diff (nums_nodup HO1.out) (nums_nodup HO2.out)
  have HY1 : Hid _ := hy1
  have HY2 : Hid _ := hy2
  clear hO2 hA2 hb2 hf2 hX1 hX2 HA1 HB1 hB1 hby hby2 hy1 hy2
  go_wp2_with fail
  refine (hd _ (Below.refl _ _)).mono ?_
  rintro e w3 ⟨pa, p, qa, q, rfl, hk1, hk2, hP, hQ, hb3⟩
  have HK1 : Hid (p.map kA = (mns o2 o1).map kA) := hk1
  have HK2 : Hid (q.map kA = (mns o1 o2).map kA) := hk2
  have hpl : p.length = (mns o2 o1).length := by simpa using congrArg List.length hk1
  have hql : q.length = (mns o1 o2).length := by simpa using congrArg List.length hk2
  have hrow : ∀ x ∈ o1, x.row.length ≤ 9223372036854775807 := fun x hx => by have := HY1.out x hx; omega
  have hrow2 : ∀ x ∈ o2, x.row.length ≤ 9223372036854775807 := fun x hx => by have := HY2.out x hx; omega
  have hkr : ∀ (z y : List Arv), z.map kA = y.map kA → (∀ x ∈ y, x.row.length ≤ 9223372036854775807) → ∀ x ∈ z, x.row.length ≤ 9223372036854775807 := fun z y h hy x hx => by
    have h1 : kA x ∈ y.map kA := by rw [← h]; exact List.mem_map_of_mem hx
    obtain ⟨x', hx', e⟩ := List.mem_map.1 h1
    have e2 : x'.row = x.row := congrArg (fun t => t.2.2) e
    rw [← e2]; exact hy x' hx'
  have HPR : Hid (∀ x ∈ p, x.row.length ≤ 9223372036854775807) := hkr p _ hk1 (fun x hx => hrow2 x (List.mem_filter.1 hx).1)
  have HQR : Hid (∀ x ∈ q, x.row.length ≤ 9223372036854775807) := hkr q _ hk2 (fun x hx => hrow x (List.mem_filter.1 hx).1)
  have HPL : Hid (p.length ≤ 4000000) := by have := mns_len o2 o1; show _ ≤ _; omega
  have HQL : Hid (q.length ≤ 4000000) := by have := mns_len o1 o2; show _ ≤ _; omega
  have HC2 : Hid ((o1.length : Int) - q.length + p.length = o2.length) := by show _ = _; rw [hpl, hql]; exact HC.out
  have HP : Hid (ArsAt w3 pa p) := hP
  have HQ : Hid (ArsAt w3 qa q) := hQ
  have HB3 : Hid (Below w2.heap.size w2 w3) := hb3
  clear hk1 hk2 hpl hql hrow hrow2 hkr hP hQ hb3 hd HC HO1 HO2 HY1 HY2 HRl HRk
  go_upto_region 4 with (fail)
  have hb34 : Below w3.heap.size w3 (w3.alloc (Obj.cells #[.slice pa p.length p.length, .slice qa q.length q.length] 49)) := (Below.refl _ _).alloc (Nat.le_refl _) _
  have y0 : World.cell? (w3.alloc (Obj.cells #[.slice pa p.length p.length, .slice qa q.length q.length] 49)) ⟨w3.heap.size, 0, none⟩ = some (.slice pa p.length p.length) := (World.cell?_alloc_mark w3 #[.slice pa p.length p.length, .slice qa q.length q.length] 49 (0, 0) 0).trans rfl
  have y1 : World.cell? (w3.alloc (Obj.cells #[.slice pa p.length p.length, .slice qa q.length q.length] 49)) ⟨w3.heap.size, 1, none⟩ = some (.slice qa q.length q.length) := (World.cell?_alloc_mark w3 #[.slice pa p.length p.length, .slice qa q.length q.length] 49 (0, 0) 1).trans rfl
  have HP4 : Hid (ArsAt (w3.alloc (Obj.cells #[.slice pa p.length p.length, .slice qa q.length q.length] 49)) pa p) := HP.out.below hb34
  have HQ4 : Hid (ArsAt (w3.alloc (Obj.cells #[.slice pa p.length p.length, .slice qa q.length q.length] 49)) qa q) := HQ.out.below hb34
  have HB4 : Hid (Below w.heap.size w (w3.alloc (Obj.cells #[.slice pa p.length p.length, .slice qa q.length q.length] 49))) := (HB2.out.trans (HB3.out.mono HB2.out.size)).trans (hb34.mono (Nat.le_trans HB2.out.size HB3.out.size))
  have hb24 : Below w2.heap.size w2 (w3.alloc (Obj.cells #[.slice pa p.length p.length, .slice qa q.length q.length] 49)) := HB3.out.trans (hb34.mono HB3.out.size)
  obtain ⟨D, hD⟩ : ∃ D, w3.heap.size = D := ⟨_, rfl⟩
  rw [hD] at y0 y1 ⊢
  clear hD hb34 HP HQ HB3 HB2
  generalize (w3.alloc (Obj.cells #[.slice pa p.length p.length, .slice qa q.length q.length] 49)) = w4 at *
  have hrd4 := hrd w4.drew hb24.drew
  clear hrd
  have HSD : Hid (∀ wx, Below w4.heap.size w4 wx → ∀ (ai ao : Option Addr) (ci co : Nat), ArsAt wx ai (mns o2 o1) → ArsAt wx ao (mns o1 o2) → Calls Tryd.prog 17 #[.agg #[.slice pa p.length p.length, .slice qa q.length q.length], .agg #[.slice ai (mns o2 o1).length ci, .slice ao (mns o1 o2).length co]] wx fun e w' => e = .returned (.bool true) ∧ Below wx.heap.size wx w') := fun wx hb ai ao ci co h1 h2 =>
    SameDelta_any pa qa ai ao p.length q.length ci co p.length q.length (mns o2 o1).length (mns o1 o2).length p q (mns o2 o1) (mns o1 o2) wx rfl rfl rfl rfl (by have := HPL.out; omega) (by have := HQL.out; omega) HK1.out HK2.out HPR.out HQR.out (HP4.out.below hb) (HQ4.out.below hb) h1 h2
  clear hb24 HK1 HK2 HPR HQR HP4 HQ4
  refine wp_region_held_drew (S := (fun wS => Bel w4.heap.size w4 wS)) (by kernel_rfl) ?_ (fun hHeld => ?_)
  · (try dsimp only); exact (Bel.refl _).drew
  refine wpAnyH_take (i := 0) (oi := { dst := some 23, op := Op.load 49 (Operand.tmp 7), type := 49, pos := "law.go:150", after := #[], guard := none }) (v := ?_) rfl (by kernel_rfl) (by kernel_rfl) (by kernel_rfl) (fun _ _ _ h => h) (Or.inl ⟨by kernel_rfl, ?_⟩) (by assumption) ?_
  rotate_left
  · intro wS hSw; (try dsimp only at hSw); have c0 := cell_below hSw.out y0; have c1 := cell_below hSw.out y1; go_simp; (try with_reducible rfl)
  try simp only [Act.put, List.setIfInBounds_toArray, List.set_cons_zero, List.set_cons_succ]
  refine wpAnyH_take (i := 1) (oi := { dst := some 24, op := Op.move (Operand.tmp 0), type := 31, pos := "law.go:150", after := #[], guard := none }) (v := ?_) rfl (by kernel_rfl) (by kernel_rfl) (by kernel_rfl) (fun _ _ _ h => h) (Or.inl ⟨by kernel_rfl, ?_⟩) (by assumption) ?_
  rotate_left
  · intro wS hSw; (try dsimp only at hSw); go_simp; (try with_reducible rfl)
  try simp only [Act.put, List.setIfInBounds_toArray, List.set_cons_zero, List.set_cons_succ]
  refine wpAnyH_take (i := 2) (oi := { dst := some 25, op := Op.move (Operand.tmp 1), type := 31, pos := "law.go:150", after := #[], guard := none }) (v := ?_) rfl (by kernel_rfl) (by kernel_rfl) (by kernel_rfl) (fun _ _ _ h => h) (Or.inl ⟨by kernel_rfl, ?_⟩) (by assumption) ?_
  rotate_left
  · intro wS hSw; (try dsimp only at hSw); go_simp; (try with_reducible rfl)
  try simp only [Act.put, List.setIfInBounds_toArray, List.set_cons_zero, List.set_cons_succ]
  refine wpAnyH_ready (rs := [3]) (by kernel_rfl) (by simp) ?_
  refine AllReadyH.cons (o := { dst := some 26, op := Op.call { callee := Callee.value (Operand.func 18), args := #[Operand.tmp 24, Operand.tmp 25], argTypes := #[31, 31] }, type := 49, pos := "law.go:150", after := #[{ on := 1, ground := Ground.data }, { on := 2, ground := Ground.data }], guard := none }) rfl (fun K hK => ?_) AllReadyH.nil
  go_simp
  refine (hrd4).mono ?_
  rintro e w5 ⟨ai, ci, ao, co, rfl, hRI, hRO, hb5⟩
  have hS5 : Below w4.heap.size w4 w5 := (Below.refl w4.heap.size w4).drew.trans hb5
  have hsd := HSD.out w5 hS5 ai ao ci co hRI hRO
  (try dsimp only)
  refine hK.out _ _ ?_ (fun hH3 => ?_)
  · (try dsimp only); exact Bel.of hS5
  clear hK K
  try simp only [Act.put, List.setIfInBounds_toArray, List.set_cons_zero, List.set_cons_succ]
  refine wpAnyH_ready (rs := [4]) (by kernel_rfl) (by simp) ?_
  refine AllReadyH.cons (o := { dst := some 27, op := Op.call { callee := Callee.value (Operand.func 17), args := #[Operand.tmp 23, Operand.tmp 26], argTypes := #[49, 49] }, type := 4, pos := "law.go:150", after := #[{ on := 0, ground := Ground.data }, { on := 3, ground := Ground.data }, { on := 3, ground := Ground.chain }], guard := none }) rfl (fun K hK => ?_) AllReadyH.nil
  go_simp
  refine hsd.mono ?_
  rintro e w6 ⟨rfl, hb6⟩
  (try dsimp only)
  refine hK.out _ _ ?_ (fun hH4 => ?_)
  · (try dsimp only); exact Bel.of (hS5.trans (hb6.mono hS5.size))
  clear hK K
  try simp only [Act.put, List.setIfInBounds_toArray, List.set_cons_zero, List.set_cons_succ]
  refine wpAnyH_take (i := 5) (oi := { dst := some 28, op := Op.unOp UnOp.not 4 (Operand.tmp 27), type := 4, pos := "law.go:150", after := #[{ on := 4, ground := Ground.data }], guard := none }) (v := ?_) rfl (by kernel_rfl) (by kernel_rfl) (by kernel_rfl) (fun _ _ _ h => h) (Or.inl ⟨by kernel_rfl, ?_⟩) (by assumption) ?_
  rotate_left
  · intro wS hSw; (try dsimp only at hSw); go_simp; (try with_reducible rfl)
  try simp only [Act.put, List.setIfInBounds_toArray, List.set_cons_zero, List.set_cons_succ]
  refine wpAnyH_done (by kernel_rfl) ?_ _
  have hB6 : Below w4.heap.size w4 w6 := hS5.trans (hb6.mono hS5.size)
  have z0 := cell_below hB6 y0
  have z1 := cell_below hB6 y1
  have HB6 : Hid (Below w.heap.size w w6) := HB4.out.trans (hB6.mono HB4.out.size)
  have hcc := HC2.out
  have hpl := HPL.out
  have hql := HQL.out
  have hnil := fun wx => rRowQ_nil wx
  have haw := fun wx => awake_any wx
  clear hB6 hb6 hS5 hsd hb5 hRI hRO y0 y1 HB4 HC2 HPL HQL HSD hrd4
  go_wp2_with fail
  refine (hnil _).mono ?_
  rintro e w7 ⟨rfl, q7, rfl⟩
  go_wp2_with fail
  refine (haw _).mono ?_
  rintro e w8 ⟨rfl, hb8⟩
  have HB8 : Hid (Below w.heap.size w w8) := HB6.out.trans (((dqb w6 q7).trans hb8).mono HB6.out.size)
  clear hb8
  go_wp2
  go_ret
  exact ⟨rfl, HB8.out⟩
end Go.Proofs.YtfjpdflilmcnhaaDoor
