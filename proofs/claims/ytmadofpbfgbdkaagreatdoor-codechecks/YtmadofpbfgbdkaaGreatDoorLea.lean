/- Where an instruction leads to (leads). -/
import Derived.Test.YtmadofpbfgbdkaaGreatDoorBeh
namespace Go.Proofs.YtmadofpbfgbdkaaGreatDoor
open Go.ChangeShapes Go.WideShapes Go.ChangeAt Go.RowKit
set_option linter.unusedSimpArgs false
set_option maxRecDepth 20000
set_option maxHeartbeats 4000000

def ldP (q : Oq) (i : Nat) (h : Int) (H : List Int) : Option (List Int) :=
  match (if q.1.1 = 7 then some H else cmP H (i + 1) h) with
  | none => none
  | some H1 => if q.1.1 = 7 ∨ q.1.1 = 8 then cmP H1 q.1.2.1.toNat h else some H1
theorem ld8 {q : Oq} {i : Nat} {h : Int} {H : List Int} (e : q.1.1 = 8) : ldP q i h H = match cmP H (i + 1) h with
  | none => none
  | some H1 => cmP H1 q.1.2.1.toNat h := by
  unfold ldP
  simp [e]
theorem ld7 {q : Oq} {i : Nat} {h : Int} {H : List Int} (e : q.1.1 = 7) : ldP q i h H = cmP H q.1.2.1.toNat h := by
  unfold ldP
  simp [e]
theorem ldo {q : Oq} {i : Nat} {h : Int} {H : List Int} (e7 : ¬ q.1.1 = 7) (e8 : ¬ q.1.1 = 8) : ldP q i h H = cmP H (i + 1) h := by
  unfold ldP
  simp only [e7, e8, if_false, or_self]
  cases cmP H (i + 1) h <;> rfl
def LeadPost (base g cap : Nat) (r : Option (List Int)) (w : World) (e : Ending) (w' : World) : Prop :=
  (match r with
    | none => e = .returned (.bool false)
    | some H1 => e = .returned (.bool true) ∧ RowI w' base g cap H1) ∧ Gr g w w'
theorem LeadPost.no {base g cap : Nat} {r : Option (List Int)} {w w' : World} (hr : r = none) (hb : Gr g w w') : LeadPost base g cap r w (.returned (.bool false)) w' := by subst hr; exact ⟨rfl, hb⟩
theorem LeadPost.yes {base g cap : Nat} {r : Option (List Int)} {H : List Int} {w w' : World} (hr : r = some H) (hR : RowI w' base g cap H) (hb : Gr g w w') : LeadPost base g cap r w (.returned (.bool true)) w' := by subst hr; exact ⟨⟨rfl, hR⟩, hb⟩
theorem cm_len {H H1 : List Int} {t : Nat} {g : Int} (h : cmP H t g = some H1) : H1.length = H.length := (cm_mem h).1
theorem leads_any (r : List Oq) (oa : Option Addr) (ocap : Nat) (f a : Int) (base g cap : Nat) (H : List Int) (hn : Nat) (hhn : H.length = hn) (hh : hn = r.length + 1) (hl : r.length ≤ 4611686018427387000) (i : Nat) (q : Oq) (hq : r[i]? = some q) (hm : mayP q i r.length f a = true) (h : Int) (w : World) (hr : OpsAt w oa r) (hw : RowI w base g cap H) :
    Calls Tryz.prog 17 #[.agg #[.slice oa r.length ocap, .int .i64 f, .int .i64 a, .slice (some ⟨g, 0, none⟩) hn cap], .int .i64 i, .int .i64 h] w (LeadPost base g cap (ldP q i h H) w) := by
  have hlt : i < r.length := (List.getElem?_eq_some_iff.1 hq).1
  have hju : q.1.1 = 7 ∨ q.1.1 = 8 → ∃ t : Nat, q.1.2.1 = (t : Int) ∧ t ≤ r.length := fun hk => by
    have hz : ((i : Int) < q.1.2.1 ∧ q.1.2.1 ≤ r.length) := by
      unfold mayP at hm
      rcases hk with hk | hk <;> simp [hk] at hm <;> exact hm
    exact ⟨q.1.2.1.toNat, by omega, by omega⟩
  rcases hr with h0 | ⟨b, off, rfl, hcs⟩
  · rw [h0] at hlt; simp at hlt
  obtain ⟨c0, c1, c2, c3, c4, c5⟩ := hcs i q hq
  have HW : Hid (RowI w base g cap H) := hw
  have HHN : Hid (H.length = hn) := hhn
  have H8 : Hid _ := @ld8 q i h H
  have H7 : Hid _ := @ld7 q i h H
  have HO : Hid _ := @ldo q i h H
  obtain ⟨nn, hnn⟩ : ∃ nn, r.length = nn := ⟨_, rfl⟩
  rw [hnn] at hlt hju hh hl ⊢
  generalize ldP q i h H = res at H8 H7 HO ⊢
  clear hq hw hnn hcs hhn hm
  have hnb : hn ≤ 4611686018427387904 := by omega
  have hib : i + 1 < hn := by omega
  have HHH : Hid (hn = nn + 1) := hh
  clear hh hl
  obtain ⟨⟨k, n, t⟩, vk, vn, vt⟩ := q
  dsimp only at c0 c1 c2 c3 c4 c5 hju H8 H7 HO
  go_enter Tryz.func17, Tryz.ntmps17
  go_upto_region 1 with (fail)
  have hB : Below w.heap.size w (w.alloc (Obj.cells #[.slice (some ⟨b, off, none⟩) nn ocap, .int .i64 f, .int .i64 a, .slice (some ⟨g, 0, none⟩) hn cap] 47)) := (Below.refl _ _).alloc (Nat.le_refl _) _
  have z0 : (w.alloc (Obj.cells #[.slice (some ⟨b, off, none⟩) nn ocap, .int .i64 f, .int .i64 a, .slice (some ⟨g, 0, none⟩) hn cap] 47)).cell? ⟨w.heap.size, 0, none⟩ = some (.slice (some ⟨b, off, none⟩) nn ocap) := (World.cell?_alloc_mark w #[.slice (some ⟨b, off, none⟩) nn ocap, .int .i64 f, .int .i64 a, .slice (some ⟨g, 0, none⟩) hn cap] 47 (0, 0) 0).trans rfl
  have z1 : (w.alloc (Obj.cells #[.slice (some ⟨b, off, none⟩) nn ocap, .int .i64 f, .int .i64 a, .slice (some ⟨g, 0, none⟩) hn cap] 47)).cell? ⟨w.heap.size, 1, none⟩ = some (.int .i64 f) := (World.cell?_alloc_mark w #[.slice (some ⟨b, off, none⟩) nn ocap, .int .i64 f, .int .i64 a, .slice (some ⟨g, 0, none⟩) hn cap] 47 (0, 0) 1).trans rfl
  have z2 : (w.alloc (Obj.cells #[.slice (some ⟨b, off, none⟩) nn ocap, .int .i64 f, .int .i64 a, .slice (some ⟨g, 0, none⟩) hn cap] 47)).cell? ⟨w.heap.size, 2, none⟩ = some (.int .i64 a) := (World.cell?_alloc_mark w #[.slice (some ⟨b, off, none⟩) nn ocap, .int .i64 f, .int .i64 a, .slice (some ⟨g, 0, none⟩) hn cap] 47 (0, 0) 2).trans rfl
  have z3 : (w.alloc (Obj.cells #[.slice (some ⟨b, off, none⟩) nn ocap, .int .i64 f, .int .i64 a, .slice (some ⟨g, 0, none⟩) hn cap] 47)).cell? ⟨w.heap.size, 3, none⟩ = some (.slice (some ⟨g, 0, none⟩) hn cap) := (World.cell?_alloc_mark w #[.slice (some ⟨b, off, none⟩) nn ocap, .int .i64 f, .int .i64 a, .slice (some ⟨g, 0, none⟩) hn cap] 47 (0, 0) 3).trans rfl
  have HW1 : Hid (RowI (w.alloc (Obj.cells #[.slice (some ⟨b, off, none⟩) nn ocap, .int .i64 f, .int .i64 a, .slice (some ⟨g, 0, none⟩) hn cap] 47)) base g cap H) := HW.out.below hB
  have HB : Hid (Gr g w (w.alloc (Obj.cells #[.slice (some ⟨b, off, none⟩) nn ocap, .int .i64 f, .int .i64 a, .slice (some ⟨g, 0, none⟩) hn cap] 47))) := Gr.of hB
  replace c0 := cell_bel hB c0
  replace c1 := cell_bel hB c1
  replace c2 := cell_bel hB c2
  replace c3 := cell_bel hB c3
  replace c4 := cell_bel hB c4
  replace c5 := cell_bel hB c5
  have hgx : g ≠ w.heap.size := by have := HW.out.lt; omega
  obtain ⟨bx, hbx⟩ : ∃ bx, w.heap.size = bx := ⟨_, rfl⟩
  rw [hbx] at z0 z1 z2 z3 hgx
  rw [hbx]
  clear hB hbx HW
  generalize (w.alloc (Obj.cells #[.slice (some ⟨b, off, none⟩) nn ocap, .int .i64 f, .int .i64 a, .slice (some ⟨g, 0, none⟩) hn cap] 47)) = w1 at *
  go_upto_region 2 with (fail)
  have hB2 : Below w1.heap.size w1 (w1.alloc (Obj.cells #[.int .i64 k, .int .i64 n, .string t, .int .i64 vk, .int .i64 vn, .string vt] 35)) := (Below.refl _ _).alloc (Nat.le_refl _) _
  have HB2 : Hid (Gr g w (w1.alloc (Obj.cells #[.int .i64 k, .int .i64 n, .string t, .int .i64 vk, .int .i64 vn, .string vt] 35))) := HB.out.trans (Gr.of hB2)
  have HW2 : Hid (RowI (w1.alloc (Obj.cells #[.int .i64 k, .int .i64 n, .string t, .int .i64 vk, .int .i64 vn, .string vt] 35)) base g cap H) := HW1.out.below hB2
  replace z0 := cell_bel hB2 z0
  replace z1 := cell_bel hB2 z1
  replace z2 := cell_bel hB2 z2
  replace z3 := cell_bel hB2 z3
  have y0 : (w1.alloc (Obj.cells #[.int .i64 k, .int .i64 n, .string t, .int .i64 vk, .int .i64 vn, .string vt] 35)).cell? ⟨w1.heap.size, 0, none⟩ = some (.int .i64 k) := (World.cell?_alloc_mark w1 #[.int .i64 k, .int .i64 n, .string t, .int .i64 vk, .int .i64 vn, .string vt] 35 (0, 0) 0).trans rfl
  have y1 : (w1.alloc (Obj.cells #[.int .i64 k, .int .i64 n, .string t, .int .i64 vk, .int .i64 vn, .string vt] 35)).cell? ⟨w1.heap.size, 1, none⟩ = some (.int .i64 n) := (World.cell?_alloc_mark w1 #[.int .i64 k, .int .i64 n, .string t, .int .i64 vk, .int .i64 vn, .string vt] 35 (0, 0) 1).trans rfl
  have hgy : g ≠ w1.heap.size := by have := HW1.out.lt; omega
  obtain ⟨by_, hby⟩ : ∃ bx, w1.heap.size = bx := ⟨_, rfl⟩
  rw [hby] at y0 y1 hgy
  rw [hby]
  clear hby hB2 HB HW1 c0 c1 c2 c3 c4 c5
  generalize (w1.alloc (Obj.cells #[.int .i64 k, .int .i64 n, .string t, .int .i64 vk, .int .i64 vn, .string vt] 35)) = w2 at *
  by_cases h8 : k = 8
  · subst h8
    obtain ⟨tt, rfl, htt⟩ := hju (Or.inr rfl)
    have hres := H8.out rfl
    rw [Int.toNat_natCast] at hres
    have hc := come_any (.slice (some ⟨b, off, none⟩) nn ocap) f a base g cap H hn HHN.out (i + 1) h (by rw [HHN.out]; exact hib) (by rw [HHN.out]; exact hnb) w2 HW2.out
    generalize hcm : cmP H (i + 1) h = r1 at hc hres
    have HCM : Hid _ := hcm
    have HRES : Hid _ := hres
    clear hres hju hcm
    go_wp2_with fail
    refine hc.mono ?_
    intro e w3 hp
    clear hc
    obtain ⟨hp, hb3⟩ := hp
    have HB3 : Hid (Gr g w w3) := HB2.out.trans hb3
    cases r1 with
    | none =>
      obtain ⟨rfl, hR⟩ := hp
      have HP : Hid (LeadPost base g cap res w (.returned (.bool false)) w3) := LeadPost.no HRES.out HB3.out
      clear hR hb3
      go_wp2
      refine bodyPost_ret (v := .bool false) (by simp [results, Tryz.results17, go_sem]) rfl HP.out
    | some H1 =>
      obtain ⟨rfl, hR⟩ := hp
      replace z0 := hb3.cell (Ne.symm hgx) z0
      replace z1 := hb3.cell (Ne.symm hgx) z1
      replace z2 := hb3.cell (Ne.symm hgx) z2
      replace z3 := hb3.cell (Ne.symm hgx) z3
      replace y0 := hb3.cell (Ne.symm hgy) y0
      replace y1 := hb3.cell (Ne.symm hgy) y1
      have HR3 : Hid (RowI w3 base g cap H1) := hR
      have hl1 := cm_len HCM.out
      have HL1 : Hid (H1.length = hn) := hl1.trans HHN.out
      have hc := come_any (.slice (some ⟨b, off, none⟩) nn ocap) f a base g cap H1 hn HL1.out tt h (by rw [HL1.out, HHH.out]; omega) (by rw [HL1.out]; exact hnb) w3 HR3.out
      have hres := HRES.out
      dsimp only at hres
      generalize hcm : cmP H1 tt h = r2 at hc hres
      have HRES2 : Hid (res = r2) := hres
      clear hR hb3 hl1 hres hcm HRES HB2 HW2
      go_wp2_with fail
      refine hc.mono ?_
      intro e w4 hp
      clear hc
      obtain ⟨hp, hb4⟩ := hp
      have HB4 : Hid (Gr g w w4) := HB3.out.trans hb4
      cases r2 with
      | none =>
        obtain ⟨rfl, hR⟩ := hp
        have HP : Hid (LeadPost base g cap res w (.returned (.bool false)) w4) := LeadPost.no HRES2.out HB4.out
        clear hR hb4
        go_wp2
        refine bodyPost_ret (v := .bool false) (by simp [results, Tryz.results17, go_sem]) rfl HP.out
      | some H2 =>
        obtain ⟨rfl, hR⟩ := hp
        have HP : Hid (LeadPost base g cap res w (.returned (.bool true)) w4) := LeadPost.yes HRES2.out hR HB4.out
        clear hR hb4
        go_wp2
        refine bodyPost_ret (v := .bool true) (by simp [results, Tryz.results17, go_sem]) rfl HP.out
  by_cases h7 : k = 7
  · subst h7
    obtain ⟨tt, rfl, htt⟩ := hju (Or.inl rfl)
    have hres := H7.out rfl
    rw [Int.toNat_natCast] at hres
    have hc := come_any (.slice (some ⟨b, off, none⟩) nn ocap) f a base g cap H hn HHN.out tt h (by rw [HHN.out, HHH.out]; omega) (by rw [HHN.out]; exact hnb) w2 HW2.out
    generalize hcm : cmP H tt h = r1 at hc
    rw [hcm] at hres
    clear hcm
    have HRES : Hid (res = r1) := hres
    clear hres hju
    go_wp2_with fail
    refine hc.mono ?_
    intro e w3 hp
    clear hc
    obtain ⟨hp, hb3⟩ := hp
    have HB3 : Hid (Gr g w w3) := HB2.out.trans hb3
    cases r1 with
    | none =>
      obtain ⟨rfl, hR⟩ := hp
      have HP : Hid (LeadPost base g cap res w (.returned (.bool false)) w3) := LeadPost.no HRES.out HB3.out
      clear hR hb3
      go_wp2
      refine bodyPost_ret (v := .bool false) (by simp [results, Tryz.results17, go_sem]) rfl HP.out
    | some H1 =>
      obtain ⟨rfl, hR⟩ := hp
      have HP : Hid (LeadPost base g cap res w (.returned (.bool true)) w3) := LeadPost.yes HRES.out hR HB3.out
      clear hR hb3
      go_wp2
      refine bodyPost_ret (v := .bool true) (by simp [results, Tryz.results17, go_sem]) rfl HP.out
  have b8 : (k == 8) = false := by simpa using h8
  have b7 : (k == 7) = false := by simpa using h7
  have hres := HO.out h7 h8
  have hc := come_any (.slice (some ⟨b, off, none⟩) nn ocap) f a base g cap H hn HHN.out (i + 1) h (by rw [HHN.out]; exact hib) (by rw [HHN.out]; exact hnb) w2 HW2.out
  generalize hcm : cmP H (i + 1) h = r1 at hc
  rw [hcm] at hres
  clear hcm
  have HRES : Hid (res = r1) := hres
  clear hres hju
  go_wp2_with fail
  refine hc.mono ?_
  intro e w3 hp
  clear hc
  obtain ⟨hp, hb3⟩ := hp
  have HB3 : Hid (Gr g w w3) := HB2.out.trans hb3
  cases r1 with
  | none =>
    obtain ⟨rfl, hR⟩ := hp
    have HP : Hid (LeadPost base g cap res w (.returned (.bool false)) w3) := LeadPost.no HRES.out HB3.out
    clear hR hb3
    go_wp2
    refine bodyPost_ret (v := .bool false) (by simp [results, Tryz.results17, go_sem]) rfl HP.out
  | some H1 =>
    obtain ⟨rfl, hR⟩ := hp
    have HP : Hid (LeadPost base g cap res w (.returned (.bool true)) w3) := LeadPost.yes HRES.out hR HB3.out
    clear hR hb3
    go_wp2
    refine bodyPost_ret (v := .bool true) (by simp [results, Tryz.results17, go_sem]) rfl HP.out
end Go.Proofs.YtmadofpbfgbdkaaGreatDoor
