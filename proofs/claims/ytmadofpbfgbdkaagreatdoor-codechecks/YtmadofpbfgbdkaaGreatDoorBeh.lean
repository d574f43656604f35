/- The height behind an instruction (behind). -/
import Derived.Test.YtmadofpbfgbdkaaGreatDoorCom
namespace Go.Proofs.YtmadofpbfgbdkaaGreatDoor
open Go.ChangeShapes Go.WideShapes Go.ChangeAt Go.RowKit
set_option linter.unusedSimpArgs false
set_option maxRecDepth 20000
set_option maxHeartbeats 4000000

/-- What behind answers. -/
def bhP (q : Oq) (i n f a h : Int) : Int × Bool := if mayP q i n f a = true then (h - needP q + leftP q, decide (0 ≤ h - needP q) && decide (h - needP q + leftP q ≤ 1024)) else (0, false)
theorem need_le {q : Oq} {p n f a : Int} (h : mayP q p n f a = true) : 0 ≤ needP q ∧ needP q ≤ 1024 := by
  unfold needP
  split
  · omega
  · split
    · omega
    · split
      · rename_i h1 h2 h3
        unfold mayP at h
        simp [h3] at h
        omega
      · omega
theorem left_le (q : Oq) : 0 ≤ leftP q ∧ leftP q ≤ 1 := by unfold leftP; split <;> omega
theorem behind_any (r : List Oq) (oa : Option Addr) (ocap : Nat) (f a : Int) (base g cap : Nat) (H : List Int) (hn : Nat) (hhn : H.length = hn) (i : Nat) (q : Oq) (hq : r[i]? = some q) (h : Int) (hh : H[i]? = some h) (hb1 : -1 ≤ h) (hb2 : h ≤ 1024) (w : World) (hr : OpsAt w oa r) (hw : RowI w base g cap H) :
    Calls Tryz.prog 16 #[.agg #[.slice oa r.length ocap, .int .i64 f, .int .i64 a, .slice (some ⟨g, 0, none⟩) hn cap], .int .i64 i] w fun e w' => e = .returned (.tuple #[.int .i64 (bhP q i r.length f a h).1, .bool (bhP q i r.length f a h).2]) ∧ Below w.heap.size w w' := by
  have hlt : i < r.length := (List.getElem?_eq_some_iff.1 hq).1
  have hltH : i < hn := by have := (List.getElem?_eq_some_iff.1 hh).1; omega
  have HQ : Hid (r[i]? = some q) := hq
  have HH : Hid (H[i]? = some h) := hh
  have HR : Hid (OpsAt w oa r) := hr
  have HW : Hid (RowI w base g cap H) := hw
  have hnl := @need_le q i r.length f a
  have hll := left_le q
  have HP0 : Hid (∀ b, mayP q i r.length f a = b → bhP q i r.length f a h = if b = true then (h - needP q + leftP q, decide (0 ≤ h - needP q) && decide (h - needP q + leftP q ≤ 1024)) else (0, false)) := fun b hb => by unfold bhP; rw [hb]
  generalize bhP q i r.length f a h = res at HP0 ⊢
  obtain ⟨nn, hnn⟩ : ∃ nn, r.length = nn := ⟨_, rfl⟩
  have HNN : Hid (r.length = nn) := hnn
  rw [hnn] at hlt hnl HP0 ⊢
  clear hq hh hr hw hnn hhn
  go_enter Tryz.func16, Tryz.ntmps16
  go_upto_region 1 with (fail)
  have hB : Below w.heap.size w (w.alloc (Obj.cells #[.slice oa nn ocap, .int .i64 f, .int .i64 a, .slice (some ⟨g, 0, none⟩) hn cap] 47)) := (Below.refl _ _).alloc (Nat.le_refl _) _
  have z0 : (w.alloc (Obj.cells #[.slice oa nn ocap, .int .i64 f, .int .i64 a, .slice (some ⟨g, 0, none⟩) hn cap] 47)).cell? ⟨w.heap.size, 0, none⟩ = some (.slice oa nn ocap) := (World.cell?_alloc_mark w #[.slice oa nn ocap, .int .i64 f, .int .i64 a, .slice (some ⟨g, 0, none⟩) hn cap] 47 (0, 0) 0).trans rfl
  have z1 : (w.alloc (Obj.cells #[.slice oa nn ocap, .int .i64 f, .int .i64 a, .slice (some ⟨g, 0, none⟩) hn cap] 47)).cell? ⟨w.heap.size, 1, none⟩ = some (.int .i64 f) := (World.cell?_alloc_mark w #[.slice oa nn ocap, .int .i64 f, .int .i64 a, .slice (some ⟨g, 0, none⟩) hn cap] 47 (0, 0) 1).trans rfl
  have z2 : (w.alloc (Obj.cells #[.slice oa nn ocap, .int .i64 f, .int .i64 a, .slice (some ⟨g, 0, none⟩) hn cap] 47)).cell? ⟨w.heap.size, 2, none⟩ = some (.int .i64 a) := (World.cell?_alloc_mark w #[.slice oa nn ocap, .int .i64 f, .int .i64 a, .slice (some ⟨g, 0, none⟩) hn cap] 47 (0, 0) 2).trans rfl
  have z3 : (w.alloc (Obj.cells #[.slice oa nn ocap, .int .i64 f, .int .i64 a, .slice (some ⟨g, 0, none⟩) hn cap] 47)).cell? ⟨w.heap.size, 3, none⟩ = some (.slice (some ⟨g, 0, none⟩) hn cap) := (World.cell?_alloc_mark w #[.slice oa nn ocap, .int .i64 f, .int .i64 a, .slice (some ⟨g, 0, none⟩) hn cap] 47 (0, 0) 3).trans rfl
  have HR1 : Hid (OpsAt (w.alloc (Obj.cells #[.slice oa nn ocap, .int .i64 f, .int .i64 a, .slice (some ⟨g, 0, none⟩) hn cap] 47)) oa r) := HR.out.below hB
  have HW1 : Hid (RowI (w.alloc (Obj.cells #[.slice oa nn ocap, .int .i64 f, .int .i64 a, .slice (some ⟨g, 0, none⟩) hn cap] 47)) base g cap H) := HW.out.below hB
  have HB : Hid (Below w.heap.size w (w.alloc (Obj.cells #[.slice oa nn ocap, .int .i64 f, .int .i64 a, .slice (some ⟨g, 0, none⟩) hn cap] 47))) := hB
  obtain ⟨bx, hbx⟩ : ∃ bx, w.heap.size = bx := ⟨_, rfl⟩
  rw [hbx] at z0 z1 z2 z3
  rw [hbx]
  clear hB hbx HR HW
  generalize (w.alloc (Obj.cells #[.slice oa nn ocap, .int .i64 f, .int .i64 a, .slice (some ⟨g, 0, none⟩) hn cap] 47)) = w1 at *
  have hc := names_any r oa ocap f a (some ⟨g, 0, none⟩) hn cap i q HQ.out w1 HR1.out
  rw [HNN.out] at hc
  generalize hmt : mayP q i nn f a = bm at hc
  have hnm : bm = true → 0 ≤ needP q ∧ needP q ≤ 1024 := fun hb => hnl (hmt.trans hb)
  have HP : Hid _ := HP0.out bm hmt
  clear hmt hnl HP0
  go_wp2_with fail
  refine hc.mono ?_
  rintro e w2 ⟨rfl, hb2'⟩
  clear hc
  cases bm with
  | false =>
    have HB2 := HB.out.trans (hb2'.mono HB.out.size)
    have HE : Hid (Ending.returned (.tuple #[.int .i64 0, .bool false]) = Ending.returned (.tuple #[.int .i64 res.1, .bool res.2])) := by show _ = _; rw [HP.out]; rfl
    clear hb2' HP
    go_wp2
    refine bodyPost_ret (v := .tuple #[.int .i64 0, .bool false]) (by simp [results, Tryz.results16, go_sem]) rfl ⟨HE.out, HB2⟩
  | true =>
    obtain ⟨n1, n2⟩ := hnm rfl
    have HB2 : Hid (Below w.heap.size w w2) := HB.out.trans (hb2'.mono HB.out.size)
    replace z0 := cell_bel hb2' z0
    replace z1 := cell_bel hb2' z1
    replace z2 := cell_bel hb2' z2
    replace z3 := cell_bel hb2' z3
    have HW2 : Hid (RowI w2 base g cap H) := HW1.out.below hb2'
    rcases HR1.out.below hb2' with h0 | ⟨b, off, rfl, hcs⟩
    · exfalso; have := HNN.out; rw [h0] at this; simp at this; omega
    obtain ⟨c0, c1, c2, c3, c4, c5⟩ := hcs i q HQ.out
    have he := effect_any q w2
    clear hcs hb2' hnm HR1 HW1 HB
    obtain ⟨⟨k, n, t⟩, vk, vn, vt⟩ := q
    unfold oqV at he
    dsimp only at he c0 c1 c2 c3 c4 c5
    generalize needP ((k, n, t), vk, vn, vt) = ne at he HP n1 n2
    generalize leftP ((k, n, t), vk, vn, vt) = le at he HP hll
    go_wp2_with fail
    refine he.mono ?_
    rintro e w3 ⟨rfl, hb3⟩
    clear he c0 c1 c2 c3 c4 c5
    have HB3 : Hid (Below w.heap.size w w3) := HB2.out.trans (hb3.mono HB2.out.size)
    replace z0 := cell_bel hb3 z0
    replace z3 := cell_bel hb3 z3
    have hx := (HW2.out.below hb3).get HH.out
    clear hb3 HB2 HW2 z1 z2
    have HE : Hid (Ending.returned (.tuple #[.int .i64 (h - ne + le), .bool (decide (0 ≤ h - ne) && decide (h - ne + le ≤ 1024))]) = Ending.returned (.tuple #[.int .i64 res.1, .bool res.2])) := by show _ = _; rw [HP.out]; rfl
    clear HP
    obtain ⟨l1, l2⟩ := hll
    by_cases q1 : 0 ≤ h - ne
    · by_cases q2 : h - ne + le ≤ 1024
      · go_wp2
        refine bodyPost_ret (v := .tuple #[.int .i64 (h - ne + le), .bool true]) (by first | (simp [results, Tryz.results16, go_sem, q1, q2]; done) | (simp [results, Tryz.results16, go_sem]; omega)) rfl ⟨by rw [← HE.out, decide_eq_true q1, decide_eq_true q2]; rfl, HB3.out⟩
      · go_wp2
        refine bodyPost_ret (v := .tuple #[.int .i64 (h - ne + le), .bool false]) (by first | (simp [results, Tryz.results16, go_sem, q1, q2]; done) | (simp [results, Tryz.results16, go_sem]; omega)) rfl ⟨by rw [← HE.out, decide_eq_true q1, decide_eq_false (by omega : ¬ h - ne + le ≤ 1024)]; rfl, HB3.out⟩
    · go_wp2
      refine bodyPost_ret (v := .tuple #[.int .i64 (h - ne + le), .bool false]) (by first | (simp [results, Tryz.results16, go_sem, q1]; done) | (simp [results, Tryz.results16, go_sem]; omega)) rfl ⟨by rw [← HE.out, decide_eq_false (by omega : ¬ 0 ≤ h - ne)]; rfl, HB3.out⟩
end Go.Proofs.YtmadofpbfgbdkaaGreatDoor
