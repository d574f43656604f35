/- The fields of a schema, on both sides. -/
import Derived.Test.YtemfgdhcmeimoaaGreatDoorRrs
namespace Go.Proofs.YtemfgdhcmeimoaaGreatDoor
open Go.ChangeShapes Go.WideShapes Go.ChangeAt Go.RowKit
set_option linter.unusedSimpArgs false
set_option maxRecDepth 20000
set_option maxHeartbeats 4000000

def fdC (t : Fd) : List Value := [.string t.1, .string t.2.1, .int .i64 t.2.2]
def rfC (r : List Fd) : List Value := r.flatMap fdC
theorem rfC_snoc (r : List Fd) (t : Fd) : rfC (r ++ [t]) = rfC r ++ fdC t := by simp [rfC]
theorem rfC_len : ∀ r : List Fd, (rfC r).length = r.length * 3
  | [] => rfl
  | t :: r => by
    have := rfC_len r
    simp only [rfC, List.flatMap_cons, List.length_append] at this ⊢
    rw [this]; simp [fdC]; omega
theorem rfC_at : ∀ (r : List Fd) (i : Nat) (t : Fd), r[i]? = some t → (rfC r)[i * 3]? = some (.string t.1) ∧ (rfC r)[i * 3 + 1]? = some (.string t.2.1) ∧ (rfC r)[i * 3 + 2]? = some (.int .i64 t.2.2)
  | [], i, t, h => by simp at h
  | u :: r, 0, t, h => by
    simp only [List.getElem?_cons_zero, Option.some.injEq] at h
    subst h
    exact ⟨rfl, rfl, rfl⟩
  | u :: r, i + 1, t, h => by
    simp only [List.getElem?_cons_succ] at h
    obtain ⟨h0, h1, h2⟩ := rfC_at r i t h
    have e : rfC (u :: r) = fdC u ++ rfC r := rfl
    have el : (fdC u).length = 3 := rfl
    rw [e]
    refine ⟨?_, ?_, ?_⟩
    · rw [List.getElem?_append_right (by rw [el]; omega), el, show (i + 1) * 3 - 3 = i * 3 by omega]; exact h0
    · rw [List.getElem?_append_right (by rw [el]; omega), el, show (i + 1) * 3 + 1 - 3 = i * 3 + 1 by omega]; exact h1
    · rw [List.getElem?_append_right (by rw [el]; omega), el, show (i + 1) * 3 + 2 - 3 = i * 3 + 2 by omega]; exact h2
theorem rfC_one (r : List Fd) : ∀ u ∈ rfC r, u.oneCell' = true := by
  intro u hu
  unfold rfC at hu
  rw [List.mem_flatMap] at hu
  obtain ⟨t, _, hu⟩ := hu
  simp only [fdC, List.mem_cons, List.not_mem_nil, or_false] at hu
  rcases hu with rfl | rfl | rfl <;> rfl
theorem fs_of_owns {w : World} {base : Nat} {vv : Value} {r : List Fd} (h : w.ownsRow base 28 3 vv r.length (rfC r)) : ∃ a cap, vv = .slice a r.length cap ∧ FsAt w a r := by
  have h' := h
  obtain ⟨hlen, ⟨rfl, h0⟩ | ⟨g, cap, cur, rfl, hbg, hg, hcap, hcm, hcs, htake⟩⟩ := h
  · exact ⟨none, 0, by rw [h0], Or.inl (List.length_eq_zero_iff.1 h0)⟩
  refine ⟨_, cap, rfl, Or.inr ⟨g, 0, rfl, fun i t hi => ?_⟩⟩
  have hc := h'.cells (g := g) rfl
  obtain ⟨a, b, c⟩ := rfC_at r i t hi
  have ea := hc _ _ a
  have eb := hc _ _ b
  have ec := hc _ _ c
  rw [add_plain] at ea eb ec
  rw [Nat.zero_add] at ea eb ec ⊢
  exact ⟨ea, eb, ec⟩
theorem fdCells_new (w : World) (t : Fd) : ∀ j u, (rfC [t])[j]? = some u → (w.alloc (.cells #[.string t.1, .string t.2.1, .int .i64 t.2.2] 28)).cell? ((⟨w.heap.size, 0, none⟩ : Addr).add j) = some u := by
  intro j u hj
  rw [add_plain, Nat.zero_add]
  refine (World.cell?_alloc_mark w #[.string t.1, .string t.2.1, .int .i64 t.2.2] 28 (0, 0) j).trans ?_
  rw [← Array.getElem?_toList]
  exact hj
theorem owns_below {w w' : World} {base e size n : Nat} {v : Value} {xs : List Value} (h : w.ownsRow base e size v n xs) (hb : Below w.heap.size w w') : w'.ownsRow base e size v n xs :=
  h.kept (row := none) ⟨hb.os, hb.tape, hb.output, hb.size, fun k hk _ => hb.block k hk⟩ (by cases v.ownBlock <;> simp)
theorem info28 : (Tryz.prog.info? 28).map (fun i => (i.zero, i.size, i.bytes)) = some (some (.agg #[.string ⟨#[]⟩, .string ⟨#[]⟩, .int .i64 0]), 3, 40) := by kernel_rfl
/-- A column: name, kind. -/
abbrev Cl := ByteArray × Int
def CsAt (w : World) (a : Option Addr) (r : List Cl) : Prop :=
  r = [] ∨ ∃ b off, a = some ⟨b, off, none⟩ ∧ ∀ i f, r[i]? = some f → w.cell? ⟨b, off + i * 2, none⟩ = some (.string f.1) ∧ w.cell? ⟨b, off + i * 2 + 1, none⟩ = some (.int .i64 f.2)
theorem CsAt.below {w w' : World} {a : Option Addr} {r : List Cl} (h : CsAt w a r) (hb : Below w.heap.size w w') : CsAt w' a r := by
  rcases h with h | ⟨b, off, ha, hc⟩
  · exact Or.inl h
  · exact Or.inr ⟨b, off, ha, fun i f hi => ⟨cell_bel hb (hc i f hi).1, cell_bel hb (hc i f hi).2⟩⟩
def fdsF (sn : ByteArray) (r : List Cl) : List Fd := r.map fun c => (sn, c.1, c.2)
theorem fds_take {sn : ByteArray} {r : List Cl} {m : Nat} {c : Cl} (h : r[m]? = some c) : (fdsF sn r).take (m + 1) = (fdsF sn r).take m ++ [(sn, c.1, c.2)] := by
  have e : (fdsF sn r)[m]? = some (sn, c.1, c.2) := by unfold fdsF; rw [List.getElem?_map, h]; rfl
  rw [List.take_add_one, e]; rfl
def FlPost (sn : ByteArray) (r : List Cl) (w : World) (e : Ending) (w' : World) : Prop := (∃ a cap, e = .returned (.slice a r.length cap) ∧ FsAt w' a (fdsF sn r)) ∧ Below w.heap.size w w'
theorem fields_any (nm sn : ByteArray) (r : List Cl) (a : Option Addr) (cap : Nat) (w : World) (hr : CsAt w a r) (hl : r.length ≤ 1099511627776) :
    Calls Tryz.prog 4 #[.agg #[.string nm, .slice a r.length cap], .string sn] w (FlPost sn r w) := by
  obtain ⟨i0, hi, hz0⟩ := Option.map_eq_some_iff.1 info28
  simp only [Prod.mk.injEq] at hz0
  obtain ⟨hz, hs, hb3⟩ := hz0
  have HR : Hid (CsAt w a r) := hr
  have HL : Hid (r.length ≤ 1099511627776) := hl
  have HFL : Hid ((fdsF sn r).length = r.length) := by show _ = _; unfold fdsF; rw [List.length_map]
  clear hr hl
  obtain ⟨n, hn⟩ : ∃ n, r.length = n := ⟨_, rfl⟩
  have HN : Hid (r.length = n) := hn
  have HPV : Hid (∀ e w', (∃ a cap, e = .returned (.slice a n cap) ∧ FsAt w' a (fdsF sn r)) ∧ Below w.heap.size w w' → FlPost sn r w e w') := fun e w' h => by unfold FlPost; rw [hn]; exact h
  rw [hn]
  clear hn
  go_enter Tryz.func4, Tryz.ntmps4
  go_upto_region 2 with (fail)
  have hB : Below w.heap.size w (w.alloc (.cells #[.string nm, .slice a n cap] 24)) := (Below.refl _ _).alloc (Nat.le_refl _) _
  have y1 : (w.alloc (.cells #[.string nm, .slice a n cap] 24)).cell? ⟨w.heap.size, 1, none⟩ = some (.slice a n cap) := (World.cell?_alloc_mark w #[.string nm, .slice a n cap] 24 (0, 0) 1).trans rfl
  have HB : Hid (Bel w.heap.size w (w.alloc (.cells #[.string nm, .slice a n cap] 24))) := Bel.of hB
  obtain ⟨bx, hbx⟩ : ∃ bx, w.heap.size = bx := ⟨_, rfl⟩
  rw [hbx] at y1
  rw [hbx]
  clear hB hbx
  generalize (w.alloc (.cells #[.string nm, .slice a n cap] 24)) = w1 at *
  go_wp2
  go_loopw [5, 11] (fun x y wr => ∃ (m : Nat) (v1 : Value), x = v1 ∧ y = .int .i64 m ∧ m ≤ n ∧ wr.ownsRow w1.heap.size 28 3 v1 m (rfC ((fdsF sn r).take m)) ∧ Bel w1.heap.size w1 wr) (fun _ y _ => n - (intOf y).toNat)
  case atStart => exact ⟨0, _, rfl, rfl, Nat.zero_le _, World.ownsRow_nil _ _ _ _, Bel.refl _⟩
  case round =>
    obtain ⟨m, v1, hy1, rfl, hm, hO, hBL⟩ := hrel
    have hy2 := hy1.symm
    clear hy1
    subst hy2
    have HO : Hid (wr.ownsRow w1.heap.size 28 3 v1 m (rfC ((fdsF sn r).take m))) := hO
    have HBL : Hid (Bel w1.heap.size w1 wr) := hBL
    have hnb : n ≤ 1099511627776 := by have := HN.out; have := HL.out; omega
    clear hO hBL y1
    rcases Nat.lt_or_ge m n with hlt | hge
    · have hlr : m < r.length := by have := HN.out; omega
      obtain ⟨c, hc⟩ : ∃ c, r[m]? = some c := ⟨_, List.getElem?_eq_getElem hlr⟩
      rcases HR.out.below (HB.out.out.trans (HBL.out.out.mono HB.out.le)) with h0 | ⟨b, off, rfl, hcs⟩
      · rw [h0] at hlr; simp at hlr
      obtain ⟨c0, c1⟩ := hcs m _ hc
      have HT : Hid _ := fds_take (sn := sn) hc
      clear hcs hc hlr
      obtain ⟨k1, k2⟩ := c
      dsimp only at c0 c1 HT
      go_upto_region 5 with (fail)
      have hy : Below wr.heap.size wr (wr.alloc (.cells #[.string k1, .int .i64 k2] 38)) := (Below.refl _ _).alloc (Nat.le_refl _) _
      have d0 : (wr.alloc (.cells #[.string k1, .int .i64 k2] 38)).cell? ⟨wr.heap.size, 0, none⟩ = some (.string k1) := (World.cell?_alloc_mark wr #[.string k1, .int .i64 k2] 38 (0, 0) 0).trans rfl
      have d1 : (wr.alloc (.cells #[.string k1, .int .i64 k2] 38)).cell? ⟨wr.heap.size, 1, none⟩ = some (.int .i64 k2) := (World.cell?_alloc_mark wr #[.string k1, .int .i64 k2] 38 (0, 0) 1).trans rfl
      have HO1 : Hid ((wr.alloc (.cells #[.string k1, .int .i64 k2] 38)).ownsRow w1.heap.size 28 3 v1 m (rfC ((fdsF sn r).take m))) := owns_below HO.out hy
      have HB1 : Hid (Bel w1.heap.size w1 (wr.alloc (.cells #[.string k1, .int .i64 k2] 38))) := HBL.out.step hy
      obtain ⟨bk, hbk⟩ : ∃ bk, wr.heap.size = bk := ⟨_, rfl⟩
      rw [hbk] at d0 d1
      rw [hbk]
      clear hbk hy c0 c1 HO HBL
      generalize (wr.alloc (.cells #[.string k1, .int .i64 k2] 38)) = w3 at *
      have hrow : Hid ((w3.alloc (.cells #[.string sn, .string k1, .int .i64 k2] 28)).ownsRow w1.heap.size 28 3 v1 m (rfC ((fdsF sn r).take m))) := HO1.out.alloc _
      have hcel : Hid (∀ j u, (rfC [(sn, k1, k2)])[j]? = some u → (w3.alloc (.cells #[.string sn, .string k1, .int .i64 k2] 28)).cell? ((⟨w3.heap.size, 0, none⟩ : Addr).add j) = some u) := fdCells_new w3 (sn, k1, k2)
      have hone : Hid (∀ u ∈ rfC [(sn, k1, k2)], u.oneCell' = true) := rfC_one _
      have hnl : m + 1 ≤ maxLen := by unfold maxLen; omega
      have hby : (m + 1) * 40 ≤ 140737488355328 := by omega
      have hbw2 : w1.heap.size ≤ (w3.alloc (.cells #[.string sn, .string k1, .int .i64 k2] 28)).heap.size := by have := HB1.out.le; rw [World.size_alloc]; omega
      have hvl : Hid ((rfC [(sn, k1, k2)]).length = 1 * 3) := rfC_len _
      have HBn : Hid (Bel w1.heap.size w1 (w3.alloc (.cells #[.string sn, .string k1, .int .i64 k2] 28))) := HB1.out.alloc _
      go_wp2_with (at_builtin; refine wpList_append_own _ rfl _ _ 25 rfl w1.heap.size 28 i0 (.agg #[.string ⟨#[]⟩, .string ⟨#[]⟩, .int .i64 0]) 3 40 Tryz.underlying25 hi hz hs hb3 rfl (by decide) _ _ _ rfl hrow.out ⟨w3.heap.size, 0, none⟩ 1 1 (rfC [(sn, k1, k2)]) rfl hvl.out hcel.out hone.out hnl hby hbw2 ?_)
      intro v2 w4 hown2 hgrow2 hj2
      clear hj2
      have HO2 : Hid (w4.ownsRow w1.heap.size 28 3 v2 (m + 1) (rfC ((fdsF sn r).take (m + 1)))) := by
        show World.ownsRow _ _ _ _ _ _ _
        rw [HT.out, rfC_snoc]; exact hown2
      have HB2 : Hid (Bel w1.heap.size w1 w4) := by
        have h2 := HBn.out.out.grown hgrow2 hbw2 (fun j hj => (hrow.out.lt j hj).1)
        exact ⟨h2, h2.size⟩
      clear hown2 hgrow2 hone hcel hrow hvl HBn hnl hby hbw2 HO1 HB1 HT d0 d1
      go_wp2
      go_roundw
      case rel => exact ⟨m + 1, v2, rfl, by go_num, hlt, HO2.out, HB2.out⟩
      case measure => simp [intOf]; omega
    · obtain rfl : m = n := by omega
      have hO := HO.out
      rw [List.take_of_length_le (by rw [HFL.out, HN.out]; exact Nat.le_refl _)] at hO
      have hO2 : wr.ownsRow w1.heap.size 28 3 v1 (fdsF sn r).length (rfC (fdsF sn r)) := by rw [HFL.out, HN.out]; exact hO
      obtain ⟨a', cap', hv, hF⟩ := fs_of_owns hO2
      rw [HFL.out, HN.out] at hv
      subst hv
      have HP : Hid (FlPost sn r w (.returned (.slice a' m cap')) wr) := HPV.out _ _ ⟨⟨a', cap', rfl, hF⟩, HB.out.out.trans (HBL.out.out.mono HB.out.le)⟩
      clear hO hO2 hF HO HBL HPV
      go_wp2
      refine bodyPost_ret (v := .slice a' m cap') (by simp [results, Tryz.results4, go_sem]) rfl HP.out
end Go.Proofs.YtemfgdhcmeimoaaGreatDoor
