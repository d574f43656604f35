/- Pieces of texts, the texts of values. -/
import Derived.Test.YtjphmbgennadcaaGreatDoorTxs
import Derived.Test.YtjphmbgennadcaaGreatDoorShow
namespace Go.Proofs.YtjphmbgennadcaaGreatDoor
set_option maxHeartbeats 4000000
set_option linter.unusedSimpArgs false
open Go.ChangeShapes Go.WideShapes Go.ChangeAt Go.RowKit


/-- From so many runes on, at most so many. -/
def subL (x y : Int) (l : List UInt8) : List UInt8 := (l.drop (szF x.toNat l)).take (szF y.toNat (l.drop (szF x.toNat l)))
theorem substr_any (b off cap : Nat) (x y : Int) (l : List UInt8) (w : World) (hx : I64 x) (hy : I64 y) (c2 : w.cell? ⟨b, off + 2, none⟩ = some (.string (bsA l))) (d1 : w.cell? ⟨b, off + 4, none⟩ = some (.int .i64 x)) (e1 : w.cell? ⟨b, off + 7, none⟩ = some (.int .i64 y)) :
    Calls Tryz.prog 59 #[.slice (some ⟨b, off, none⟩) 3 cap] w fun e w' => e = .returned (.tuple #[.agg #[.int .i64 4, .int .i64 0, .string (bsA (subL x y l))], .int .i64 0]) ∧ Below w.heap.size w w' := by
  have hbl := cell_lt c2
  have h1 := fun w => sizeOf_any l x hx w
  have HE1 : Hid ((bsA l).extract (szF x.toNat l) (bsA l).size = bsA (l.drop (szF x.toNat l))) := ext_drop l _
  have hz := bsA_size l
  have z1 := szF_le x.toNat l
  have h2 := fun w => sizeOf_any (l.drop (szF x.toNat l)) y hy w
  have HE2 : Hid (∀ z, (bsA (l.drop (szF x.toNat l))).extract 0 z = bsA ((l.drop (szF x.toNat l)).take z)) := fun z => ext_take _ z
  have hz2 := bsA_size (l.drop (szF x.toNat l))
  have z2 := szF_le y.toNat (l.drop (szF x.toNat l))
  have HR : Hid (subL x y l = (l.drop (szF x.toNat l)).take (szF y.toNat (l.drop (szF x.toNat l)))) := rfl
  generalize subL x y l = R at HR ⊢
  generalize l.drop (szF x.toNat l) = m at *
  generalize szF x.toNat l = p at *
  generalize szF y.toNat m = q at *
  have HE3 := HE2.out q
  have hT := text10_any (bsA (m.take q))
  have HRq : Hid (m.take q = R) := HR.out.symm
  generalize m.take q = mq at HE3 hT HRq
  have he1 := HE1.out
  have p1 : (p : Int) ≤ (l.length : Int) := by omega
  have p2 : (q : Int) ≤ (m.length : Int) := by omega
  generalize bsA l = s at *
  generalize bsA m = s2 at *
  rw [hz] at he1
  clear HE1 HE2 HR
  go_enter Tryz.func59, Tryz.ntmps59
  go_wp2_with fail
  refine (h1 _).mono ?_
  rintro e w1 ⟨rfl, hb1⟩
  have hz1 : w.heap.size < w1.heap.size := by have := hb1.size; simp at this; omega
  obtain ⟨hc1, hf1⟩ := bcell hb1
  go_wp2_with fail
  refine (h2 _).mono ?_
  rintro e w2 ⟨rfl, hb2⟩
  have hb3 := hb1.trans (hb2.mono hb1.size)
  have hz3 : w.heap.size < w2.heap.size := by have := hb2.size; omega
  obtain ⟨hc2, hf2⟩ := bcell hb3
  clear hc1 hf1
  go_wp2_with fail
  refine (hT _).mono ?_
  rintro e w3 ⟨rfl, hb4⟩
  have hb5 := hb3.trans (hb4.mono hb3.size)
  obtain ⟨hc3, hf3⟩ := bcell hb5
  clear hc2 hf2
  go_wp2
  exact bodyPost_ret (v := .tuple #[.agg #[.int .i64 4, .int .i64 0, .string (bsA mq)], .int .i64 0]) (by simp [results, Tryz.results59, go_sem, hc3]) rfl ⟨ret_t HRq.out, (Bel.out (by repeat (first | exact Bel.refl _ | assumption | refine Bel.drew ?_ | refine Bel.drewN ?_ _ | refine Bel.alloc ?_ _ | refine Bel.setCell ?_ (by simp <;> omega) _ | refine Bel.step ?_ (by assumption))))⟩
/-- The text of a value. -/
def totP (k n : Int) (t : ByteArray) : Int × ByteArray := if k = 4 then (n, t) else (0, ⟨(showS k n t).toArray⟩)
theorem toText_any (b off cap : Nat) (k n : Int) (t : ByteArray) (w : World) (hR : Ready w) (hn : I64 n) (hc : w.cell? ⟨b, off, none⟩ = some (.int .i64 k) ∧ w.cell? ⟨b, off + 1, none⟩ = some (.int .i64 n) ∧ w.cell? ⟨b, off + 2, none⟩ = some (.string t)) :
    Calls Tryz.prog 63 #[.slice (some ⟨b, off, none⟩) 1 cap] w fun e w' => e = .returned (.tuple #[.agg #[.int .i64 4, .int .i64 (totP k n t).1, .string (totP k n t).2], .int .i64 0]) ∧ Below w.heap.size w w' := by
  have hbl := cell_lt hc.1
  obtain ⟨c0, c1, c2⟩ := hc
  by_cases h4 : k = 4
  · subst h4
    go_enter Tryz.func63, Tryz.ntmps63
    go_wp2
    exact bodyPost_ret (v := .tuple #[.agg #[.int .i64 4, .int .i64 n, .string t], .int .i64 0]) (by simp [results, Tryz.results63, go_sem]) rfl ⟨rfl, (Bel.out (by repeat (first | exact Bel.refl _ | assumption | refine Bel.drew ?_ | refine Bel.drewN ?_ _ | refine Bel.alloc ?_ _ | refine Bel.setCell ?_ (by simp <;> omega) _ | refine Bel.step ?_ (by assumption))))⟩
  · have e4 : (k == 4) = false := by simpa using h4
    have HN : Hid (totP k n t = (0, ⟨(showS k n t).toArray⟩)) := by show _ = _; unfold totP; rw [if_neg h4]
    generalize totP k n t = q at HN ⊢
    obtain rfl := HN.out
    have h1 := fun w hR => Show_any k n t hn.1 hn.2 w hR
    generalize (⟨(showS k n t).toArray⟩ : ByteArray) = s at *
    clear h4
    go_enter Tryz.func63, Tryz.ntmps63
    go_wp2_with fail
    refine (h1 _ (hR.alloc _)).mono ?_
    rintro e w1 ⟨rfl, hb1⟩
    have hz1 : w.heap.size < w1.heap.size := by have := hb1.size; simp at this; omega
    obtain ⟨hc1, hf1⟩ := bcell hb1
    go_wp2_with fail
    refine (text10_any _ _).mono ?_
    rintro e w2 ⟨rfl, hb2⟩
    have hb3 := hb1.trans (hb2.mono hb1.size)
    obtain ⟨hc2, hf2⟩ := bcell hb3
    clear hc1 hf1
    go_wp2
    exact bodyPost_ret (v := .tuple #[.agg #[.int .i64 4, .int .i64 0, .string s], .int .i64 0]) (by simp [results, Tryz.results63, go_sem, hc2]) rfl ⟨rfl, (Bel.out (by repeat (first | exact Bel.refl _ | assumption | refine Bel.drew ?_ | refine Bel.drewN ?_ _ | refine Bel.alloc ?_ _ | refine Bel.setCell ?_ (by simp <;> omega) _ | refine Bel.step ?_ (by assumption))))⟩
end Go.Proofs.YtjphmbgennadcaaGreatDoor
