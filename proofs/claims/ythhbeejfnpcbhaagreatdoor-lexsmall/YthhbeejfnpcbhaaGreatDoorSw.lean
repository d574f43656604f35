/- Words are words in capital letters, too (the walk). -/
import Derived.Test.YthhbeejfnpcbhaaGreatDoorBw
import Derived.Laws.IdiomStrings
namespace Go.Proofs.YthhbeejfnpcbhaaGreatDoor
open Go.ChangeShapes Go.WideShapes Go.ChangeAt Go.RowKit

def upL (x : List UInt8) : List UInt8 := x.map (· - 32)
def smS (x : List UInt8) : List UInt8 := x ++ 32 :: (upL x ++ 32 :: (x ++ 95 :: 32 :: 95 :: x))
def smT (x : List UInt8) : List Tt := [((2, x, 0), 0), ((2, x, 0), (x.length : Int) + 1), ((1, x ++ [95], 0), 2 * (x.length : Int) + 2), ((1, 95 :: x, 0), 3 * (x.length : Int) + 4)]
theorem sm_all : (wdL.all fun x => decide (lx (smS x) 0 = ((smT x, 0, 0) : List (Tk × Int) × Int × Int))) = true := by decide +kernel
theorem sm_lx (x : List UInt8) (h : x ∈ wdL) : lx (smS x) 0 = (smT x, 0, 0) := of_decide_eq_true (List.all_eq_true.1 sm_all x h)
theorem wd_low : ∀ x ∈ wdL, x.length ≤ 11 ∧ ∀ c ∈ x, 97 ≤ c.toNat ∧ c.toNat ≤ 122 := by decide
theorem wd_mem {i : Nat} (h : i < 58) : wd i ∈ wdL := by
  unfold wd
  rw [List.getD_eq_getElem?_getD, List.getElem?_eq_getElem (by show i < 58; exact h)]
  exact List.getElem_mem _
theorem fifty (n : Int) : (∃ i : Nat, i < 58 ∧ Int.tmod (Int.tmod n 58 + 58) 58 = i) ∧ -58 < Int.tmod n 58 ∧ Int.tmod n 58 < 58 := by
  have h1 : -58 < Int.tmod n 58 := Int.lt_tmod_of_pos n (by omega)
  have h2 : Int.tmod n 58 < 58 := Int.tmod_lt_of_pos n (by omega)
  refine ⟨?_, h1, h2⟩
  generalize Int.tmod n 58 = m at h1 h2
  refine ⟨(Int.tmod (m + 58) 58).toNat, ?_, ?_⟩
  · have := Int.tmod_lt_of_pos (m + 58) (b := 58) (by omega)
    omega
  · have := Int.tmod_nonneg 58 (show 0 ≤ m + 58 by omega)
    omega
/-- Bytes in a block. -/
def Byt (w : World) (B n : Nat) (f : Nat → Int) : Prop := ∀ j, j < n → w.cell? ⟨B, j, none⟩ = some (.int .u8 (f j)) ∧ w.frozen? ⟨B, j, none⟩ = false
def mixF (x : List UInt8) (m j : Nat) : Int := if j < m then ((x.getD j 0).toNat : Int) - 32 else ((x.getD j 0).toNat : Int)
theorem byt_new (w : World) (x : List UInt8) (cap : Nat) : Byt (w.drew.alloc (.cells (bytesRow (bsA x) cap) 5 ((bytesRow (bsA x) cap).size, (bytesRow (bsA x) cap).size + 1))) w.heap.size x.length (mixF x 0) := by
  intro j hj
  have hz := bsA_size x
  have hd : j < (bsA x).data.size := by have : (bsA x).data.size = x.length := hz
                                        omega
  refine ⟨?_, ?_⟩
  · refine (World.cell?_alloc_mark w.drew _ 5 _ j).trans ?_
    rw [bytesRow_at _ _ _ hd]
    unfold mixF
    rw [if_neg (by omega), List.getD_eq_getElem?_getD, List.getElem?_eq_getElem hj]
    simp [bsA]
  · refine (World.frozen?_alloc_mark w.drew _ 5 _ _ j).trans ?_
    have : j < (bytesRow (bsA x) cap).size := by unfold bytesRow; simp; omega
    simp; omega
theorem Byt.set {w : World} {B : Nat} {x : List UInt8} {m : Nat} (h : Byt w B x.length (mixF x m)) (hm : m < x.length) : Byt (w.setCell ⟨B, m, none⟩ (.int .u8 (((x.getD m 0).toNat : Int) - 32))) B x.length (mixF x (m + 1)) := by
  intro j hj
  obtain ⟨h1, h2⟩ := h j hj
  refine ⟨?_, by simpa using h2⟩
  by_cases e : j = m
  · subst e
    unfold mixF
    rw [if_pos (by omega)]
    simp [go_sem, h1]
  · have : (mixF x (m + 1) j) = mixF x m j := by
      unfold mixF
      by_cases hlt : j < m
      · rw [if_pos (by omega), if_pos hlt]
      · rw [if_neg (by omega), if_neg hlt]
    rw [this, ← h1]
    have hne : (⟨B, m, none⟩ : Addr) ≠ ⟨B, j, none⟩ := by intro h; injection h with _ h2 _; omega
    exact World.cell?_setCell_other _ _ _ _ hne
theorem byt_up {w : World} {B : Nat} {x : List UInt8} (h : Byt w B x.length (mixF x x.length)) (hx : ∀ c ∈ x, 97 ≤ c.toNat ∧ c.toNat ≤ 122) (j : Nat) (hj : j < (upL x).length) : w.cell? ((⟨B, 0, none⟩ : Addr).add j) = some (.int .u8 ((upL x)[j].toNat : Int)) := by
  have hj' : j < x.length := by simpa [upL] using hj
  have h1 := (h j hj').1
  rw [add_plain, Nat.zero_add, h1]
  unfold mixF
  rw [if_pos hj', List.getD_eq_getElem?_getD, List.getElem?_eq_getElem hj']
  have hc := hx x[j] (List.getElem_mem _)
  have e : (upL x)[j] = x[j] - 32 := by simp [upL]
  rw [e]
  have : (x[j] - 32).toNat = x[j].toNat - 32 := by
    rw [UInt8.toNat_sub_of_le]
    · rfl
    · show (32 : UInt8).toNat ≤ x[j].toNat
      have : (32 : UInt8).toNat = 32 := rfl
      omega
  simp only [Option.getD_some, Option.some.injEq, Value.int.injEq, true_and]
  omega
set_option maxRecDepth 20000 in
set_option maxHeartbeats 4000000 in
theorem lexSmall_walk (n : Int) (w : World) (hR : Rdy w) : Calls Tryz.prog 8 #[.int .i64 n] w fun e w' => e = .returned (.bool true) ∧ Below w.heap.size w w' := by
  obtain ⟨⟨i, hi, hm⟩, hm1, hm2⟩ := fifty n
  have hw : wrap64 (Int.tmod n 58 + 58) = Int.tmod n 58 + 58 := by unfold wrap64; omega
  have hxm := wd_mem hi
  have hwi : wdL[i]? = some (wd i) := by
    unfold wd
    rw [List.getD_eq_getElem?_getD, List.getElem?_eq_getElem (by show i < 58; exact hi)]
    rfl
  have h1 := Words_any w hR
  go_enter Tryz.func8, Tryz.ntmps8
  go_wp2_with fail
  refine h1.mono ?_
  rintro e w1 ⟨⟨a1, cap1, rfl, hs1⟩, hb1⟩
  rcases hs1 with h0 | ⟨b, off, rfl, hc⟩
  · cases h0
  have HC1 := hc i _ hwi
  clear hc h1
  go_wp2_with fail
  refine (RWords_any w1).mono ?_
  rintro e w2 ⟨⟨a2, cap2, rfl, _⟩, hb2⟩
  have c0 := cell_below hb2 HC1
  have hB2 : Below w.heap.size w w2 := hb1.trans (hb2.mono hb1.size)
  have hR2 := hR.below hB2
  obtain ⟨hxl, hxc⟩ := wd_low _ hxm
  have hlx := sm_lx _ hxm
  have hzx := bsA_size (wd i)
  clear HC1 hb1 hb2 hxm hwi
  generalize wd i = x at *
  have hcv := fun W : World => run_bytes_of_string (P := Tryz.prog) W 9 39 5 (bsA x) Tryz.underlying9 Tryz.underlying39 Tryz.underlying5
  have HCV : Hid _ := hcv w2
  have HBN : Hid _ := byt_new w2 x (grownCap w2 (bsA x).size 0 5)
  have hBN2 : Below w2.heap.size w2 (w2.drew.alloc (.cells (bytesRow (bsA x) (grownCap w2 (bsA x).size 0 5)) 5 ((bytesRow (bsA x) (grownCap w2 (bsA x).size 0 5)).size, (bytesRow (bsA x) (grownCap w2 (bsA x).size 0 5)).size + 1))) := (Below.refl _ _).drew.alloc (Nat.le_refl _) _
  clear hcv
  generalize w2.drew.alloc (.cells (bytesRow (bsA x) (grownCap w2 (bsA x).size 0 5)) 5 ((bytesRow (bsA x) (grownCap w2 (bsA x).size 0 5)).size, (bytesRow (bsA x) (grownCap w2 (bsA x).size 0 5)).size + 1)) = w3 at HCV HBN hBN2
  generalize grownCap w2 (bsA x).size 0 5 = capb at HCV
  have hcv2 := HCV.out
  rw [hzx] at hcv2
  have hB3 : Below w.heap.size w w3 := hB2.trans (hBN2.mono hB2.size)
  have hR3 := hR2.below hBN2
  have hle3 := hBN2.size
  clear HCV
  have HXC : Hid _ := hxc
  have HLX : Hid _ := hlx
  clear hxc hlx
  go_wp2_with fail
  go_loopw [6] (fun y wr => ∃ (m : Nat), y = .int .i64 m ∧ m ≤ x.length ∧ Byt wr w2.heap.size x.length (mixF x m) ∧ Bel w2.heap.size w2 wr) (fun y _ => x.length - (intOf y).toNat)
  case atStart => exact ⟨0, rfl, Nat.zero_le _, HBN.out, ⟨hBN2, hle3⟩⟩
  case round =>
    obtain ⟨m, rfl, hmm, hby, HB⟩ := hrel
    have hW := HB.out
    rcases Nat.lt_or_ge m x.length with hlt | hge
    · obtain ⟨d0, f0⟩ := hby m hlt
      have hnb : Hid _ := Byt.set hby hlt
      have hcx := HXC.out (x.getD m 0) (by rw [List.getD_eq_getElem?_getD, List.getElem?_eq_getElem hlt]; exact List.getElem_mem _)
      unfold mixF at d0
      rw [if_neg (by omega)] at d0
      generalize (x.getD m 0).toNat = cv at d0 hnb hcx
      have hwp : IntKind.u8.wrap ((cv : Int) - 32) = (cv : Int) - 32 := by rw [IntKind.wrap_u8]; omega
      clear hby HBN
      go_wp2
      refine ⟨⟨m + 1, by go_num, hlt, hnb.out, HB.setCell (Nat.le_refl _) _⟩, ?_⟩
      simp [intOf]; omega
    · obtain rfl : m = x.length := by omega
      have hup := byt_up hby HXC.out
      have hbk : (convert 39 9 (.slice (some ⟨w2.heap.size, 0, none⟩) x.length capb)).run Tryz.prog wr = .ok (.string (bsA (upL x))) wr := by
        have := run_convert_bytes_back (P := Tryz.prog) wr 39 9 5 ⟨w2.heap.size, 0, none⟩ capb (upL x) Tryz.underlying39 Tryz.underlying5 Tryz.underlying9 hup
        rw [show (upL x).length = x.length from by simp [upL]] at this
        exact this
      have hul : (upL x).length = x.length := by simp [upL]
      have hBr : Below w.heap.size w wr := hB2.trans (hW.mono hB2.size)
      have hRr := hR2.below hW
      have e1 : bsA x ++ (⟨#[32]⟩ : ByteArray) = bsA (x ++ [32]) := app_bsA x [32]
      have z1 := bsA_size (x ++ [32])
      rw [List.length_append, List.length_singleton] at z1
      obtain ⟨s1, hs1⟩ : ∃ s1, s1 = x ++ [32] := ⟨_, rfl⟩
      rw [← hs1] at e1 z1
      have e2 : bsA s1 ++ bsA (upL x) = bsA (s1 ++ upL x) := app_bsA s1 (upL x)
      have z2 := bsA_size (s1 ++ upL x)
      have l1 : s1.length = x.length + 1 := by rw [hs1]; simp
      rw [List.length_append, l1, hul] at z2
      obtain ⟨s2, hs2⟩ : ∃ s2, s2 = s1 ++ upL x := ⟨_, rfl⟩
      rw [← hs2] at e2 z2
      have l2 : s2.length = 2 * x.length + 1 := by rw [hs2, List.length_append, l1, hul]; omega
      have e3 : bsA s2 ++ (⟨#[32]⟩ : ByteArray) = bsA (s2 ++ [32]) := app_bsA s2 [32]
      have z3 := bsA_size (s2 ++ [32])
      rw [List.length_append, List.length_singleton, l2] at z3
      obtain ⟨s3, hs3⟩ : ∃ s3, s3 = s2 ++ [32] := ⟨_, rfl⟩
      rw [← hs3] at e3 z3
      have l3 : s3.length = 2 * x.length + 2 := by rw [hs3, List.length_append, l2]; rfl
      have e4 : bsA s3 ++ bsA x = bsA (s3 ++ x) := app_bsA s3 x
      have z4 := bsA_size (s3 ++ x)
      rw [List.length_append, l3] at z4
      obtain ⟨s4, hs4⟩ : ∃ s4, s4 = s3 ++ x := ⟨_, rfl⟩
      rw [← hs4] at e4 z4
      have l4 : s4.length = 3 * x.length + 2 := by rw [hs4, List.length_append, l3]; omega
      have e5 : bsA s4 ++ (⟨#[95, 32]⟩ : ByteArray) = bsA (s4 ++ [95, 32]) := app_bsA s4 [95, 32]
      have z5 := bsA_size (s4 ++ [95, 32])
      rw [List.length_append, l4] at z5
      obtain ⟨s5, hs5⟩ : ∃ s5, s5 = s4 ++ [95, 32] := ⟨_, rfl⟩
      rw [← hs5] at e5 z5
      have l5 : s5.length = 3 * x.length + 4 := by rw [hs5, List.length_append, l4]; rfl
      have e6 : bsA s5 ++ (⟨#[95]⟩ : ByteArray) = bsA (s5 ++ [95]) := app_bsA s5 [95]
      have z6 := bsA_size (s5 ++ [95])
      rw [List.length_append, l5] at z6
      obtain ⟨s6, hs6⟩ : ∃ s6, s6 = s5 ++ [95] := ⟨_, rfl⟩
      rw [← hs6] at e6 z6
      have l6 : s6.length = 3 * x.length + 5 := by rw [hs6, List.length_append, l5]; rfl
      have e7 : bsA s6 ++ bsA x = bsA (s6 ++ x) := app_bsA s6 x
      obtain ⟨s7, hs7⟩ : ∃ s7, s7 = s6 ++ x := ⟨_, rfl⟩
      rw [← hs7] at e7
      have hS : s7 = smS x := by
        rw [hs7, hs6, hs5, hs4, hs3, hs2, hs1]
        unfold smS
        simp
      have hl7 : s7.length ≤ 104857600 := by rw [hs7, List.length_append, l6]; omega
      have h7 := Lex_any s7 wr hRr hl7
      rw [hS, HLX.out, ← hS] at h7
      have hzu := bsA_size (upL x)
      rw [hul] at hzu
      have e8 : bsA x ++ (⟨#[95]⟩ : ByteArray) = bsA (x ++ [95]) := app_bsA x [95]
      have tl1 := bsA_tl x
      have tl2 := bsA_tl (x ++ [95])
      have hg := hg37
      have hq := fun W => eq37 ((2, x, 0), 0) ((2, x, 0), 0) W
      rw [decide_eq_true rfl] at hq
      clear hs1 hs2 hs3 hs4 hs5 hs6 hs7 hS HLX HXC hup hby HBN hBN2 hB3 hR3
      go_wp2_with fail
      refine h7.mono ?_
      rintro e w5 ⟨hp, hb5⟩
      obtain ⟨a5, cap5, rfl, ht5⟩ := lexPost_ok hp rfl
      rcases ht5 with h0 | ⟨b5, off5, rfl, hc5⟩
      · cases h0
      obtain ⟨g00, g01, g02, g03⟩ := hc5 0 _ rfl
      obtain ⟨g10, g11, g12, g13⟩ := hc5 1 _ rfl
      obtain ⟨g20, g21, g22, g23⟩ := hc5 2 _ rfl
      obtain ⟨g30, g31, g32, g33⟩ := hc5 3 _ rfl
      have hl4 : (smT x).length = 4 := rfl
      dsimp only at *
      simp only [Nat.zero_mul, Nat.one_mul, Nat.add_zero] at g00 g01 g02 g03 g10 g11
      have hB5 := hBr.trans (hb5.mono hBr.size)
      have h8 := awake_any w5 (hRr.below hb5)
      rw [hl4]
      clear h7 hp hc5 hb5
      go_wp2_with fail
      refine h8.mono ?_
      rintro e w6 ⟨rfl, hb6⟩
      have hB6 := hB5.trans (hb6.mono hB5.size)
      clear h8 hb6
      go_wp2
      go_ret
      exact ⟨rfl, hB6⟩
end Go.Proofs.YthhbeejfnpcbhaaGreatDoor
