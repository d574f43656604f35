/- Dpw, Dpa. -/
import Derived.Test.YtgdndahhledikaaGreatDoorK45
namespace Go.Proofs.YtgdndahhledikaaGreatDoor
open Go.ChangeShapes Go.WideShapes Go.ChangeAt Go.RowKit
set_option linter.unusedSimpArgs false
set_option maxRecDepth 20000
set_option maxHeartbeats 4000000
def opK (e : Bool) : Int := if e then 2 else 6
def opS (e : Bool) : List UInt8 := if e then [101, 118, 101, 114, 121] else [40]
def opT (e : Bool) : Tt := ((opK e, opS e, 0), 0)
def nmT : Tt := ((1, [65], 0), 0)
def clT : Tt := ((6, [41], 0), 0)
def dpX (e : Bool) (n m : Nat) : List Tt := List.replicate n (opT e) ++ [nmT] ++ List.replicate m clT
def dpT (e : Bool) (n : Nat) : List Tt := dpX e n (if e then 0 else n)
theorem dpX_len (e : Bool) (n m : Nat) : (dpX e n m).length = n + 1 + m := by simp [dpX]; omega
theorem info22' : (Tryz.prog.info? 26).map (fun i => (i.zero, i.size, i.bytes)) = some (some (.agg #[.int .i64 0, .string ⟨#[]⟩, .int .i64 0, .int .i64 0]), 4, 40) := by kernel_rfl
theorem deep_walk (k : Int) (e : Bool) (w : World)
  (hs : ∀ w', Below w.heap.size w w' → Calls Tryz.prog 7 #[] w' fun e w2 => e = .returned (.bool true) ∧ Below w'.heap.size w' w2)
  (h1 : ∀ n : Nat, n ≤ 300 → ∀ ta cap w', TksAt w' ta (dpT e n) → (∀ b o, ta = some ⟨b, o, none⟩ → b < w'.heap.size) → Calls Tryz.prog 10 #[.slice ta (dpT e n).length cap, .int .i64 0] w' fun x w2 => (∃ p q, x = .returned (.tuple #[p, .int .i64 q, .int .i64 (if n ≤ 99 then 0 else 71)]) ∧ q = (if n ≤ 99 then ((dpT e n).length : Int) else if e then 99 else 100) ∧ ∃ a b c d s l f, p = nV a b c d (.slice s l f)) ∧ Below w'.heap.size w' w2) :
  Calls Tryz.prog 4 #[.int .i64 k, .bool e] w fun e w' => e = .returned (.bool true) ∧ Below w.heap.size w w' := by
 obtain ⟨n, hn⟩ : ∃ n : Nat, max 0 (min k 300) = (n : Int) := ⟨(max 0 (min k 300)).toNat, by omega⟩
 have hnl : n ≤ 300 := by omega
 obtain ⟨i0, hi, hz⟩ := Option.map_eq_some_iff.1 info22'
 simp only [Prod.mk.injEq] at hz
 obtain ⟨hz0, hz1, hz2⟩ := hz
 have HS : Hid _ := hs
 have H1 : Hid _ := h1
 have HNL : Hid (n ≤ 300) := hnl
 clear hs h1 hnl
 go_enter Tryz.func4, Tryz.ntmps4
 go_upto_region 4 with (fail)
 have HX7 : Hid (Box ((w.alloc (.cells #[.int .i64 6, .string ⟨#[40]⟩, .int .i64 0, .int .i64 0] 26)).alloc (.cells #[.int .i64 6, .string ⟨#[41]⟩, .int .i64 0, .int .i64 0] 26)) (w.heap.size + 1) (.int .i64 6) (.string (bsA [41])) (.int .i64 0) (.int .i64 0)) := by
  have h := Box.new (w.alloc (.cells #[.int .i64 6, .string ⟨#[40]⟩, .int .i64 0, .int .i64 0] 26)) (.int .i64 6) (.string (bsA [41])) (.int .i64 0) (.int .i64 0)
  rw [World.size_alloc] at h
  exact h
 have HX6 : Hid (Box ((w.alloc (.cells #[.int .i64 6, .string ⟨#[40]⟩, .int .i64 0, .int .i64 0] 26)).alloc (.cells #[.int .i64 6, .string ⟨#[41]⟩, .int .i64 0, .int .i64 0] 26)) w.heap.size (.int .i64 6) (.string (bsA [40])) (.int .i64 0) (.int .i64 0)) := (Box.new w (.int .i64 6) (.string (bsA [40])) (.int .i64 0) (.int .i64 0)).below ((Below.refl _ _).alloc (Nat.le_refl _) _)
 have HB : Hid (Below w.heap.size w ((w.alloc (.cells #[.int .i64 6, .string ⟨#[40]⟩, .int .i64 0, .int .i64 0] 26)).alloc (.cells #[.int .i64 6, .string ⟨#[41]⟩, .int .i64 0, .int .i64 0] 26))) := ((Below.refl _ _).alloc (Nat.le_refl _) _).alloc (by rw [World.size_alloc]; omega) _
 have HZ : Hid (w.heap.size + 2 = ((w.alloc (.cells #[.int .i64 6, .string ⟨#[40]⟩, .int .i64 0, .int .i64 0] 26)).alloc (.cells #[.int .i64 6, .string ⟨#[41]⟩, .int .i64 0, .int .i64 0] 26)).heap.size) := by show _ = _; rw [World.size_alloc, World.size_alloc]
 obtain ⟨b6, hb6⟩ : ∃ b, w.heap.size = b := ⟨_, rfl⟩
 have HB6 : Hid (w.heap.size = b6) := hb6
 rw [hb6] at HX6 HX7 HZ
 rw [hb6]
 obtain ⟨b7, hb7⟩ : ∃ b, b6 + 1 = b := ⟨_, rfl⟩
 have HB7 : Hid (b6 + 1 = b7) := hb7
 rw [hb7] at HX7
 rw [hb7]
 clear hb6 hb7
 generalize ((w.alloc (.cells #[.int .i64 6, .string ⟨#[40]⟩, .int .i64 0, .int .i64 0] 26)).alloc (.cells #[.int .i64 6, .string ⟨#[41]⟩, .int .i64 0, .int .i64 0] 26)) = w1 at HX6 HX7 HB HZ ⊢
 cases e with
 | false =>
  have HB0 := HB
  clear HB
  go_upto_region 6 with (fail)
  go_wp2
  go_loopw [5, 8] (fun x y wr => ∃ (m : Nat) (v1 : Value), x = v1 ∧ y = .int .i64 m ∧ m ≤ n ∧ wr.ownsRow w1.heap.size 26 4 v1 (List.replicate m (opT false)).length (rtC (List.replicate m (opT false))) ∧ Bel w1.heap.size w1 wr) (fun _ y _ => n - (intOf y).toNat)
  case atStart => exact ⟨0, _, rfl, rfl, Nat.zero_le _, World.ownsRow_nil _ _ _ _, Bel.refl _⟩
  case round =>
   obtain ⟨m, v1, hy1, rfl, hm, hO, hB⟩ := hrel
   have hy2 := hy1.symm
   clear hy1
   subst hy2
   have HO : Hid (wr.ownsRow w1.heap.size 26 4 v1 (List.replicate m (opT false)).length (rtC (List.replicate m (opT false)))) := hO
   have HBL : Hid (Bel w1.heap.size w1 wr) := hB
   clear hO hB
   rcases Nat.lt_or_ge m n with hlt | hge
   ·
    obtain ⟨c0, c1, c2, c3, _, _, _, _⟩ := HX6.out.below HBL.out.out
    have hrow : Hid ((wr.alloc (Obj.cells #[Value.int IntKind.i64 6, Value.string ⟨#[40]⟩, Value.int IntKind.i64 0, Value.int IntKind.i64 0] 26)).ownsRow w1.heap.size 26 4 v1 (List.replicate m (opT false)).length (rtC (List.replicate m (opT false)))) := HO.out.alloc _
    have hcel : Hid (∀ j u, (rtC [(opT false)])[j]? = some u → (wr.alloc (Obj.cells #[Value.int IntKind.i64 6, Value.string ⟨#[40]⟩, Value.int IntKind.i64 0, Value.int IntKind.i64 0] 26)).cell? ((⟨wr.heap.size, 0, none⟩ : Addr).add j) = some u) := tkCells_new wr (opT false)
    have hone : Hid (∀ u ∈ rtC [(opT false)], u.oneCell' = true) := rtC_one _
    have hnl : (List.replicate m (opT false)).length + 1 ≤ maxLen := by have := (show (List.replicate m (opT false)).length ≤ 300 by rw [List.length_replicate]; have := HNL.out; omega); unfold maxLen; omega
    have hby : ((List.replicate m (opT false)).length + 1) * 40 ≤ 140737488355328 := by have := (show (List.replicate m (opT false)).length ≤ 300 by rw [List.length_replicate]; have := HNL.out; omega); omega
    have hbw2 : w1.heap.size ≤ (wr.alloc (Obj.cells #[Value.int IntKind.i64 6, Value.string ⟨#[40]⟩, Value.int IntKind.i64 0, Value.int IntKind.i64 0] 26)).heap.size := by have := HBL.out.le; rw [World.size_alloc]; omega
    have hvl : Hid ((rtC [(opT false)]).length = 1 * 4) := rtC_len _
    have HBn : Hid (Bel w1.heap.size w1 (wr.alloc (Obj.cells #[Value.int IntKind.i64 6, Value.string ⟨#[40]⟩, Value.int IntKind.i64 0, Value.int IntKind.i64 0] 26))) := HBL.out.alloc _
    obtain ⟨la, hla⟩ : ∃ la, (List.replicate m (opT false)).length = la := ⟨_, rfl⟩
    have HLA : Hid ((List.replicate m (opT false)).length = la) := hla
    rw [hla] at hnl hby hrow
    clear hla
    go_wp2_with (at_builtin; refine wpList_append_own _ rfl _ _ 22 rfl w1.heap.size 26 i0 (.agg #[.int .i64 0, .string ⟨#[]⟩, .int .i64 0, .int .i64 0]) 4 40 Tryz.underlying22 hi hz0 hz1 hz2 rfl (by decide) _ _ _ rfl hrow.out ⟨wr.heap.size, 0, none⟩ 1 1 (rtC [(opT false)]) rfl hvl.out hcel.out hone.out hnl hby hbw2 ?_)
    intro v2 w2 hown2 hgrow2 hj2
    clear hj2
    have HO2 : Hid (w2.ownsRow w1.heap.size 26 4 v2 (List.replicate m (opT false) ++ [(opT false)]).length (rtC (List.replicate m (opT false) ++ [(opT false)]))) := by
     show World.ownsRow _ _ _ _ _ _ _
     rw [rtC_snoc, List.length_append, List.length_singleton, HLA.out]; exact hown2
    have HB2 : Hid (Bel w1.heap.size w1 w2) := by
     have h2 := HBn.out.out.grown hgrow2 hbw2 (fun j hj => (hrow.out.lt j hj).1)
     exact ⟨h2, h2.size⟩
    clear hown2 hgrow2 hone hcel hrow hvl HBn HLA hnl hby hbw2
    have HO3 : Hid (w2.ownsRow w1.heap.size 26 4 v2 (List.replicate (m + 1) (opT false)).length (rtC (List.replicate (m + 1) (opT false)))) := by
     show World.ownsRow _ _ _ _ _ _ _
     rw [List.replicate_succ']; exact HO2.out
    clear c0 c1 c2 c3 HO2 HO HBL
    go_wp2
    go_roundw
    case rel => exact ⟨m + 1, v2, rfl, by go_num, hlt, HO3.out, HB2.out⟩
    case measure => simp [intOf]; omega
   ·
    obtain rfl : m = n := by omega
    have hrow : Hid ((wr.alloc (Obj.cells #[Value.int IntKind.i64 1, Value.string ⟨#[65]⟩, Value.int IntKind.i64 0, Value.int IntKind.i64 0] 26)).ownsRow w1.heap.size 26 4 v1 (List.replicate m (opT false)).length (rtC (List.replicate m (opT false)))) := HO.out.alloc _
    have hcel : Hid (∀ j u, (rtC [nmT])[j]? = some u → (wr.alloc (Obj.cells #[Value.int IntKind.i64 1, Value.string ⟨#[65]⟩, Value.int IntKind.i64 0, Value.int IntKind.i64 0] 26)).cell? ((⟨wr.heap.size, 0, none⟩ : Addr).add j) = some u) := tkCells_new wr nmT
    have hone : Hid (∀ u ∈ rtC [nmT], u.oneCell' = true) := rtC_one _
    have hnl : (List.replicate m (opT false)).length + 1 ≤ maxLen := by have := (show (List.replicate m (opT false)).length ≤ 300 by rw [List.length_replicate]; exact HNL.out); unfold maxLen; omega
    have hby : ((List.replicate m (opT false)).length + 1) * 40 ≤ 140737488355328 := by have := (show (List.replicate m (opT false)).length ≤ 300 by rw [List.length_replicate]; exact HNL.out); omega
    have hbw2 : w1.heap.size ≤ (wr.alloc (Obj.cells #[Value.int IntKind.i64 1, Value.string ⟨#[65]⟩, Value.int IntKind.i64 0, Value.int IntKind.i64 0] 26)).heap.size := by have := HBL.out.le; rw [World.size_alloc]; omega
    have hvl : Hid ((rtC [nmT]).length = 1 * 4) := rtC_len _
    have HBn : Hid (Bel w1.heap.size w1 (wr.alloc (Obj.cells #[Value.int IntKind.i64 1, Value.string ⟨#[65]⟩, Value.int IntKind.i64 0, Value.int IntKind.i64 0] 26))) := HBL.out.alloc _
    obtain ⟨la, hla⟩ : ∃ la, (List.replicate m (opT false)).length = la := ⟨_, rfl⟩
    have HLA : Hid ((List.replicate m (opT false)).length = la) := hla
    rw [hla] at hnl hby hrow
    clear hla
    go_wp2_with (at_builtin; refine wpList_append_own _ rfl _ _ 22 rfl w1.heap.size 26 i0 (.agg #[.int .i64 0, .string ⟨#[]⟩, .int .i64 0, .int .i64 0]) 4 40 Tryz.underlying22 hi hz0 hz1 hz2 rfl (by decide) _ _ _ rfl hrow.out ⟨wr.heap.size, 0, none⟩ 1 1 (rtC [nmT]) rfl hvl.out hcel.out hone.out hnl hby hbw2 ?_)
    intro v2 w2 hown2 hgrow2 hj2
    clear hj2
    have HO2 : Hid (w2.ownsRow w1.heap.size 26 4 v2 (List.replicate m (opT false) ++ [nmT]).length (rtC (List.replicate m (opT false) ++ [nmT]))) := by
     show World.ownsRow _ _ _ _ _ _ _
     rw [rtC_snoc, List.length_append, List.length_singleton, HLA.out]; exact hown2
    have HB2 : Hid (Bel w1.heap.size w1 w2) := by
     have h2 := HBn.out.out.grown hgrow2 hbw2 (fun j hj => (hrow.out.lt j hj).1)
     exact ⟨h2, h2.size⟩
    clear hown2 hgrow2 hone hcel hrow hvl HBn HLA hnl hby hbw2
    clear HO HBL
    obtain ⟨n, hnn⟩ : ∃ n, n = m := ⟨_, rfl⟩
    subst hnn
    have HO : Hid (w2.ownsRow w1.heap.size 26 4 v2 (dpX false n 0).length (rtC (dpX false n 0))) := by
     have e : dpX false n 0 = List.replicate n (opT false) ++ [nmT] := by simp [dpX]
     show World.ownsRow _ _ _ _ _ _ _
     rw [e]; exact HO2.out
    have HB1 : Hid (Bel w1.heap.size w1 w2) := HB2
    clear HO2 HB2 hge hm
    go_wp2
    go_loopw [5, 9] (fun x y wq => ∃ (m : Nat) (v1 : Value), x = v1 ∧ y = .int .i64 m ∧ m ≤ n ∧ wq.ownsRow w1.heap.size 26 4 v1 (dpX false n m).length (rtC (dpX false n m)) ∧ Bel w1.heap.size w1 wq) (fun _ y _ => n - (intOf y).toNat)
    case atStart => exact ⟨0, _, rfl, rfl, Nat.zero_le _, HO.out, HB1.out⟩
    case round =>
     clear HO HB1
     obtain ⟨m, v1, hy1, rfl, hm, hO, hB⟩ := hrel
     have hy2 := hy1.symm
     clear hy1
     subst hy2
     have HO : Hid (wr.ownsRow w1.heap.size 26 4 v1 (dpX false n m).length (rtC (dpX false n m))) := hO
     have HBL : Hid (Bel w1.heap.size w1 wr) := hB
     clear hO hB
     rcases Nat.lt_or_ge m n with hlt | hge
     ·
      obtain ⟨c0, c1, c2, c3, _, _, _, _⟩ := HX7.out.below HBL.out.out
      have hrow : Hid ((wr.alloc (Obj.cells #[Value.int IntKind.i64 6, Value.string ⟨#[41]⟩, Value.int IntKind.i64 0, Value.int IntKind.i64 0] 26)).ownsRow w1.heap.size 26 4 v1 (dpX false n m).length (rtC (dpX false n m))) := HO.out.alloc _
      have hcel : Hid (∀ j u, (rtC [clT])[j]? = some u → (wr.alloc (Obj.cells #[Value.int IntKind.i64 6, Value.string ⟨#[41]⟩, Value.int IntKind.i64 0, Value.int IntKind.i64 0] 26)).cell? ((⟨wr.heap.size, 0, none⟩ : Addr).add j) = some u) := tkCells_new wr clT
      have hone : Hid (∀ u ∈ rtC [clT], u.oneCell' = true) := rtC_one _
      have hnl : (dpX false n m).length + 1 ≤ maxLen := by have := (show (dpX false n m).length ≤ 601 by rw [dpX_len]; have := HNL.out; omega); unfold maxLen; omega
      have hby : ((dpX false n m).length + 1) * 40 ≤ 140737488355328 := by have := (show (dpX false n m).length ≤ 601 by rw [dpX_len]; have := HNL.out; omega); omega
      have hbw2 : w1.heap.size ≤ (wr.alloc (Obj.cells #[Value.int IntKind.i64 6, Value.string ⟨#[41]⟩, Value.int IntKind.i64 0, Value.int IntKind.i64 0] 26)).heap.size := by have := HBL.out.le; rw [World.size_alloc]; omega
      have hvl : Hid ((rtC [clT]).length = 1 * 4) := rtC_len _
      have HBn : Hid (Bel w1.heap.size w1 (wr.alloc (Obj.cells #[Value.int IntKind.i64 6, Value.string ⟨#[41]⟩, Value.int IntKind.i64 0, Value.int IntKind.i64 0] 26))) := HBL.out.alloc _
      obtain ⟨la, hla⟩ : ∃ la, (dpX false n m).length = la := ⟨_, rfl⟩
      have HLA : Hid ((dpX false n m).length = la) := hla
      rw [hla] at hnl hby hrow
      clear hla
      go_wp2_with (at_builtin; refine wpList_append_own _ rfl _ _ 22 rfl w1.heap.size 26 i0 (.agg #[.int .i64 0, .string ⟨#[]⟩, .int .i64 0, .int .i64 0]) 4 40 Tryz.underlying22 hi hz0 hz1 hz2 rfl (by decide) _ _ _ rfl hrow.out ⟨wr.heap.size, 0, none⟩ 1 1 (rtC [clT]) rfl hvl.out hcel.out hone.out hnl hby hbw2 ?_)
      intro v2 w2 hown2 hgrow2 hj2
      clear hj2
      have HO2 : Hid (w2.ownsRow w1.heap.size 26 4 v2 (dpX false n m ++ [clT]).length (rtC (dpX false n m ++ [clT]))) := by
       show World.ownsRow _ _ _ _ _ _ _
       rw [rtC_snoc, List.length_append, List.length_singleton, HLA.out]; exact hown2
      have HB2 : Hid (Bel w1.heap.size w1 w2) := by
       have h2 := HBn.out.out.grown hgrow2 hbw2 (fun j hj => (hrow.out.lt j hj).1)
       exact ⟨h2, h2.size⟩
      clear hown2 hgrow2 hone hcel hrow hvl HBn HLA hnl hby hbw2
      have HO3 : Hid (w2.ownsRow w1.heap.size 26 4 v2 (dpX false n (m + 1)).length (rtC (dpX false n (m + 1)))) := by
       have e : dpX false n (m + 1) = dpX false n m ++ [clT] := by unfold dpX; rw [List.replicate_succ', ← List.append_assoc]
       show World.ownsRow _ _ _ _ _ _ _
       rw [e]; exact HO2.out
      clear c0 c1 c2 c3 HO2 HO HBL
      go_wp2
      go_roundw
      case rel => exact ⟨m + 1, v2, rfl, by go_num, hlt, HO3.out, HB2.out⟩
      case measure => simp [intOf]; omega
     ·
      obtain rfl : m = n := by omega
      obtain ⟨n, hnn⟩ : ∃ n, n = m := ⟨_, rfl⟩
      subst hnn
      have HOL : Hid (wr.ownsRow w1.heap.size 26 4 v1 (dpT false n).length (rtC (dpT false n))) := HO
      clear HO hge hm
      obtain ⟨ta, cap, hv, hT, hta, _⟩ := tks_of_owns2 (r := dpT false n) HOL.out
      have hc := H1.out n HNL.out ta cap wr hT (fun b o e => (hta b o e).2)
      obtain ⟨tl, htl⟩ : ∃ tl, (dpT false n).length = tl := ⟨_, rfl⟩
      rw [htl] at hc hv
      subst hv
      have HBW : Hid (Below w.heap.size w wr) := HB0.out.trans (HBL.out.out.mono HB0.out.size)
      clear hT hta htl H1 HBL HB0 HOL HX6
      rcases Nat.lt_or_ge n 100 with h99 | h99
      ·
       have hi9 : ((n : Int) ≤ 99) = True := eq_true (by omega)
       have hn9 : n ≤ 99 := by omega
       simp only [hn9, if_true, if_false, Bool.false_eq_true] at hc
       go_wp2_with fail
       refine hc.mono ?_
       rintro x w3 ⟨⟨p, q, rfl, hq, ka, kb, kc, kd, ks', kl', kf', rfl⟩, hb3⟩
       clear hc hn9
       try (obtain rfl : q = _ := hq)
       try subst hq
       have hy : Below w3.heap.size w3 (w3.alloc (nO ka kb kc kd (.slice ks' kl' kf'))) := (Below.refl _ _).alloc (Nat.le_refl _) _
       have HB4 : Hid (Below w.heap.size w (w3.alloc (nO ka kb kc kd (.slice ks' kl' kf')))) := (HBW.out.trans (hb3.mono HBW.out.size)).trans (hy.mono (HBW.out.trans (hb3.mono HBW.out.size)).size)
       have hs := HS.out _ HB4.out
       unfold nO at hs HB4
       unfold nV
       clear hb3 hy HBW HS
       go_wp2_with fail
       refine hs.mono ?_
       rintro x w5 ⟨rfl, hb5⟩
       have HB5 := HB4.out.trans (hb5.mono HB4.out.size)
       clear hs hb5
       go_wp2
       go_ret
       exact ⟨rfl, HB5⟩
      ·
       have hi9 : ((n : Int) ≤ 99) = False := eq_false (by omega)
       have hn9 : ¬ n ≤ 99 := by omega
       simp only [hn9, if_true, if_false, Bool.false_eq_true] at hc
       go_wp2_with fail
       refine hc.mono ?_
       rintro x w3 ⟨⟨p, q, rfl, hq, ka, kb, kc, kd, ks', kl', kf', rfl⟩, hb3⟩
       clear hc hn9
       try (obtain rfl : q = _ := hq)
       try subst hq
       have hy : Below w3.heap.size w3 (w3.alloc (nO ka kb kc kd (.slice ks' kl' kf'))) := (Below.refl _ _).alloc (Nat.le_refl _) _
       have HB4 : Hid (Below w.heap.size w (w3.alloc (nO ka kb kc kd (.slice ks' kl' kf')))) := (HBW.out.trans (hb3.mono HBW.out.size)).trans (hy.mono (HBW.out.trans (hb3.mono HBW.out.size)).size)
       have hs := HS.out _ HB4.out
       unfold nO at hs HB4
       unfold nV
       clear hb3 hy HBW HS
       go_wp2_with fail
       refine hs.mono ?_
       rintro x w5 ⟨rfl, hb5⟩
       have HB5 := HB4.out.trans (hb5.mono HB4.out.size)
       clear hs hb5
       go_wp2
       go_ret
       exact ⟨rfl, HB5⟩
 | true =>
  obtain ⟨c0, c1, c2, c3, f0, f1, f2, f3⟩ := HX6.out
  have HSET : Hid (Box ((((w1.setCell ⟨b6, 0, none⟩ (.int .i64 2)).setCell ⟨b6, 1, none⟩ (.string ⟨#[101, 118, 101, 114, 121]⟩)).setCell ⟨b6, 2, none⟩ (.int .i64 0)).setCell ⟨b6, 3, none⟩ (.int .i64 0)) b6 (.int .i64 2) (.string ⟨#[101, 118, 101, 114, 121]⟩) (.int .i64 0) (.int .i64 0)) := HX6.out.set (.int .i64 2) (.string ⟨#[101, 118, 101, 114, 121]⟩) (.int .i64 0) (.int .i64 0)
  have HBS : Hid (Below w.heap.size w ((((w1.setCell ⟨b6, 0, none⟩ (.int .i64 2)).setCell ⟨b6, 1, none⟩ (.string ⟨#[101, 118, 101, 114, 121]⟩)).setCell ⟨b6, 2, none⟩ (.int .i64 0)).setCell ⟨b6, 3, none⟩ (.int .i64 0))) := by
   have h6 := Nat.le_of_eq HB6.out
   exact (((HB.out.setCell h6 _).setCell h6 _).setCell h6 _).setCell h6 _
  go_upto_region 6 with (fail)
  clear c0 c1 c2 c3 f0 f1 f2 f3 HX6 HX7 HB HZ
  have HX6 := HSET
  have HB := HBS
  clear HSET HBS
  generalize ((((w1.setCell ⟨b6, 0, none⟩ (.int .i64 2)).setCell ⟨b6, 1, none⟩ (.string ⟨#[101, 118, 101, 114, 121]⟩)).setCell ⟨b6, 2, none⟩ (.int .i64 0)).setCell ⟨b6, 3, none⟩ (.int .i64 0)) = w5 at HX6 HB ⊢
  have HB0 := HB
  clear HB
  go_wp2
  go_loopw [5, 8] (fun x y wr => ∃ (m : Nat) (v1 : Value), x = v1 ∧ y = .int .i64 m ∧ m ≤ n ∧ wr.ownsRow w5.heap.size 26 4 v1 (List.replicate m (opT true)).length (rtC (List.replicate m (opT true))) ∧ Bel w5.heap.size w5 wr) (fun _ y _ => n - (intOf y).toNat)
  case atStart => exact ⟨0, _, rfl, rfl, Nat.zero_le _, World.ownsRow_nil _ _ _ _, Bel.refl _⟩
  case round =>
   obtain ⟨m, v1, hy1, rfl, hm, hO, hB⟩ := hrel
   have hy2 := hy1.symm
   clear hy1
   subst hy2
   have HO : Hid (wr.ownsRow w5.heap.size 26 4 v1 (List.replicate m (opT true)).length (rtC (List.replicate m (opT true)))) := hO
   have HBL : Hid (Bel w5.heap.size w5 wr) := hB
   clear hO hB
   rcases Nat.lt_or_ge m n with hlt | hge
   ·
    obtain ⟨c0, c1, c2, c3, _, _, _, _⟩ := HX6.out.below HBL.out.out
    have hrow : Hid ((wr.alloc (Obj.cells #[Value.int IntKind.i64 2, Value.string ⟨#[101, 118, 101, 114, 121]⟩, Value.int IntKind.i64 0, Value.int IntKind.i64 0] 26)).ownsRow w5.heap.size 26 4 v1 (List.replicate m (opT true)).length (rtC (List.replicate m (opT true)))) := HO.out.alloc _
    have hcel : Hid (∀ j u, (rtC [(opT true)])[j]? = some u → (wr.alloc (Obj.cells #[Value.int IntKind.i64 2, Value.string ⟨#[101, 118, 101, 114, 121]⟩, Value.int IntKind.i64 0, Value.int IntKind.i64 0] 26)).cell? ((⟨wr.heap.size, 0, none⟩ : Addr).add j) = some u) := tkCells_new wr (opT true)
    have hone : Hid (∀ u ∈ rtC [(opT true)], u.oneCell' = true) := rtC_one _
    have hnl : (List.replicate m (opT true)).length + 1 ≤ maxLen := by have := (show (List.replicate m (opT true)).length ≤ 300 by rw [List.length_replicate]; have := HNL.out; omega); unfold maxLen; omega
    have hby : ((List.replicate m (opT true)).length + 1) * 40 ≤ 140737488355328 := by have := (show (List.replicate m (opT true)).length ≤ 300 by rw [List.length_replicate]; have := HNL.out; omega); omega
    have hbw2 : w5.heap.size ≤ (wr.alloc (Obj.cells #[Value.int IntKind.i64 2, Value.string ⟨#[101, 118, 101, 114, 121]⟩, Value.int IntKind.i64 0, Value.int IntKind.i64 0] 26)).heap.size := by have := HBL.out.le; rw [World.size_alloc]; omega
    have hvl : Hid ((rtC [(opT true)]).length = 1 * 4) := rtC_len _
    have HBn : Hid (Bel w5.heap.size w5 (wr.alloc (Obj.cells #[Value.int IntKind.i64 2, Value.string ⟨#[101, 118, 101, 114, 121]⟩, Value.int IntKind.i64 0, Value.int IntKind.i64 0] 26))) := HBL.out.alloc _
    obtain ⟨la, hla⟩ : ∃ la, (List.replicate m (opT true)).length = la := ⟨_, rfl⟩
    have HLA : Hid ((List.replicate m (opT true)).length = la) := hla
    rw [hla] at hnl hby hrow
    clear hla
    go_wp2_with (at_builtin; refine wpList_append_own _ rfl _ _ 22 rfl w5.heap.size 26 i0 (.agg #[.int .i64 0, .string ⟨#[]⟩, .int .i64 0, .int .i64 0]) 4 40 Tryz.underlying22 hi hz0 hz1 hz2 rfl (by decide) _ _ _ rfl hrow.out ⟨wr.heap.size, 0, none⟩ 1 1 (rtC [(opT true)]) rfl hvl.out hcel.out hone.out hnl hby hbw2 ?_)
    intro v2 w2 hown2 hgrow2 hj2
    clear hj2
    have HO2 : Hid (w2.ownsRow w5.heap.size 26 4 v2 (List.replicate m (opT true) ++ [(opT true)]).length (rtC (List.replicate m (opT true) ++ [(opT true)]))) := by
     show World.ownsRow _ _ _ _ _ _ _
     rw [rtC_snoc, List.length_append, List.length_singleton, HLA.out]; exact hown2
    have HB2 : Hid (Bel w5.heap.size w5 w2) := by
     have h2 := HBn.out.out.grown hgrow2 hbw2 (fun j hj => (hrow.out.lt j hj).1)
     exact ⟨h2, h2.size⟩
    clear hown2 hgrow2 hone hcel hrow hvl HBn HLA hnl hby hbw2
    have HO3 : Hid (w2.ownsRow w5.heap.size 26 4 v2 (List.replicate (m + 1) (opT true)).length (rtC (List.replicate (m + 1) (opT true)))) := by
     show World.ownsRow _ _ _ _ _ _ _
     rw [List.replicate_succ']; exact HO2.out
    clear c0 c1 c2 c3 HO2 HO HBL
    go_wp2
    go_roundw
    case rel => exact ⟨m + 1, v2, rfl, by go_num, hlt, HO3.out, HB2.out⟩
    case measure => simp [intOf]; omega
   ·
    obtain rfl : m = n := by omega
    have hrow : Hid ((wr.alloc (Obj.cells #[Value.int IntKind.i64 1, Value.string ⟨#[65]⟩, Value.int IntKind.i64 0, Value.int IntKind.i64 0] 26)).ownsRow w5.heap.size 26 4 v1 (List.replicate m (opT true)).length (rtC (List.replicate m (opT true)))) := HO.out.alloc _
    have hcel : Hid (∀ j u, (rtC [nmT])[j]? = some u → (wr.alloc (Obj.cells #[Value.int IntKind.i64 1, Value.string ⟨#[65]⟩, Value.int IntKind.i64 0, Value.int IntKind.i64 0] 26)).cell? ((⟨wr.heap.size, 0, none⟩ : Addr).add j) = some u) := tkCells_new wr nmT
    have hone : Hid (∀ u ∈ rtC [nmT], u.oneCell' = true) := rtC_one _
    have hnl : (List.replicate m (opT true)).length + 1 ≤ maxLen := by have := (show (List.replicate m (opT true)).length ≤ 300 by rw [List.length_replicate]; exact HNL.out); unfold maxLen; omega
    have hby : ((List.replicate m (opT true)).length + 1) * 40 ≤ 140737488355328 := by have := (show (List.replicate m (opT true)).length ≤ 300 by rw [List.length_replicate]; exact HNL.out); omega
    have hbw2 : w5.heap.size ≤ (wr.alloc (Obj.cells #[Value.int IntKind.i64 1, Value.string ⟨#[65]⟩, Value.int IntKind.i64 0, Value.int IntKind.i64 0] 26)).heap.size := by have := HBL.out.le; rw [World.size_alloc]; omega
    have hvl : Hid ((rtC [nmT]).length = 1 * 4) := rtC_len _
    have HBn : Hid (Bel w5.heap.size w5 (wr.alloc (Obj.cells #[Value.int IntKind.i64 1, Value.string ⟨#[65]⟩, Value.int IntKind.i64 0, Value.int IntKind.i64 0] 26))) := HBL.out.alloc _
    obtain ⟨la, hla⟩ : ∃ la, (List.replicate m (opT true)).length = la := ⟨_, rfl⟩
    have HLA : Hid ((List.replicate m (opT true)).length = la) := hla
    rw [hla] at hnl hby hrow
    clear hla
    go_wp2_with (at_builtin; refine wpList_append_own _ rfl _ _ 22 rfl w5.heap.size 26 i0 (.agg #[.int .i64 0, .string ⟨#[]⟩, .int .i64 0, .int .i64 0]) 4 40 Tryz.underlying22 hi hz0 hz1 hz2 rfl (by decide) _ _ _ rfl hrow.out ⟨wr.heap.size, 0, none⟩ 1 1 (rtC [nmT]) rfl hvl.out hcel.out hone.out hnl hby hbw2 ?_)
    intro v2 w2 hown2 hgrow2 hj2
    clear hj2
    have HO2 : Hid (w2.ownsRow w5.heap.size 26 4 v2 (List.replicate m (opT true) ++ [nmT]).length (rtC (List.replicate m (opT true) ++ [nmT]))) := by
     show World.ownsRow _ _ _ _ _ _ _
     rw [rtC_snoc, List.length_append, List.length_singleton, HLA.out]; exact hown2
    have HB2 : Hid (Bel w5.heap.size w5 w2) := by
     have h2 := HBn.out.out.grown hgrow2 hbw2 (fun j hj => (hrow.out.lt j hj).1)
     exact ⟨h2, h2.size⟩
    clear hown2 hgrow2 hone hcel hrow hvl HBn HLA hnl hby hbw2
    clear HO HBL
    obtain ⟨n, hnn⟩ : ∃ n, n = m := ⟨_, rfl⟩
    subst hnn
    have HOL : Hid (w2.ownsRow w5.heap.size 26 4 v2 (dpT true n).length (rtC (dpT true n))) := by
     have e : dpT true n = List.replicate n (opT true) ++ [nmT] := by simp [dpT, dpX]
     show World.ownsRow _ _ _ _ _ _ _
     rw [e]; exact HO2.out
    clear HO2 hge hm
    have HBL : Hid (Bel w5.heap.size w5 w2) := HB2
    clear HB2
    go_wp2
    go_loopw [5, 9] (fun x y wz => x = v2 ∧ y = .int .i64 0 ∧ wz = w2) (fun _ _ _ => 0)
    case atStart => exact ⟨rfl, rfl, rfl⟩
    case round =>
     obtain ⟨hx1, rfl, hwz⟩ := hrel
     subst hwz
     have hx2 := hx1.symm
     clear hx1
     subst hx2
     rcases Nat.lt_or_ge 0 n with h0 | h0
     ·
      obtain ⟨ta, cap, hv, hT, hta, _⟩ := tks_of_owns2 (r := dpT true n) HOL.out
      have hc := H1.out n HNL.out ta cap wr hT (fun b o e => (hta b o e).2)
      obtain ⟨tl, htl⟩ : ∃ tl, (dpT true n).length = tl := ⟨_, rfl⟩
      rw [htl] at hc hv
      subst hv
      have HBW : Hid (Below w.heap.size w wr) := HB0.out.trans (HBL.out.out.mono HB0.out.size)
      clear hT hta htl H1 HBL HB0 HOL HX6
      rcases Nat.lt_or_ge n 100 with h99 | h99
      ·
       have hi9 : ((n : Int) ≤ 99) = True := eq_true (by omega)
       have hn9 : n ≤ 99 := by omega
       simp only [hn9, if_true, if_false, Bool.false_eq_true] at hc
       go_wp2_with fail
       refine hc.mono ?_
       rintro x w3 ⟨⟨p, q, rfl, hq, ka, kb, kc, kd, ks', kl', kf', rfl⟩, hb3⟩
       clear hc hn9
       try (obtain rfl : q = _ := hq)
       try subst hq
       have hy : Below w3.heap.size w3 (w3.alloc (nO ka kb kc kd (.slice ks' kl' kf'))) := (Below.refl _ _).alloc (Nat.le_refl _) _
       have HB4 : Hid (Below w.heap.size w (w3.alloc (nO ka kb kc kd (.slice ks' kl' kf')))) := (HBW.out.trans (hb3.mono HBW.out.size)).trans (hy.mono (HBW.out.trans (hb3.mono HBW.out.size)).size)
       have hs := HS.out _ HB4.out
       unfold nO at hs HB4
       unfold nV
       clear hb3 hy HBW HS
       go_wp2_with fail
       refine hs.mono ?_
       rintro x w5 ⟨rfl, hb5⟩
       have HB5 := HB4.out.trans (hb5.mono HB4.out.size)
       clear hs hb5
       go_wp2
       go_ret
       exact ⟨rfl, HB5⟩
      ·
       have hi9 : ((n : Int) ≤ 99) = False := eq_false (by omega)
       have hn9 : ¬ n ≤ 99 := by omega
       simp only [hn9, if_true, if_false, Bool.false_eq_true] at hc
       go_wp2_with fail
       refine hc.mono ?_
       rintro x w3 ⟨⟨p, q, rfl, hq, ka, kb, kc, kd, ks', kl', kf', rfl⟩, hb3⟩
       clear hc hn9
       try (obtain rfl : q = _ := hq)
       try subst hq
       have hy : Below w3.heap.size w3 (w3.alloc (nO ka kb kc kd (.slice ks' kl' kf'))) := (Below.refl _ _).alloc (Nat.le_refl _) _
       have HB4 : Hid (Below w.heap.size w (w3.alloc (nO ka kb kc kd (.slice ks' kl' kf')))) := (HBW.out.trans (hb3.mono HBW.out.size)).trans (hy.mono (HBW.out.trans (hb3.mono HBW.out.size)).size)
       have hs := HS.out _ HB4.out
       unfold nO at hs HB4
       unfold nV
       clear hb3 hy HBW HS
       go_wp2_with fail
       refine hs.mono ?_
       rintro x w5 ⟨rfl, hb5⟩
       have HB5 := HB4.out.trans (hb5.mono HB4.out.size)
       clear hs hb5
       go_wp2
       go_ret
       exact ⟨rfl, HB5⟩
     ·
      obtain ⟨ta, cap, hv, hT, hta, _⟩ := tks_of_owns2 (r := dpT true n) HOL.out
      have hc := H1.out n HNL.out ta cap wr hT (fun b o e => (hta b o e).2)
      obtain ⟨tl, htl⟩ : ∃ tl, (dpT true n).length = tl := ⟨_, rfl⟩
      rw [htl] at hc hv
      subst hv
      have HBW : Hid (Below w.heap.size w wr) := HB0.out.trans (HBL.out.out.mono HB0.out.size)
      clear hT hta htl H1 HBL HB0 HOL HX6
      ·
       have hi9 : ((n : Int) ≤ 99) = True := eq_true (by omega)
       have hn9 : n ≤ 99 := by omega
       simp only [hn9, if_true, if_false, Bool.false_eq_true] at hc
       go_wp2_with fail
       refine hc.mono ?_
       rintro x w3 ⟨⟨p, q, rfl, hq, ka, kb, kc, kd, ks', kl', kf', rfl⟩, hb3⟩
       clear hc hn9
       try (obtain rfl : q = _ := hq)
       try subst hq
       have hy : Below w3.heap.size w3 (w3.alloc (nO ka kb kc kd (.slice ks' kl' kf'))) := (Below.refl _ _).alloc (Nat.le_refl _) _
       have HB4 : Hid (Below w.heap.size w (w3.alloc (nO ka kb kc kd (.slice ks' kl' kf')))) := (HBW.out.trans (hb3.mono HBW.out.size)).trans (hy.mono (HBW.out.trans (hb3.mono HBW.out.size)).size)
       have hs := HS.out _ HB4.out
       unfold nO at hs HB4
       unfold nV
       clear hb3 hy HBW HS
       go_wp2_with fail
       refine hs.mono ?_
       rintro x w5 ⟨rfl, hb5⟩
       have HB5 := HB4.out.trans (hb5.mono HB4.out.size)
       clear hs hb5
       go_wp2
       go_ret
       exact ⟨rfl, HB5⟩
end Go.Proofs.YtgdndahhledikaaGreatDoor
namespace Go.Proofs.YtgdndahhledikaaGreatDoor
open Go.ChangeShapes Go.WideShapes Go.ChangeAt Go.RowKit
set_option linter.unusedSimpArgs false
set_option maxRecDepth 20000
set_option maxHeartbeats 4000000
def okD (e : Bool) (n : Nat) : Bool := match patR (dpT e n) (exE (dpT e n) 40) 120 103 0 0 with
 | some (.inr q) => Nat.beq q.2 (dpT e n).length
 | _ => false
theorem okD_f : ∀ n, n < 100 → okD false n = true := by decide +kernel
theorem okD_t : ∀ n, n < 100 → okD true n = true := by decide +kernel
theorem noD_f (R : List Tt) : patR (List.replicate 100 (opT false) ++ R) (exE (List.replicate 100 (opT false) ++ R) 40) 120 103 0 0 = some (.inl (100, 71)) := by kernel_rfl
theorem noD_t (R : List Tt) : patR (List.replicate 100 (opT true) ++ R) (exE (List.replicate 100 (opT true) ++ R) 40) 120 103 0 0 = some (.inl (99, 71)) := by kernel_rfl
theorem okD_ex {e : Bool} {n : Nat} (h : okD e n = true) : ∃ x, patR (dpT e n) (exE (dpT e n) 40) 120 103 0 0 = some (.inr (x, (dpT e n).length)) := by
 unfold okD at h
 split at h
 ·
  rename_i q hq
  exact ⟨q.1, by rw [hq, ← Nat.eq_of_beq_eq_true h]⟩
 · cases h
theorem dpT_cut (e : Bool) {n : Nat} (h : 100 ≤ n) : ∃ R, dpT e n = List.replicate 100 (opT e) ++ R := by
 obtain ⟨m, rfl⟩ : ∃ m, n = 100 + m := ⟨n - 100, by omega⟩
 unfold dpT dpX
 rw [List.replicate_append_replicate.symm, List.append_assoc, List.append_assoc]
 exact ⟨_, rfl⟩
theorem noD_ex (e : Bool) {n : Nat} (h : 100 ≤ n) : patR (dpT e n) (exE (dpT e n) 40) 120 103 0 0 = some (.inl (if e then 99 else 100, 71)) := by
 obtain ⟨R, hR⟩ := dpT_cut e h
 rw [hR]
 cases e with
 | false => exact noD_f R
 | true => exact noD_t R
theorem deep_h1 (e : Bool) (n : Nat) (hn : n ≤ 300) (ta : Option Addr) (cap : Nat) (w' : World) (hT : TksAt w' ta (dpT e n)) (hb : ∀ b o, ta = some ⟨b, o, none⟩ → b < w'.heap.size) : Calls Tryz.prog 10 #[.slice ta (dpT e n).length cap, .int .i64 0] w' fun x w2 => (∃ p q, x = .returned (.tuple #[p, .int .i64 q, .int .i64 (if n ≤ 99 then 0 else 71)]) ∧ q = (if n ≤ 99 then ((dpT e n).length : Int) else if e then 99 else 100) ∧ ∃ a b c d s l f, p = nV a b c d (.slice s l f)) ∧ Below w'.heap.size w' w2 := by
 have hlen : (dpT e n).length ≤ 1000000000 := by
  unfold dpT
  rw [dpX_len]
  split <;> omega
 rcases Nat.lt_or_ge n 100 with h | h
 ·
  have hi : n ≤ 99 := by omega
  have hok : okD e n = true := by
   cases e with
   | false => exact okD_f n h
   | true => exact okD_t n h
  obtain ⟨x, hx⟩ := okD_ex hok
  refine (pat_ok (dpT e n) 103 120 hlen _ hx ta cap w' hT hb).mono ?_
  rintro z w2 ⟨⟨s, c, rfl, _⟩, hb2⟩
  rw [if_pos hi, if_pos hi]
  exact ⟨⟨_, _, rfl, rfl, _, _, _, _, _, _, _, rfl⟩, hb2⟩
 ·
  have hi : ¬ n ≤ 99 := by omega
  refine (pat_ok (dpT e n) 103 120 hlen _ (noD_ex e h) ta cap w' hT hb).mono ?_
  rintro z w2 ⟨h1, hb2⟩
  dsimp only at h1
  rw [if_neg hi, if_neg hi]
  subst h1
  refine ⟨⟨_, _, rfl, ?_, _, _, _, _, _, _, _, rfl⟩, hb2⟩
  cases e <;> rfl
theorem deep_all (k : Int) (e : Bool) (w : World) (hR : Rdv w) : Calls Tryz.prog 4 #[.int .i64 k, .bool e] w fun e w' => e = .returned (.bool true) ∧ Below w.heap.size w w' :=
 deep_walk k e w (fun w' hb => sure_any w' (hR.below hb)) (fun n hn ta cap w' hT hb => deep_h1 e n hn ta cap w' hT hb)
end Go.Proofs.YtgdndahhledikaaGreatDoor
