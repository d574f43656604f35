/- YSgn, YNum, YWrd, YNam, YQu, YLx. -/
import Derived.Test.YtgdndahhledikaaGreatDoorK33
import Derived.Lib.IndexBytes
import Derived.Lib.AtoiErrMem
import Derived.Deep.MidRow
import Derived.Deep.DeepCutAuto
import Derived.Test.YtgdndahhledikaaGreatDoorK32
import Derived.Lib.Replace
import Derived.Lib.ReplaceLaws
import Derived.Lib.Strings
import Derived.Lib.ValidU
namespace Go.Proofs.YtgdndahhledikaaGreatDoor
open Go.ChangeShapes Go.WideShapes Go.ChangeAt Go.RowKit
set_option maxRecDepth 20000 in
set_option maxHeartbeats 4000000 in
theorem lineLength_any (l : List UInt8) (w : World) : Calls Tryz.prog 41 #[.string (bsA l)] w fun e w' => e = .returned (.int .i64 (lineN l)) ∧ w' = w := by
 have hz := bsA_size l
 have hc := Tryz.strings_IndexByte (bsA l) 10 w
 rw [bsA_list] at hc
 rw [show (10 : Int).toNat.toUInt8 = 10 from rfl] at hc
 unfold lineN
 by_cases h : Lib.indexByte l 10 ≥ 0
 ·
  rw [if_pos h]
  generalize Lib.indexByte l 10 = x at hc h
  have e1 : ((0 : Int) ≤ x) = True := eq_true h
  go_enter Tryz.func41, Tryz.ntmps41
  go_wp2_with (go_at_call 58; refine hc.mono ?_; rintro e w' ⟨rfl, rfl⟩)
  go_ret
  exact ⟨rfl, rfl⟩
 ·
  rw [if_neg h]
  generalize Lib.indexByte l 10 = x at hc h
  have e1 : ((0 : Int) ≤ x) = False := eq_false h
  go_enter Tryz.func41, Tryz.ntmps41
  go_wp2_with (go_at_call 58; refine hc.mono ?_; rintro e w' ⟨rfl, rfl⟩)
  go_ret
  exact ⟨rfl, rfl⟩
set_option maxRecDepth 20000 in
set_option maxHeartbeats 4000000 in
theorem noteLength_any (l : List UInt8) (w : World) (hR : Rdv w) (h2 : 2 ≤ l.length) (hl : l.length ≤ 1048576000) : Calls Tryz.prog 42 #[.string (bsA l)] w fun e w' => e = .returned (.int .i64 (noteN l)) ∧ w' = w := by
 have hz := bsA_size l
 obtain ⟨m, hm⟩ := hR.mx
 have hc := Tryz.strings_Index (bsA (l.drop 2)) ⟨#[42, 47]⟩ m w (by rw [bsA_size]; simp; omega) hm
 rw [bsA_list] at hc
 change Calls Tryz.prog 59 _ w (fun e w' => e = .returned (.int .i64 (Lib.index (l.drop 2) [42, 47])) ∧ w' = w) at hc
 have hx := ext_drop' l 2
 have hle := Lib.index_le (l.drop 2) [42, 47]
 rw [List.length_drop] at hle
 unfold noteN
 by_cases h : Lib.index (l.drop 2) [42, 47] < 0
 ·
  rw [if_pos h]
  generalize Lib.index (l.drop 2) [42, 47] = x at hc h hle ⊢
  have e1 : (x < (0 : Int)) = True := eq_true h
  go_enter Tryz.func42, Tryz.ntmps42
  go_wp2_with (go_at_call 59; refine hc.mono ?_; rintro e w' ⟨rfl, rfl⟩)
  go_ret
  exact ⟨rfl, rfl⟩
 ·
  rw [if_neg h]
  generalize Lib.index (l.drop 2) [42, 47] = x at hc h hle ⊢
  have e1 : (x < (0 : Int)) = False := eq_false h
  go_enter Tryz.func42, Tryz.ntmps42
  go_wp2_with (go_at_call 59; refine hc.mono ?_; rintro e w' ⟨rfl, rfl⟩)
  go_ret
  exact ⟨ret_int (by go_num), rfl⟩
set_option maxRecDepth 20000 in
set_option maxHeartbeats 4000000 in
theorem milliseconds_any (u : List UInt8) (w : World) : Calls Tryz.prog 139 #[.string (bsA u)] w fun e w' => e = .returned (.int .i64 (msN u)) ∧ w' = w := by
 have ht := bsA_tl u
 unfold msN
 by_cases h0 : u = [109, 115]
 ·
  rw [if_pos h0]
  subst h0
  go_enter Tryz.func139, Tryz.ntmps139
  go_wp2
  go_ret
  exact ⟨rfl, rfl⟩
 have b0 : (u == [109, 115]) = false := by rw [beq_eq_false_iff_ne]; exact h0
 rw [if_neg h0]
 clear h0
 by_cases h1 : u = [115]
 ·
  rw [if_pos h1]
  subst h1
  go_enter Tryz.func139, Tryz.ntmps139
  go_wp2
  go_ret
  exact ⟨rfl, rfl⟩
 have b1 : (u == [115]) = false := by rw [beq_eq_false_iff_ne]; exact h1
 rw [if_neg h1]
 clear h1
 by_cases h2 : u = [109]
 ·
  rw [if_pos h2]
  subst h2
  go_enter Tryz.func139, Tryz.ntmps139
  go_wp2
  go_ret
  exact ⟨rfl, rfl⟩
 have b2 : (u == [109]) = false := by rw [beq_eq_false_iff_ne]; exact h2
 rw [if_neg h2]
 clear h2
 by_cases h3 : u = [104]
 ·
  rw [if_pos h3]
  subst h3
  go_enter Tryz.func139, Tryz.ntmps139
  go_wp2
  go_ret
  exact ⟨rfl, rfl⟩
 have b3 : (u == [104]) = false := by rw [beq_eq_false_iff_ne]; exact h3
 rw [if_neg h3]
 clear h3
 by_cases h4 : u = [100]
 ·
  rw [if_pos h4]
  subst h4
  go_enter Tryz.func139, Tryz.ntmps139
  go_wp2
  go_ret
  exact ⟨rfl, rfl⟩
 have b4 : (u == [100]) = false := by rw [beq_eq_false_iff_ne]; exact h4
 rw [if_neg h4]
 clear h4
 go_enter Tryz.func139, Tryz.ntmps139
 go_wp2
 go_ret
 exact ⟨rfl, rfl⟩
set_option maxRecDepth 20000 in
set_option maxHeartbeats 4000000 in
theorem signLength_any (c : UInt8) (r : List UInt8) (w : World) (hl : (c :: r).length ≤ 1048576000) : Calls Tryz.prog 103 #[.string (bsA (c :: r))] w fun e w' => e = .returned (.int .i64 (sgnN (c :: r))) ∧ w' = w := by
 have hz := bsA_size (c :: r)
 have hx := ext_take (c :: r) 2
 have ht := bsA_tl ((c :: r).take 2)
 have h0 : (bsA (c :: r))[0]'(by rw [hz]; simp) = c := rfl
 have hc := Tryz.strings_IndexByte ⟨#[60, 62, 61, 43, 45, 42, 47, 37, 40, 41, 44, 46, 59, 91, 93, 35]⟩ (c.toNat : Int) w
 have hcc : ((c.toNat : Int).toNat.toUInt8) = c := by simp
 rw [hcc] at hc
 change Calls Tryz.prog 58 _ w (fun e w' => e = .returned (.int .i64 (Lib.indexByte shortS c)) ∧ w' = w) at hc
 have hS : sgnN (c :: r) = if sgn2 (c :: r) then 2 else if Lib.indexByte shortS c ≥ 0 then 1 else 0 := rfl
 have hlen : (c :: r).length = r.length + 1 := rfl
 rcases Nat.eq_zero_or_pos r.length with hr | hr
 ·
  have hs2 : sgn2 (c :: r) = false := by unfold sgn2; rw [hlen, hr]; rfl
  rw [hS, hs2]
  obtain rfl := List.length_eq_zero_iff.1 hr
  rw [if_neg (by simp)]
  clear hx ht
  by_cases h : Lib.indexByte shortS c ≥ 0
  ·
   rw [if_pos h]
   generalize Lib.indexByte shortS c = x at hc h
   have e1 : ((0 : Int) ≤ x) = True := eq_true h
   clear hS h
   go_enter Tryz.func103, Tryz.ntmps103
   go_wp2_with (go_at_call 58; refine hc.mono ?_; rintro e w' ⟨rfl, rfl⟩)
   go_ret
   exact ⟨rfl, rfl⟩
  ·
   rw [if_neg h]
   generalize Lib.indexByte shortS c = x at hc h
   have e1 : ((0 : Int) ≤ x) = False := eq_false h
   clear hS h
   go_enter Tryz.func103, Tryz.ntmps103
   go_wp2_with (go_at_call 58; refine hc.mono ?_; rintro e w' ⟨rfl, rfl⟩)
   go_ret
   exact ⟨rfl, rfl⟩
 ·
  have hg : 1 < (c :: r).length := by rw [hlen]; omega
  cases b0 : (c :: r).take 2 == [60, 61] with
  | true =>
   have hs2 : sgn2 (c :: r) = true := by unfold sgn2; rw [b0, decide_eq_true hg]; simp
   rw [hS, hs2, if_pos rfl]
   generalize (c :: r).take 2 = t at *
   clear hS hs2
   go_enter Tryz.func103, Tryz.ntmps103
   go_wp2
   go_ret
   exact ⟨rfl, rfl⟩
  | false =>
   cases b1 : (c :: r).take 2 == [62, 61] with
   | true =>
    have hs2 : sgn2 (c :: r) = true := by unfold sgn2; rw [b1, decide_eq_true hg]; simp
    rw [hS, hs2, if_pos rfl]
    generalize (c :: r).take 2 = t at *
    clear hS hs2
    go_enter Tryz.func103, Tryz.ntmps103
    go_wp2
    go_ret
    exact ⟨rfl, rfl⟩
   | false =>
    cases b2 : (c :: r).take 2 == [33, 61] with
    | true =>
     have hs2 : sgn2 (c :: r) = true := by unfold sgn2; rw [b2, decide_eq_true hg]; simp
     rw [hS, hs2, if_pos rfl]
     generalize (c :: r).take 2 = t at *
     clear hS hs2
     go_enter Tryz.func103, Tryz.ntmps103
     go_wp2
     go_ret
     exact ⟨rfl, rfl⟩
    | false =>
     cases b3 : (c :: r).take 2 == [45, 62] with
     | true =>
      have hs2 : sgn2 (c :: r) = true := by unfold sgn2; rw [b3, decide_eq_true hg]; simp
      rw [hS, hs2, if_pos rfl]
      generalize (c :: r).take 2 = t at *
      clear hS hs2
      go_enter Tryz.func103, Tryz.ntmps103
      go_wp2
      go_ret
      exact ⟨rfl, rfl⟩
     | false =>
      have hs2 : sgn2 (c :: r) = false := by unfold sgn2; rw [b0, b1, b2, b3]; simp
      rw [hS, hs2, if_neg (by simp)]
      generalize (c :: r).take 2 = t at *
      by_cases h : Lib.indexByte shortS c ≥ 0
      ·
       rw [if_pos h]
       generalize Lib.indexByte shortS c = x at hc h
       have e1 : ((0 : Int) ≤ x) = True := eq_true h
       clear hS h
       go_enter Tryz.func103, Tryz.ntmps103
       go_wp2_with (go_at_call 58; refine hc.mono ?_; rintro e w' ⟨rfl, rfl⟩)
       go_ret
       exact ⟨rfl, rfl⟩
      ·
       rw [if_neg h]
       generalize Lib.indexByte shortS c = x at hc h
       have e1 : ((0 : Int) ≤ x) = False := eq_false h
       clear hS h
       go_enter Tryz.func103, Tryz.ntmps103
       go_wp2_with (go_at_call 58; refine hc.mono ?_; rintro e w' ⟨rfl, rfl⟩)
       go_ret
       exact ⟨rfl, rfl⟩
set_option maxRecDepth 20000 in
set_option maxHeartbeats 4000000 in
theorem sign_any (c : UInt8) (r : List UInt8) (w : World) (hl : (c :: r).length ≤ 1048576000) : Calls Tryz.prog 65 #[.string (bsA (c :: r))] w fun e w' => e = .returned (.tuple #[tkV (sgnP (c :: r)).1 0, .int .i64 (sgnP (c :: r)).2.1, .int .i64 (sgnP (c :: r)).2.2]) ∧ Below w.heap.size w w' := by
 have hz := bsA_size (c :: r)
 have hc := fun w1 => signLength_any c r w1 hl
 have hle : sgnN (c :: r) ≤ (c :: r).length := by
  unfold sgnN
  split
  · rename_i h; unfold sgn2 at h; simp only [Bool.and_eq_true, decide_eq_true_eq] at h; omega
  ·
   split
   · simp
   · simp
 unfold sgnP tkV
 generalize sgnN (c :: r) = n at hc hle ⊢
 by_cases h : n = 0
 ·
  subst h
  rw [if_pos rfl]
  go_enter Tryz.func65, Tryz.ntmps65
  go_wp2_with (go_at_call 103; refine (hc _).mono ?_; rintro e w' ⟨rfl, rfl⟩)
  refine bodyPost_ret (v := .tuple #[.agg #[.int .i64 0, .string ⟨#[]⟩, .int .i64 0, .int .i64 0], .int .i64 0, .int .i64 50]) (by simp [results, Tryz.results65, go_sem]) rfl ⟨rfl, (Bel.out (by repeat (first | exact Bel.refl _ | assumption | refine Bel.drew ?_ | refine Bel.drewN ?_ _ | refine Bel.alloc ?_ _ | refine Bel.setCell ?_ (by simp <;> omega) _ | refine Bel.step ?_ (by assumption))))⟩
 ·
  have hx := ext_take (c :: r) n
  rw [if_neg h]
  have e1 : ((n : Int) == 0) = false := by rw [beq_eq_false_iff_ne]; omega
  go_enter Tryz.func65, Tryz.ntmps65
  go_wp2_with (go_at_call 103; refine (hc _).mono ?_; rintro e w' ⟨rfl, rfl⟩)
  refine bodyPost_ret (v := .tuple #[.agg #[.int .i64 6, .string (bsA ((c :: r).take n)), .int .i64 0, .int .i64 0], .int .i64 n, .int .i64 0]) (by simp [results, Tryz.results65, go_sem]) rfl ⟨rfl, (Bel.out (by repeat (first | exact Bel.refl _ | assumption | refine Bel.drew ?_ | refine Bel.drewN ?_ _ | refine Bel.alloc ?_ _ | refine Bel.setCell ?_ (by simp <;> omega) _ | refine Bel.step ?_ (by assumption))))⟩
end Go.Proofs.YtgdndahhledikaaGreatDoor
namespace Go.Proofs.YtgdndahhledikaaGreatDoor
open Go.ChangeShapes Go.WideShapes Go.ChangeAt Go.RowKit
theorem atoi_any (d : List UInt8) (w : World) (hR : Rdv w) (hl : d.length ≤ 1048576000) : Calls Tryz.prog 172 #[.string (bsA d)] w fun e w' => ((∃ v, Lib.atoiAll d = .ok v ∧ e = .returned (.tuple #[.int .i64 v, .nilIface])) ∨ ((∀ v, Lib.atoiAll d ≠ .ok v) ∧ ∃ x p, e = .returned (.tuple #[.int .i64 x, .iface 161 p]))) ∧ Below w.heap.size w w' := by
 have hz := bsA_size d
 obtain ⟨ev, hv, hev⟩ := hR.es
 obtain ⟨ev2, hv2, hev2⟩ := hR.er
 cases hd : Lib.atoiAll d with
 | ok v =>
  refine (Tryz.strconv_Atoi_ok (bsA d) (by omega) v (by rw [bsA_list]; exact hd) w).mono fun e w' h => ⟨Or.inl ⟨v, rfl, h.1⟩, ?_⟩
  rcases h.2 with rfl | ⟨t, rfl⟩
  · exact Below.refl _ _
  · exact Lib.bytesWorld_below _ _ _
 | «syntax» =>
  refine (Tryz.strconv_Atoi_syntax (bsA d) (by omega) (by rw [bsA_list]; exact hd) ev w hv hev).mono fun e w' h => ?_
  obtain ⟨N, he, _, _, hb⟩ := h
  exact ⟨Or.inr ⟨fun v e => (by cases e), _, _, he⟩, hb⟩
 | range =>
  refine (Tryz.strconv_Atoi_range (bsA d) (by omega) (by rw [bsA_list]; exact hd) ev2 w hv2 hev2).mono fun e w' h => ?_
  obtain ⟨N, he, _, _, hb⟩ := h
  exact ⟨Or.inr ⟨fun v e => (by cases e), _, _, he⟩, hb⟩
set_option maxRecDepth 20000 in
set_option maxHeartbeats 4000000 in
theorem whole_any (k : Int) (d : List UInt8) (w : World) (hR : Rdv w) (hl : d.length ≤ 1048576000) : Calls Tryz.prog 143 #[.int .i64 k, .string (bsA d)] w fun e w' => e = .returned (.tuple #[tkV (whlP k d).1 0, .int .i64 (whlP k d).2]) ∧ Below w.heap.size w w' := by
 have hc := atoi_any d (w.alloc tokO) (hR.alloc _) hl
 have hW : ∀ v, Lib.atoiAll d = .ok v → whlP k d = ((k, [], v), 0) := fun v h => by unfold whlP; rw [h]
 have hN : (∀ v, Lib.atoiAll d ≠ .ok v) → whlP k d = (tk0, 51) := fun h => by
  unfold whlP
  split
  · rename_i v e; exact absurd e (h v)
  · rfl
 have HW : Hid _ := hW
 have HN : Hid _ := hN
 clear hW hN hR
 go_enter Tryz.func143, Tryz.ntmps143
 go_wp2_with fail
 refine hc.mono ?_
 rintro e w2 ⟨⟨v, hv, rfl⟩ | ⟨hv, x, p, rfl⟩, hb⟩
 ·
  have hE := HW.out v hv
  have HE : Hid _ := hE
  obtain ⟨y0, y1, y2, y3, f0, f1, f2, f3⟩ := tokBox hb
  have hB : Below w.heap.size w w2 := ((Below.refl _ _).alloc (Nat.le_refl _) _).trans (hb.mono (by simp))
  clear hb hc hv hE HW HN
  go_wp2
  refine bodyPost_ret (v := .tuple #[.agg #[.int .i64 k, .string ⟨#[]⟩, .int .i64 v, .int .i64 0], .int .i64 0]) (by simp [results, Tryz.results143, go_sem, y0, y1, y2, y3]) rfl ⟨by rw [HE.out]; rfl, (((hB.setCell (p := ⟨w.heap.size, 0, none⟩) (Nat.le_refl _) _).setCell (p := ⟨w.heap.size, 1, none⟩) (Nat.le_refl _) _).setCell (p := ⟨w.heap.size, 2, none⟩) (Nat.le_refl _) _).setCell (p := ⟨w.heap.size, 3, none⟩) (Nat.le_refl _) _⟩
 ·
  have hE := HN.out hv
  have HE : Hid _ := hE
  obtain ⟨y0, y1, y2, y3, f0, f1, f2, f3⟩ := tokBox hb
  have hB : Below w.heap.size w w2 := ((Below.refl _ _).alloc (Nat.le_refl _) _).trans (hb.mono (by simp))
  clear hb hc hv hE HW HN
  go_wp2
  refine bodyPost_ret (v := .tuple #[.agg #[.int .i64 0, .string ⟨#[]⟩, .int .i64 0, .int .i64 0], .int .i64 51]) (by simp [results, Tryz.results143, go_sem, y0, y1, y2, y3]) rfl ⟨by rw [HE.out]; rfl, (((hB.setCell (p := ⟨w.heap.size, 0, none⟩) (Nat.le_refl _) _).setCell (p := ⟨w.heap.size, 1, none⟩) (Nat.le_refl _) _).setCell (p := ⟨w.heap.size, 2, none⟩) (Nat.le_refl _) _).setCell (p := ⟨w.heap.size, 3, none⟩) (Nat.le_refl _) _⟩
set_option maxRecDepth 20000 in
set_option maxHeartbeats 4000000 in
theorem fraction_any (l : List UInt8) (w : World) (hl : l.length ≤ 1048576000) : Calls Tryz.prog 141 #[.string (bsA l)] w fun e w' => e = .returned (.string (bsA (frcL l))) ∧ w' = w := by
 have hz := bsA_size l
 have hc := Tryz.strings_HasPrefix (bsA l) ⟨#[46]⟩ w
 rw [bsA_list] at hc
 change Calls Tryz.prog 40 _ w (fun e w' => e = .returned (.bool (Lib.hasPrefix l [46])) ∧ w' = w) at hc
 unfold frcL
 cases hp : Lib.hasPrefix l [46] with
 | false =>
  rw [hp] at hc
  go_enter Tryz.func141, Tryz.ntmps141
  go_wp2_with (go_at_call 40; refine hc.mono ?_; rintro e w' ⟨rfl, rfl⟩)
  go_ret
  exact ⟨rfl, rfl⟩
 | true =>
  rw [hp] at hc
  have h1 : 1 ≤ l.length := by
   cases l with
   | nil => simp [Lib.hasPrefix] at hp
   | cons c r => simp
  have hd := leading_isDigit l.tail w (by simp; omega)
  have hx : (bsA l).extract 1 l.length = bsA l.tail := by rw [ext_drop', List.drop_one]
  go_enter Tryz.func141, Tryz.ntmps141
  go_wp2_with (first | (go_at_call 40; refine hc.mono ?_; rintro e w' ⟨rfl, rfl⟩) | (go_at_call 94; refine hd.mono ?_; rintro e w' ⟨rfl, rfl⟩))
  go_ret
  exact ⟨rfl, rfl⟩
end Go.Proofs.YtgdndahhledikaaGreatDoor
namespace Go.Proofs.YtgdndahhledikaaGreatDoor
open Go.ChangeShapes Go.WideShapes Go.ChangeAt Go.RowKit
theorem Rdv.range {w : World} (h : Rdv w) : w.rangeAt 1 0 wdV := by
 intro j v hj
 unfold wdV at hj
 rw [List.getElem?_map] at hj
 obtain ⟨x, hx, rfl⟩ := Option.map_eq_some_iff.1 hj
 have hlt : j < 58 := (List.getElem?_eq_some_iff.1 hx).1
 rw [Nat.zero_add, h.words j hlt]
 unfold wd
 rw [List.getD_eq_getElem?_getD, hx]; rfl
theorem index47 (V : List Value) (_hV : V.length = 58) (m : Nat) (hm : m < 58) (x : ByteArray) (hx : V[m]? = some (.string x)) (w : World) : (Instr.index 110 (.agg V.toArray) (.int .i64 m)).run Tryz.prog w = .ok (.string x) w := by
 have h0 : (0 : Int) ≤ (m : Int) ∧ (m : Int) < ((58 : Nat) : Int) := by omega
 simp [Instr.index, run_underlying Tryz.underlying110, asIntOf, h0, go_sem, hx]
 intro h; omega
set_option maxRecDepth 20000 in
set_option maxHeartbeats 4000000 in
theorem isWord_any (l : List UInt8) (w : World) (hR : Rdv w) : Calls Tryz.prog 97 #[.string (bsA l)] w fun e w' => e = .returned (.bool (wdL.contains l)) ∧ w' = w := by
 have HV : Hid (w.rangeAt 1 0 wdV) := hR.range
 have HVm : Hid (∀ m, m < 58 → wdV[m]? = some (.string (bsA (wd m)))) := fun m h => wdV_at h
 have hVl : wdV.length = 58 := rfl
 have hi : Hid ((Tryz.prog.info? 110).map (·.size) = some wdV.length) := by show _ = _; rw [hVl]; kernel_rfl
 clear hR
 generalize wdV = V at HV HVm hVl hi
 go_enter Tryz.func97, Tryz.ntmps97
 go_upto_region 1 with fail
 refine wp_region_list ?_
 refine wpList_load_mid rfl 110 _ rfl 1 0 rfl V _ HV.out Tryz.underlying110 rfl hi.out ?_
 go_wp2_with fail
 go_loopw [6] (fun i wr => ∃ m : Nat, m ≤ 58 ∧ i = .int .i64 m ∧ (wdL.drop m).contains l = wdL.contains l ∧ wr = w) (fun i _ => 58 - (intOf i).toNat)
 case atStart => exact ⟨0, Nat.zero_le _, rfl, rfl, rfl⟩
 case round =>
  obtain ⟨m, hm, rfl, hH, rfl⟩ := hrel
  have HH : Hid _ := hH
  clear hH
  rcases Nat.lt_or_ge m 58 with hlt | hge
  ·
   have hx := index47 V hVl m hlt _ (HVm.out m hlt)
   have HD : Hid ((wdL.drop m).contains l = ((wd m == l) || (wdL.drop (m + 1)).contains l)) := by
    show _ = _
    rw [wd_drop hlt, List.contains_cons, BEq.comm (a := l)]
   have ht := bsA_tl (wd m)
   have ht2 := bsA_tl l
   cases hq : (wd m == l) with
   | true =>
    have HE : Hid (true = wdL.contains l) := by have h1 := HD.out; rw [hq, HH.out] at h1; show true = _; rw [h1]; rfl
    generalize wd m = x at hx ht hq
    go_wp2
    go_ret
    exact ⟨ret_bool HE.out, rfl⟩
   | false =>
    have HE : Hid ((wdL.drop (m + 1)).contains l = wdL.contains l) := by have h1 := HD.out; rw [hq, HH.out] at h1; show _ = _; rw [h1]; simp
    generalize wd m = x at hx ht hq
    go_wp2
    go_roundw
    case rel => exact ⟨m + 1, by omega, by go_num, HE.out, trivial⟩
    case measure => simp [intOf]; omega
  ·
   obtain rfl : m = 58 := by omega
   have HE : Hid (false = wdL.contains l) := by show false = _; rw [← HH.out]; rfl
   go_wp2
   go_ret
   exact ⟨ret_bool HE.out, rfl⟩
end Go.Proofs.YtgdndahhledikaaGreatDoor
namespace Go.Proofs.YtgdndahhledikaaGreatDoor
open Go.ChangeShapes Go.WideShapes Go.ChangeAt Go.RowKit
set_option maxRecDepth 20000 in
set_option maxHeartbeats 1000000 in
theorem name_any (l : List UInt8) (w : World) (hR : Rdv w) (hl : l.length ≤ 1048576000) : Calls Tryz.prog 61 #[.string (bsA l)] w fun e w' => e = .returned (.tuple #[tkV (namP l).1 0, .int .i64 (namP l).2.1, .int .i64 (namP l).2.2]) ∧ Below w.heap.size w w' := by
 have h1 := leading_isPart l (w.alloc tokO) hl
 have h2 := Tryz.strings_ToLower_ascii (bsA (l.take (ldN ptB l))) (w.alloc tokO) (by rw [bsA_size, List.length_take]; omega) (by rw [bsA_list]; exact ld_ascii l)
 rw [bsA_list] at h2
 change Calls Tryz.prog 96 _ _ (fun e w' => e = .returned (.string (bsA (Lib.toLowerA (l.take (ldN ptB l))))) ∧ Below (w.alloc tokO).heap.size (w.alloc tokO) w') at h2
 have hlt : (l.take (ldN ptB l)).length ≤ 1048576000 := by rw [List.length_take]; omega
 unfold namP tkV
 generalize l.take (ldN ptB l) = t at h1 h2 hlt ⊢
 have h3 := fun w2 (hb : Below (w.alloc tokO).heap.size (w.alloc tokO) w2) => isWord_any (Lib.toLowerA t) w2 ((hR.alloc tokO).below hb)
 generalize Lib.toLowerA t = s at h2 h3 ⊢
 have hz := bsA_size t
 clear hR
 cases hw : wdL.contains s with
 | true =>
  simp only [hw] at h3 ⊢
  go_enter Tryz.func61, Tryz.ntmps61
  go_wp2_with fail
  refine h1.mono ?_
  rintro e w' ⟨rfl, rfl⟩
  go_wp2_with fail
  refine h2.mono ?_
  rintro e w2 ⟨rfl, hb⟩
  have h4 := h3 w2 hb
  obtain ⟨y0, y1, y2, y3, f0, f1, f2, f3⟩ := tokBox hb
  have hB : Below w.heap.size w w2 := ((Below.refl _ _).alloc (Nat.le_refl _) _).trans (hb.mono (by simp))
  clear hb h1 h2 h3
  go_wp2_with fail
  refine h4.mono ?_
  rintro e w' ⟨rfl, rfl⟩
  go_wp2
  refine bodyPost_ret (v := .tuple #[.agg #[.int .i64 2, .string (bsA s), .int .i64 0, .int .i64 0], .int .i64 t.length, .int .i64 0]) (by simp [results, Tryz.results61, go_sem, y0, y1, y2, y3]) rfl ⟨rfl, (((hB.setCell (p := ⟨w.heap.size, 0, none⟩) (Nat.le_refl _) _).setCell (p := ⟨w.heap.size, 1, none⟩) (Nat.le_refl _) _).setCell (p := ⟨w.heap.size, 2, none⟩) (Nat.le_refl _) _).setCell (p := ⟨w.heap.size, 3, none⟩) (Nat.le_refl _) _⟩
 | false =>
  simp only [hw] at h3 ⊢
  go_enter Tryz.func61, Tryz.ntmps61
  go_wp2_with fail
  refine h1.mono ?_
  rintro e w' ⟨rfl, rfl⟩
  go_wp2_with fail
  refine h2.mono ?_
  rintro e w2 ⟨rfl, hb⟩
  have h4 := h3 w2 hb
  obtain ⟨y0, y1, y2, y3, f0, f1, f2, f3⟩ := tokBox hb
  have hB : Below w.heap.size w w2 := ((Below.refl _ _).alloc (Nat.le_refl _) _).trans (hb.mono (by simp))
  clear hb h1 h2 h3
  go_wp2_with fail
  refine h4.mono ?_
  rintro e w' ⟨rfl, rfl⟩
  go_wp2
  refine bodyPost_ret (v := .tuple #[.agg #[.int .i64 1, .string (bsA t), .int .i64 0, .int .i64 0], .int .i64 t.length, .int .i64 0]) (by simp [results, Tryz.results61, go_sem, y0, y1, y2, y3]) rfl ⟨rfl, (((hB.setCell (p := ⟨w.heap.size, 0, none⟩) (Nat.le_refl _) _).setCell (p := ⟨w.heap.size, 1, none⟩) (Nat.le_refl _) _).setCell (p := ⟨w.heap.size, 2, none⟩) (Nat.le_refl _) _).setCell (p := ⟨w.heap.size, 3, none⟩) (Nat.le_refl _) _⟩
set_option maxRecDepth 20000 in
set_option maxHeartbeats 1000000 in
theorem decimal_no (d b : List UInt8) (w : World) (hb4 : 4 < b.length) (hlb : b.length ≤ 1048576000) : Calls Tryz.prog 142 #[.string (bsA d), .string (bsA b)] w fun e w' => e = .returned (.tuple #[tkV (decP d b).1 0, .int .i64 (decP d b).2]) ∧ Below w.heap.size w w' := by
 have hz := bsA_size b
 unfold decP tkV
 rw [if_pos hb4]
 go_enter Tryz.func142, Tryz.ntmps142
 go_wp2
 refine bodyPost_ret (v := .tuple #[.agg #[.int .i64 0, .string ⟨#[]⟩, .int .i64 0, .int .i64 0], .int .i64 50]) (by simp [results, Tryz.results142, go_sem]) rfl ⟨rfl, (Bel.out (by repeat (first | exact Bel.refl _ | assumption | refine Bel.drew ?_ | refine Bel.drewN ?_ _ | refine Bel.alloc ?_ _ | refine Bel.setCell ?_ (by simp <;> omega) _ | refine Bel.step ?_ (by assumption))))⟩
set_option maxRecDepth 20000 in
set_option maxHeartbeats 1000000 in
theorem decimal_yes (d b : List UInt8) (w : World) (hR : Rdv w) (hb4 : b.length ≤ 4) (hld : d.length ≤ 104857600) : Calls Tryz.prog 142 #[.string (bsA d), .string (bsA b)] w fun e w' => e = .returned (.tuple #[tkV (decP d b).1 0, .int .i64 (decP d b).2]) ∧ Below w.heap.size w w' := by
 have hz := bsA_size b
 have h1 := Tryz.strings_Repeat ⟨#[48]⟩ (4 - b.length) (w.alloc tokO) (by omega) (by show 1 * _ ≤ _; omega)
 change Calls Tryz.prog 171 _ _ (fun e w' => e = .returned (.string (bsA (Lib.repeatL [48] (4 - b.length)))) ∧ Below (w.alloc tokO).heap.size (w.alloc tokO) w') at h1
 have hrl : (Lib.repeatL [48] (4 - b.length)).length ≤ 4 := by rw [Lib.repeatL_length]; simp
 have h2 := fun w2 (hb : Below (w.alloc tokO).heap.size (w.alloc tokO) w2) => whole_any 4 (d ++ (b ++ Lib.repeatL [48] (4 - b.length))) w2 ((hR.alloc tokO).below hb) (by simp only [List.length_append]; omega)
 unfold decP
 rw [if_neg (by omega), List.append_assoc]
 generalize Lib.repeatL [48] (4 - b.length) = z at h1 h2 hrl ⊢
 have hzd := bsA_size d
 have hzz := bsA_size z
 have hdb := bsA_size (d ++ b)
 simp only [List.length_append] at hdb
 have a1 := app_bsA d b
 have a2 := app_bsA (d ++ b) z
 generalize whlP 4 (d ++ (b ++ z)) = q at h2 ⊢
 obtain ⟨⟨q1, q2, q3⟩, q4⟩ := q
 unfold tkV at h2 ⊢
 dsimp only at h2 ⊢
 have hsub : (4 : Int) - (b.length : Int) = ((4 - b.length : Nat) : Int) := by omega
 clear hR
 go_enter Tryz.func142, Tryz.ntmps142
 go_wp2_with fail
 refine h1.mono ?_
 rintro e w2 ⟨rfl, hb⟩
 have h3 := h2 w2 hb
 clear h1 h2
 go_wp2_with fail
 refine h3.mono ?_
 rintro e w3 ⟨rfl, hb3⟩
 have hb' : Below (w.alloc tokO).heap.size (w.alloc tokO) w3 := hb.trans (hb3.mono hb.size)
 obtain ⟨y0, y1, y2, y3, f0, f1, f2, f3⟩ := tokBox hb'
 have hB : Below w.heap.size w w3 := ((Below.refl _ _).alloc (Nat.le_refl _) _).trans (hb'.mono (by simp))
 clear hb hb3 hb' h3
 go_wp2
 refine bodyPost_ret (v := .tuple #[.agg #[.int .i64 q1, .string (bsA q2), .int .i64 q3, .int .i64 0], .int .i64 q4]) (by simp [results, Tryz.results142, go_sem, y0, y1, y2, y3]) rfl ⟨rfl, (((hB.setCell (p := ⟨w.heap.size, 0, none⟩) (Nat.le_refl _) _).setCell (p := ⟨w.heap.size, 1, none⟩) (Nat.le_refl _) _).setCell (p := ⟨w.heap.size, 2, none⟩) (Nat.le_refl _) _).setCell (p := ⟨w.heap.size, 3, none⟩) (Nat.le_refl _) _⟩
end Go.Proofs.YtgdndahhledikaaGreatDoor
namespace Go.Proofs.YtgdndahhledikaaGreatDoor
open Go.Lib
theorem replaceK_hlv : ∀ l : List UInt8, replaceK [39, 39] [39] (count l [39, 39]) l = hlv l
 | [] => rfl
 | [c] => by
  have h : index [c] [39, 39] = -1 := by simp [index]
  rw [count_miss h]
  rfl
 | c :: d :: r => by
  by_cases h : c = 39 ∧ d = 39
  ·
   obtain ⟨rfl, rfl⟩ := h
   have hi : index (39 :: 39 :: r) [39, 39] = (0 : Nat) := by simp [index]
   have ih := replaceK_hlv r
   rw [count_hit (by simp) hi, Nat.add_comm, replaceK_hit _ _ _ _ 0 hi]
   simp [hlv, ih]
  ·
   have ih := replaceK_hlv (d :: r)
   have hp : ([39, 39] : List UInt8).isPrefixOf (c :: d :: r) = false := by
    simp only [List.isPrefixOf, Bool.and_true]
    rcases Decidable.not_and_iff_or_not.1 h with h | h
    · simp [show ¬ (39 : UInt8) = c from fun e => h e.symm]
    · simp [show ¬ (39 : UInt8) = d from fun e => h e.symm]
   rw [show hlv (c :: d :: r) = c :: hlv (d :: r) from by rw [hlv, if_neg h], ← ih]
   rcases index_spec (d :: r) [39, 39] with ⟨hm, _⟩ | ⟨i, hi, _⟩
   ·
    have hm' : index (c :: d :: r) [39, 39] = -1 := by rw [index, hp, hm]; rfl
    rw [count_miss hm, count_miss hm']
    rfl
   ·
    have hi' : index (c :: d :: r) [39, 39] = ((i + 1 : Nat) : Int) := by
     rw [index, hp, hi]
     have : ((i : Int) == -1) = false := by simp
     simp [this]
    have e : i + 1 + 2 = (i + 2) + 1 := by omega
    rw [count_hit (by simp) hi, count_hit (by simp) hi', Nat.add_comm 1, Nat.add_comm 1, replaceK_hit _ _ _ _ _ hi', replaceK_hit _ _ _ _ _ hi]
    simp [e]
theorem replaceAll_hlv (l : List UInt8) : replaceAll l [39, 39] [39] = hlv l := by
 unfold replaceAll replace
 rw [if_neg (by decide)]
 have e : replaceNum l [39, 39] (-1) = count l [39, 39] := by unfold replaceNum; rw [if_pos (Or.inl (by omega))]
 rw [e]
 exact replaceK_hlv l
end Go.Proofs.YtgdndahhledikaaGreatDoor
namespace Go.Proofs.YtgdndahhledikaaGreatDoor
open Go.ChangeShapes Go.WideShapes Go.ChangeAt Go.RowKit
/- Lengths. -/
end Go.Proofs.YtgdndahhledikaaGreatDoor
