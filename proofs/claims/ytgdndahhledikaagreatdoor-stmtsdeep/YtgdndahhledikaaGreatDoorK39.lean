/- YNx, YTm. -/
import Derived.Test.YtgdndahhledikaaGreatDoorK38
import Derived.ScopeJumps
import Derived.WalkMore
import Derived.Laws.AppendOwn
import Derived.Laws.OwnMore
import Derived.OwnWalk
import Derived.Lib.LazyBuf
namespace Go.Proofs.YtgdndahhledikaaGreatDoor
open Go.ChangeShapes Go.WideShapes Go.ChangeAt Go.RowKit
def nxP (s : List UInt8) (a : Nat) : Tk × Int × Int × Int :=
 if (sk (s.drop a)).2 = false then (tk0, (a : Int) + (sk (s.drop a)).1, (a : Int) + (sk (s.drop a)).1, 50)
 else if (s.drop a).drop (sk (s.drop a)).1 = [] then (tk0, (a : Int) + (sk (s.drop a)).1, (a : Int) + (sk (s.drop a)).1, 0)
 else ((tokP ((s.drop a).drop (sk (s.drop a)).1)).1, (a : Int) + (sk (s.drop a)).1, (a : Int) + (sk (s.drop a)).1 + (tokP ((s.drop a).drop (sk (s.drop a)).1)).2.1, (tokP ((s.drop a).drop (sk (s.drop a)).1)).2.2)
theorem nxP_step {s : List UInt8} {a : Nat} (h : 0 < stp (s.drop a)) : nxP s (a + (stp (s.drop a)).toNat) = nxP s a := by
 have e := sk_step h
 have ed : (s.drop a).drop (stp (s.drop a)).toNat = s.drop (a + (stp (s.drop a)).toNat) := List.drop_drop ..
 rw [ed] at e
 have e1 : (sk (s.drop a)).1 = (sk (s.drop (a + (stp (s.drop a)).toNat))).1 + (stp (s.drop a)).toNat := by rw [e]
 have e2 : (sk (s.drop a)).2 = (sk (s.drop (a + (stp (s.drop a)).toNat))).2 := by rw [e]
 have e3 : (s.drop (a + (stp (s.drop a)).toNat)).drop (sk (s.drop (a + (stp (s.drop a)).toNat))).1 = (s.drop a).drop (sk (s.drop a)).1 := by
  rw [List.drop_drop, List.drop_drop, e1]; congr 1; omega
 have e4 : ((a + (stp (s.drop a)).toNat : Nat) : Int) + (sk (s.drop (a + (stp (s.drop a)).toNat))).1 = (a : Int) + (sk (s.drop a)).1 := by rw [e1]; omega
 unfold nxP
 rw [e3, e4, ← e2]
theorem nxP_bad {s : List UInt8} {a : Nat} (h : stp (s.drop a) < 0) : nxP s a = (tk0, (a : Int), (a : Int), 50) := by
 have e := sk_stop (Int.le_of_lt h)
 have e2 : (sk (s.drop a)).2 = false := by rw [e]; simp; omega
 have e1 : (sk (s.drop a)).1 = 0 := by rw [e]
 unfold nxP
 rw [if_pos e2, e1]
 simp
theorem nxP_end {s : List UInt8} {a : Nat} (h : s.drop a = []) : nxP s a = (tk0, (a : Int), (a : Int), 0) := by
 unfold nxP
 rw [h]
 have e : sk [] = (0, true) := rfl
 rw [e]
 simp
theorem nxP_tok {s : List UInt8} {a : Nat} (h : s.drop a ≠ []) (h0 : stp (s.drop a) = 0) : nxP s a = ((tokP (s.drop a)).1, (a : Int), (a : Int) + (tokP (s.drop a)).2.1, (tokP (s.drop a)).2.2) := by
 have e : sk (s.drop a) = (0, true) := by rw [sk_stop (by omega), h0]; rfl
 unfold nxP
 rw [e]
 simp [h]
theorem tok_err {l : List UInt8} (h : (tokP l).2.2 ≠ 0) : (tokP l).2.1 = 0 := by
 unfold tokP at h ⊢
 split
 · next hc => rw [if_pos hc] at h; unfold namP at h; split at h <;> exact absurd rfl h
 ·
  next hc =>
  rw [if_neg hc] at h
  split
  ·
   next hc2 =>
   rw [if_pos hc2] at h
   unfold numP at h ⊢
   split
   · rfl
   · next he => rw [if_neg he] at h; exact absurd rfl h
  ·
   next hc2 =>
   rw [if_neg hc2] at h
   split
   ·
    next hc3 =>
    rw [if_pos hc3] at h
    unfold txtP at h ⊢
    cases hq : quF l.tail with
    | none => rfl
    | some p =>
     obtain ⟨x, n⟩ := p
     rw [hq] at h
     simp only at h ⊢
     split
     · rfl
     · next he => rw [if_neg he] at h; exact absurd rfl h
   ·
    next hc3 =>
    rw [if_neg hc3] at h
    unfold sgnP at h ⊢
    split
    · rfl
    · next he => rw [if_neg he] at h; exact absurd rfl h
theorem tok_len {l : List UInt8} (hl : l ≠ []) : 0 ≤ (tokP l).2.1 ∧ (tokP l).2.1 ≤ l.length := by
 by_cases h : (tokP l).2.2 = 0
 · have := tok_ok hl h; omega
 · rw [tok_err h]; omega
set_option maxRecDepth 20000 in
set_option maxHeartbeats 4000000 in
theorem nextL_any (s : List UInt8) (a : Nat) (w : World) (hR : Rdv w) (ha : a ≤ s.length) (hl : s.length ≤ 104857600) : Calls Tryz.prog 20 #[.string (bsA s), .int .i64 a] w fun e w' => e = .returned (.tuple #[tkV (nxP s a).1 (nxP s a).2.1, .int .i64 (nxP s a).2.2.1, .int .i64 (nxP s a).2.2.2]) ∧ Below w.heap.size w w' := by
 have hz := bsA_size s
 go_enter Tryz.func20, Tryz.ntmps20
 go_wp2
 refine wp_scope_jumps 0 (fun a' w' => w' = w.alloc tokO ∧ ∃ (m : Nat) (u7 u8 u9 u10 u11 u12 u13 u14 u15 u16 u17 u18 u19 u20 u21 u22 u23 u24 u25 u26 u27 u28 u29 u30 u31 u32 u33 u34 u35 u36 u37 u38 u39 u40 u41 u42 u43 u44 u45 u46 u47 u48 u49 u50 u51 u52 u53 u54 u55 u56 u57 u58 u59 u60 u61 : Value), a' = { tmps := #[.string (bsA s), .int .i64 (m : Int), undef, undef, .pointer (some ⟨w.heap.size, 0, none⟩), .int .i64 0, .int .i64 0, u7, u8, u9, u10, u11, u12, u13, u14, u15, u16, u17, u18, u19, u20, u21, u22, u23, u24, u25, u26, u27, u28, u29, u30, u31, u32, u33, u34, u35, u36, u37, u38, u39, u40, u41, u42, u43, u44, u45, u46, u47, u48, u49, u50, u51, u52, u53, u54, u55, u56, u57, u58, u59, u60, u61], defers := [] } ∧ m ≤ s.length ∧ nxP s m = nxP s a) (fun a' _ => s.length - (intOf (a'.tmps.getD 1 undef)).toNat) rfl ?_ ?_
 ·
  go_wp2
  go_step3
  rename_i hK
  apply hK
  clear hK
  change Code.wp _ _ _ _ (w.alloc tokO)
  have HH : Hid (nxP s a = nxP s a) := rfl
  have hx : (bsA s).extract a s.length = bsA (s.drop a) := ext_drop' s a
  have hstep := fun h => (nxP_step (s := s) (a := a) h).trans HH.out
  have hB1 : Below w.heap.size w (w.alloc tokO) := (Below.refl _ _).alloc (Nat.le_refl _) _
  have bo : Box (w.alloc tokO) w.heap.size (.int .i64 0) (.string ⟨#[]⟩) (.int .i64 0) (.int .i64 0) := Box.new w _ _ _ _
  have hR1 := hR.alloc tokO
  generalize hW : w.alloc tokO = W1 at hB1 bo hR1 ⊢
  have hsz := cell_lt bo.c0
  cases hd : s.drop a with
  | nil =>
   have HE : Hid _ := (nxP_end hd).symm.trans HH.out
   rw [hd] at hx
   have htl : (bsA ([] : List UInt8)).toList = [] := bsA_tl []
   obtain ⟨y0, y1, y2, y3, f0, f1, f2, f3⟩ := bo
   clear hstep hd hR1
   go_wp2
   simp only [Exit.jump]
   refine bodyPost_ret (v := .tuple #[.agg #[.int .i64 0, .string ⟨#[]⟩, .int .i64 0, .int .i64 a], .int .i64 a, .int .i64 0]) (by simp [results, Tryz.results20, go_sem, y0, y1, y2, y3]) rfl ⟨by rw [← HE.out]; rfl, ((((hB1.setCell (p := ⟨w.heap.size, 0, none⟩) (Nat.le_refl _) _).setCell (p := ⟨w.heap.size, 1, none⟩) (Nat.le_refl _) _).setCell (p := ⟨w.heap.size, 2, none⟩) (Nat.le_refl _) _).setCell (p := ⟨w.heap.size, 3, none⟩) (Nat.le_refl _) _)⟩
  | cons c r =>
   have hlen : (c :: r).length = s.length - a := by rw [← hd, List.length_drop]
   have hne : s.drop a ≠ [] := by rw [hd]; simp
   have htok := tokenL_any (s.drop a) W1 hR1 hne (by rw [List.length_drop]; omega)
   have hnx := fun h0 => (nxP_tok hne h0).symm.trans HH.out
   have hbad := fun h0 => (nxP_bad (s := s) (a := a) h0).symm.trans HH.out
   rw [hd] at hx htok hnx hstep hbad
   have hb := isBlank_any c.toNat W1
   have hp1 := Tryz.strings_HasPrefix (bsA (c :: r)) ⟨#[45, 45]⟩ W1
   have hp2 := Tryz.strings_HasPrefix (bsA (c :: r)) ⟨#[47, 42]⟩ W1
   rw [bsA_list] at hp1 hp2
   change Calls Tryz.prog 40 _ _ (fun e w' => e = .returned (.bool (Lib.hasPrefix (c :: r) [45, 45])) ∧ w' = _) at hp1
   change Calls Tryz.prog 40 _ _ (fun e w' => e = .returned (.bool (Lib.hasPrefix (c :: r) [47, 42])) ∧ w' = _) at hp2
   have hln := lineLength_any (c :: r) W1
   have hnt := fun h2 => noteLength_any (c :: r) W1 hR1 h2 (by omega)
   have hz2 := bsA_size (c :: r)
   have h0 : 0 < (bsA (c :: r)).size := by rw [hz2]; simp
   have hc : (bsA (c :: r))[0]'h0 = c := rfl
   have hle := stp_le (c :: r)
   have hSt : ((bsA (c :: r)).toList == []) = false := by rw [bsA_tl]; rfl
   generalize bsA (c :: r) = S at hx htok hp1 hp2 hln hnt hz2 h0 hc hSt
   clear hd hne hR1
   cases hbl : blB c.toNat with
   | true =>
    rw [hbl] at hb
    have hs1 : stp (c :: r) = 1 := stp_bl hbl r
    rw [hs1] at hstep
    have HP : Hid _ := hstep (by omega)
    clear hstep htok hnx hbad hp1 hp2 hln hnt hle hs1 bo
    go_wp2_with fail
    refine hb.mono ?_
    rintro e w' ⟨rfl, rfl⟩
    go_wp2
    go_step3
    exact ⟨rfl, hW.symm, a + 1, _, _, _, _, _, _, _, _, _, _, _, _, _, _, _, _, _, _, _, _, _, _, _, _, _, _, _, _, _, _, _, _, _, _, _, _, _, _, _, _, _, _, _, _, _, _, _, _, _, _, _, _, _, _, _, rfl, by simp at hlen; omega, HP.out⟩
   | false =>
    rw [hbl] at hb
    have hs0 : stp (c :: r) = if Lib.hasPrefix (c :: r) [45, 45] then lineN (c :: r) else if Lib.hasPrefix (c :: r) [47, 42] then (if noteN (c :: r) = 0 then -1 else noteN (c :: r)) else 0 := by
     unfold stp
     rw [if_neg (by simp), if_neg (by simp [hbl])]
    cases hd1 : Lib.hasPrefix (c :: r) [45, 45] with
    | true =>
     rw [hd1] at hp1
     rw [if_pos hd1] at hs0
     obtain ⟨r', hr'⟩ := two_of hd1
     have h2 := lineN_dash r'
     rw [← hr'] at h2
     obtain ⟨k, hk⟩ : ∃ k : Nat, lineN (c :: r) = k := ⟨_, (Int.toNat_of_nonneg (by omega)).symm⟩
     rw [hs0, hk] at hstep hle
     rw [hk] at hln
     have HP : Hid _ := hstep (by omega)
     rw [Int.toNat_natCast] at HP
     have hk1 : 1 ≤ k := by omega
     have hk2 : a + k ≤ s.length := by omega
     clear hstep htok hnx hbad hp2 hnt hle hs0 bo hk h2 hr'
     go_wp2_with fail
     refine hb.mono ?_
     rintro e w' ⟨rfl, rfl⟩
     go_wp2_with fail
     refine hp1.mono ?_
     rintro e w' ⟨rfl, rfl⟩
     go_wp2_with fail
     refine hln.mono ?_
     rintro e w' ⟨rfl, rfl⟩
     go_wp2
     go_step3
     exact ⟨rfl, hW.symm, a + k, _, _, _, _, _, _, _, _, _, _, _, _, _, _, _, _, _, _, _, _, _, _, _, _, _, _, _, _, _, _, _, _, _, _, _, _, _, _, _, _, _, _, _, _, _, _, _, _, _, _, _, _, _, _, _, rfl, hk2, HP.out⟩
    | false =>
     rw [hd1] at hp1
     rw [if_neg (by simp [hd1])] at hs0
     cases hd2 : Lib.hasPrefix (c :: r) [47, 42] with
     | true =>
      rw [hd2] at hp2
      rw [if_pos hd2] at hs0
      obtain ⟨r', hr'⟩ := two_of hd2
      have h2 := noteN_le r' 47 42
      rw [← hr'] at h2
      have hnt' := hnt (by rw [hr']; simp)
      by_cases hn0 : noteN (c :: r) = 0
      ·
       rw [if_pos hn0] at hs0
       rw [hn0] at hnt'
       have HE : Hid _ := hbad (by omega)
       obtain ⟨y0, y1, y2, y3, f0, f1, f2, f3⟩ := bo
       clear hstep htok hnx hbad hln hnt hle hs0 h2 hr' hn0
       go_wp2_with fail
       refine hb.mono ?_
       rintro e w' ⟨rfl, rfl⟩
       go_wp2_with fail
       refine hp1.mono ?_
       rintro e w' ⟨rfl, rfl⟩
       go_wp2_with fail
       refine hp2.mono ?_
       rintro e w' ⟨rfl, rfl⟩
       go_wp2_with fail
       refine hnt'.mono ?_
       rintro e w' ⟨rfl, rfl⟩
       go_wp2
       simp only [Exit.jump]
       refine bodyPost_ret (v := .tuple #[.agg #[.int .i64 0, .string ⟨#[]⟩, .int .i64 0, .int .i64 a], .int .i64 a, .int .i64 50]) (by simp [results, Tryz.results20, go_sem, y0, y1, y2, y3]) rfl ⟨by rw [← HE.out]; rfl, ((((hB1.setCell (p := ⟨w.heap.size, 0, none⟩) (Nat.le_refl _) _).setCell (p := ⟨w.heap.size, 1, none⟩) (Nat.le_refl _) _).setCell (p := ⟨w.heap.size, 2, none⟩) (Nat.le_refl _) _).setCell (p := ⟨w.heap.size, 3, none⟩) (Nat.le_refl _) _)⟩
      ·
       rw [if_neg hn0] at hs0
       obtain ⟨k, hk⟩ : ∃ k : Nat, noteN (c :: r) = k := ⟨_, (Int.toNat_of_nonneg h2.2).symm⟩
       rw [hs0, hk] at hstep hle
       rw [hk] at hnt' hn0
       have HP : Hid _ := hstep (by omega)
       rw [Int.toNat_natCast] at HP
       have hk1 : 1 ≤ k := by omega
       have hk2 : a + k ≤ s.length := by omega
       clear hstep htok hnx hbad hln hnt hle hs0 bo hk h2 hr'
       go_wp2_with fail
       refine hb.mono ?_
       rintro e w' ⟨rfl, rfl⟩
       go_wp2_with fail
       refine hp1.mono ?_
       rintro e w' ⟨rfl, rfl⟩
       go_wp2_with fail
       refine hp2.mono ?_
       rintro e w' ⟨rfl, rfl⟩
       go_wp2_with fail
       refine hnt'.mono ?_
       rintro e w' ⟨rfl, rfl⟩
       go_wp2
       go_step3
       exact ⟨rfl, hW.symm, a + k, _, _, _, _, _, _, _, _, _, _, _, _, _, _, _, _, _, _, _, _, _, _, _, _, _, _, _, _, _, _, _, _, _, _, _, _, _, _, _, _, _, _, _, _, _, _, _, _, _, _, _, _, _, _, _, rfl, hk2, HP.out⟩
     | false =>
      rw [hd2] at hp2
      rw [if_neg (by simp [hd2])] at hs0
      have HE : Hid _ := hnx hs0
      clear hstep hnx hbad hln hnt hle hs0
      have htl := tok_len (l := c :: r) (by simp)
      generalize tokP (c :: r) = q at htok HE htl
      obtain ⟨⟨q1, q2, q3⟩, n, q4⟩ := q
      unfold tkV at htok
      dsimp only at htok HE htl
      have hn1 := htl.1
      have hn2 : n ≤ 104857600 := by have := htl.2; omega
      clear htl
      go_wp2_with fail
      refine hb.mono ?_
      rintro e w' ⟨rfl, rfl⟩
      go_wp2_with fail
      refine hp1.mono ?_
      rintro e w' ⟨rfl, rfl⟩
      go_wp2_with fail
      refine hp2.mono ?_
      rintro e w' ⟨rfl, rfl⟩
      go_wp2_with fail
      refine htok.mono ?_
      rintro e w2 ⟨rfl, hbb⟩
      have hB2 : Below w.heap.size w w2 := hB1.trans (hbb.mono hB1.size)
      have bo2 := bo.below hbb
      obtain ⟨y0, y1, y2, y3, f0, f1, f2, f3⟩ := bo2
      have hsz2 : w.heap.size < w2.heap.size := cell_lt y0
      clear htok hbb bo hb hp1 hp2
      have hB3 : Below w.heap.size w (((((w2.setCell ⟨w.heap.size, 0, none⟩ (.int .i64 q1)).setCell ⟨w.heap.size, 1, none⟩ (.string (bsA q2))).setCell ⟨w.heap.size, 2, none⟩ (.int .i64 q3)).setCell ⟨w.heap.size, 3, none⟩ (.int .i64 a)).alloc (Obj.cells #[Value.int IntKind.i64 q1, Value.string (bsA q2), Value.int IntKind.i64 q3, Value.int IntKind.i64 a] 26)) := Below.alloc ((((hB2.setCell (p := ⟨w.heap.size, 0, none⟩) (Nat.le_refl _) _).setCell (p := ⟨w.heap.size, 1, none⟩) (Nat.le_refl _) _).setCell (p := ⟨w.heap.size, 2, none⟩) (Nat.le_refl _) _).setCell (p := ⟨w.heap.size, 3, none⟩) (Nat.le_refl _) _) (by have := hB2.size; simpa [World.setCell] using this) _
      obtain ⟨z0, z1, z2, z3, _, _, _, _⟩ := ((Box.mk y0 y1 y2 y3 f0 f1 f2 f3).set (.int .i64 q1) (.string (bsA q2)) (.int .i64 q3) (.int .i64 a)).below ((Below.refl _ _).alloc (Nat.le_refl _) (Obj.cells #[Value.int IntKind.i64 q1, Value.string (bsA q2), Value.int IntKind.i64 q3, Value.int IntKind.i64 a] 26))
      clear hB2
      go_wp2
      generalize ((((w2.setCell ⟨w.heap.size, 0, none⟩ (.int .i64 q1)).setCell ⟨w.heap.size, 1, none⟩ (.string (bsA q2))).setCell ⟨w.heap.size, 2, none⟩ (.int .i64 q3)).setCell ⟨w.heap.size, 3, none⟩ (.int .i64 a)).alloc (Obj.cells #[Value.int IntKind.i64 q1, Value.string (bsA q2), Value.int IntKind.i64 q3, Value.int IntKind.i64 a] 26) = W3 at hB3 z0 z1 z2 z3 ⊢
      simp only [Exit.jump]
      refine bodyPost_ret (v := .tuple #[.agg #[.int .i64 q1, .string (bsA q2), .int .i64 q3, .int .i64 a], .int .i64 ((a : Int) + n), .int .i64 q4]) (by simp [results, Tryz.results20, go_sem, z0, z1, z2, z3]) rfl ⟨by rw [← HE.out]; rfl, hB3⟩
 ·
  rintro a' w' ⟨rfl, m, u7, u8, u9, u10, u11, u12, u13, u14, u15, u16, u17, u18, u19, u20, u21, u22, u23, u24, u25, u26, u27, u28, u29, u30, u31, u32, u33, u34, u35, u36, u37, u38, u39, u40, u41, u42, u43, u44, u45, u46, u47, u48, u49, u50, u51, u52, u53, u54, u55, u56, u57, u58, u59, u60, u61, rfl, hm, hH⟩
  have HH : Hid _ := hH
  clear hH
  have hx : (bsA s).extract m s.length = bsA (s.drop m) := ext_drop' s m
  have hstep := fun h => (nxP_step (s := s) (a := m) h).trans HH.out
  have hB1 : Below w.heap.size w (w.alloc tokO) := (Below.refl _ _).alloc (Nat.le_refl _) _
  have bo : Box (w.alloc tokO) w.heap.size (.int .i64 0) (.string ⟨#[]⟩) (.int .i64 0) (.int .i64 0) := Box.new w _ _ _ _
  have hR1 := hR.alloc tokO
  generalize w.alloc tokO = W1 at hB1 bo hR1 ⊢
  have hsz := cell_lt bo.c0
  cases hd : s.drop m with
  | nil =>
   have HE : Hid _ := (nxP_end hd).symm.trans HH.out
   rw [hd] at hx
   have htl : (bsA ([] : List UInt8)).toList = [] := bsA_tl []
   obtain ⟨y0, y1, y2, y3, f0, f1, f2, f3⟩ := bo
   clear hstep hd hR1
   go_wp2
   simp only [Exit.jump]
   refine bodyPost_ret (v := .tuple #[.agg #[.int .i64 0, .string ⟨#[]⟩, .int .i64 0, .int .i64 m], .int .i64 m, .int .i64 0]) (by simp [results, Tryz.results20, go_sem, y0, y1, y2, y3]) rfl ⟨by rw [← HE.out]; rfl, ((((hB1.setCell (p := ⟨w.heap.size, 0, none⟩) (Nat.le_refl _) _).setCell (p := ⟨w.heap.size, 1, none⟩) (Nat.le_refl _) _).setCell (p := ⟨w.heap.size, 2, none⟩) (Nat.le_refl _) _).setCell (p := ⟨w.heap.size, 3, none⟩) (Nat.le_refl _) _)⟩
  | cons c r =>
   have hlen : (c :: r).length = s.length - m := by rw [← hd, List.length_drop]
   have hne : s.drop m ≠ [] := by rw [hd]; simp
   have htok := tokenL_any (s.drop m) W1 hR1 hne (by rw [List.length_drop]; omega)
   have hnx := fun h0 => (nxP_tok hne h0).symm.trans HH.out
   have hbad := fun h0 => (nxP_bad (s := s) (a := m) h0).symm.trans HH.out
   rw [hd] at hx htok hnx hstep hbad
   have hb := isBlank_any c.toNat W1
   have hp1 := Tryz.strings_HasPrefix (bsA (c :: r)) ⟨#[45, 45]⟩ W1
   have hp2 := Tryz.strings_HasPrefix (bsA (c :: r)) ⟨#[47, 42]⟩ W1
   rw [bsA_list] at hp1 hp2
   change Calls Tryz.prog 40 _ _ (fun e w' => e = .returned (.bool (Lib.hasPrefix (c :: r) [45, 45])) ∧ w' = _) at hp1
   change Calls Tryz.prog 40 _ _ (fun e w' => e = .returned (.bool (Lib.hasPrefix (c :: r) [47, 42])) ∧ w' = _) at hp2
   have hln := lineLength_any (c :: r) W1
   have hnt := fun h2 => noteLength_any (c :: r) W1 hR1 h2 (by omega)
   have hz2 := bsA_size (c :: r)
   have h0 : 0 < (bsA (c :: r)).size := by rw [hz2]; simp
   have hc : (bsA (c :: r))[0]'h0 = c := rfl
   have hle := stp_le (c :: r)
   have hSt : ((bsA (c :: r)).toList == []) = false := by rw [bsA_tl]; rfl
   generalize bsA (c :: r) = S at hx htok hp1 hp2 hln hnt hz2 h0 hc hSt
   clear hd hne hR1
   cases hbl : blB c.toNat with
   | true =>
    rw [hbl] at hb
    have hs1 : stp (c :: r) = 1 := stp_bl hbl r
    rw [hs1] at hstep
    have HP : Hid _ := hstep (by omega)
    clear hstep htok hnx hbad hp1 hp2 hln hnt hle hs1 bo
    go_wp2_with fail
    refine hb.mono ?_
    rintro e w' ⟨rfl, rfl⟩
    go_wp2
    go_step3
    refine ⟨rfl, ⟨rfl, m + 1, _, _, _, _, _, _, _, _, _, _, _, _, _, _, _, _, _, _, _, _, _, _, _, _, _, _, _, _, _, _, _, _, _, _, _, _, _, _, _, _, _, _, _, _, _, _, _, _, _, _, _, _, _, _, _, rfl, by simp at hlen; omega, HP.out⟩, ?_⟩
    simp [intOf]; omega
   | false =>
    rw [hbl] at hb
    have hs0 : stp (c :: r) = if Lib.hasPrefix (c :: r) [45, 45] then lineN (c :: r) else if Lib.hasPrefix (c :: r) [47, 42] then (if noteN (c :: r) = 0 then -1 else noteN (c :: r)) else 0 := by
     unfold stp
     rw [if_neg (by simp), if_neg (by simp [hbl])]
    cases hd1 : Lib.hasPrefix (c :: r) [45, 45] with
    | true =>
     rw [hd1] at hp1
     rw [if_pos hd1] at hs0
     obtain ⟨r', hr'⟩ := two_of hd1
     have h2 := lineN_dash r'
     rw [← hr'] at h2
     obtain ⟨k, hk⟩ : ∃ k : Nat, lineN (c :: r) = k := ⟨_, (Int.toNat_of_nonneg (by omega)).symm⟩
     rw [hs0, hk] at hstep hle
     rw [hk] at hln
     have HP : Hid _ := hstep (by omega)
     rw [Int.toNat_natCast] at HP
     have hk1 : 1 ≤ k := by omega
     have hk2 : m + k ≤ s.length := by omega
     clear hstep htok hnx hbad hp2 hnt hle hs0 bo hk h2 hr'
     go_wp2_with fail
     refine hb.mono ?_
     rintro e w' ⟨rfl, rfl⟩
     go_wp2_with fail
     refine hp1.mono ?_
     rintro e w' ⟨rfl, rfl⟩
     go_wp2_with fail
     refine hln.mono ?_
     rintro e w' ⟨rfl, rfl⟩
     go_wp2
     go_step3
     refine ⟨rfl, ⟨rfl, m + k, _, _, _, _, _, _, _, _, _, _, _, _, _, _, _, _, _, _, _, _, _, _, _, _, _, _, _, _, _, _, _, _, _, _, _, _, _, _, _, _, _, _, _, _, _, _, _, _, _, _, _, _, _, _, _, rfl, hk2, HP.out⟩, ?_⟩
     simp [intOf]; omega
    | false =>
     rw [hd1] at hp1
     rw [if_neg (by simp [hd1])] at hs0
     cases hd2 : Lib.hasPrefix (c :: r) [47, 42] with
     | true =>
      rw [hd2] at hp2
      rw [if_pos hd2] at hs0
      obtain ⟨r', hr'⟩ := two_of hd2
      have h2 := noteN_le r' 47 42
      rw [← hr'] at h2
      have hnt' := hnt (by rw [hr']; simp)
      by_cases hn0 : noteN (c :: r) = 0
      ·
       rw [if_pos hn0] at hs0
       rw [hn0] at hnt'
       have HE : Hid _ := hbad (by omega)
       obtain ⟨y0, y1, y2, y3, f0, f1, f2, f3⟩ := bo
       clear hstep htok hnx hbad hln hnt hle hs0 h2 hr' hn0
       go_wp2_with fail
       refine hb.mono ?_
       rintro e w' ⟨rfl, rfl⟩
       go_wp2_with fail
       refine hp1.mono ?_
       rintro e w' ⟨rfl, rfl⟩
       go_wp2_with fail
       refine hp2.mono ?_
       rintro e w' ⟨rfl, rfl⟩
       go_wp2_with fail
       refine hnt'.mono ?_
       rintro e w' ⟨rfl, rfl⟩
       go_wp2
       simp only [Exit.jump]
       refine bodyPost_ret (v := .tuple #[.agg #[.int .i64 0, .string ⟨#[]⟩, .int .i64 0, .int .i64 m], .int .i64 m, .int .i64 50]) (by simp [results, Tryz.results20, go_sem, y0, y1, y2, y3]) rfl ⟨by rw [← HE.out]; rfl, ((((hB1.setCell (p := ⟨w.heap.size, 0, none⟩) (Nat.le_refl _) _).setCell (p := ⟨w.heap.size, 1, none⟩) (Nat.le_refl _) _).setCell (p := ⟨w.heap.size, 2, none⟩) (Nat.le_refl _) _).setCell (p := ⟨w.heap.size, 3, none⟩) (Nat.le_refl _) _)⟩
      ·
       rw [if_neg hn0] at hs0
       obtain ⟨k, hk⟩ : ∃ k : Nat, noteN (c :: r) = k := ⟨_, (Int.toNat_of_nonneg h2.2).symm⟩
       rw [hs0, hk] at hstep hle
       rw [hk] at hnt' hn0
       have HP : Hid _ := hstep (by omega)
       rw [Int.toNat_natCast] at HP
       have hk1 : 1 ≤ k := by omega
       have hk2 : m + k ≤ s.length := by omega
       clear hstep htok hnx hbad hln hnt hle hs0 bo hk h2 hr'
       go_wp2_with fail
       refine hb.mono ?_
       rintro e w' ⟨rfl, rfl⟩
       go_wp2_with fail
       refine hp1.mono ?_
       rintro e w' ⟨rfl, rfl⟩
       go_wp2_with fail
       refine hp2.mono ?_
       rintro e w' ⟨rfl, rfl⟩
       go_wp2_with fail
       refine hnt'.mono ?_
       rintro e w' ⟨rfl, rfl⟩
       go_wp2
       go_step3
       refine ⟨rfl, ⟨rfl, m + k, _, _, _, _, _, _, _, _, _, _, _, _, _, _, _, _, _, _, _, _, _, _, _, _, _, _, _, _, _, _, _, _, _, _, _, _, _, _, _, _, _, _, _, _, _, _, _, _, _, _, _, _, _, _, _, rfl, hk2, HP.out⟩, ?_⟩
       simp [intOf]; omega
     | false =>
      rw [hd2] at hp2
      rw [if_neg (by simp [hd2])] at hs0
      have HE : Hid _ := hnx hs0
      clear hstep hnx hbad hln hnt hle hs0
      have htl := tok_len (l := c :: r) (by simp)
      generalize tokP (c :: r) = q at htok HE htl
      obtain ⟨⟨q1, q2, q3⟩, n, q4⟩ := q
      unfold tkV at htok
      dsimp only at htok HE htl
      have hn1 := htl.1
      have hn2 : n ≤ 104857600 := by have := htl.2; omega
      clear htl
      go_wp2_with fail
      refine hb.mono ?_
      rintro e w' ⟨rfl, rfl⟩
      go_wp2_with fail
      refine hp1.mono ?_
      rintro e w' ⟨rfl, rfl⟩
      go_wp2_with fail
      refine hp2.mono ?_
      rintro e w' ⟨rfl, rfl⟩
      go_wp2_with fail
      refine htok.mono ?_
      rintro e w2 ⟨rfl, hbb⟩
      have hB2 : Below w.heap.size w w2 := hB1.trans (hbb.mono hB1.size)
      have bo2 := bo.below hbb
      obtain ⟨y0, y1, y2, y3, f0, f1, f2, f3⟩ := bo2
      have hsz2 : w.heap.size < w2.heap.size := cell_lt y0
      clear htok hbb bo hb hp1 hp2
      have hB3 : Below w.heap.size w (((((w2.setCell ⟨w.heap.size, 0, none⟩ (.int .i64 q1)).setCell ⟨w.heap.size, 1, none⟩ (.string (bsA q2))).setCell ⟨w.heap.size, 2, none⟩ (.int .i64 q3)).setCell ⟨w.heap.size, 3, none⟩ (.int .i64 m)).alloc (Obj.cells #[Value.int IntKind.i64 q1, Value.string (bsA q2), Value.int IntKind.i64 q3, Value.int IntKind.i64 m] 26)) := Below.alloc ((((hB2.setCell (p := ⟨w.heap.size, 0, none⟩) (Nat.le_refl _) _).setCell (p := ⟨w.heap.size, 1, none⟩) (Nat.le_refl _) _).setCell (p := ⟨w.heap.size, 2, none⟩) (Nat.le_refl _) _).setCell (p := ⟨w.heap.size, 3, none⟩) (Nat.le_refl _) _) (by have := hB2.size; simpa [World.setCell] using this) _
      obtain ⟨z0, z1, z2, z3, _, _, _, _⟩ := ((Box.mk y0 y1 y2 y3 f0 f1 f2 f3).set (.int .i64 q1) (.string (bsA q2)) (.int .i64 q3) (.int .i64 m)).below ((Below.refl _ _).alloc (Nat.le_refl _) (Obj.cells #[Value.int IntKind.i64 q1, Value.string (bsA q2), Value.int IntKind.i64 q3, Value.int IntKind.i64 m] 26))
      clear hB2
      go_wp2
      generalize ((((w2.setCell ⟨w.heap.size, 0, none⟩ (.int .i64 q1)).setCell ⟨w.heap.size, 1, none⟩ (.string (bsA q2))).setCell ⟨w.heap.size, 2, none⟩ (.int .i64 q3)).setCell ⟨w.heap.size, 3, none⟩ (.int .i64 m)).alloc (Obj.cells #[Value.int IntKind.i64 q1, Value.string (bsA q2), Value.int IntKind.i64 q3, Value.int IntKind.i64 m] 26) = W3 at hB3 z0 z1 z2 z3 ⊢
      simp only [Exit.jump]
      refine bodyPost_ret (v := .tuple #[.agg #[.int .i64 q1, .string (bsA q2), .int .i64 q3, .int .i64 m], .int .i64 ((m : Int) + n), .int .i64 q4]) (by simp [results, Tryz.results20, go_sem, z0, z1, z2, z3]) rfl ⟨by rw [← HE.out]; rfl, hB3⟩
end Go.Proofs.YtgdndahhledikaaGreatDoor
namespace Go.Proofs.YtgdndahhledikaaGreatDoor
open Go.ChangeShapes Go.WideShapes Go.ChangeAt Go.RowKit
/- The next token and the tokens. -/
theorem nx_err {s : List UInt8} {m : Nat} (h : (nxP s m).2.2.2 ≠ 0) : lx (s.drop m) m = ([], (nxP s m).2.1, (nxP s m).2.2.2) := by
 unfold nxP at h ⊢
 split
 · next h1 => exact lx_bad h1
 ·
  next h1 =>
  rw [if_neg h1] at h
  split
  · next h2 => rw [if_pos h2] at h; exact absurd rfl h
  · next h2 => rw [if_neg h2] at h; exact lx_err (by simpa using h1) h2 h
theorem nx_end {s : List UInt8} {m : Nat} (h : (nxP s m).2.2.2 = 0) (hk : (nxP s m).1.1 = 0) : lx (s.drop m) m = ([], 0, 0) := by
 unfold nxP at h hk
 split at h
 · cases h
 ·
  next h1 =>
  rw [if_neg h1] at hk
  split at h
  · next h2 => exact lx_end (by simpa using h1) h2
  · next h2 => rw [if_neg h2] at hk; exact absurd hk (tok_ok h2 h).1
theorem nx_tok {s : List UInt8} {m : Nat} (h : (nxP s m).2.2.2 = 0) (hk : (nxP s m).1.1 ≠ 0) : ∃ k : Nat, (nxP s m).2.2.1 = k ∧ m < k ∧ k ≤ s.length ∧
  lx (s.drop m) m = if (lx (s.drop k) k).2.2 ≠ 0 then lx (s.drop k) k else (((nxP s m).1, (nxP s m).2.1) :: (lx (s.drop k) k).1, 0, 0) := by
 unfold nxP at h hk ⊢
 split at h
 · cases h
 ·
  next h1 =>
  rw [if_neg h1] at hk ⊢
  split at h
  · next h2 => rw [if_pos h2] at hk; exact absurd rfl hk
  ·
   next h2 =>
   rw [if_neg h2]
   have ht := tok_ok h2 h
   have hs := sk_le (s.drop m)
   simp only at h ⊢
   have hl : ((s.drop m).drop (sk (s.drop m)).1).length = s.length - m - (sk (s.drop m)).1 := by simp [Nat.sub_sub]
   rw [List.length_drop] at hs
   refine ⟨m + (sk (s.drop m)).1 + (tokP ((s.drop m).drop (sk (s.drop m)).1)).2.1.toNat, by omega, by omega, by omega, ?_⟩
   rw [lx_go (by simpa using h1) h2 h]
   have e1 : (s.drop m).drop ((sk (s.drop m)).1 + (tokP ((s.drop m).drop (sk (s.drop m)).1)).2.1.toNat) = s.drop (m + (sk (s.drop m)).1 + (tokP ((s.drop m).drop (sk (s.drop m)).1)).2.1.toNat) := by rw [List.drop_drop, Nat.add_assoc]
   have e2 : ((m + (sk (s.drop m)).1 + (tokP ((s.drop m).drop (sk (s.drop m)).1)).2.1.toNat : Nat) : Int) = (m : Int) + (sk (s.drop m)).1 + (tokP ((s.drop m).drop (sk (s.drop m)).1)).2.1 := by omega
   rw [e1, e2]
end Go.Proofs.YtgdndahhledikaaGreatDoor
