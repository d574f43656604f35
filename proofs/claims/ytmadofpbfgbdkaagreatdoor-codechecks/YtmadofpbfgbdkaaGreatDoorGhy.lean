/- The greatest height of a program (greatestHeight). -/
import Derived.Test.YtmadofpbfgbdkaaGreatDoorLea
namespace Go.Proofs.YtmadofpbfgbdkaaGreatDoor
open Go.ChangeShapes Go.WideShapes Go.ChangeAt Go.RowKit
set_option linter.unusedSimpArgs false
set_option maxRecDepth 20000
set_option maxHeartbeats 4000000

theorem st_bh {q : Oq} {i : Nat} {n f a h : Int} {H : List Int} (hh : H[i]? = some h) : stP q i n f a H = if (bhP q i n f a h).2 = true then (match ldP q i (bhP q i n f a h).1 H with
    | none => none
    | some H2 => some ((bhP q i n f a h).1, H2)) else none := by
  unfold stP bhP ldP
  rw [hh]
  by_cases hm : mayP q i n f a = true
  · rw [if_pos hm, if_pos hm]
    dsimp only
    by_cases hb : h < needP q ∨ 1024 < h - needP q + leftP q
    · have hd : (decide (0 ≤ h - needP q) && decide (h - needP q + leftP q ≤ 1024)) = false := by
        rw [Bool.and_eq_false_iff, decide_eq_false_iff_not, decide_eq_false_iff_not]
        omega
      rw [if_pos hb, hd]
      rfl
    · have hd : (decide (0 ≤ h - needP q) && decide (h - needP q + leftP q ≤ 1024)) = true := by
        rw [Bool.and_eq_true, decide_eq_true_iff, decide_eq_true_iff]
        omega
      rw [if_neg hb, hd, if_pos rfl]
      split <;> rename_i e1
      · rw [e1]
      · rw [e1]
        rfl
  · rw [if_neg hm, if_neg hm]
    rfl
def iniP (j n : Nat) : List Int := 0 :: (List.replicate j (-1) ++ List.replicate (n - j) 0)
theorem ini_len {j n : Nat} (h : j ≤ n) : (iniP j n).length = n + 1 := by simp [iniP]; omega
theorem ini_0 (n : Nat) : hiC (iniP 0 n) = List.replicate (n + 1) (.int .i64 0) := by simp [hiC, iniP, List.replicate_succ]
theorem ini_n (n : Nat) : iniP n n = 0 :: List.replicate n (-1) := by simp [iniP]
theorem ini_set {j n : Nat} (h : j < n) : (iniP j n).set (j + 1) (-1) = iniP (j + 1) n := by
  unfold iniP
  rw [List.set_cons_succ, List.set_append_right _ _ (by simp), show n - j = (n - (j + 1)) + 1 by omega, List.replicate_succ, List.replicate_succ', List.append_assoc]
  simp
theorem Gr.below {g B : Nat} {w w1 w2 : World} (hb : Below B w w1) (hg : B ≤ g) (hs : B ≤ w1.heap.size) (h : Gr g w1 w2) : Below B w w2 := ⟨h.os.trans hb.os, h.tape.trans hb.tape, h.output.trans hb.output, Nat.le_trans hb.size h.size, fun k hk => (h.block k (by omega) (by omega)).trans (hb.block k hk)⟩
theorem Gr.ops {g : Nat} {w w' : World} {oa : Option Addr} {r : List Oq} (h : Gr g w w') (hg : ∀ b o, oa = some ⟨b, o, none⟩ → 0 < r.length → b ≠ g) (hr : OpsAt w oa r) : OpsAt w' oa r := by
  rcases Nat.eq_zero_or_pos r.length with h0 | hp
  · exact Or.inl (List.length_eq_zero_iff.1 h0)
  rcases hr with h0 | ⟨b, off, rfl, hc⟩
  · exact Or.inl h0
  · have hn := hg b off rfl hp
    exact Or.inr ⟨b, off, rfl, fun i o hi => let c := hc i o hi; ⟨h.cell hn c.c0, h.cell hn c.c1, h.cell hn c.c2, h.cell hn c.c3, h.cell hn c.c4, h.cell hn c.c5⟩⟩
theorem info3 : (Tryz.prog.info? 3).map (fun i => (i.zero, i.size, i.bytes)) = some (some (.int .i64 0), 1, 8) := by kernel_rfl
/-- What greatestHeight answers. -/
def ghV (x : Option Int) : Value := .tuple #[.int .i64 (x.getD 0), .bool x.isSome]
theorem gh_any (r : List Oq) (oa : Option Addr) (ocap : Nat) (f a : Int) (w : World) (hr : OpsAt w oa r) :
    Calls Tryz.prog 10 #[.slice oa r.length ocap, .int .i64 f, .int .i64 a] w fun e w' => e = .returned (ghV (htP r f a)) ∧ Below w.heap.size w w' := by
  have HHT : Hid (htP r f a = if 4096 < r.length then none else match ckF r.length f a r 0 (0 :: List.replicate r.length (-1)) 0 with
    | none => none
    | some (H, m) => if H[r.length]? = some 1 then some m else none) := rfl
  have HR : Hid (OpsAt w oa r) := hr
  have hob : Hid (∀ b o, oa = some ⟨b, o, none⟩ → 0 < r.length → b < w.heap.size) := fun b o e h0 => by
    rcases hr with h | ⟨b', o', e', hc⟩
    · rw [h] at h0; simp at h0
    · rw [e] at e'; cases e'
      have hc0 := hc 0 r[0] (List.getElem?_eq_getElem h0)
      exact cell_lt' hc0.c0
  generalize htP r f a = res at HHT ⊢
  obtain ⟨n, hn⟩ : ∃ n, r.length = n := ⟨_, rfl⟩
  have HN : Hid (r.length = n) := hn
  rw [hn] at HHT hob ⊢
  clear hr hn
  obtain ⟨i0, hi, hz⟩ := Option.map_eq_some_iff.1 info3
  simp only [Prod.mk.injEq] at hz
  obtain ⟨hz0, hz1, hz2⟩ := hz
  by_cases hbig : 4096 < n
  · have HP : Hid (Ending.returned (.tuple #[.int .i64 0, .bool false]) = Ending.returned (ghV res)) := by
      show _ = _
      rw [HHT.out, if_pos hbig]
      rfl
    have hbi : (4096 : Int) < (n : Int) := by omega
    clear HHT
    go_enter Tryz.func10, Tryz.ntmps10
    go_wp2
    refine bodyPost_ret (v := .tuple #[.int .i64 0, .bool false]) (by simp [results, Tryz.results10, go_sem]) rfl ⟨HP.out, Below.refl _ _⟩
  · have hsm : ((4096 : Int) < (n : Int)) = False := eq_false (by omega)
    have hnl : n ≤ 4096 := by omega
    have HHT2 : Hid (res = match ckF n f a r 0 (0 :: List.replicate n (-1)) 0 with
      | none => none
      | some (H, m) => if H[n]? = some 1 then some m else none) := by show _ = _; rw [HHT.out, if_neg hbig]
    clear HHT hbig
    have HN1 : Hid (((n : Nat) : Int) + 1 = ((n + 1 : Nat) : Int)) := by show _ = _; omega
    go_enter Tryz.func10, Tryz.ntmps10
    go_wp2_with (at_make; refine wpList_make_full _ rfl _ _ 45 rfl w.heap.size 3 i0 (.int .i64 0) 1 Tryz.underlying45 hi hz0 hz1 .i64 .i64 _ _ (n + 1) rfl rfl HN1.out HN1.out (by rw [hz2]; omega) (by unfold maxLen; omega) (Nat.le_refl _) ?_)
    intro w1 hown hgrow
    have hW : RowI w1 w.heap.size w.heap.size (n + 1) (iniP 0 n) := by
      unfold RowI
      rw [ini_len (Nat.zero_le _), ini_0, ← toList_madeCells_one]
      exact hown
    have hB1 : Below w.heap.size w w1 := (Below.refl _ _).grown hgrow (Nat.le_refl _) (fun _ h => by cases h)
    obtain ⟨g, hg⟩ : ∃ g, w.heap.size = g := ⟨_, rfl⟩
    have HG : Hid (w.heap.size = g) := hg
    have HW : Hid (RowI w1 g g (n + 1) (iniP 0 n)) := by rw [hg] at hW; exact hW
    have HB1 : Hid (Below g w w1) := by rw [hg] at hB1; exact hB1
    have hgl : g < w1.heap.size := HW.out.lt.2
    have HR1 : Hid (OpsAt w1 oa r) := HR.out.below hB1
    have HOB : Hid (∀ b o, oa = some ⟨b, o, none⟩ → 0 < r.length → b ≠ g) := fun b o e h0 => by have := hob.out b o e (by rw [← HN.out]; exact h0); omega
    rw [hg]
    clear hown hgrow hW hB1 hg hi hz0 hz1 hz2 hob HR
    go_upto_region 4 with (fail)
    have hB2 : Below w1.heap.size w1 (w1.alloc (Obj.cells #[.slice oa n ocap, .int .i64 f, .int .i64 a, .slice (some ⟨g, 0, none⟩) (n + 1) (n + 1)] 47)) := (Below.refl _ _).alloc (Nat.le_refl _) _
    have z0 : (w1.alloc (Obj.cells #[.slice oa n ocap, .int .i64 f, .int .i64 a, .slice (some ⟨g, 0, none⟩) (n + 1) (n + 1)] 47)).cell? ⟨w1.heap.size, 0, none⟩ = some (.slice oa n ocap) := (World.cell?_alloc_mark w1 #[.slice oa n ocap, .int .i64 f, .int .i64 a, .slice (some ⟨g, 0, none⟩) (n + 1) (n + 1)] 47 (0, 0) 0).trans rfl
    have z1 : (w1.alloc (Obj.cells #[.slice oa n ocap, .int .i64 f, .int .i64 a, .slice (some ⟨g, 0, none⟩) (n + 1) (n + 1)] 47)).cell? ⟨w1.heap.size, 1, none⟩ = some (.int .i64 f) := (World.cell?_alloc_mark w1 #[.slice oa n ocap, .int .i64 f, .int .i64 a, .slice (some ⟨g, 0, none⟩) (n + 1) (n + 1)] 47 (0, 0) 1).trans rfl
    have z2 : (w1.alloc (Obj.cells #[.slice oa n ocap, .int .i64 f, .int .i64 a, .slice (some ⟨g, 0, none⟩) (n + 1) (n + 1)] 47)).cell? ⟨w1.heap.size, 2, none⟩ = some (.int .i64 a) := (World.cell?_alloc_mark w1 #[.slice oa n ocap, .int .i64 f, .int .i64 a, .slice (some ⟨g, 0, none⟩) (n + 1) (n + 1)] 47 (0, 0) 2).trans rfl
    have z3 : (w1.alloc (Obj.cells #[.slice oa n ocap, .int .i64 f, .int .i64 a, .slice (some ⟨g, 0, none⟩) (n + 1) (n + 1)] 47)).cell? ⟨w1.heap.size, 3, none⟩ = some (.slice (some ⟨g, 0, none⟩) (n + 1) (n + 1)) := (World.cell?_alloc_mark w1 #[.slice oa n ocap, .int .i64 f, .int .i64 a, .slice (some ⟨g, 0, none⟩) (n + 1) (n + 1)] 47 (0, 0) 3).trans rfl
    have HW2 : Hid (RowI (w1.alloc (Obj.cells #[.slice oa n ocap, .int .i64 f, .int .i64 a, .slice (some ⟨g, 0, none⟩) (n + 1) (n + 1)] 47)) g g (n + 1) (iniP 0 n)) := HW.out.below hB2
    have HB2 : Hid (Below g w (w1.alloc (Obj.cells #[.slice oa n ocap, .int .i64 f, .int .i64 a, .slice (some ⟨g, 0, none⟩) (n + 1) (n + 1)] 47))) := HB1.out.trans (hB2.mono (Nat.le_of_lt hgl))
    have HR2 : Hid (OpsAt (w1.alloc (Obj.cells #[.slice oa n ocap, .int .i64 f, .int .i64 a, .slice (some ⟨g, 0, none⟩) (n + 1) (n + 1)] 47)) oa r) := HR1.out.below hB2
    have hgs : Hid (g ≤ (w1.alloc (Obj.cells #[.slice oa n ocap, .int .i64 f, .int .i64 a, .slice (some ⟨g, 0, none⟩) (n + 1) (n + 1)] 47)).heap.size) := Nat.le_trans (Nat.le_of_lt hgl) hB2.size
    have hgx : g ≠ w1.heap.size := by omega
    obtain ⟨bx, hbx⟩ : ∃ bx, w1.heap.size = bx := ⟨_, rfl⟩
    rw [hbx] at z0 z1 z2 z3 hgx
    rw [hbx]
    clear hB2 hbx HW HB1 HR1 hgl
    generalize (w1.alloc (Obj.cells #[.slice oa n ocap, .int .i64 f, .int .i64 a, .slice (some ⟨g, 0, none⟩) (n + 1) (n + 1)] 47)) = w2 at *
    have HZ : Hid (w2.cell? ⟨bx, 0, none⟩ = some (.slice oa n ocap) ∧ w2.cell? ⟨bx, 1, none⟩ = some (.int .i64 f) ∧ w2.cell? ⟨bx, 2, none⟩ = some (.int .i64 a) ∧ w2.cell? ⟨bx, 3, none⟩ = some (.slice (some ⟨g, 0, none⟩) (n + 1) (n + 1))) := ⟨z0, z1, z2, z3⟩
    clear z0 z1 z2 z3
    go_wp2
    go_loopw [27] (fun x wr => ∃ j : Nat, j ≤ n ∧ x = .int .i64 j ∧ RowI wr g g (n + 1) (iniP j n) ∧ Gr g w2 wr) (fun x _ => n - (intOf x).toNat)
    case atStart => exact ⟨0, Nat.zero_le _, rfl, HW2.out, Gr.of (Below.refl _ _)⟩
    case round =>
      obtain ⟨j, hj, rfl, hO, hB⟩ := hrel
      have HO : Hid (RowI wr g g (n + 1) (iniP j n)) := hO
      have HGr : Hid (Gr g w2 wr) := hB
      have z3 := hB.cell (Ne.symm hgx) HZ.out.2.2.2
      clear hO hB
      rcases Nat.lt_or_ge j n with hlt | hge
      · have hx : ∃ x, (iniP j n)[j + 1]? = some x := ⟨_, List.getElem?_eq_getElem (by rw [ini_len hj]; omega)⟩
        obtain ⟨x, hx⟩ := hx
        have c0 := HO.out.get hx
        have f0 := HO.out.fr (j + 1)
        have HO2 : Hid (RowI (wr.setCell ⟨g, j + 1, none⟩ (.int .i64 (-1))) g g (n + 1) (iniP (j + 1) n)) := by
          have h := HO.out.put (j + 1) (-1)
          rw [ini_set hlt] at h
          exact h
        have HG2 : Hid (Gr g w2 (wr.setCell ⟨g, j + 1, none⟩ (.int .i64 (-1)))) := HGr.out.put _ _
        clear hx HO HGr
        go_wp2
        go_roundw
        case rel => exact ⟨j + 1, by omega, by go_num, HO2.out, HG2.out⟩
        case measure => simp [intOf]; omega
      · obtain rfl : j = n := by omega
        obtain ⟨n, hnn⟩ : ∃ n, n = j := ⟨_, rfl⟩
        subst hnn
        have HO3 : Hid (RowI wr g g (n + 1) (0 :: List.replicate n (-1))) := by have h := HO.out; rw [ini_n] at h; exact h
        have HG3 : Hid (Gr g w2 wr) := HGr.out
        clear HO HGr z3 HW2 hge hj
        have HI0 : Hid (HtI (0 :: List.replicate n (-1)) 0) := HtI.start n
        have HL0 : Hid ((0 :: List.replicate n (-1) : List Int).length = n + 1) := by show _ = _; simp
        have HK0 : Hid (ckF n f a (r.drop 0) 0 (0 :: List.replicate n (-1)) 0 = ckF n f a r 0 (0 :: List.replicate n (-1)) 0) := by show _ = _; rw [List.drop_zero]
        generalize ckF n f a r 0 (0 :: List.replicate n (-1)) 0 = K at HHT2 HK0
        generalize (0 :: List.replicate n (-1) : List Int) = H0 at HO3 HI0 HL0 HK0
        go_wp2
        go_loopw [10, 38] (fun x y wr => ∃ (i : Nat) (m : Int) (H : List Int), i ≤ n ∧ x = .int .i64 m ∧ y = .int .i64 i ∧ RowI wr g g (n + 1) H ∧ H.length = n + 1 ∧ HtI H m ∧ ckF n f a (r.drop i) i H m = K ∧ Gr g w2 wr) (fun _ y _ => n - (intOf y).toNat)
        case atStart => exact ⟨0, 0, H0, Nat.zero_le _, rfl, rfl, HO3.out, HL0.out, HI0.out, HK0.out, HG3.out⟩
        case round =>
          clear HO3 HG3 HI0 HL0 HK0
          obtain ⟨i, m, H, hin, rfl, rfl, hO, hHl, hI, hK, hB⟩ := hrel
          have HO : Hid (RowI wr g g (n + 1) H) := hO
          have HGr : Hid (Gr g w2 wr) := hB
          have HHL : Hid (H.length = n + 1) := hHl
          have HI : Hid (HtI H m) := hI
          have HK : Hid (ckF n f a (r.drop i) i H m = K) := hK
          have z0 := hB.cell (Ne.symm hgx) HZ.out.1
          have z1 := hB.cell (Ne.symm hgx) HZ.out.2.1
          have z2 := hB.cell (Ne.symm hgx) HZ.out.2.2.1
          have z3 := hB.cell (Ne.symm hgx) HZ.out.2.2.2
          have HRr : Hid (OpsAt wr oa r) := hB.ops HOB.out HR2.out
          clear hO hB hHl hI hK
          rcases Nat.lt_or_ge i n with hlt | hge
          · have hlr : i < r.length := by have := HN.out; omega
            obtain ⟨q, hq⟩ : ∃ q, r[i]? = some q := ⟨_, List.getElem?_eq_getElem hlr⟩
            obtain ⟨h, hh⟩ : ∃ h, H[i]? = some h := ⟨_, List.getElem?_eq_getElem (by have := HHL.out; omega)⟩
            have hhb := HI.out.all h (List.mem_of_getElem? hh)
            have hmh := HI.out.hi
            have hmlo := HI.out.lo
            have hc := behind_any r oa ocap f a g g (n + 1) H (n + 1) HHL.out i q hq h hh hhb.1 (by omega) wr HRr.out HO.out
            rw [HN.out] at hc
            have HST : Hid _ := st_bh (q := q) (i := i) (n := n) (f := f) (a := a) hh
            have HKS : Hid (K = match stP q i n f a H with
              | none => none
              | some (g', H') => ckF n f a (r.drop (i + 1)) (i + 1) H' (max m g')) := by
              have hk := HK.out
              obtain ⟨_, hqe⟩ := List.getElem?_eq_some_iff.1 hq
              rw [List.drop_eq_getElem_cons hlr, hqe] at hk
              exact hk.symm
            have HMP : Hid ((bhP q i n f a h).2 = true → mayP q i n f a = true) := fun hb => by
              unfold bhP at hb
              split at hb
              · assumption
              · cases hb
            have HGB : Hid ((bhP q i n f a h).2 = true → 0 ≤ (bhP q i n f a h).1 ∧ (bhP q i n f a h).1 ≤ 1024) := fun hb => by
              have hle := left_le q
              unfold bhP at hb ⊢
              split at hb
              · rename_i hm
                rw [if_pos hm]
                simp only [Bool.and_eq_true, decide_eq_true_eq] at hb ⊢
                omega
              · cases hb
            have HQ : Hid (r[i]? = some q) := hq
            generalize bhP q i n f a h = bh at hc HST HMP HGB
            obtain ⟨gh, ok⟩ := bh
            dsimp only at hc
            clear hq hh hhb hlr HK
            go_wp2_with fail
            refine hc.mono ?_
            rintro e w3 ⟨rfl, hb3⟩
            clear hc
            have HG3 : Hid (Gr g w2 w3) := HGr.out.trans (Gr.of hb3)
            have HO3 : Hid (RowI w3 g g (n + 1) H) := HO.out.below hb3
            have HR3 : Hid (OpsAt w3 oa r) := HRr.out.below hb3
            replace z0 := cell_bel hb3 z0
            replace z1 := cell_bel hb3 z1
            replace z2 := cell_bel hb3 z2
            replace z3 := cell_bel hb3 z3
            clear hb3 HGr HO HRr
            cases ok with
            | false =>
              have HP : Hid (Ending.returned (.tuple #[.int .i64 0, .bool false]) = Ending.returned (ghV res)) := by
                show _ = _
                rw [HHT2.out, HKS.out, HST.out]
                rfl
              have HBf : Hid (Below w.heap.size w w3) := by have h := Gr.below HB2.out (Nat.le_refl _) hgs.out HG3.out; rw [← HG.out] at h; exact h
              clear HST HKS HMP HGB
              go_wp2
              refine bodyPost_ret (v := .tuple #[.int .i64 0, .bool false]) (by simp [results, Tryz.results10, go_sem]) rfl ⟨HP.out, HBf.out⟩
            | true =>
              have hgb := HGB.out rfl
              have hc := leads_any r oa ocap f a g g (n + 1) H (n + 1) HHL.out (by rw [HN.out]) (by rw [HN.out]; omega) i q HQ.out (by rw [HN.out]; exact HMP.out rfl) gh w3 HR3.out HO3.out
              rw [HN.out] at hc
              have HS2 : Hid (stP q i n f a H = match ldP q i gh H with
                | none => none
                | some H2 => some (gh, H2)) := HST.out.trans (if_pos rfl)
              have hstm := @st_mem q i n f a H
              have hste := @HtI.step H
              generalize ldP q i gh H = ld at hc HS2
              clear HST HMP HGB
              go_wp2_with fail
              refine hc.mono ?_
              intro e w4 hp
              clear hc
              obtain ⟨hp, hb4⟩ := hp
              have HG4 : Hid (Gr g w2 w4) := HG3.out.trans hb4
              clear HG3 HO3 HR3 hb4 z0 z1 z2 z3
              cases ld with
              | none =>
                subst hp
                have HP : Hid (Ending.returned (.tuple #[.int .i64 0, .bool false]) = Ending.returned (ghV res)) := by
                  show _ = _
                  rw [HHT2.out, HKS.out, HS2.out]
                  rfl
                have HBf : Hid (Below w.heap.size w w4) := by have h := Gr.below HB2.out (Nat.le_refl _) hgs.out HG4.out; rw [← HG.out] at h; exact h
                clear HKS HS2 hstm hste
                go_wp2
                refine bodyPost_ret (v := .tuple #[.int .i64 0, .bool false]) (by simp [results, Tryz.results10, go_sem]) rfl ⟨HP.out, HBf.out⟩
              | some H2 =>
                obtain ⟨rfl, hR⟩ := hp
                have hs2 := HS2.out
                dsimp only at hs2
                have hln := (hstm hs2).1
                have HL2 : Hid (H2.length = n + 1) := hln.trans HHL.out
                have HI2 : Hid (HtI H2 (max m gh)) := hste HI.out hs2
                have HO2 : Hid (RowI w4 g g (n + 1) H2) := hR
                have HK2 : Hid (ckF n f a (r.drop (i + 1)) (i + 1) H2 (max m gh) = K) := by
                  show _ = _
                  rw [HKS.out, hs2]
                clear hs2 hln hR HS2 hstm hste HKS HI HHL
                go_wp2
                go_roundw
                case rel => exact ⟨i + 1, max m gh, H2, by omega, by rw [show (if m < gh then gh else m) = max m gh by split <;> omega], by go_num, HO2.out, HL2.out, HI2.out, HK2.out, HG4.out⟩
                case measure => simp [intOf]; omega
          · obtain rfl : i = n := by omega
            have hKe := HK.out
            rw [List.drop_eq_nil_of_le (by have := HN.out; omega)] at hKe
            have hKe2 : K = some (H, m) := hKe.symm
            obtain ⟨x, hx⟩ : ∃ x, H[i]? = some x := ⟨_, List.getElem?_eq_getElem (by have := HHL.out; omega)⟩
            have HRES : Hid (res = if some x = some 1 then some m else none) := by
              show _ = _
              rw [HHT2.out, hKe2]
              dsimp only
              rw [hx]
            have cx := HO.out.get hx
            have HBf : Hid (Below w.heap.size w wr) := by have h := Gr.below HB2.out (Nat.le_refl _) hgs.out HGr.out; rw [← HG.out] at h; exact h
            clear hKe hKe2 hx HK HHT2 HO HGr
            by_cases hx1 : x = 1
            · subst hx1
              have HP : Hid (Ending.returned (.tuple #[.int .i64 m, .bool true]) = Ending.returned (ghV res)) := by
                show _ = _
                rw [HRES.out, if_pos rfl]
                rfl
              clear HRES
              go_wp2
              refine bodyPost_ret (v := .tuple #[.int .i64 m, .bool true]) (by simp [results, Tryz.results10, go_sem]) rfl ⟨HP.out, HBf.out⟩
            · have HP : Hid (Ending.returned (.tuple #[.int .i64 0, .bool false]) = Ending.returned (ghV res)) := by
                show _ = _
                rw [HRES.out, if_neg (by simpa using hx1)]
                rfl
              have bx1 : (x != 1) = true := by simpa using hx1
              clear HRES
              go_wp2
              refine bodyPost_ret (v := .tuple #[.int .i64 0, .bool false]) (by simp [results, Tryz.results10, go_sem]) rfl ⟨HP.out, HBf.out⟩
end Go.Proofs.YtmadofpbfgbdkaaGreatDoor
