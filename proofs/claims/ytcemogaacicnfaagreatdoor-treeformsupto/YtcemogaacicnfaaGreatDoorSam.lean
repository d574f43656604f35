/- When two trees are the same (Same, by slices.EqualFunc). -/
import Derived.Test.YtcemogaacicnfaaGreatDoorTre
namespace Go.Proofs.YtcemogaacicnfaaGreatDoor
set_option maxRecDepth 20000
set_option maxHeartbeats 4000000
open Go.ChangeShapes Go.WideShapes Go.ChangeAt Go.RowKit

theorem bsA_inj {a b : List UInt8} : bsA a = bsA b ↔ a = b := by
  constructor
  · intro h
    have := congrArg (fun x : ByteArray => x.data.toList) h
    simpa [bsA] using this
  · rintro rfl; rfl
theorem zip_snoc {α : Type} (f : α → α → Bool) {l m : List α} {i : Nat} {a b : α} (ha : l[i]? = some a) (hb : m[i]? = some b) : ((l.zip m).take (i + 1)).all (fun p => f p.1 p.2) = (((l.zip m).take i).all (fun p => f p.1 p.2) && f a b) := by
  have h : (l.zip m)[i]? = some (a, b) := by rw [List.getElem?_zip_eq_some]; exact ⟨ha, hb⟩
  rw [List.take_add_one, h, List.all_append]
  simp
theorem zip_no {α : Type} (f : α → α → Bool) {l m : List α} {i : Nat} {a b : α} (ha : l[i]? = some a) (hb : m[i]? = some b) (hf : f a b = false) : (l.zip m).all (fun p => f p.1 p.2) = false := by
  have h : (l.zip m)[i]? = some (a, b) := by rw [List.getElem?_zip_eq_some]; exact ⟨ha, hb⟩
  rw [List.all_eq_false]
  exact ⟨(a, b), List.mem_of_getElem? h, by simp [hf]⟩
theorem EqualFunc_go (n : Nat) (l m : List (Tr n)) (b off b' off' c c' : Nat) (w : World) (hF : (∀ (x y : Tr n) (s s' : Option Addr) (c c' : Nat) (W : World), NdAt W n x s → NdAt W n y s' → Calls Tryz.prog 18 #[ndV n x s c, ndV n y s' c'] W fun e w' => e = .returned (.bool (samP n x y)) ∧ Below W.heap.size W w')) (hn : l.length = m.length) (hlen : l.length ≤ 9223372036854775807)
    (hc : ∀ i y, l[i]? = some y → ∃ s c, (w.cell? ⟨b, off + i * 5, none⟩ = some (.int .i64 (kd n y)) ∧ w.cell? ⟨b, off + i * 5 + 1, none⟩ = some (.string (bsA (tx n y))) ∧ w.cell? ⟨b, off + i * 5 + 2, none⟩ = some (.int .i64 (nu n y)) ∧ w.cell? ⟨b, off + i * 5 + 3, none⟩ = some (.int .i64 (pl n y)) ∧ w.cell? ⟨b, off + i * 5 + 4, none⟩ = some (.slice s (ks n y).length c)) ∧ NdAt w n y s)
    (hd : ∀ i y, m[i]? = some y → ∃ s c, (w.cell? ⟨b', off' + i * 5, none⟩ = some (.int .i64 (kd n y)) ∧ w.cell? ⟨b', off' + i * 5 + 1, none⟩ = some (.string (bsA (tx n y))) ∧ w.cell? ⟨b', off' + i * 5 + 2, none⟩ = some (.int .i64 (nu n y)) ∧ w.cell? ⟨b', off' + i * 5 + 3, none⟩ = some (.int .i64 (pl n y)) ∧ w.cell? ⟨b', off' + i * 5 + 4, none⟩ = some (.slice s (ks n y).length c)) ∧ NdAt w n y s) :
    Calls Tryz.prog 35 #[.slice (some ⟨b, off, none⟩) l.length c, .slice (some ⟨b', off', none⟩) l.length c', .func (.func 18) #[] #[]] w fun e w' => e = .returned (.bool (samL n l m)) ∧ Below w.heap.size w w' := by
  have HFF : Hid _ := hF
  have HC : Hid _ := hc
  have HD : Hid _ := hd
  have HS : Hid (samL n l m = (l.zip m).all fun p => samP n p.1 p.2) := by show _ = _; unfold samL; rw [decide_eq_true hn]; rfl
  have HNN : Hid (l.length = m.length) := hn
  clear hF hc hd hn
  go_enter Tryz.func35, Tryz.ntmps35
  go_wp2
  go_loopw [17] (fun i wr => ∃ k : Nat, k ≤ l.length ∧ i = .int .i64 k ∧ ((l.zip m).take k).all (fun p => samP n p.1 p.2) = true ∧ Bel w.heap.size w wr) (fun i _ => l.length - (intOf i).toNat)
  case atStart => exact ⟨0, Nat.zero_le _, rfl, rfl, Bel.refl _⟩
  case round =>
    obtain ⟨k, hk, rfl, hV, HB⟩ := hrel
    have HV : Hid (((l.zip m).take k).all (fun p => samP n p.1 p.2) = true) := hV
    clear hV
    have hW := HB.out
    rcases Nat.lt_or_ge k l.length with hlt | hge
    · have gc : l[k]? = some l[k] := List.getElem?_eq_getElem hlt
      have gd : m[k]? = some (m[k]'(by rw [← HNN.out]; exact hlt)) := List.getElem?_eq_getElem _
      obtain ⟨s, cs, ⟨c0, c1, c2, c3, c4⟩, hp⟩ := HC.out k _ gc
      obtain ⟨s', cs', ⟨d0, d1, d2, d3, d4⟩, hp'⟩ := HD.out k _ gd
      have c0 := cell_below hW c0
      have c1 := cell_below hW c1
      have c2 := cell_below hW c2
      have c3 := cell_below hW c3
      have c4 := cell_below hW c4
      have d0 := cell_below hW d0
      have d1 := cell_below hW d1
      have d2 := cell_below hW d2
      have d3 := cell_below hW d3
      have d4 := cell_below hW d4
      have HP : Hid _ := NdAt.below hW hp
      have HP' : Hid _ := NdAt.below hW hp'
      have HZ : Hid _ := zip_snoc (samP n) gc gd
      have HZ2 : Hid _ := zip_no (samP n) gc gd
      clear hp hp' gc gd
      generalize l[k] = x at *
      generalize m[k]'(by rw [← HNN.out]; exact hlt) = y at *
      have hA : Below wr.heap.size wr (wr.alloc (Obj.cells #[Value.int IntKind.i64 (kd n x), Value.string (bsA (tx n x)), Value.int IntKind.i64 (nu n x), Value.int IntKind.i64 (pl n x), Value.slice s (ks n x).length cs] 24)) := (Below.refl _ _).alloc (Nat.le_refl _) _
      have d0 := cell_below hA d0
      have d1 := cell_below hA d1
      have d2 := cell_below hA d2
      have d3 := cell_below hA d3
      have d4 := cell_below hA d4
      clear hA
      have h1 := fun W (hb : Below wr.heap.size wr W) => HFF.out x y s s' cs cs' W (NdAt.below hb HP.out) (NdAt.below hb HP'.out)
      unfold ndV at h1
      have HH : Hid _ := h1
      clear h1
      cases hxy : samP n x y with
      | false =>
        have HN : Hid (samL n l m = false) := HS.out.trans (HZ2.out hxy)
        go_wp2_with fail
        refine (HH.out _ (Bel.out (by repeat (first | exact Bel.refl _ | assumption | refine Bel.drew ?_ | refine Bel.drewN ?_ _ | refine Bel.alloc ?_ _ | refine Bel.setCell ?_ (by simp <;> omega) _ | refine Bel.step ?_ (by assumption))))).mono ?_
        rintro e w1 ⟨rfl, hb1⟩
        rw [hxy]
        have hB1 : Below w.heap.size w w1 := by
          refine hW.trans (Below.mono (Below.trans (((Below.refl _ wr).alloc (Nat.le_refl _) _).alloc ?_ _) (hb1.mono ?_)) hW.size)
          · simp
          · simp; omega
        go_wp2
        go_ret
        exact ⟨ret_bool HN.out.symm, hB1⟩
      | true =>
        have HN : Hid (((l.zip m).take (k + 1)).all (fun p => samP n p.1 p.2) = true) := by show _ = _; rw [HZ.out, HV.out, hxy]; rfl
        go_wp2_with fail
        refine (HH.out _ (Bel.out (by repeat (first | exact Bel.refl _ | assumption | refine Bel.drew ?_ | refine Bel.drewN ?_ _ | refine Bel.alloc ?_ _ | refine Bel.setCell ?_ (by simp <;> omega) _ | refine Bel.step ?_ (by assumption))))).mono ?_
        rintro e w1 ⟨rfl, hb1⟩
        rw [hxy]
        have hB1 : Below w.heap.size w w1 := by
          refine hW.trans (Below.mono (Below.trans (((Below.refl _ wr).alloc (Nat.le_refl _) _).alloc ?_ _) (hb1.mono ?_)) hW.size)
          · simp
          · simp; omega
        go_wp2
        go_roundw
        case rel => exact ⟨k + 1, by omega, by go_num, HN.out, ⟨hB1, hB1.size⟩⟩
        case measure => simp [intOf]; omega
    · have HN : Hid (samL n l m = true) := by
        show _ = _
        rw [HS.out, ← HV.out, List.take_of_length_le (by rw [List.length_zip, ← HNN.out]; omega)]
      go_wp2
      go_ret
      exact ⟨ret_bool HN.out.symm, hW⟩
theorem EqualFunc_ne (s s' : Option Addr) (l m c c' : Nat) (F : Value) (w : World) (h : ((l : Int) == (m : Int)) = false) :
    Calls Tryz.prog 35 #[.slice s l c, .slice s' m c', F] w fun e w' => e = .returned (.bool false) ∧ Below w.heap.size w w' := by
  go_enter Tryz.func35, Tryz.ntmps35
  go_wp2
  go_ret
  exact ⟨rfl, Below.refl _ _⟩
theorem EqualFunc_0 (s s' : Option Addr) (c c' : Nat) (F : Value) (w : World) :
    Calls Tryz.prog 35 #[.slice s 0 c, .slice s' 0 c', F] w fun e w' => e = .returned (.bool true) ∧ Below w.heap.size w w' := by
  go_enter Tryz.func35, Tryz.ntmps35
  go_wp2
  refine wp_loop_rounds 1 ?_
  rw [rounds_succ]
  go_wp2
  go_ret
  exact ⟨rfl, Below.refl _ _⟩
theorem EqualFunc_any (n : Nat) (l m : List (Tr n)) (s s' : Option Addr) (c c' : Nat) (w : World) (hF : (∀ (x y : Tr n) (s s' : Option Addr) (c c' : Nat) (W : World), NdAt W n x s → NdAt W n y s' → Calls Tryz.prog 18 #[ndV n x s c, ndV n y s' c'] W fun e w' => e = .returned (.bool (samP n x y)) ∧ Below W.heap.size W w')) (hl : KsAt w n s l) (hm : KsAt w n s' m) :
    Calls Tryz.prog 35 #[.slice s l.length c, .slice s' m.length c', .func (.func 18) #[] #[]] w fun e w' => e = .returned (.bool (samL n l m)) ∧ Below w.heap.size w w' := by
  by_cases hn : l.length = m.length
  · obtain ⟨hlen, hl⟩ := hl
    obtain ⟨_, hm⟩ := hm
    rcases hl with rfl | ⟨b, off, rfl, hc⟩
    · have hm0 : m = [] := List.length_eq_zero_iff.1 hn.symm
      subst hm0
      exact EqualFunc_0 s s' c c' _ w
    · rcases hm with rfl | ⟨b', off', rfl, hd⟩
      · have hl0 : l = [] := List.length_eq_zero_iff.1 hn
        subst hl0
        exact EqualFunc_0 _ s' c c' _ w
      · rw [← hn]
        exact EqualFunc_go n l m b off b' off' c c' w hF hn hlen hc hd
  · have e : samL n l m = false := by unfold samL; rw [decide_eq_false hn]; rfl
    rw [e]
    exact EqualFunc_ne s s' l.length m.length c c' _ w (by simpa using (fun h : (l.length : Int) = m.length => hn (by omega)))
theorem Same_core (k k' : Int) (t t' : List UInt8) (m m' a a' : Int) (s s' : Option Addr) (l l' c c' : Nat) (w : World) (q : Bool)
    (hE : ∀ W, Below w.heap.size w W → Calls Tryz.prog 35 #[.slice s l c, .slice s' l' c', .func (.func 18) #[] #[]] W fun e w' => e = .returned (.bool q) ∧ Below W.heap.size W w') :
    Calls Tryz.prog 18 #[.agg #[.int .i64 k, .string (bsA t), .int .i64 m, .int .i64 a, .slice s l c], .agg #[.int .i64 k', .string (bsA t'), .int .i64 m', .int .i64 a', .slice s' l' c']] w fun e w' => e = .returned (.bool (decide (k = k') && (decide (t = t') && (decide (m = m') && q)))) ∧ Below w.heap.size w w' := by
  have HE : Hid _ := hE
  clear hE
  by_cases hk : k = k'
  · subst hk
    by_cases ht : t = t'
    · subst ht
      by_cases hm : m = m'
      · subst hm
        simp only [decide_true, Bool.true_and]
        go_enter Tryz.func18, Tryz.ntmps18
        go_wp2_with fail
        refine (HE.out _ (((Below.refl _ w).alloc (Nat.le_refl _) _).alloc (by simp) _)).mono ?_
        rintro e w1 ⟨rfl, hb1⟩
        have hB1 : Below w.heap.size w w1 := by
          refine Below.trans (((Below.refl _ w).alloc (Nat.le_refl _) _).alloc ?_ _) (hb1.mono ?_)
          · simp
          · simp; omega
        go_wp2
        go_ret
        exact ⟨rfl, hB1⟩
      · rw [decide_eq_false hm]
        simp only [decide_true, Bool.true_and, Bool.false_and]
        have hm' : (m == m') = false := by simpa using hm
        go_enter Tryz.func18, Tryz.ntmps18
        go_wp2
        go_ret
        exact ⟨rfl, Bel.out (by repeat (first | exact Bel.refl _ | assumption | refine Bel.drew ?_ | refine Bel.drewN ?_ _ | refine Bel.alloc ?_ _ | refine Bel.setCell ?_ (by simp <;> omega) _ | refine Bel.step ?_ (by assumption)))⟩
    · rw [decide_eq_false ht]
      simp only [decide_true, Bool.true_and, Bool.false_and]
      have ht' : ¬ (bsA t).toList = (bsA t').toList := by rw [bsA_tl, bsA_tl]; exact ht
      go_enter Tryz.func18, Tryz.ntmps18
      go_wp2
      go_ret
      exact ⟨rfl, Bel.out (by repeat (first | exact Bel.refl _ | assumption | refine Bel.drew ?_ | refine Bel.drewN ?_ _ | refine Bel.alloc ?_ _ | refine Bel.setCell ?_ (by simp <;> omega) _ | refine Bel.step ?_ (by assumption)))⟩
  · rw [decide_eq_false hk]
    simp only [Bool.false_and]
    have hk' : (k == k') = false := by simpa using hk
    go_enter Tryz.func18, Tryz.ntmps18
    go_wp2
    go_ret
    exact ⟨rfl, Bel.out (by repeat (first | exact Bel.refl _ | assumption | refine Bel.drew ?_ | refine Bel.drewN ?_ _ | refine Bel.alloc ?_ _ | refine Bel.setCell ?_ (by simp <;> omega) _ | refine Bel.step ?_ (by assumption)))⟩
theorem Same_any : ∀ (n : Nat) (x y : Tr n) (s s' : Option Addr) (c c' : Nat) (W : World), NdAt W n x s → NdAt W n y s' → Calls Tryz.prog 18 #[ndV n x s c, ndV n y s' c'] W fun e w' => e = .returned (.bool (samP n x y)) ∧ Below W.heap.size W w'
  | 0, _, _, _, _, _, _, _, h, _ => h.elim
  | n + 1, x, y, s, s', c, c', W, hx, hy => by
    rw [samP_eq]
    exact Same_core _ _ _ _ _ _ _ _ s s' _ _ c c' W _ (fun W' hb => EqualFunc_any n (ks (n + 1) x) (ks (n + 1) y) s s' c c' W' (fun x y s s' c c' W => Same_any n x y s s' c c' W) (KsAt.below (NdAt.kids hx) hb) (KsAt.below (NdAt.kids hy) hb))
end Go.Proofs.YtcemogaacicnfaaGreatDoor
