/- Places: functions that tell which trees may stand somewhere. -/
import Derived.Test.YtcemogaacicnfaaGreatDoorFrs
import Derived.Test.YtcemogaacicnfaaGreatDoorShelfV
import Derived.Test.YtcemogaacicnfaaGreatDoorNdg
import Derived.Test.YtcemogaacicnfaaGreatDoorSiz
import Derived.Test.YtcemogaacicnfaaGreatDoorHol
import Derived.Test.YtcemogaacicnfaaGreatDoorCpy
namespace Go.Proofs.YtcemogaacicnfaaGreatDoor
set_option maxRecDepth 20000
set_option maxHeartbeats 4000000
set_option linter.unusedSimpArgs false
section
open Go.ChangeShapes Go.WideShapes Go.ChangeAt Go.RowKit

/-- A function of the program's own. -/
def Ent (k : FuncId) : Prop := ∀ (args : Array Value) (w : World), (callFunc k args).run Tryz.prog w = .ok (.enter k args) w
theorem ent_of {k : FuncId} {fn : Func} (h : Tryz.prog.funcs[k]? = some fn) (hn : (fn.name == "runtime.NumGoroutine") = false) (hb : fn.body.isNone = false) : Ent k := fun args w => by
  have hn' : ¬ fn.name = "runtime.NumGoroutine" := by simpa using hn
  have hb' : ¬ fn.body = none := fun e => by rw [e] at hb; cases hb
  simp [callFunc, go_sem, h, hn', hb']
/-- A function, with what it holds, that tells of trees by P. -/
structure May (k : FuncId) (cs : List Value) (n : Nat) (P : Tr n → Bool) (w : World) : Prop where
  ent : Ent k
  run : ∀ W : World, Below w.heap.size w W → ∀ (y : Tr n) (s : Option Addr) (c : Nat), NdG W n y s c → Calls Tryz.prog k (ndV n y s c :: cs).toArray W fun e w' => e = .returned (.bool (P y)) ∧ Below W.heap.size W w'
def plV (k : FuncId) (cs : List Value) : Value := .func (.func k) #[] cs.toArray
theorem May.below {k : FuncId} {cs : List Value} {n : Nat} {P : Tr n → Bool} {w w' : World} (h : May k cs n P w) (hb : Below w.heap.size w w') : May k cs n P w' := ⟨h.1, fun W hW y s c hy => h.2 W (hb.trans (hW.mono hb.size)) y s c hy⟩
/-- One place. -/
abbrev Plc (n : Nat) : Type := FuncId × List Value × (Tr n → Bool)
def areP (n : Nat) (l : List (Tr n)) (ps : List (Plc n)) : Bool := decide (l.length = ps.length) && (l.zip ps).all fun q => q.2.2.2 q.1
theorem zip_snoc2 {α β : Type} (f : α → β → Bool) {l : List α} {m : List β} {i : Nat} {a : α} {b : β} (ha : l[i]? = some a) (hb : m[i]? = some b) : ((l.zip m).take (i + 1)).all (fun p => f p.1 p.2) = (((l.zip m).take i).all (fun p => f p.1 p.2) && f a b) := by
  have h : (l.zip m)[i]? = some (a, b) := by rw [List.getElem?_zip_eq_some]; exact ⟨ha, hb⟩
  rw [List.take_add_one, h, List.all_append]
  simp
theorem zip_no2 {α β : Type} (f : α → β → Bool) {l : List α} {m : List β} {i : Nat} {a : α} {b : β} (ha : l[i]? = some a) (hb : m[i]? = some b) (hf : f a b = false) : (l.zip m).all (fun p => f p.1 p.2) = false := by
  have h : (l.zip m)[i]? = some (a, b) := by rw [List.getElem?_zip_eq_some]; exact ⟨ha, hb⟩
  rw [List.all_eq_false]
  exact ⟨(a, b), List.mem_of_getElem? h, by simp [hf]⟩
theorem are1_any (n : Nat) (y : Tr n) (s : Option Addr) (c : Nat) (k : FuncId) (cs : List Value) (P : Tr n → Bool) (w : World) (hM : May k cs n P w) (hy : NdG w n y s c) :
    Calls Tryz.prog 86 #[ndV n y s c, plV k cs] w fun e w' => e = .returned (.bool (P y)) ∧ Below w.heap.size w w' := by
  have hA : Below w.heap.size w (w.alloc (Obj.cells #[Value.int IntKind.i64 (kd n y), Value.string (bsA (tx n y)), Value.int IntKind.i64 (nu n y), Value.int IntKind.i64 (pl n y), Value.slice s (ks n y).length c] 24)) := (Below.refl _ _).alloc (Nat.le_refl _) _
  obtain ⟨d0, d1, d2, d3, d4⟩ := box5_new w (.int .i64 (kd n y)) (.string (bsA (tx n y))) (.int .i64 (nu n y)) (.int .i64 (pl n y)) (.slice s (ks n y).length c) 24
  have hE := hM.ent
  unfold Ent at hE
  have h1 := hM.run _ hA y s c (NdG.below hA hy)
  unfold ndV at h1 ⊢
  unfold plV
  clear hy hM
  go_enter Tryz.func86, Tryz.ntmps86
  go_wp2_with fail
  refine h1.mono ?_
  rintro e w1 ⟨rfl, hb1⟩
  have hB1 := hA.trans (hb1.mono hA.size)
  clear h1
  go_wp2
  go_ret
  exact ⟨rfl, hB1⟩
theorem EqualPl_go (n : Nat) (l : List (Tr n)) (ps : List (Plc n)) (b off g goff c c' : Nat) (w : World) (hn : l.length = ps.length) (hlen : l.length ≤ 9223372036854775807)
    (hc : ∀ i y, l[i]? = some y → ∃ s c, (w.cell? ⟨b, off + i * 5, none⟩ = some (.int .i64 (kd n y)) ∧ w.cell? ⟨b, off + i * 5 + 1, none⟩ = some (.string (bsA (tx n y))) ∧ w.cell? ⟨b, off + i * 5 + 2, none⟩ = some (.int .i64 (nu n y)) ∧ w.cell? ⟨b, off + i * 5 + 3, none⟩ = some (.int .i64 (pl n y)) ∧ w.cell? ⟨b, off + i * 5 + 4, none⟩ = some (.slice s (ks n y).length c)) ∧ NdG w n y s c)
    (hd : ∀ i p, ps[i]? = some p → w.cell? ⟨g, goff + i, none⟩ = some (plV p.1 p.2.1)) (hM : ∀ p ∈ ps, May p.1 p.2.1 n p.2.2 w) :
    Calls Tryz.prog 85 #[.slice (some ⟨b, off, none⟩) l.length c, .slice (some ⟨g, goff, none⟩) l.length c', .func (.func 86) #[] #[]] w fun e w' => e = .returned (.bool ((l.zip ps).all fun q => q.2.2.2 q.1)) ∧ Below w.heap.size w w' := by
  have HC : Hid _ := hc
  have HD : Hid _ := hd
  have HM : Hid _ := hM
  have HNN : Hid (l.length = ps.length) := hn
  clear hc hd hn hM
  go_enter Tryz.func85, Tryz.ntmps85
  go_wp2
  go_loopw [17] (fun i wr => ∃ k : Nat, k ≤ l.length ∧ i = .int .i64 k ∧ ((l.zip ps).take k).all (fun q => q.2.2.2 q.1) = true ∧ Bel w.heap.size w wr) (fun i _ => l.length - (intOf i).toNat)
  case atStart => exact ⟨0, Nat.zero_le _, rfl, rfl, Bel.refl _⟩
  case round =>
    obtain ⟨k, hk, rfl, hV, HB⟩ := hrel
    have HV : Hid (((l.zip ps).take k).all (fun q => q.2.2.2 q.1) = true) := hV
    clear hV
    have hW := HB.out
    rcases Nat.lt_or_ge k l.length with hlt | hge
    · obtain ⟨x, gc⟩ : ∃ x, l[k]? = some x := ⟨_, List.getElem?_eq_getElem hlt⟩
      obtain ⟨p, gd⟩ : ∃ p, ps[k]? = some p := ⟨_, List.getElem?_eq_getElem (by rw [← HNN.out]; exact hlt)⟩
      obtain ⟨s, cs, ⟨c0, c1, c2, c3, c4⟩, hp⟩ := HC.out k _ gc
      have d0 := HD.out k _ gd
      have c0 := cell_below hW c0
      have c1 := cell_below hW c1
      have c2 := cell_below hW c2
      have c3 := cell_below hW c3
      have c4 := cell_below hW c4
      have d0 := cell_below hW d0
      have HP : Hid _ := NdG.below hW hp
      have HMp : Hid (May p.1 p.2.1 n p.2.2 wr) := (HM.out p (List.mem_of_getElem? gd)).below hW
      have HZ : Hid _ := zip_snoc2 (fun (a : Tr n) (b : Plc n) => b.2.2 a) gc gd
      have HZ2 : Hid _ := zip_no2 (fun (a : Tr n) (b : Plc n) => b.2.2 a) gc gd
      clear hp gc gd
      obtain ⟨kk, vs, P⟩ := p
      dsimp only at d0 HMp HZ HZ2
      have hA : Below wr.heap.size wr (wr.alloc (Obj.cells #[Value.int IntKind.i64 (kd n x), Value.string (bsA (tx n x)), Value.int IntKind.i64 (nu n x), Value.int IntKind.i64 (pl n x), Value.slice s (ks n x).length cs] 24)) := (Below.refl _ _).alloc (Nat.le_refl _) _
      have d0 := cell_below hA d0
      have hB2 := hW.trans (hA.mono hW.size)
      have h1 := are1_any n x s cs kk vs P _ (HMp.out.below hA) (NdG.below hA HP.out)
      unfold ndV at h1
      cases hxy : P x with
      | false =>
        have HN : Hid ((l.zip ps).all (fun q => q.2.2.2 q.1) = false) := HZ2.out hxy
        rw [hxy] at h1
        clear HZ HZ2 HV hxy HP HMp hA
        go_wp2_with fail
        refine h1.mono ?_
        rintro e w1 ⟨rfl, hb1⟩
        have hB1 := hB2.trans (hb1.mono hB2.size)
        clear h1
        go_wp2
        go_ret
        exact ⟨ret_bool HN.out.symm, hB1⟩
      | true =>
        have HN : Hid (((l.zip ps).take (k + 1)).all (fun q => q.2.2.2 q.1) = true) := by show _ = _; rw [HZ.out, HV.out, hxy]; rfl
        rw [hxy] at h1
        clear HZ HZ2 HV hxy HP HMp hA
        go_wp2_with fail
        refine h1.mono ?_
        rintro e w1 ⟨rfl, hb1⟩
        have hB1 := hB2.trans (hb1.mono hB2.size)
        clear h1
        go_wp2
        go_roundw
        case rel => exact ⟨k + 1, by omega, by go_num, HN.out, ⟨hB1, hB1.size⟩⟩
        case measure => simp [intOf]; omega
    · have HN : Hid ((l.zip ps).all (fun q => q.2.2.2 q.1) = true) := by
        show _ = _
        rw [← HV.out, List.take_of_length_le (by rw [List.length_zip, ← HNN.out]; omega)]
      go_wp2
      go_ret
      exact ⟨ret_bool HN.out.symm, hW⟩
theorem EqualPl_no (a b : Option Addr) (m m' c c' : Nat) (F : Value) (w : World) (h : ((m : Int) == (m' : Int)) = false) : Calls Tryz.prog 85 #[.slice a m c, .slice b m' c', F] w fun e w' => e = .returned (.bool false) ∧ Below w.heap.size w w' := by
  go_enter Tryz.func85, Tryz.ntmps85
  go_wp2
  go_ret
  exact ⟨rfl, Below.refl _ _⟩
/-- Places side by side. -/
def PsAt (w : World) (n : Nat) (a : Option Addr) (ps : List (Plc n)) : Prop := ps = [] ∨ ∃ g off, a = some ⟨g, off, none⟩ ∧ ∀ i p, ps[i]? = some p → w.cell? ⟨g, off + i, none⟩ = some (plV p.1 p.2.1)
theorem EqualPl_any (n : Nat) (l : List (Tr n)) (ps : List (Plc n)) (a a' : Option Addr) (c c' : Nat) (w : World) (hl : KsG w n a c l) (hp : PsAt w n a' ps) (hM : ∀ p ∈ ps, May p.1 p.2.1 n p.2.2 w) :
    Calls Tryz.prog 85 #[.slice a l.length c, .slice a' ps.length c', .func (.func 86) #[] #[]] w fun e w' => e = .returned (.bool (areP n l ps)) ∧ Below w.heap.size w w' := by
  by_cases hn : l.length = ps.length
  · have e : areP n l ps = (l.zip ps).all fun q => q.2.2.2 q.1 := by unfold areP; rw [decide_eq_true hn]; rfl
    obtain ⟨hlen, hl, _⟩ := hl
    rcases hl with rfl | ⟨b, off, rfl, hc⟩
    · have h0 : ps = [] := List.length_eq_zero_iff.1 hn.symm
      subst h0
      exact EqualPl_0 a a' c c' _ w
    · rcases hp with rfl | ⟨g, goff, rfl, hd⟩
      · have h0 : l = [] := List.length_eq_zero_iff.1 hn
        subst h0
        exact EqualPl_0 _ a' c c' _ w
      · rw [e, ← hn]
        exact EqualPl_go n l ps b off g goff c c' w hn hlen hc hd hM
  · have e : areP n l ps = false := by unfold areP; rw [decide_eq_false hn]; rfl
    rw [e]
    exact EqualPl_no a a' l.length ps.length c c' _ w (by simpa using (fun h : (l.length : Int) = ps.length => hn (by omega)))
theorem are_any (n : Nat) (l : List (Tr n)) (ps : List (Plc n)) (a a' : Option Addr) (c c' : Nat) (w : World) (hl : KsG w n a c l) (hp : PsAt w n a' ps) (hM : ∀ p ∈ ps, May p.1 p.2.1 n p.2.2 w) :
    Calls Tryz.prog 40 #[.slice a l.length c, .slice a' ps.length c'] w fun e w' => e = .returned (.bool (areP n l ps)) ∧ Below w.heap.size w w' := by
  have h1 := EqualPl_any n l ps a a' c c' w hl hp hM
  generalize areP n l ps = r at *
  clear hl hp hM
  go_enter Tryz.func40, Tryz.ntmps40
  go_wp2_with fail
  refine h1.mono ?_
  rintro e w1 ⟨rfl, hb1⟩
  clear h1
  go_wp2
  go_ret
  exact ⟨rfl, hb1⟩
theorem many1_any (n : Nat) (y : Tr n) (s : Option Addr) (c B : Nat) (k : FuncId) (cs : List Value) (P : Tr n → Bool) (w : World) (hM : May k cs n P w) (hc : w.cell? ⟨B, 0, none⟩ = some (plV k cs)) (hy : NdG w n y s c) :
    Calls Tryz.prog 88 #[ndV n y s c, .pointer (some ⟨B, 0, none⟩)] w fun e w' => e = .returned (.bool (!P y)) ∧ Below w.heap.size w w' := by
  have hA : Below w.heap.size w (w.alloc (Obj.cells #[Value.int IntKind.i64 (kd n y), Value.string (bsA (tx n y)), Value.int IntKind.i64 (nu n y), Value.int IntKind.i64 (pl n y), Value.slice s (ks n y).length c] 24)) := (Below.refl _ _).alloc (Nat.le_refl _) _
  obtain ⟨d0, d1, d2, d3, d4⟩ := box5_new w (.int .i64 (kd n y)) (.string (bsA (tx n y))) (.int .i64 (nu n y)) (.int .i64 (pl n y)) (.slice s (ks n y).length c) 24
  have hE := hM.ent
  unfold Ent at hE
  have hc := cell_below hA hc
  have h1 := hM.run _ hA y s c (NdG.below hA hy)
  unfold ndV at h1 ⊢
  unfold plV at hc
  clear hy hM
  go_enter Tryz.func88, Tryz.ntmps88
  go_wp2_with fail
  refine h1.mono ?_
  rintro e w1 ⟨rfl, hb1⟩
  have hB1 := hA.trans (hb1.mono hA.size)
  clear h1
  go_wp2
  go_ret
  exact ⟨rfl, hB1⟩
theorem IndexMay_go (n : Nat) (l : List (Tr n)) (b off c B : Nat) (k : FuncId) (cs : List Value) (P : Tr n → Bool) (w : World) (hlen : l.length ≤ 9223372036854775807)
    (hc : ∀ i y, l[i]? = some y → ∃ s c, (w.cell? ⟨b, off + i * 5, none⟩ = some (.int .i64 (kd n y)) ∧ w.cell? ⟨b, off + i * 5 + 1, none⟩ = some (.string (bsA (tx n y))) ∧ w.cell? ⟨b, off + i * 5 + 2, none⟩ = some (.int .i64 (nu n y)) ∧ w.cell? ⟨b, off + i * 5 + 3, none⟩ = some (.int .i64 (pl n y)) ∧ w.cell? ⟨b, off + i * 5 + 4, none⟩ = some (.slice s (ks n y).length c)) ∧ NdG w n y s c) (hM : May k cs n P w) (hp : w.cell? ⟨B, 0, none⟩ = some (plV k cs)) :
    Calls Tryz.prog 118 #[.slice (some ⟨b, off, none⟩) l.length c, .func (.func 88) #[] #[.pointer (some ⟨B, 0, none⟩)]] w fun e w' => (∃ r : Int, e = .returned (.int .i64 r) ∧ decide (0 ≤ r) = l.any fun y => !P y) ∧ Below w.heap.size w w' := by
  have HC : Hid _ := hc
  have HM : Hid (May k cs n P w) := hM
  have HPP : Hid _ := hp
  clear hc hM hp
  go_enter Tryz.func118, Tryz.ntmps118
  go_wp2
  go_loopw [8] (fun i wr => ∃ k : Nat, k ≤ l.length ∧ i = .int .i64 k ∧ ((l.take k).any fun y => !P y) = false ∧ Bel w.heap.size w wr) (fun i _ => l.length - (intOf i).toNat)
  case atStart => exact ⟨0, Nat.zero_le _, rfl, rfl, Bel.refl _⟩
  case round =>
    obtain ⟨i, hk, rfl, hV, HB⟩ := hrel
    have HV : Hid (((l.take i).any fun y => !P y) = false) := hV
    clear hV
    have hW := HB.out
    rcases Nat.lt_or_ge i l.length with hlt | hge
    · obtain ⟨y, gc⟩ : ∃ y, l[i]? = some y := ⟨_, List.getElem?_eq_getElem hlt⟩
      obtain ⟨s, cs', ⟨c0, c1, c2, c3, c4⟩, hp⟩ := HC.out i _ gc
      have c0 := cell_below hW c0
      have c1 := cell_below hW c1
      have c2 := cell_below hW c2
      have c3 := cell_below hW c3
      have c4 := cell_below hW c4
      have h1 := many1_any n y s cs' B k cs P wr (HM.out.below hW) (cell_below hW HPP.out) (NdG.below hW hp)
      have HZ : Hid _ := any_snoc (fun y => !P y) gc
      have HY : Hid _ := any_yes (fun y => !P y) gc
      clear hp gc
      unfold ndV at h1
      cases hxy : !P y with
      | true =>
        rw [hxy] at h1
        have HN : Hid ((l.any fun y => !P y) = true) := HY.out hxy
        clear HZ HY hxy
        go_wp2_with fail
        refine h1.mono ?_
        rintro e w1 ⟨rfl, hb1⟩
        have hB1 := hW.trans (hb1.mono hW.size)
        clear h1
        go_wp2
        go_ret
        exact ⟨⟨_, rfl, by rw [HN.out]; simp⟩, hB1⟩
      | false =>
        rw [hxy] at h1
        have HN : Hid (((l.take (i + 1)).any fun y => !P y) = false) := by show _ = _; rw [HZ.out, HV.out, hxy]; rfl
        clear HZ HY hxy
        go_wp2_with fail
        refine h1.mono ?_
        rintro e w1 ⟨rfl, hb1⟩
        have hB1 := hW.trans (hb1.mono hW.size)
        clear h1
        go_wp2
        go_roundw
        case rel => exact ⟨i + 1, by omega, by go_num, HN.out, ⟨hB1, hB1.size⟩⟩
        case measure => simp [intOf]; omega
    · have HN : Hid ((l.any fun y => !P y) = false) := by
        show _ = _
        rw [← HV.out, List.take_of_length_le hge]
      go_wp2
      go_ret
      exact ⟨⟨-1, rfl, by rw [HN.out]; rfl⟩, hW⟩
theorem IndexMay_any (n : Nat) (l : List (Tr n)) (a : Option Addr) (c B : Nat) (k : FuncId) (cs : List Value) (P : Tr n → Bool) (w : World) (hl : KsG w n a c l) (hM : May k cs n P w) (hp : w.cell? ⟨B, 0, none⟩ = some (plV k cs)) :
    Calls Tryz.prog 118 #[.slice a l.length c, .func (.func 88) #[] #[.pointer (some ⟨B, 0, none⟩)]] w fun e w' => (∃ r : Int, e = .returned (.int .i64 r) ∧ decide (0 ≤ r) = l.any fun y => !P y) ∧ Below w.heap.size w w' := by
  obtain ⟨hlen, hl, _⟩ := hl
  rcases hl with rfl | ⟨b, off, rfl, hc⟩
  · exact (IndexFunc_0 a c _ w).mono fun e w' h => by
      obtain ⟨rfl, h⟩ := h
      exact ⟨⟨-1, rfl, rfl⟩, h⟩
  · exact IndexMay_go n l b off c B k cs P w hlen hc hM hp
theorem ContainsMay_any (n : Nat) (l : List (Tr n)) (a : Option Addr) (c B : Nat) (k : FuncId) (cs : List Value) (P : Tr n → Bool) (w : World) (hl : KsG w n a c l) (hM : May k cs n P w) (hp : w.cell? ⟨B, 0, none⟩ = some (plV k cs)) :
    Calls Tryz.prog 83 #[.slice a l.length c, .func (.func 88) #[] #[.pointer (some ⟨B, 0, none⟩)]] w fun e w' => e = .returned (.bool (l.any fun y => !P y)) ∧ Below w.heap.size w w' := by
  have h1 := IndexMay_any n l a c B k cs P w hl hM hp
  generalize (l.any fun y => !P y) = q at *
  generalize l.length = len at *
  clear hl hM hp
  go_enter Tryz.func83, Tryz.ntmps83
  go_wp2_with fail
  refine h1.mono ?_
  rintro e w1 ⟨⟨r, rfl, hr⟩, hb1⟩
  clear h1
  go_wp2
  go_ret
  exact ⟨rfl, hb1⟩
def manyP (n : Nat) (l : List (Tr n)) (lo hi : Int) (P : Tr n → Bool) : Bool := decide (lo ≤ (l.length : Int)) && decide ((l.length : Int) ≤ hi) && l.all P
theorem ent88 : Ent 88 := ent_of Tryz.func88 (by kernel_rfl) (by kernel_rfl)
theorem many_any (n : Nat) (l : List (Tr n)) (a : Option Addr) (c : Nat) (lo hi : Int) (k : FuncId) (cs : List Value) (P : Tr n → Bool) (w : World) (hl : KsG w n a c l) (hM : May k cs n P w) :
    Calls Tryz.prog 47 #[.slice a l.length c, .int .i64 lo, .int .i64 hi, plV k cs] w fun e w' => e = .returned (.bool (manyP n l lo hi P)) ∧ Below w.heap.size w w' := by
  have hA : Below w.heap.size w (w.alloc (Obj.cells #[plV k cs] 49)) := (Below.refl _ _).alloc (Nat.le_refl _) _
  obtain ⟨g0, _⟩ := cell1_new w (plV k cs) 49
  have h0 := within_any (l.length : Int) lo hi (w.alloc (Obj.cells #[plV k cs] 49))
  have h1 := ContainsMay_any n l a c w.heap.size k cs P (w.alloc (Obj.cells #[plV k cs] 49)) (hl.below hA) (hM.below hA) g0
  have HR : Hid (manyP n l lo hi P = (decide (lo ≤ (l.length : Int)) && decide ((l.length : Int) ≤ hi) && !(l.any fun y => !P y))) := by
    show _ = _
    unfold manyP
    rw [List.all_eq_not_any_not]
  generalize (l.any fun y => !P y) = q at *
  generalize manyP n l lo hi P = r at *
  have hl63 : l.length ≤ 9223372036854775807 := hl.1
  clear hl hM
  generalize l.length = len at *
  generalize (decide (lo ≤ (len : Int)) && decide ((len : Int) ≤ hi)) = b at *
  unfold plV at *
  go_enter Tryz.func47, Tryz.ntmps47
  cases b with
  | false =>
    go_wp2_with fail
    refine h0.mono ?_
    rintro e w1 ⟨rfl, rfl⟩
    clear h0
    go_wp2
    go_ret
    exact ⟨ret_bool HR.out.symm, hA⟩
  | true =>
    go_wp2_with fail
    refine h0.mono ?_
    rintro e w1 ⟨rfl, rfl⟩
    clear h0
    go_wp2_with fail
    refine h1.mono ?_
    rintro e w2 ⟨rfl, hb2⟩
    have hB2 := hA.trans (hb2.mono hA.size)
    clear h1
    go_wp2
    go_ret
    exact ⟨ret_bool HR.out.symm, hB2⟩
theorem ent92 : Ent 92 := ent_of Tryz.func92 (by kernel_rfl) (by kernel_rfl)
theorem either1_any (n : Nat) (y : Tr n) (s : Option Addr) (c B B' : Nat) (k k' : FuncId) (cs cs' : List Value) (P Q : Tr n → Bool) (w : World) (hM : May k cs n P w) (hM' : May k' cs' n Q w) (hc : w.cell? ⟨B, 0, none⟩ = some (plV k cs)) (hc' : w.cell? ⟨B', 0, none⟩ = some (plV k' cs')) (hy : NdG w n y s c) :
    Calls Tryz.prog 92 #[ndV n y s c, .pointer (some ⟨B, 0, none⟩), .pointer (some ⟨B', 0, none⟩)] w fun e w' => e = .returned (.bool (P y || Q y)) ∧ Below w.heap.size w w' := by
  have hA : Below w.heap.size w (w.alloc (Obj.cells #[Value.int IntKind.i64 (kd n y), Value.string (bsA (tx n y)), Value.int IntKind.i64 (nu n y), Value.int IntKind.i64 (pl n y), Value.slice s (ks n y).length c] 24)) := (Below.refl _ _).alloc (Nat.le_refl _) _
  have bY := Box5.new w (.int .i64 (kd n y)) (.string (bsA (tx n y))) (.int .i64 (nu n y)) (.int .i64 (pl n y)) (.slice s (ks n y).length c) 24
  have hE := hM.ent
  have hE' := hM'.ent
  unfold Ent at hE hE'
  have hc := cell_below hA hc
  have HC' : Hid _ := cell_below hA hc'
  have h1 := hM.run _ hA y s c (NdG.below hA hy)
  have h2 := fun W (hb : Below (w.alloc (Obj.cells #[Value.int IntKind.i64 (kd n y), Value.string (bsA (tx n y)), Value.int IntKind.i64 (nu n y), Value.int IntKind.i64 (pl n y), Value.slice s (ks n y).length c] 24)).heap.size (w.alloc (Obj.cells #[Value.int IntKind.i64 (kd n y), Value.string (bsA (tx n y)), Value.int IntKind.i64 (nu n y), Value.int IntKind.i64 (pl n y), Value.slice s (ks n y).length c] 24)) W) => hM'.run W (hA.trans (hb.mono hA.size)) y s c (NdG.below hb (NdG.below hA hy))
  unfold ndV at h1 h2 ⊢
  have H2 : Hid _ := h2
  have HBY : Hid _ := bY
  obtain ⟨d0, d1, d2, d3, d4, -, -, -, -, -⟩ := bY
  clear hy hM hM' h2 hc'
  unfold plV at hc
  go_enter Tryz.func92, Tryz.ntmps92
  cases hp : P y with
  | true =>
    rw [hp] at h1
    go_wp2_with fail
    refine h1.mono ?_
    rintro e w1 ⟨rfl, hb1⟩
    have hB1 := hA.trans (hb1.mono hA.size)
    clear h1
    go_wp2
    go_ret
    exact ⟨rfl, hB1⟩
  | false =>
    rw [hp] at h1
    go_wp2_with fail
    refine h1.mono ?_
    rintro e w1 ⟨rfl, hb1⟩
    have hB1 := hA.trans (hb1.mono hA.size)
    have h2 := H2.out w1 hb1
    obtain ⟨e0, e1, e2, e3, e4, -, -, -, -, -⟩ := HBY.out.below hb1
    have hc' := cell_below hb1 HC'.out
    unfold plV at hc'
    clear h1 d0 d1 d2 d3 d4 hc hp
    go_wp2_with fail
    refine h2.mono ?_
    rintro e w2 ⟨rfl, hb2⟩
    have hB2 := hB1.trans (hb2.mono hB1.size)
    clear h2
    go_wp2
    go_ret
    exact ⟨rfl, hB2⟩
theorem either_any (k k' : FuncId) (cs cs' : List Value) (w : World) :
    Calls Tryz.prog 52 #[plV k cs, plV k' cs'] w fun e w' => (∃ vs, e = .returned (plV 92 vs) ∧ ∀ n P Q, May k cs n P w → May k' cs' n Q w → May 92 vs n (fun y => P y || Q y) w') ∧ Below w.heap.size w w' := by
  have hA : Below w.heap.size w (w.alloc (Obj.cells #[plV k cs] 49)) := (Below.refl _ _).alloc (Nat.le_refl _) _
  have hA' : Below (w.alloc (Obj.cells #[plV k cs] 49)).heap.size (w.alloc (Obj.cells #[plV k cs] 49)) ((w.alloc (Obj.cells #[plV k cs] 49)).alloc (Obj.cells #[plV k' cs'] 49)) := (Below.refl _ _).alloc (Nat.le_refl _) _
  have hB := hA.trans (hA'.mono hA.size)
  obtain ⟨g0, _⟩ := cell1_new w (plV k cs) 49
  obtain ⟨g1, _⟩ := cell1_new (w.alloc (Obj.cells #[plV k cs] 49)) (plV k' cs') 49
  have HG0 : Hid _ := cell_below hA' g0
  have HG1 : Hid _ := g1
  have HE : Hid (∀ n P Q, May k cs n P w → May k' cs' n Q w → May 92 [.pointer (some ⟨w.heap.size, 0, none⟩), .pointer (some ⟨w.heap.size + 1, 0, none⟩)] n (fun y => P y || Q y) ((w.alloc (Obj.cells #[plV k cs] 49)).alloc (Obj.cells #[plV k' cs'] 49))) := by
    intro n P Q hP hQ
    rw [World.size_alloc] at g1
    exact ⟨ent92, fun W hW y s c hy => either1_any n y s c _ _ k k' cs cs' P Q W ((hP.below hB).below hW) ((hQ.below hB).below hW) (cell_below hW HG0.out) (cell_below hW g1) hy⟩
  clear g0 g1 HG0 HG1 hA hA'
  unfold plV at hB HE ⊢
  go_enter Tryz.func52, Tryz.ntmps52
  go_wp2
  go_ret
  exact ⟨⟨_, rfl, HE.out⟩, hB⟩
end
section
open Go.ChangeShapes Go.WideShapes Go.ChangeAt Go.RowKit

/-- A tree in a box, as it is while a test goes over it. -/
structure Nd (w : World) (n : Nat) (k : Int) (t : List UInt8) (m a : Int) (l : List (Tr n)) (s : Option Addr) (c : Nat) (W : World) : Prop where
  box : Box5 W w.heap.size (.int .i64 k) (.string (bsA t)) (.int .i64 m) (.int .i64 a) (.slice s l.length c)
  kids : KsG W n s c l
  bel : Below w.heap.size w W
  rdy : Rdy W
theorem Nd.new (w : World) (n : Nat) (k : Int) (t : List UInt8) (m a : Int) (l : List (Tr n)) (s : Option Addr) (c : Nat) (hR : Rdy w) (hl : KsG w n s c l) : Nd w n k t m a l s c (w.alloc (Obj.cells #[Value.int IntKind.i64 k, Value.string (bsA t), Value.int IntKind.i64 m, Value.int IntKind.i64 a, Value.slice s l.length c] 24)) := by
  have hA : Below w.heap.size w (w.alloc (Obj.cells #[Value.int IntKind.i64 k, Value.string (bsA t), Value.int IntKind.i64 m, Value.int IntKind.i64 a, Value.slice s l.length c] 24)) := (Below.refl _ _).alloc (Nat.le_refl _) _
  exact ⟨Box5.new w _ _ _ _ _ 24, hl.below hA, hA, hR.below hA⟩
theorem Nd.step {w : World} {n : Nat} {k : Int} {t : List UInt8} {m a : Int} {l : List (Tr n)} {s : Option Addr} {c : Nat} {W W' : World} (h : Nd w n k t m a l s c W) (hb : Below W.heap.size W W') : Nd w n k t m a l s c W' :=
  ⟨h.box.below hb, h.kids.below hb, h.bel.trans (hb.mono h.bel.size), h.rdy.below hb⟩
def areQ (n : Nat) (l : List (Tr n)) (ps : List (Tr n → Bool)) : Bool := decide (l.length = ps.length) && (l.zip ps).all fun q => q.2 q.1
theorem areP_Q (n : Nat) (l : List (Tr n)) (ps : List (Plc n)) : areP n l ps = areQ n l (ps.map fun p => p.2.2) := by
  unfold areP areQ
  rw [List.length_map, List.zip_map_right, List.all_map]
  rfl
theorem arr_new (w : World) (vs : Array Value) (T : TypeId) (j : Nat) (u : Value) (hj : vs.toList[j]? = some u) : (w.alloc (.cells vs T)).cell? ⟨w.heap.size, j, none⟩ = some u := by
  unfold World.cell?
  simp only [World.alloc_heap_new]
  simpa using hj
theorem beqI (a b : Int) : (a == b) = decide (a = b) := by by_cases h : a = b <;> simp [h]
theorem beqL (a b : List UInt8) : (a == b) = decide (a = b) := by by_cases h : a = b <;> simp [h]
theorem are_b (n : Nat) (l : List (Tr n)) (ps : List (Plc n)) (s : Option Addr) (c g c' len : Nat) (W : World) (cs : Array Value) (hcs : cs.toList = ps.map fun p => plV p.1 p.2.1) (hlen : len = ps.length) (hg : g = W.heap.size) (hl : KsG W n s c l) (hM : ∀ p ∈ ps, May p.1 p.2.1 n p.2.2 W) :
    Calls Tryz.prog 40 #[.slice s l.length c, .slice (some ⟨g, 0, none⟩) len c'] (W.alloc (.cells cs 49)) fun e w' => e = .returned (.bool (areQ n l (ps.map fun p => p.2.2))) ∧ Below W.heap.size W w' := by
  subst hg hlen
  have hA : Below W.heap.size W (W.alloc (.cells cs 49)) := (Below.refl _ _).alloc (Nat.le_refl _) _
  have h := are_any n l ps s (some ⟨W.heap.size, 0, none⟩) c c' (W.alloc (.cells cs 49)) (hl.below hA) (Or.inr ⟨W.heap.size, 0, rfl, fun i p hp => by
    have e : cs.toList[i]? = some (plV p.1 p.2.1) := by rw [hcs, List.getElem?_map, hp]; rfl
    rw [Nat.zero_add]
    exact arr_new W cs 49 i _ e⟩) (fun p hp => (hM p hp).below hA)
  rw [areP_Q] at h
  exact h.mono fun e w' ⟨he, hb⟩ => ⟨he, hA.trans (hb.mono hA.size)⟩
def emp (n : Nat) (l : List (Tr n)) : Bool := decide (l = [])
theorem are_e (n : Nat) (l : List (Tr n)) (s : Option Addr) (c : Nat) (W : World) (hl : KsG W n s c l) :
    Calls Tryz.prog 40 #[.slice s l.length c, .slice none 0 0] W fun e w' => e = .returned (.bool (emp n l)) ∧ Below W.heap.size W w' := by
  have h := are_any n l [] s none c 0 W hl (Or.inl rfl) (fun p hp => by cases hp)
  have e : areP n l [] = emp n l := by
    unfold areP emp
    cases l <;> simp
  rw [e] at h
  exact h
def plainF (t : List UInt8) (m : Int) : Bool := decide (t = []) && decide (m = 0)
def flagF (m : Int) : Bool := decide (0 ≤ m) && decide (m ≤ 1)
def prefF (t : List UInt8) : Bool := decide (t = [45]) || decide (t = [110, 111, 116])
theorem isPlain_any (n : Nat) (k : Int) (t : List UInt8) (m a : Int) (l : List (Tr n)) (s : Option Addr) (c : Nat) (w : World) (hR : Rdy w) (hl : KsG w n s c l) :
    Calls Tryz.prog 39 #[.agg #[.int .i64 k, .string (bsA t), .int .i64 m, .int .i64 a, .slice s l.length c]] w fun e w' => e = .returned (.bool (plainF t m)) ∧ Below w.heap.size w w' := by
  have HN : Hid (Nd w n k t m a l s c (w.alloc (Obj.cells #[Value.int IntKind.i64 k, Value.string (bsA t), Value.int IntKind.i64 m, Value.int IntKind.i64 a, Value.slice s l.length c] 24))) := Nd.new w n _ t _ a l s c hR hl
  obtain ⟨d0, d1, d2, d3, d4, -, -, -, -, -⟩ := HN.out.box
  clear hl hR
  go_enter Tryz.func39, Tryz.ntmps39
  go_wp2_with (first | fail)
  all_goals (go_ret; exact ⟨by simp_all [bsA_tl, beqI, beqL, plainF], HN.out.bel⟩)
theorem isFlag_any (m : Int) (w : World) : Calls Tryz.prog 41 #[.int .i64 m] w fun e w' => e = .returned (.bool (flagF m)) ∧ w' = w := by
  unfold flagF
  have h1 := within_any m 0 1 w
  generalize (decide (0 ≤ m) && decide (m ≤ 1)) = b at *
  go_enter Tryz.func41, Tryz.ntmps41
  go_wp2_with fail
  refine h1.mono ?_
  rintro e w1 ⟨rfl, rfl⟩
  clear h1
  go_wp2
  go_ret
  exact ⟨rfl, rfl⟩
theorem isPrefix_any (t : List UInt8) (w : World) : Calls Tryz.prog 45 #[.string (bsA t)] w fun e w' => e = .returned (.bool (prefF t)) ∧ w' = w := by
  unfold prefF
  go_enter Tryz.func45, Tryz.ntmps45
  go_wp2
  all_goals (go_ret; exact ⟨by simp_all [bsA_tl, beqI, beqL], rfl⟩)
def infL : List (List UInt8) := [[43], [45], [42], [47], [37], [61], [33, 61], [60], [60, 61], [62], [62, 61], [97, 110, 100], [111, 114]]
def infF (t : List UInt8) : Bool := infL.contains t
theorem isInfix_any (t : List UInt8) (w : World) : Calls Tryz.prog 46 #[.string (bsA t)] w fun e w' => e = .returned (.bool (infF t)) ∧ w' = w := by
  unfold infF
  go_enter Tryz.func46, Tryz.ntmps46
  go_wp2
  all_goals (first | (go_ret; exact ⟨by simp_all [bsA_tl, infL, beqI, beqL], rfl⟩) | (exfalso; simp_all))
/-- Is a text a name that is no word: by the code. -/
def idC (t : List UInt8) : Bool := s_nameS (bsA t) && !wdL.contains (Lib.toLowerA t)
theorem nameS_len {t : List UInt8} (h : s_nameS (bsA t) = true) : t.length ≤ 64 := by
  unfold s_nameS at h
  split at h
  · simp only [Bool.and_eq_true, decide_eq_true_eq] at h
    rw [bsA_size] at h
    omega
  · cases h
theorem s_lt_pt (c : UInt8) (h : s_nmF c = true) : ptB c.toNat = true := by
  unfold s_nmF s_nmB s_ltB s_dgB at h
  unfold ptB ltB dgB
  simp only [Bool.or_eq_true, Bool.and_eq_true, decide_eq_true_eq, beq_iff_eq] at h ⊢
  omega
theorem name_head (c : UInt8) (h : ptB c.toNat = true) (hd : s_dgB c.toNat = false) : ltB c.toNat = true := by
  unfold s_dgB at hd
  unfold ptB at h
  cases hl : ltB c.toNat with
  | true => rfl
  | false =>
    rw [hl, Bool.false_or] at h
    unfold dgB at h
    simp only [Bool.and_eq_true, decide_eq_true_eq, Bool.and_eq_false_iff, decide_eq_false_iff_not] at h hd
    omega
theorem name_is {t : List UInt8} (h : s_nameS (bsA t) = true) : ∃ c r, t = c :: r ∧ ltB c.toNat = true ∧ ∀ d ∈ c :: r, ptB d.toNat = true := by
  cases t with
  | nil => exact absurd h (by decide)
  | cons c r =>
    unfold s_nameS at h
    rw [dif_pos (by rw [bsA_size]; simp)] at h
    simp only [Bool.and_eq_true, decide_eq_true_eq, Bool.not_eq_true'] at h
    obtain ⟨⟨-, hd⟩, hm⟩ := h
    have hall : ∀ d ∈ c :: r, ptB d.toNat = true := by
      intro d hd
      unfold s_nmL at hm
      rw [List.drop_zero, List.all_eq_true] at hm
      exact s_lt_pt d (hm d hd)
    exact ⟨c, r, rfl, name_head c (hall c (by simp)) hd, hall⟩
theorem tkN_1 (t : List UInt8) : ((tkN t).1 == 1) = !wdL.contains (Lib.toLowerA t) := by
  unfold tkN
  cases wdL.contains (Lib.toLowerA t) <;> rfl
theorem isId_any (t : List UInt8) (w : World) (hR : Rdy w) : Calls Tryz.prog 89 #[.string (bsA t)] w fun e w' => e = .returned (.bool (idC t)) ∧ Below w.heap.size w w' := by
  have h1 := Name_any (bsA t) w
  cases hn : s_nameS (bsA t) with
  | false =>
    have e : idC t = false := by unfold idC; rw [hn]; rfl
    rw [hn] at h1
    rw [e]
    clear hn e
    go_enter Tryz.func89, Tryz.ntmps89
    go_wp2_with fail
    refine h1.mono ?_
    rintro e w1 ⟨rfl, rfl⟩
    clear h1
    go_wp2
    go_ret
    exact ⟨rfl, Below.refl _ _⟩
  | true =>
    have hl := nameS_len hn
    obtain ⟨c, r, rfl, hlt, hall⟩ := name_is hn
    have h2 := Lex_nm c r w hR hlt hall hl
    have HI : Hid (idC (c :: r) = ((tkN (c :: r)).1 == 1)) := by show _ = _; unfold idC; rw [hn, tkN_1]; rfl
    rw [hn] at h1
    unfold LexOne at h2
    clear hn hlt hall hl
    generalize tkN (c :: r) = q at *
    generalize idC (c :: r) = b at *
    go_enter Tryz.func89, Tryz.ntmps89
    go_wp2_with fail
    refine h1.mono ?_
    rintro e w1 ⟨rfl, rfl⟩
    clear h1
    go_wp2_with fail
    refine h2.mono ?_
    rintro e w2 ⟨⟨g, off, cap, rfl, c0, c1, c2, c3⟩, hb2⟩
    clear h2
    go_wp2
    go_ret
    exact ⟨by rw [HI.out]; simp, hb2⟩
def hidF (t : List UInt8) (m : Int) : Bool := idC t && decide (m = 0)
theorem hasId_any (n : Nat) (k : Int) (t : List UInt8) (m a : Int) (l : List (Tr n)) (s : Option Addr) (c : Nat) (w : World) (hR : Rdy w) (hl : KsG w n s c l) :
    Calls Tryz.prog 48 #[.agg #[.int .i64 k, .string (bsA t), .int .i64 m, .int .i64 a, .slice s l.length c]] w fun e w' => e = .returned (.bool (hidF t m)) ∧ Below w.heap.size w w' := by
  have HN : Hid (Nd w n k t m a l s c (w.alloc (Obj.cells #[Value.int IntKind.i64 k, Value.string (bsA t), Value.int IntKind.i64 m, Value.int IntKind.i64 a, Value.slice s l.length c] 24))) := Nd.new w n _ t _ a l s c hR hl
  obtain ⟨d0, d1, d2, d3, d4, -, -, -, -, -⟩ := HN.out.box
  clear hl hR
  go_enter Tryz.func48, Tryz.ntmps48
  go_wp2_with (first | (go_at_call 89; (refine (isId_any _ _ HN.out.rdy).mono ?_; rintro e w1 ⟨rfl, hb1⟩; clear d0 d1 d2 d3 d4; replace HN : Hid _ := HN.out.step hb1; obtain ⟨d0, d1, d2, d3, d4, -, -, -, -, -⟩ := HN.out.box)))
  all_goals (go_ret; exact ⟨by simp_all [bsA_tl, beqI, beqL, hidF], HN.out.bel⟩)
def noneF (n : Nat) (k : Int) (t : List UInt8) (m : Int) (l : List (Tr n)) : Bool := decide (k = 20) && plainF t m && emp n l
theorem none_any (n : Nat) (k : Int) (t : List UInt8) (m a : Int) (l : List (Tr n)) (s : Option Addr) (c : Nat) (w : World) (hR : Rdy w) (hl : KsG w n s c l) :
    Calls Tryz.prog 91 #[.agg #[.int .i64 k, .string (bsA t), .int .i64 m, .int .i64 a, .slice s l.length c]] w fun e w' => e = .returned (.bool (noneF n k t m l)) ∧ Below w.heap.size w w' := by
  rcases Classical.em (k = 20) with rfl | h0
  · have HN : Hid (Nd w n 20 t m a l s c (w.alloc (Obj.cells #[Value.int IntKind.i64 20, Value.string (bsA t), Value.int IntKind.i64 m, Value.int IntKind.i64 a, Value.slice s l.length c] 24))) := Nd.new w n _ t _ a l s c hR hl
    obtain ⟨d0, d1, d2, d3, d4, -, -, -, -, -⟩ := HN.out.box
    clear hl hR
    go_enter Tryz.func91, Tryz.ntmps91
    go_wp2_with (first | (go_at_call 39; (refine (isPlain_any n _ _ _ _ l _ _ _ HN.out.rdy HN.out.kids).mono ?_; rintro e w1 ⟨rfl, hb1⟩; clear d0 d1 d2 d3 d4; replace HN : Hid _ := HN.out.step hb1; obtain ⟨d0, d1, d2, d3, d4, -, -, -, -, -⟩ := HN.out.box)) | (go_at_call 40; (refine (are_e n l s c _ HN.out.kids).mono ?_; rintro e w1 ⟨rfl, hb1⟩; clear d0 d1 d2 d3 d4; replace HN : Hid _ := HN.out.step hb1; obtain ⟨d0, d1, d2, d3, d4, -, -, -, -, -⟩ := HN.out.box)))
    all_goals (go_ret; exact ⟨by simp_all [bsA_tl, beqI, beqL, noneF], HN.out.bel⟩)
  · have HN : Hid (Nd w n k t m a l s c (w.alloc (Obj.cells #[Value.int IntKind.i64 k, Value.string (bsA t), Value.int IntKind.i64 m, Value.int IntKind.i64 a, Value.slice s l.length c] 24))) := Nd.new w n _ t _ a l s c hR hl
    obtain ⟨d0, d1, d2, d3, d4, -, -, -, -, -⟩ := HN.out.box
    clear hl hR
    go_enter Tryz.func91, Tryz.ntmps91
    go_wp2_with (first | (go_at_call 39; (refine (isPlain_any n _ _ _ _ l _ _ _ HN.out.rdy HN.out.kids).mono ?_; rintro e w1 ⟨rfl, hb1⟩; clear d0 d1 d2 d3 d4; replace HN : Hid _ := HN.out.step hb1; obtain ⟨d0, d1, d2, d3, d4, -, -, -, -, -⟩ := HN.out.box)) | (go_at_call 40; (refine (are_e n l s c _ HN.out.kids).mono ?_; rintro e w1 ⟨rfl, hb1⟩; clear d0 d1 d2 d3 d4; replace HN : Hid _ := HN.out.step hb1; obtain ⟨d0, d1, d2, d3, d4, -, -, -, -, -⟩ := HN.out.box)))
    all_goals (go_ret; exact ⟨by simp_all [bsA_tl, beqI, beqL, noneF], HN.out.bel⟩)
theorem ent91 : Ent 91 := ent_of Tryz.func91 (by kernel_rfl) (by kernel_rfl)
def noneP (n : Nat) (y : Tr n) : Bool := noneF n.pred (kd n y) (tx n y) (nu n y) (ks n y)
theorem none_may (n : Nat) (w : World) (hR : Rdy w) : May 91 [] n (noneP n) w := ⟨ent91, fun W hW y s c hy => by
  cases n with
  | zero => exact Empty.elim y
  | succ n => exact none_any n (kd (n + 1) y) (tx (n + 1) y) (nu (n + 1) y) (pl (n + 1) y) (ks (n + 1) y) s c W (hR.below hW) (NdG.kids hy)⟩
def nmeF (n : Nat) (k : Int) (t : List UInt8) (m : Int) (l : List (Tr n)) : Bool := decide (k = 15) && hidF t m && emp n l
theorem nme_any (n : Nat) (k : Int) (t : List UInt8) (m a : Int) (l : List (Tr n)) (s : Option Addr) (c : Nat) (w : World) (hR : Rdy w) (hl : KsG w n s c l) :
    Calls Tryz.prog 51 #[.agg #[.int .i64 k, .string (bsA t), .int .i64 m, .int .i64 a, .slice s l.length c]] w fun e w' => e = .returned (.bool (nmeF n k t m l)) ∧ Below w.heap.size w w' := by
  rcases Classical.em (k = 15) with rfl | h0
  · have HN : Hid (Nd w n 15 t m a l s c (w.alloc (Obj.cells #[Value.int IntKind.i64 15, Value.string (bsA t), Value.int IntKind.i64 m, Value.int IntKind.i64 a, Value.slice s l.length c] 24))) := Nd.new w n _ t _ a l s c hR hl
    obtain ⟨d0, d1, d2, d3, d4, -, -, -, -, -⟩ := HN.out.box
    clear hl hR
    go_enter Tryz.func51, Tryz.ntmps51
    go_wp2_with (first | (go_at_call 48; (refine (hasId_any n _ _ _ _ l _ _ _ HN.out.rdy HN.out.kids).mono ?_; rintro e w1 ⟨rfl, hb1⟩; clear d0 d1 d2 d3 d4; replace HN : Hid _ := HN.out.step hb1; obtain ⟨d0, d1, d2, d3, d4, -, -, -, -, -⟩ := HN.out.box)) | (go_at_call 40; (refine (are_e n l s c _ HN.out.kids).mono ?_; rintro e w1 ⟨rfl, hb1⟩; clear d0 d1 d2 d3 d4; replace HN : Hid _ := HN.out.step hb1; obtain ⟨d0, d1, d2, d3, d4, -, -, -, -, -⟩ := HN.out.box)))
    all_goals (go_ret; exact ⟨by simp_all [bsA_tl, beqI, beqL, nmeF], HN.out.bel⟩)
  · have HN : Hid (Nd w n k t m a l s c (w.alloc (Obj.cells #[Value.int IntKind.i64 k, Value.string (bsA t), Value.int IntKind.i64 m, Value.int IntKind.i64 a, Value.slice s l.length c] 24))) := Nd.new w n _ t _ a l s c hR hl
    obtain ⟨d0, d1, d2, d3, d4, -, -, -, -, -⟩ := HN.out.box
    clear hl hR
    go_enter Tryz.func51, Tryz.ntmps51
    go_wp2_with (first | (go_at_call 48; (refine (hasId_any n _ _ _ _ l _ _ _ HN.out.rdy HN.out.kids).mono ?_; rintro e w1 ⟨rfl, hb1⟩; clear d0 d1 d2 d3 d4; replace HN : Hid _ := HN.out.step hb1; obtain ⟨d0, d1, d2, d3, d4, -, -, -, -, -⟩ := HN.out.box)) | (go_at_call 40; (refine (are_e n l s c _ HN.out.kids).mono ?_; rintro e w1 ⟨rfl, hb1⟩; clear d0 d1 d2 d3 d4; replace HN : Hid _ := HN.out.step hb1; obtain ⟨d0, d1, d2, d3, d4, -, -, -, -, -⟩ := HN.out.box)))
    all_goals (go_ret; exact ⟨by simp_all [bsA_tl, beqI, beqL, nmeF], HN.out.bel⟩)
theorem ent51 : Ent 51 := ent_of Tryz.func51 (by kernel_rfl) (by kernel_rfl)
def nmeP (n : Nat) (y : Tr n) : Bool := nmeF n.pred (kd n y) (tx n y) (nu n y) (ks n y)
theorem nme_may (n : Nat) (w : World) (hR : Rdy w) : May 51 [] n (nmeP n) w := ⟨ent51, fun W hW y s c hy => by
  cases n with
  | zero => exact Empty.elim y
  | succ n => exact nme_any n (kd (n + 1) y) (tx (n + 1) y) (nu (n + 1) y) (pl (n + 1) y) (ks (n + 1) y) s c W (hR.below hW) (NdG.kids hy)⟩
def ownF (n : Nat) (k : Int) (t : List UInt8) (m : Int) (l : List (Tr n)) : Bool := decide (k = 6) && hidF t m && emp n l
theorem own_any (n : Nat) (k : Int) (t : List UInt8) (m a : Int) (l : List (Tr n)) (s : Option Addr) (c : Nat) (w : World) (hR : Rdy w) (hl : KsG w n s c l) :
    Calls Tryz.prog 43 #[.agg #[.int .i64 k, .string (bsA t), .int .i64 m, .int .i64 a, .slice s l.length c]] w fun e w' => e = .returned (.bool (ownF n k t m l)) ∧ Below w.heap.size w w' := by
  rcases Classical.em (k = 6) with rfl | h0
  · have HN : Hid (Nd w n 6 t m a l s c (w.alloc (Obj.cells #[Value.int IntKind.i64 6, Value.string (bsA t), Value.int IntKind.i64 m, Value.int IntKind.i64 a, Value.slice s l.length c] 24))) := Nd.new w n _ t _ a l s c hR hl
    obtain ⟨d0, d1, d2, d3, d4, -, -, -, -, -⟩ := HN.out.box
    clear hl hR
    go_enter Tryz.func43, Tryz.ntmps43
    go_wp2_with (first | (go_at_call 48; (refine (hasId_any n _ _ _ _ l _ _ _ HN.out.rdy HN.out.kids).mono ?_; rintro e w1 ⟨rfl, hb1⟩; clear d0 d1 d2 d3 d4; replace HN : Hid _ := HN.out.step hb1; obtain ⟨d0, d1, d2, d3, d4, -, -, -, -, -⟩ := HN.out.box)) | (go_at_call 40; (refine (are_e n l s c _ HN.out.kids).mono ?_; rintro e w1 ⟨rfl, hb1⟩; clear d0 d1 d2 d3 d4; replace HN : Hid _ := HN.out.step hb1; obtain ⟨d0, d1, d2, d3, d4, -, -, -, -, -⟩ := HN.out.box)))
    all_goals (go_ret; exact ⟨by simp_all [bsA_tl, beqI, beqL, ownF], HN.out.bel⟩)
  · have HN : Hid (Nd w n k t m a l s c (w.alloc (Obj.cells #[Value.int IntKind.i64 k, Value.string (bsA t), Value.int IntKind.i64 m, Value.int IntKind.i64 a, Value.slice s l.length c] 24))) := Nd.new w n _ t _ a l s c hR hl
    obtain ⟨d0, d1, d2, d3, d4, -, -, -, -, -⟩ := HN.out.box
    clear hl hR
    go_enter Tryz.func43, Tryz.ntmps43
    go_wp2_with (first | (go_at_call 48; (refine (hasId_any n _ _ _ _ l _ _ _ HN.out.rdy HN.out.kids).mono ?_; rintro e w1 ⟨rfl, hb1⟩; clear d0 d1 d2 d3 d4; replace HN : Hid _ := HN.out.step hb1; obtain ⟨d0, d1, d2, d3, d4, -, -, -, -, -⟩ := HN.out.box)) | (go_at_call 40; (refine (are_e n l s c _ HN.out.kids).mono ?_; rintro e w1 ⟨rfl, hb1⟩; clear d0 d1 d2 d3 d4; replace HN : Hid _ := HN.out.step hb1; obtain ⟨d0, d1, d2, d3, d4, -, -, -, -, -⟩ := HN.out.box)))
    all_goals (go_ret; exact ⟨by simp_all [bsA_tl, beqI, beqL, ownF], HN.out.bel⟩)
theorem ent43 : Ent 43 := ent_of Tryz.func43 (by kernel_rfl) (by kernel_rfl)
def ownP (n : Nat) (y : Tr n) : Bool := ownF n.pred (kd n y) (tx n y) (nu n y) (ks n y)
theorem own_may (n : Nat) (w : World) (hR : Rdy w) : May 43 [] n (ownP n) w := ⟨ent43, fun W hW y s c hy => by
  cases n with
  | zero => exact Empty.elim y
  | succ n => exact own_any n (kd (n + 1) y) (tx (n + 1) y) (nu (n + 1) y) (pl (n + 1) y) (ks (n + 1) y) s c W (hR.below hW) (NdG.kids hy)⟩
def colOfF (n : Nat) (k : Int) (t : List UInt8) (m : Int) (l : List (Tr n)) : Bool := decide (k = 6) && hidF t m && areQ n l [nmeP n]
theorem colOf_any (n : Nat) (k : Int) (t : List UInt8) (m a : Int) (l : List (Tr n)) (s : Option Addr) (c : Nat) (w : World) (hR : Rdy w) (hl : KsG w n s c l) :
    Calls Tryz.prog 44 #[.agg #[.int .i64 k, .string (bsA t), .int .i64 m, .int .i64 a, .slice s l.length c]] w fun e w' => e = .returned (.bool (colOfF n k t m l)) ∧ Below w.heap.size w w' := by
  rcases Classical.em (k = 6) with rfl | h0
  · have HN : Hid (Nd w n 6 t m a l s c (w.alloc (Obj.cells #[Value.int IntKind.i64 6, Value.string (bsA t), Value.int IntKind.i64 m, Value.int IntKind.i64 a, Value.slice s l.length c] 24))) := Nd.new w n _ t _ a l s c hR hl
    obtain ⟨d0, d1, d2, d3, d4, -, -, -, -, -⟩ := HN.out.box
    clear hl hR
    go_enter Tryz.func44, Tryz.ntmps44
    go_wp2_with (first | (go_at_call 48; (refine (hasId_any n _ _ _ _ l _ _ _ HN.out.rdy HN.out.kids).mono ?_; rintro e w1 ⟨rfl, hb1⟩; clear d0 d1 d2 d3 d4; replace HN : Hid _ := HN.out.step hb1; obtain ⟨d0, d1, d2, d3, d4, -, -, -, -, -⟩ := HN.out.box)) | (go_at_call 40; (refine (are_b n l [(51, [], nmeP n)] s c _ _ _ _ _ rfl rfl (by simp) HN.out.kids (List.forall_mem_cons.2 ⟨nme_may n _ HN.out.rdy, (by simp)⟩)).mono ?_; rintro e w1 ⟨rfl, hb1⟩; clear d0 d1 d2 d3 d4; replace HN : Hid _ := HN.out.step hb1; obtain ⟨d0, d1, d2, d3, d4, -, -, -, -, -⟩ := HN.out.box)))
    all_goals (go_ret; exact ⟨by simp_all [bsA_tl, beqI, beqL, colOfF], HN.out.bel⟩)
  · have HN : Hid (Nd w n k t m a l s c (w.alloc (Obj.cells #[Value.int IntKind.i64 k, Value.string (bsA t), Value.int IntKind.i64 m, Value.int IntKind.i64 a, Value.slice s l.length c] 24))) := Nd.new w n _ t _ a l s c hR hl
    obtain ⟨d0, d1, d2, d3, d4, -, -, -, -, -⟩ := HN.out.box
    clear hl hR
    go_enter Tryz.func44, Tryz.ntmps44
    go_wp2_with (first | (go_at_call 48; (refine (hasId_any n _ _ _ _ l _ _ _ HN.out.rdy HN.out.kids).mono ?_; rintro e w1 ⟨rfl, hb1⟩; clear d0 d1 d2 d3 d4; replace HN : Hid _ := HN.out.step hb1; obtain ⟨d0, d1, d2, d3, d4, -, -, -, -, -⟩ := HN.out.box)) | (go_at_call 40; (refine (are_b n l [(51, [], nmeP n)] s c _ _ _ _ _ rfl rfl (by simp) HN.out.kids (List.forall_mem_cons.2 ⟨nme_may n _ HN.out.rdy, (by simp)⟩)).mono ?_; rintro e w1 ⟨rfl, hb1⟩; clear d0 d1 d2 d3 d4; replace HN : Hid _ := HN.out.step hb1; obtain ⟨d0, d1, d2, d3, d4, -, -, -, -, -⟩ := HN.out.box)))
    all_goals (go_ret; exact ⟨by simp_all [bsA_tl, beqI, beqL, colOfF], HN.out.bel⟩)
theorem ent44 : Ent 44 := ent_of Tryz.func44 (by kernel_rfl) (by kernel_rfl)
def colOfP (n : Nat) (y : Tr n) : Bool := colOfF n.pred (kd n y) (tx n y) (nu n y) (ks n y)
theorem colOf_may (n : Nat) (w : World) (hR : Rdy w) : May 44 [] n (colOfP n) w := ⟨ent44, fun W hW y s c hy => by
  cases n with
  | zero => exact Empty.elim y
  | succ n => exact colOf_any n (kd (n + 1) y) (tx (n + 1) y) (nu (n + 1) y) (pl (n + 1) y) (ks (n + 1) y) s c W (hR.below hW) (NdG.kids hy)⟩
def cntF (n : Nat) (t : List UInt8) (m : Int) (l : List (Tr n)) : Bool := decide (t = [99, 111, 117, 110, 116]) && decide (m = 0) && emp n l
theorem cnt_any (n : Nat) (k : Int) (t : List UInt8) (m a : Int) (l : List (Tr n)) (s : Option Addr) (c : Nat) (w : World) (hR : Rdy w) (hl : KsG w n s c l) :
    Calls Tryz.prog 90 #[.agg #[.int .i64 k, .string (bsA t), .int .i64 m, .int .i64 a, .slice s l.length c]] w fun e w' => e = .returned (.bool (cntF n t m l)) ∧ Below w.heap.size w w' := by
  rcases Classical.em (m = 0) with rfl | h0
  · have HN : Hid (Nd w n k t 0 a l s c (w.alloc (Obj.cells #[Value.int IntKind.i64 k, Value.string (bsA t), Value.int IntKind.i64 0, Value.int IntKind.i64 a, Value.slice s l.length c] 24))) := Nd.new w n _ t _ a l s c hR hl
    obtain ⟨d0, d1, d2, d3, d4, -, -, -, -, -⟩ := HN.out.box
    clear hl hR
    go_enter Tryz.func90, Tryz.ntmps90
    go_wp2_with (first | (go_at_call 40; (refine (are_e n l s c _ HN.out.kids).mono ?_; rintro e w1 ⟨rfl, hb1⟩; clear d0 d1 d2 d3 d4; replace HN : Hid _ := HN.out.step hb1; obtain ⟨d0, d1, d2, d3, d4, -, -, -, -, -⟩ := HN.out.box)))
    all_goals (go_ret; exact ⟨by simp_all [bsA_tl, beqI, beqL, cntF], HN.out.bel⟩)
  · have HN : Hid (Nd w n k t m a l s c (w.alloc (Obj.cells #[Value.int IntKind.i64 k, Value.string (bsA t), Value.int IntKind.i64 m, Value.int IntKind.i64 a, Value.slice s l.length c] 24))) := Nd.new w n _ t _ a l s c hR hl
    obtain ⟨d0, d1, d2, d3, d4, -, -, -, -, -⟩ := HN.out.box
    clear hl hR
    go_enter Tryz.func90, Tryz.ntmps90
    go_wp2_with (first | (go_at_call 40; (refine (are_e n l s c _ HN.out.kids).mono ?_; rintro e w1 ⟨rfl, hb1⟩; clear d0 d1 d2 d3 d4; replace HN : Hid _ := HN.out.step hb1; obtain ⟨d0, d1, d2, d3, d4, -, -, -, -, -⟩ := HN.out.box)))
    all_goals (go_ret; exact ⟨by simp_all [bsA_tl, beqI, beqL, cntF], HN.out.bel⟩)
def txtF (t : List UInt8) : Bool := decide ((t.length : Int) ≤ 1024) && Lib.validD t
theorem mayBe_4l (t : List UInt8) (hz : ¬ ((bsA t).size : Int) ≤ 1024) (w : World) : Calls Tryz.prog 119 #[.agg #[.int .i64 4, .int .i64 0, .string (bsA t)]] w fun e w' => e = .returned (.bool false) ∧ Below w.heap.size w w' := by
  go_enter Tryz.func119, Tryz.ntmps119
  go_wp2
  go_ret
  exact ⟨rfl, (Bel.out (by repeat (first | exact Bel.refl _ | refine Bel.drew ?_ | refine Bel.drewN ?_ _ | refine Bel.alloc ?_ _ | refine Bel.setCell ?_ (by simp <;> omega) _ | refine Bel.step ?_ (by assumption))))⟩
theorem mayBe_4v (t : List UInt8) (hz : ((bsA t).size : Int) ≤ 1024) (w : World) (hR : Rdy w) : Calls Tryz.prog 119 #[.agg #[.int .i64 4, .int .i64 0, .string (bsA t)]] w fun e w' => e = .returned (.bool (Lib.validD t)) ∧ Below w.heap.size w w' := by
  go_enter Tryz.func119, Tryz.ntmps119
  go_wp2_with (go_at_call 128; refine (Tryz.utf8_ValidString (bsA t) _ (by omega) (hR.alloc _).utf).mono ?_; rintro e w' ⟨rfl, hb⟩)
  go_ret
  exact ⟨by rw [bsA_list]; rfl, (Bel.out (by repeat (first | exact Bel.refl _ | refine Bel.drew ?_ | refine Bel.drewN ?_ _ | refine Bel.alloc ?_ _ | refine Bel.setCell ?_ (by simp <;> omega) _ | refine Bel.step ?_ (by assumption))))⟩
theorem mayBe_4 (t : List UInt8) (w : World) (hR : Rdy w) : Calls Tryz.prog 119 #[.agg #[.int .i64 4, .int .i64 0, .string (bsA t)]] w fun e w' => e = .returned (.bool (txtF t)) ∧ Below w.heap.size w w' := by
  unfold txtF
  by_cases h : (t.length : Int) ≤ 1024
  · rw [decide_eq_true h]
    exact mayBe_4v t (by rw [bsA_size]; exact h) w hR
  · rw [decide_eq_false h]
    exact mayBe_4l t (by rw [bsA_size]; exact h) w
theorem Check_4 (t : List UInt8) (w : World) (hR : Rdy w) : Calls Tryz.prog 87 #[.agg #[.int .i64 4, .int .i64 0, .string (bsA t)]] w fun e w' => e = .returned (.int .i64 (if txtF t then 0 else 1)) ∧ Below w.heap.size w w' := by
  have h1 := mayBe_4 t (w.alloc (Obj.cells #[Value.int IntKind.i64 4, Value.int IntKind.i64 0, Value.string (bsA t)] 68)) (hR.alloc _)
  have hA : Below w.heap.size w (w.alloc (Obj.cells #[Value.int IntKind.i64 4, Value.int IntKind.i64 0, Value.string (bsA t)] 68)) := (Below.refl _ _).alloc (Nat.le_refl _) _
  generalize txtF t = b at *
  go_enter Tryz.func87, Tryz.ntmps87
  cases b with
  | true =>
    go_wp2_with fail
    refine h1.mono ?_
    rintro e w1 ⟨rfl, hb1⟩
    have hB1 := hA.trans (hb1.mono hA.size)
    clear h1
    go_wp2
    go_ret
    exact ⟨rfl, hB1⟩
  | false =>
    go_wp2_with fail
    refine h1.mono ?_
    rintro e w1 ⟨rfl, hb1⟩
    have hB1 := hA.trans (hb1.mono hA.size)
    clear h1
    go_wp2
    go_ret
    exact ⟨rfl, hB1⟩
theorem isText_any (t : List UInt8) (w : World) (hR : Rdy w) : Calls Tryz.prog 42 #[.string (bsA t)] w fun e w' => e = .returned (.bool (txtF t)) ∧ Below w.heap.size w w' := by
  have h1 := Check_4 t w hR
  generalize txtF t = b at *
  go_enter Tryz.func42, Tryz.ntmps42
  cases b with
  | true =>
    go_wp2_with fail
    refine h1.mono ?_
    rintro e w1 ⟨rfl, hb1⟩
    clear h1
    go_wp2
    go_ret
    exact ⟨rfl, hb1⟩
  | false =>
    go_wp2_with fail
    refine h1.mono ?_
    rintro e w1 ⟨rfl, hb1⟩
    clear h1
    go_wp2
    go_ret
    exact ⟨rfl, hb1⟩
end
end Go.Proofs.YtcemogaacicnfaaGreatDoor
