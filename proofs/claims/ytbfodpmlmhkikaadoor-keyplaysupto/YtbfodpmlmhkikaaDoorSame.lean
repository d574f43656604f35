/- Whether two rows, two lists of rows are the same (the document's answer). -/
import Derived.Test.YtbfodpmlmhkikaaDoorFnd
import Derived.Deep.RegionHeld3
import Derived.Laws.StructEq
namespace Go.Proofs.YtbfodpmlmhkikaaDoor
open Go.ChangeShapes Go.WideShapes Go.ChangeAt Go.RowKit

def vlP (k v : Nat → Int) (t : Nat → ByteArray) (k' v' : Nat → Int) (t' : Nat → ByteArray) : Nat → Bool := fun j => k j == k' j && v j == v' j && (t j).toList == (t' j).toList
def vlS (n : Nat) (k v : Nat → Int) (t : Nat → ByteArray) (n' : Nat) (k' v' : Nat → Int) (t' : Nat → ByteArray) : Bool := decide (n = n') && allF (vlP k v t k' v' t') n 0
theorem neq53 (k k' n n' : Int) (t t' : ByteArray) (w : World) : (binOp .neq 53 (.agg #[.int .i64 k, .int .i64 n, .string t]) (.agg #[.int .i64 k', .int .i64 n', .string t'])).run Tryd.prog w = .ok (.bool (!(k == k' && n == n' && t.toList == t'.toList))) w := by
  rw [run_neq_struct, run_equalIn_agg w 9999 53 _ _ hf53 hs53]
  simp [Op.eqFields, Program.fieldsOf, Tryd.underlying53, go_sem, Tryd.underlying9, Tryd.underlying3]
  by_cases h1 : t.toList = t'.toList <;> by_cases h2 : k = k' <;> by_cases h3 : n = n' <;> simp [h1, h2, h3]
set_option maxHeartbeats 8000000 in
theorem rRow_go (b off b' off' n cap cap' : Nat) (k v : Nat → Int) (t : Nat → ByteArray) (k' v' : Nat → Int) (t' : Nat → ByteArray) (w : World) (hlen : n ≤ 9223372036854775807)
    (hc : ∀ i, i < n → w.cell? ⟨b, off + i * 3, none⟩ = some (.int .i64 (k i)) ∧ w.cell? ⟨b, off + i * 3 + 1, none⟩ = some (.int .i64 (v i)) ∧ w.cell? ⟨b, off + i * 3 + 2, none⟩ = some (.string (t i)))
    (hd : ∀ i, i < n → w.cell? ⟨b', off' + i * 3, none⟩ = some (.int .i64 (k' i)) ∧ w.cell? ⟨b', off' + i * 3 + 1, none⟩ = some (.int .i64 (v' i)) ∧ w.cell? ⟨b', off' + i * 3 + 2, none⟩ = some (.string (t' i))) :
    Calls Tryd.prog 12 #[.slice (some ⟨b, off, none⟩) n cap, .slice (some ⟨b', off', none⟩) n cap'] w fun e w' => e = .returned (.bool (allF (vlP k v t k' v' t') n 0)) ∧ Below w.heap.size w w' := by
  go_enter Tryd.func12, Tryd.ntmps12
  go_wp2
  go_loopw [5] (fun i wr => ∃ m : Nat, m ≤ n ∧ i = .int .i64 m ∧ allF (vlP k v t k' v' t') n m = allF (vlP k v t k' v' t') n 0 ∧ Bel w.heap.size w wr) (fun i _ => n - (intOf i).toNat)
  case atStart => exact ⟨0, Nat.zero_le _, rfl, rfl, Bel.refl _⟩
  case round =>
    obtain ⟨m, hm, rfl, hV, HB⟩ := hrel
    have HV : Hid (allF (vlP k v t k' v' t') n m = allF (vlP k v t k' v' t') n 0) := hV
    clear hV
    have hW := HB.out
    rcases Nat.lt_or_ge m n with hlt | hge
    · have c0 := cell_below hW (hc m hlt).1
      have d0 := cell_below hW (hd m hlt).1
      have c1 := cell_below hW (hc m hlt).2.1
      have d1 := cell_below hW (hd m hlt).2.1
      have c2 := cell_below hW (hc m hlt).2.2
      have d2 := cell_below hW (hd m hlt).2.2
      clear hc hd
      have hg := hg53
      generalize hp : (k m == k' m && v m == v' m && (t m).toList == (t' m).toList) = p
      have hq : ∀ wx : World, (binOp .neq 53 (.agg #[.int .i64 (k m), .int .i64 (v m), .string (t m)]) (.agg #[.int .i64 (k' m), .int .i64 (v' m), .string (t' m)])).run Tryd.prog wx = .ok (.bool (!p)) wx := fun wx => by rw [neq53, hp]
      cases p
      · have HN : Hid (false = allF (vlP k v t k' v' t') n 0) := by show _ = _; rw [← HV.out]; exact (allF_miss hlt hp).symm
        go_wp2
        go_quiet (fail)
        go_wp2
        go_ret
        exact ⟨ret_bool HN.out, (Bel.out (by repeat (first | exact Bel.refl _ | assumption | refine Bel.drew ?_ | refine Bel.drewN ?_ _ | refine Bel.alloc ?_ _ | refine Bel.setCell ?_ (by simp <;> omega) _ | refine Bel.step ?_ (by assumption))))⟩
      · have HN : Hid (allF (vlP k v t k' v' t') n (m + 1) = allF (vlP k v t k' v' t') n 0) := by show _ = _; rw [← HV.out]; exact (allF_hit hlt hp).symm
        go_wp2
        go_quiet (fail)
        go_wp2
        go_roundw
        case rel => exact ⟨m + 1, by omega, by go_num, HN.out, (by repeat (first | exact Bel.refl _ | assumption | refine Bel.drew ?_ | refine Bel.drewN ?_ _ | refine Bel.alloc ?_ _ | refine Bel.setCell ?_ (by simp <;> omega) _ | refine Bel.step ?_ (by assumption)))⟩
        case measure => simp [intOf]; omega
    · have HN : Hid (true = allF (vlP k v t k' v' t') n 0) := by show _ = _; rw [← HV.out]; exact (allF_end hge).symm
      clear hc hd
      go_wp2
      go_ret
      exact ⟨ret_bool HN.out, (Bel.out (by repeat (first | exact Bel.refl _ | assumption | refine Bel.drew ?_ | refine Bel.drewN ?_ _ | refine Bel.alloc ?_ _ | refine Bel.setCell ?_ (by simp <;> omega) _ | refine Bel.step ?_ (by assumption))))⟩
set_option maxHeartbeats 4000000 in
theorem rRow_ne (a a' : Option Addr) (n n' cap cap' : Nat) (w : World) (h : ((n : Int) == (n' : Int)) = false) :
    Calls Tryd.prog 12 #[.slice a n cap, .slice a' n' cap'] w fun e w' => e = .returned (.bool false) ∧ Below w.heap.size w w' := by
  have h' : ((n : Int) != (n' : Int)) = true := by unfold bne; rw [h]; rfl
  go_enter Tryd.func12, Tryd.ntmps12
  go_wp2
  all_goals go_ret
  all_goals exact ⟨rfl, (Bel.out (by repeat (first | exact Bel.refl _ | assumption | refine Bel.drew ?_ | refine Bel.drewN ?_ _ | refine Bel.alloc ?_ _ | refine Bel.setCell ?_ (by simp <;> omega) _ | refine Bel.step ?_ (by assumption))))⟩
set_option maxHeartbeats 4000000 in
theorem rRow_0 (a a' : Option Addr) (cap cap' : Nat) (w : World) :
    Calls Tryd.prog 12 #[.slice a 0 cap, .slice a' 0 cap'] w fun e w' => e = .returned (.bool true) ∧ Below w.heap.size w w' := by
  go_enter Tryd.func12, Tryd.ntmps12
  go_wp2
  refine wp_loop_rounds 1 ?_
  rw [rounds_succ]
  go_wp2
  go_ret
  exact ⟨rfl, (Bel.out (by repeat (first | exact Bel.refl _ | assumption | refine Bel.drew ?_ | refine Bel.drewN ?_ _ | refine Bel.alloc ?_ _ | refine Bel.setCell ?_ (by simp <;> omega) _ | refine Bel.step ?_ (by assumption))))⟩
theorem rRow_any (a a' : Option Addr) (n cap n' cap' : Nat) (k v : Nat → Int) (t : Nat → ByteArray) (k' v' : Nat → Int) (t' : Nat → ByteArray) (w : World) (hlen : n ≤ 9223372036854775807) (hc : ValsAt w a n k v t) (hd : ValsAt w a' n' k' v' t') :
    Calls Tryd.prog 12 #[.slice a n cap, .slice a' n' cap'] w fun e w' => e = .returned (.bool (vlS n k v t n' k' v' t')) ∧ Below w.heap.size w w' := by
  by_cases hn : n = n'
  · subst hn
    have e : vlS n k v t n k' v' t' = allF (vlP k v t k' v' t') n 0 := by unfold vlS; rw [decide_eq_true rfl, Bool.true_and]
    rw [e]
    by_cases h0 : n = 0
    · subst h0; exact rRow_0 a a' cap cap' w
    · rcases hc with hc | ⟨b, off, rfl, hc⟩
      · exact absurd hc h0
      rcases hd with hd | ⟨b', off', rfl, hd⟩
      · exact absurd hd h0
      exact rRow_go b off b' off' n cap cap' k v t k' v' t' w hlen hc hd
  · have e : vlS n k v t n' k' v' t' = false := by unfold vlS; rw [decide_eq_false hn, Bool.false_and]
    rw [e]
    exact rRow_ne a a' n n' cap cap' w (by rw [beq_eq_false_iff_ne]; omega)
theorem vlS_is (r r' : List Val) : vlS r.length (kAt r) (nAt r) (tAt r) r'.length (kAt r') (nAt r') (tAt r') = decide (r = r') := by
  unfold vlS
  by_cases hl : r.length = r'.length
  · rw [decide_eq_true hl, Bool.true_and]
    by_cases he : r = r'
    · subst he
      rw [decide_eq_true rfl, allF_iff]
      intro j _ _; simp [vlP]
    · rw [decide_eq_false he]
      cases hA : allF (vlP (kAt r) (nAt r) (tAt r) (kAt r') (nAt r') (tAt r')) r.length 0 with
      | false => rfl
      | true =>
        exfalso; apply he
        rw [allF_iff] at hA
        apply List.ext_getElem hl
        intro i h1 h2
        have := hA i (Nat.zero_le _) h1
        simp only [vlP, Bool.and_eq_true, beq_iff_eq] at this
        have e1 : r[i] = (kAt r i, nAt r i, tAt r i) := by rw [at_val, List.getD_eq_getElem?_getD, List.getElem?_eq_getElem h1]; rfl
        have e2 : r'[i] = (kAt r' i, nAt r' i, tAt r' i) := by rw [at_val, List.getD_eq_getElem?_getD, List.getElem?_eq_getElem h2]; rfl
        rw [e1, e2, this.1.1, this.1.2, ba_toList.mp this.2]
  · rw [decide_eq_false hl, Bool.false_and]
    symm; apply decide_eq_false
    rintro rfl; exact hl rfl
theorem SameRow_any (a a' : Option Addr) (cap cap' : Nat) (r r' : List Val) (w : World) (hlen : r.length ≤ 9223372036854775807) (hr : RowAt w a r) (hr' : RowAt w a' r') :
    Calls Tryd.prog 12 #[.slice a r.length cap, .slice a' r'.length cap'] w fun e w' => e = .returned (.bool (decide (r = r'))) ∧ Below w.heap.size w w' := by
  rw [← vlS_is]
  exact rRow_any a a' r.length cap r'.length cap' _ _ _ _ _ _ w hlen hr hr'
/-- A slice of rows. -/
def RsAt (w : World) (a : Option Addr) (rs : List (List Val)) : Prop := rs = [] ∨ ∃ g off, a = some ⟨g, off, none⟩ ∧ ∀ i, i < rs.length → ∃ ai cap, w.cell? ⟨g, off + i, none⟩ = some (.slice ai (rs.getD i []).length cap) ∧ RowAt w ai (rs.getD i [])
theorem RsAt.below {w w' : World} {a : Option Addr} {rs : List (List Val)} (h : RsAt w a rs) (hb : Below w.heap.size w w') : RsAt w' a rs := by
  rcases h with h | ⟨g, off, ha, hc⟩
  · exact Or.inl h
  · refine Or.inr ⟨g, off, ha, fun i hi => ?_⟩
    obtain ⟨ai, cap, h1, h2⟩ := hc i hi
    exact ⟨ai, cap, cell_below hb h1, h2.below hb⟩
theorem take_eq {rs rs' : List (List Val)} {m : Nat} (h1 : m < rs.length) (h2 : m < rs'.length) : rs.take (m + 1) = rs'.take (m + 1) ↔ rs.take m = rs'.take m ∧ rs.getD m [] = rs'.getD m [] := by
  rw [List.take_succ_eq_append_getElem h1, List.take_succ_eq_append_getElem h2]
  have e1 : rs.getD m [] = rs[m] := by rw [List.getD_eq_getElem?_getD, List.getElem?_eq_getElem h1]; rfl
  have e2 : rs'.getD m [] = rs'[m] := by rw [List.getD_eq_getElem?_getD, List.getElem?_eq_getElem h2]; rfl
  rw [e1, e2]
  constructor
  · intro h
    have := List.append_inj h (by simp; omega)
    exact ⟨this.1, by simpa using this.2⟩
  · rintro ⟨h3, h4⟩; rw [h3, h4]
set_option maxRecDepth 20000 in
set_option maxHeartbeats 8000000 in
theorem SameRows_go (g off g' off' cap cap' : Nat) (rs rs' : List (List Val)) (w : World) (hl : rs.length = rs'.length) (hlen : rs.length ≤ 9223372036854775807) (hlr : ∀ i, (rs.getD i []).length ≤ 9223372036854775807)
    (hc : ∀ i, i < rs.length → ∃ ai cap, w.cell? ⟨g, off + i, none⟩ = some (.slice ai (rs.getD i []).length cap) ∧ RowAt w ai (rs.getD i []))
    (hd : ∀ i, i < rs'.length → ∃ ai cap, w.cell? ⟨g', off' + i, none⟩ = some (.slice ai (rs'.getD i []).length cap) ∧ RowAt w ai (rs'.getD i [])) :
    Calls Tryd.prog 42 #[.slice (some ⟨g, off, none⟩) rs.length cap, .slice (some ⟨g', off', none⟩) rs'.length cap'] w fun e w' => e = .returned (.bool (decide (rs = rs'))) ∧ Below w.heap.size w w' := by
  rw [← hl]
  have HLR : Hid _ := hlr
  clear hlr
  have HL : Hid _ := hl
  have hl' : rs'.length = rs.length := hl.symm
  have HC : Hid _ := hc
  have HD : Hid _ := hd
  clear hl hc hd
  have HL2 : Hid (rs'.length = rs.length) := hl'
  clear hl'
  go_enter Tryd.func42, Tryd.ntmps42
  go_wp2
  go_loopw [5] (fun i wr => ∃ m : Nat, m ≤ rs.length ∧ i = .int .i64 m ∧ rs.take m = rs'.take m ∧ Bel w.heap.size w wr) (fun i _ => rs.length - (intOf i).toNat)
  case atStart => exact ⟨0, Nat.zero_le _, rfl, rfl, Bel.refl _⟩
  case round =>
    obtain ⟨m, hm, rfl, hV, HB⟩ := hrel
    have HV : Hid (rs.take m = rs'.take m) := hV
    clear hV
    have hW := HB.out
    rcases Nat.lt_or_ge m rs.length with hlt | hge
    · have hlt' : m < rs'.length := by have := HL2.out; omega
      obtain ⟨ai, ci, c0, hri⟩ := HC.out m hlt
      obtain ⟨aj, cj, c1, hrj⟩ := HD.out m hlt'
      replace c0 := cell_below hW c0
      replace c1 := cell_below hW c1
      replace hri := hri.below hW
      replace hrj := hrj.below hW
      have HT : Hid _ := take_eq hlt hlt'
      have HN1 : Hid (rs = rs' → rs.getD m [] = rs'.getD m []) := fun e => by rw [e]
      have hl1 := HLR.out m
      clear hlt'
      generalize rs.getD m [] = r1 at c0 hri HT HN1 hl1
      generalize rs'.getD m [] = r2 at c1 hrj HT HN1
      generalize hp : decide (r1 = r2) = p
      cases p
      · have HN : Hid (decide (rs = rs') = false) := by
          show _ = _
          apply decide_eq_false
          intro e; exact (of_decide_eq_false hp) (HN1.out e)
        go_wp2
        refine wp_region_held_drew (S := (fun wS => Bel wr.heap.size wr wS)) (by kernel_rfl) ?_ (fun hHeld => ?_)
        · (try dsimp only); exact (Bel.refl _).drew
        refine wpAnyH_take (i := 0) (oi := { dst := some 17, op := Op.move (Operand.tmp 0), type := 54, pos := "ref.go:128", after := #[], guard := none }) (v := ?_) rfl (by kernel_rfl) (by kernel_rfl) (by kernel_rfl) (fun _ _ _ h => h) (Or.inl ⟨by kernel_rfl, ?_⟩) (by assumption) ?_
        rotate_left
        · intro wS hSw; (try dsimp only at hSw); go_simp; (try with_reducible rfl)
        try simp only [Act.put, List.setIfInBounds_toArray, List.set_cons_zero, List.set_cons_succ]
        refine wpAnyH_take (i := 1) (oi := { dst := some 18, op := Op.move (Operand.tmp 5), type := 3, pos := "ref.go:128", after := #[], guard := none }) (v := ?_) rfl (by kernel_rfl) (by kernel_rfl) (by kernel_rfl) (fun _ _ _ h => h) (Or.inl ⟨by kernel_rfl, ?_⟩) (by assumption) ?_
        rotate_left
        · intro wS hSw; (try dsimp only at hSw); go_simp; (try with_reducible rfl)
        try simp only [Act.put, List.setIfInBounds_toArray, List.set_cons_zero, List.set_cons_succ]
        refine wpAnyH_take (i := 2) (oi := { dst := some 19, op := Op.indexAddr 54 (Operand.tmp 17) (Operand.tmp 18), type := 0, pos := "ref.go:128", after := #[{ on := 0, ground := Ground.data }, { on := 1, ground := Ground.data }], guard := none }) (v := ?_) rfl (by kernel_rfl) (by kernel_rfl) (by kernel_rfl) (fun _ _ _ h => h) (Or.inl ⟨by kernel_rfl, ?_⟩) (by assumption) ?_
        rotate_left
        · intro wS hSw; (try dsimp only at hSw); go_simp; (try with_reducible rfl)
        try simp only [Act.put, List.setIfInBounds_toArray, List.set_cons_zero, List.set_cons_succ]
        refine wpAnyH_take (i := 3) (oi := { dst := some 20, op := Op.load 22 (Operand.tmp 19), type := 22, pos := "ref.go:128", after := #[{ on := 2, ground := Ground.data }], guard := none }) (v := ?_) rfl (by kernel_rfl) (by kernel_rfl) (by kernel_rfl) (fun _ _ _ h => h) (Or.inl ⟨by kernel_rfl, ?_⟩) (by assumption) ?_
        rotate_left
        · intro wS hSw; (try dsimp only at hSw); have x0 := cell_below hSw.out c0; go_simp; (try with_reducible rfl)
        try simp only [Act.put, List.setIfInBounds_toArray, List.set_cons_zero, List.set_cons_succ]
        refine wpAnyH_take (i := 4) (oi := { dst := some 21, op := Op.move (Operand.tmp 1), type := 54, pos := "ref.go:128", after := #[], guard := none }) (v := ?_) rfl (by kernel_rfl) (by kernel_rfl) (by kernel_rfl) (fun _ _ _ h => h) (Or.inl ⟨by kernel_rfl, ?_⟩) (by assumption) ?_
        rotate_left
        · intro wS hSw; (try dsimp only at hSw); go_simp; (try with_reducible rfl)
        try simp only [Act.put, List.setIfInBounds_toArray, List.set_cons_zero, List.set_cons_succ]
        refine wpAnyH_take (i := 5) (oi := { dst := some 22, op := Op.move (Operand.tmp 5), type := 3, pos := "ref.go:128", after := #[], guard := none }) (v := ?_) rfl (by kernel_rfl) (by kernel_rfl) (by kernel_rfl) (fun _ _ _ h => h) (Or.inl ⟨by kernel_rfl, ?_⟩) (by assumption) ?_
        rotate_left
        · intro wS hSw; (try dsimp only at hSw); go_simp; (try with_reducible rfl)
        try simp only [Act.put, List.setIfInBounds_toArray, List.set_cons_zero, List.set_cons_succ]
        refine wpAnyH_take (i := 6) (oi := { dst := some 23, op := Op.indexAddr 54 (Operand.tmp 21) (Operand.tmp 22), type := 0, pos := "ref.go:128", after := #[{ on := 4, ground := Ground.data }, { on := 5, ground := Ground.data }], guard := none }) (v := ?_) rfl (by kernel_rfl) (by kernel_rfl) (by kernel_rfl) (fun _ _ _ h => h) (Or.inl ⟨by kernel_rfl, ?_⟩) (by assumption) ?_
        rotate_left
        · intro wS hSw; (try dsimp only at hSw); go_simp; (try with_reducible rfl)
        try simp only [Act.put, List.setIfInBounds_toArray, List.set_cons_zero, List.set_cons_succ]
        refine wpAnyH_take (i := 7) (oi := { dst := some 24, op := Op.load 22 (Operand.tmp 23), type := 22, pos := "ref.go:128", after := #[{ on := 6, ground := Ground.data }], guard := none }) (v := ?_) rfl (by kernel_rfl) (by kernel_rfl) (by kernel_rfl) (fun _ _ _ h => h) (Or.inl ⟨by kernel_rfl, ?_⟩) (by assumption) ?_
        rotate_left
        · intro wS hSw; (try dsimp only at hSw); have x1 := cell_below hSw.out c1; go_simp; (try with_reducible rfl)
        try simp only [Act.put, List.setIfInBounds_toArray, List.set_cons_zero, List.set_cons_succ]
        refine wpAnyH_ready (rs := [8]) (by kernel_rfl) (by simp) ?_
        refine AllReadyH.cons (o := { dst := some 25, op := Op.call { callee := Callee.value (Operand.func 12), args := #[Operand.tmp 20, Operand.tmp 24], argTypes := #[22, 22] }, type := 4, pos := "ref.go:128", after := #[{ on := 3, ground := Ground.data }, { on := 7, ground := Ground.data }], guard := none }) rfl (fun K hK => ?_) AllReadyH.nil
        go_simp
        refine (SameRow_any ai aj ci cj r1 r2 _ hl1 (hri.below (Below.refl wr.heap.size wr).drew) (hrj.below (Below.refl wr.heap.size wr).drew)).mono ?_
        rintro e w2 ⟨rfl, hb⟩; rw [hp]; clear hp
        refine hK.out _ _ ?_ (fun hH8 => ?_)
        · (try dsimp only); exact Bel.step (Bel.refl _).drew hb
        clear hK K
        try simp only [Act.put, List.setIfInBounds_toArray, List.set_cons_zero, List.set_cons_succ]
        refine wpAnyH_take (i := 9) (oi := { dst := some 26, op := Op.unOp UnOp.not 4 (Operand.tmp 25), type := 4, pos := "ref.go:128", after := #[{ on := 8, ground := Ground.data }], guard := none }) (v := ?_) rfl (by kernel_rfl) (by kernel_rfl) (by kernel_rfl) (fun _ _ _ h => h) (Or.inl ⟨by kernel_rfl, ?_⟩) (by assumption) ?_
        rotate_left
        · intro wS hSw; (try dsimp only at hSw); go_simp; (try with_reducible rfl)
        try simp only [Act.put, List.setIfInBounds_toArray, List.set_cons_zero, List.set_cons_succ]
        refine wpAnyH_done (by kernel_rfl) ?_ _
        go_wp2
        go_ret
        exact ⟨ret_bool HN.out.symm, (Bel.out (by repeat (first | exact Bel.refl _ | assumption | refine Bel.drew ?_ | refine Bel.drewN ?_ _ | refine Bel.alloc ?_ _ | refine Bel.setCell ?_ (by simp <;> omega) _ | refine Bel.step ?_ (by assumption))))⟩
      · have HN : Hid (rs.take (m + 1) = rs'.take (m + 1)) := HT.out.2 ⟨HV.out, of_decide_eq_true hp⟩
        go_wp2
        refine wp_region_held_drew (S := (fun wS => Bel wr.heap.size wr wS)) (by kernel_rfl) ?_ (fun hHeld => ?_)
        · (try dsimp only); exact (Bel.refl _).drew
        refine wpAnyH_take (i := 0) (oi := { dst := some 17, op := Op.move (Operand.tmp 0), type := 54, pos := "ref.go:128", after := #[], guard := none }) (v := ?_) rfl (by kernel_rfl) (by kernel_rfl) (by kernel_rfl) (fun _ _ _ h => h) (Or.inl ⟨by kernel_rfl, ?_⟩) (by assumption) ?_
        rotate_left
        · intro wS hSw; (try dsimp only at hSw); go_simp; (try with_reducible rfl)
        try simp only [Act.put, List.setIfInBounds_toArray, List.set_cons_zero, List.set_cons_succ]
        refine wpAnyH_take (i := 1) (oi := { dst := some 18, op := Op.move (Operand.tmp 5), type := 3, pos := "ref.go:128", after := #[], guard := none }) (v := ?_) rfl (by kernel_rfl) (by kernel_rfl) (by kernel_rfl) (fun _ _ _ h => h) (Or.inl ⟨by kernel_rfl, ?_⟩) (by assumption) ?_
        rotate_left
        · intro wS hSw; (try dsimp only at hSw); go_simp; (try with_reducible rfl)
        try simp only [Act.put, List.setIfInBounds_toArray, List.set_cons_zero, List.set_cons_succ]
        refine wpAnyH_take (i := 2) (oi := { dst := some 19, op := Op.indexAddr 54 (Operand.tmp 17) (Operand.tmp 18), type := 0, pos := "ref.go:128", after := #[{ on := 0, ground := Ground.data }, { on := 1, ground := Ground.data }], guard := none }) (v := ?_) rfl (by kernel_rfl) (by kernel_rfl) (by kernel_rfl) (fun _ _ _ h => h) (Or.inl ⟨by kernel_rfl, ?_⟩) (by assumption) ?_
        rotate_left
        · intro wS hSw; (try dsimp only at hSw); go_simp; (try with_reducible rfl)
        try simp only [Act.put, List.setIfInBounds_toArray, List.set_cons_zero, List.set_cons_succ]
        refine wpAnyH_take (i := 3) (oi := { dst := some 20, op := Op.load 22 (Operand.tmp 19), type := 22, pos := "ref.go:128", after := #[{ on := 2, ground := Ground.data }], guard := none }) (v := ?_) rfl (by kernel_rfl) (by kernel_rfl) (by kernel_rfl) (fun _ _ _ h => h) (Or.inl ⟨by kernel_rfl, ?_⟩) (by assumption) ?_
        rotate_left
        · intro wS hSw; (try dsimp only at hSw); have x0 := cell_below hSw.out c0; go_simp; (try with_reducible rfl)
        try simp only [Act.put, List.setIfInBounds_toArray, List.set_cons_zero, List.set_cons_succ]
        refine wpAnyH_take (i := 4) (oi := { dst := some 21, op := Op.move (Operand.tmp 1), type := 54, pos := "ref.go:128", after := #[], guard := none }) (v := ?_) rfl (by kernel_rfl) (by kernel_rfl) (by kernel_rfl) (fun _ _ _ h => h) (Or.inl ⟨by kernel_rfl, ?_⟩) (by assumption) ?_
        rotate_left
        · intro wS hSw; (try dsimp only at hSw); go_simp; (try with_reducible rfl)
        try simp only [Act.put, List.setIfInBounds_toArray, List.set_cons_zero, List.set_cons_succ]
        refine wpAnyH_take (i := 5) (oi := { dst := some 22, op := Op.move (Operand.tmp 5), type := 3, pos := "ref.go:128", after := #[], guard := none }) (v := ?_) rfl (by kernel_rfl) (by kernel_rfl) (by kernel_rfl) (fun _ _ _ h => h) (Or.inl ⟨by kernel_rfl, ?_⟩) (by assumption) ?_
        rotate_left
        · intro wS hSw; (try dsimp only at hSw); go_simp; (try with_reducible rfl)
        try simp only [Act.put, List.setIfInBounds_toArray, List.set_cons_zero, List.set_cons_succ]
        refine wpAnyH_take (i := 6) (oi := { dst := some 23, op := Op.indexAddr 54 (Operand.tmp 21) (Operand.tmp 22), type := 0, pos := "ref.go:128", after := #[{ on := 4, ground := Ground.data }, { on := 5, ground := Ground.data }], guard := none }) (v := ?_) rfl (by kernel_rfl) (by kernel_rfl) (by kernel_rfl) (fun _ _ _ h => h) (Or.inl ⟨by kernel_rfl, ?_⟩) (by assumption) ?_
        rotate_left
        · intro wS hSw; (try dsimp only at hSw); go_simp; (try with_reducible rfl)
        try simp only [Act.put, List.setIfInBounds_toArray, List.set_cons_zero, List.set_cons_succ]
        refine wpAnyH_take (i := 7) (oi := { dst := some 24, op := Op.load 22 (Operand.tmp 23), type := 22, pos := "ref.go:128", after := #[{ on := 6, ground := Ground.data }], guard := none }) (v := ?_) rfl (by kernel_rfl) (by kernel_rfl) (by kernel_rfl) (fun _ _ _ h => h) (Or.inl ⟨by kernel_rfl, ?_⟩) (by assumption) ?_
        rotate_left
        · intro wS hSw; (try dsimp only at hSw); have x1 := cell_below hSw.out c1; go_simp; (try with_reducible rfl)
        try simp only [Act.put, List.setIfInBounds_toArray, List.set_cons_zero, List.set_cons_succ]
        refine wpAnyH_ready (rs := [8]) (by kernel_rfl) (by simp) ?_
        refine AllReadyH.cons (o := { dst := some 25, op := Op.call { callee := Callee.value (Operand.func 12), args := #[Operand.tmp 20, Operand.tmp 24], argTypes := #[22, 22] }, type := 4, pos := "ref.go:128", after := #[{ on := 3, ground := Ground.data }, { on := 7, ground := Ground.data }], guard := none }) rfl (fun K hK => ?_) AllReadyH.nil
        go_simp
        refine (SameRow_any ai aj ci cj r1 r2 _ hl1 (hri.below (Below.refl wr.heap.size wr).drew) (hrj.below (Below.refl wr.heap.size wr).drew)).mono ?_
        rintro e w2 ⟨rfl, hb⟩; rw [hp]; clear hp
        refine hK.out _ _ ?_ (fun hH8 => ?_)
        · (try dsimp only); exact Bel.step (Bel.refl _).drew hb
        clear hK K
        try simp only [Act.put, List.setIfInBounds_toArray, List.set_cons_zero, List.set_cons_succ]
        refine wpAnyH_take (i := 9) (oi := { dst := some 26, op := Op.unOp UnOp.not 4 (Operand.tmp 25), type := 4, pos := "ref.go:128", after := #[{ on := 8, ground := Ground.data }], guard := none }) (v := ?_) rfl (by kernel_rfl) (by kernel_rfl) (by kernel_rfl) (fun _ _ _ h => h) (Or.inl ⟨by kernel_rfl, ?_⟩) (by assumption) ?_
        rotate_left
        · intro wS hSw; (try dsimp only at hSw); go_simp; (try with_reducible rfl)
        try simp only [Act.put, List.setIfInBounds_toArray, List.set_cons_zero, List.set_cons_succ]
        refine wpAnyH_done (by kernel_rfl) ?_ _
        go_wp2
        go_roundw
        case rel => exact ⟨m + 1, by omega, by go_num, HN.out, (by repeat (first | exact Bel.refl _ | assumption | refine Bel.drew ?_ | refine Bel.drewN ?_ _ | refine Bel.alloc ?_ _ | refine Bel.setCell ?_ (by simp <;> omega) _ | refine Bel.step ?_ (by assumption)))⟩
        case measure => simp [intOf]; omega
    · obtain rfl : m = rs.length := by omega
      have HN : Hid (decide (rs = rs') = true) := by
        show _ = _
        apply decide_eq_true
        have h := HV.out
        rw [List.take_length] at h
        rw [h]; exact List.take_of_length_le (by have := HL2.out; omega)
      go_wp2
      go_ret
      exact ⟨ret_bool HN.out.symm, (Bel.out (by repeat (first | exact Bel.refl _ | assumption | refine Bel.drew ?_ | refine Bel.drewN ?_ _ | refine Bel.alloc ?_ _ | refine Bel.setCell ?_ (by simp <;> omega) _ | refine Bel.step ?_ (by assumption))))⟩
set_option maxHeartbeats 4000000 in
theorem SameRows_ne (a a' : Option Addr) (n n' cap cap' : Nat) (w : World) (h : ((n : Int) == (n' : Int)) = false) :
    Calls Tryd.prog 42 #[.slice a n cap, .slice a' n' cap'] w fun e w' => e = .returned (.bool false) ∧ Below w.heap.size w w' := by
  go_enter Tryd.func42, Tryd.ntmps42
  go_wp2
  go_ret
  exact ⟨rfl, (Bel.out (by repeat (first | exact Bel.refl _ | assumption | refine Bel.drew ?_ | refine Bel.drewN ?_ _ | refine Bel.alloc ?_ _ | refine Bel.setCell ?_ (by simp <;> omega) _ | refine Bel.step ?_ (by assumption))))⟩
set_option maxHeartbeats 4000000 in
theorem SameRows_0 (a a' : Option Addr) (cap cap' : Nat) (w : World) :
    Calls Tryd.prog 42 #[.slice a 0 cap, .slice a' 0 cap'] w fun e w' => e = .returned (.bool true) ∧ Below w.heap.size w w' := by
  go_enter Tryd.func42, Tryd.ntmps42
  go_wp2
  refine wp_loop_rounds 1 ?_
  rw [rounds_succ]
  go_wp2
  go_ret
  exact ⟨rfl, (Bel.out (by repeat (first | exact Bel.refl _ | assumption | refine Bel.drew ?_ | refine Bel.drewN ?_ _ | refine Bel.alloc ?_ _ | refine Bel.setCell ?_ (by simp <;> omega) _ | refine Bel.step ?_ (by assumption))))⟩
theorem SameRows_any (a a' : Option Addr) (cap cap' : Nat) (rs rs' : List (List Val)) (w : World) (hlen : rs.length ≤ 9223372036854775807) (hlr : ∀ i, (rs.getD i []).length ≤ 9223372036854775807) (hr : RsAt w a rs) (hr' : RsAt w a' rs') :
    Calls Tryd.prog 42 #[.slice a rs.length cap, .slice a' rs'.length cap'] w fun e w' => e = .returned (.bool (decide (rs = rs'))) ∧ Below w.heap.size w w' := by
  by_cases hl : rs.length = rs'.length
  · rcases hr with rfl | ⟨g, off, rfl, hc⟩
    · obtain rfl : rs' = [] := List.length_eq_zero_iff.1 hl.symm
      exact SameRows_0 a a' cap cap' w
    · rcases hr' with rfl | ⟨g', off', rfl, hd⟩
      · obtain rfl : rs = [] := List.length_eq_zero_iff.1 hl
        exact SameRows_0 _ a' cap cap' w
      · exact SameRows_go g off g' off' cap cap' rs rs' w hl hlen hlr hc hd
  · have e : decide (rs = rs') = false := decide_eq_false (fun e => hl (by rw [e]))
    rw [e]
    exact SameRows_ne a a' _ _ cap cap' w (by rw [beq_eq_false_iff_ne]; omega)
theorem same_any (a a' : Option Addr) (cap cap' : Nat) (rs rs' : List (List Val)) (w : World) (hlen : rs.length ≤ 9223372036854775807) (hlr : ∀ i, (rs.getD i []).length ≤ 9223372036854775807) (hr : RsAt w a rs) (hr' : RsAt w a' rs') :
    Calls Tryd.prog 23 #[.slice a rs.length cap, .slice a' rs'.length cap'] w fun e w' => e = .returned (.bool (decide (rs = rs'))) ∧ Below w.heap.size w w' := by
  have hc := SameRows_any a a' cap cap' rs rs' w hlen hlr hr hr'
  generalize decide (rs = rs') = p at hc ⊢
  clear hr hr' hlr
  go_enter Tryd.func23, Tryd.ntmps23
  go_wp2_with (go_at_call 42; refine hc.mono ?_; rintro e w' ⟨rfl, hb⟩)
  go_ret
  exact ⟨rfl, hb⟩
/-- A row of one text. -/
def txt (s : ByteArray) : List Val := [(4, 0, s)]
set_option maxHeartbeats 4000000 in
theorem text_any (s : ByteArray) (w : World) : Calls Tryd.prog 31 #[.string s] w fun e w' => e = .returned (.slice (some ⟨w.heap.size, 0, none⟩) 1 1) ∧ w' = w.alloc (.cells #[.int .i64 4, .int .i64 0, .string s] 53) := by
  go_enter Tryd.func31, Tryd.ntmps31
  go_wp2
  go_ret
  exact ⟨rfl, rfl⟩
theorem txt_at (s : ByteArray) (w : World) : RowAt (w.alloc (.cells #[.int .i64 4, .int .i64 0, .string s] 53)) (some ⟨w.heap.size, 0, none⟩) (txt s) := by
  refine Or.inr ⟨w.heap.size, 0, rfl, fun i hi => ?_⟩
  obtain rfl : i = 0 := by simp [txt] at hi; omega
  exact ⟨new3_0 _ _ _ _ _, new3_1 _ _ _ _ _, new3_2 _ _ _ _ _⟩
end Go.Proofs.YtbfodpmlmhkikaaDoor
