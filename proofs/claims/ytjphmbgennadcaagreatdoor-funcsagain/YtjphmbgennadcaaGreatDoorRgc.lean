/- Regions that draw: calls, rows and boxes in whatever order. -/
import Derived.Test.YtjphmbgennadcaaGreatDoorInv
namespace Go.Proofs.YtjphmbgennadcaaGreatDoor
set_option maxHeartbeats 4000000
set_option maxRecDepth 20000
set_option linter.unusedSimpArgs false
open Go.ChangeShapes Go.WideShapes Go.ChangeAt Go.RowKit


/-- A block from n0 on that holds these cells. -/
structure Bxc (n0 g : Nat) (cv : List Value) (wr : World) : Prop where
  ge : n0 ≤ g
  lt : g < wr.heap.size
  cs : ∀ i u, cv[i]? = some u → wr.cell? ⟨g, i, none⟩ = some u
  fr : ∀ i, wr.frozen? ⟨g, i, none⟩ = false
theorem Bxc.below {n0 g : Nat} {cv : List Value} {wr w' : World} (h : Bxc n0 g cv wr) (hb : Below wr.heap.size wr w') : Bxc n0 g cv w' where
  ge := h.ge
  lt := Nat.lt_of_lt_of_le h.lt hb.size
  cs := fun i u hu => cell_below hb (h.cs i u hu)
  fr := fun i => by rw [hb.frozen (p := ⟨g, i, none⟩) h.lt]; exact h.fr i
theorem Bxc.new {n0 : Nat} (w : World) (hn : n0 ≤ w.heap.size) (cv : List Value) (t : TypeId) : Bxc n0 w.heap.size cv (w.alloc (.cells cv.toArray t)) where
  ge := hn
  lt := by simp
  cs := fun i u hu => by rw [World.cell?_alloc_new]; simpa using hu
  fr := fun _ => World.frozen?_alloc_new _ _ _ _
/-- Cells stored one behind the other. -/
def setCs (w : World) (g : Nat) : Nat → List Value → World
  | _, [] => w
  | k, u :: us => setCs (w.setCell ⟨g, k, none⟩ u) g (k + 1) us
theorem setCs_size (g : Nat) : ∀ (us : List Value) (k : Nat) (w : World), (setCs w g k us).heap.size = w.heap.size
  | [], _, _ => rfl
  | u :: us, k, w => by rw [setCs, setCs_size g us]; simp [World.setCell]
theorem setCs_fr (g : Nat) (a : Addr) : ∀ (us : List Value) (k : Nat) (w : World), (setCs w g k us).frozen? a = w.frozen? a
  | [], _, _ => rfl
  | u :: us, k, w => by rw [setCs, setCs_fr g a us, World.frozen?_setCell]
theorem setCs_other (g : Nat) (a : Addr) : ∀ (us : List Value) (k : Nat) (w : World), (a.block ≠ g ∨ a.off < k) → (setCs w g k us).cell? a = w.cell? a
  | [], _, _, _ => rfl
  | u :: us, k, w, h => by
    rw [setCs, setCs_other g a us (k + 1) _ (by rcases h with h | h; exact Or.inl h; exact Or.inr (by omega))]
    refine World.cell?_setCell_other _ _ _ _ (fun e => ?_)
    rw [← e] at h
    rcases h with h | h
    · exact h rfl
    · simp at h
theorem setCs_at (g : Nat) : ∀ (us : List Value) (k : Nat) (w : World) (j : Nat) (u : Value), us[j]? = some u → (∃ o, w.cell? ⟨g, k + j, none⟩ = some o) → (setCs w g k us).cell? ⟨g, k + j, none⟩ = some u
  | [], _, _, _, _, h, _ => by simp at h
  | x :: us, k, w, 0, u, h, ho => by
    obtain ⟨o, ho⟩ := ho
    simp at h
    subst h
    rw [setCs, setCs_other g _ us _ _ (Or.inr (by simp))]
    exact World.cell?_setCell_same _ _ _ ho
  | x :: us, k, w, j + 1, u, h, ho => by
    rw [setCs]
    have e : k + (j + 1) = (k + 1) + j := by omega
    rw [e] at ho ⊢
    refine setCs_at g us (k + 1) _ j u (by simpa using h) ?_
    obtain ⟨o, ho⟩ := ho
    refine ⟨o, ?_⟩
    rw [← ho]
    exact World.cell?_setCell_other _ _ _ _ (fun e => by injection e; omega)
theorem Bxc.set {n0 g : Nat} {cv : List Value} {wr : World} (h : Bxc n0 g cv wr) (us : List Value) (hl : us.length = cv.length) : Bxc n0 g us (setCs wr g 0 us) where
  ge := h.ge
  lt := by rw [setCs_size]; exact h.lt
  cs := fun i u hu => by
    have hi : i < cv.length := by
      have := (List.getElem?_eq_some_iff.1 hu).1
      omega
    have := setCs_at g us 0 wr i u hu ⟨cv[i], by rw [Nat.zero_add]; exact h.cs i _ (List.getElem?_eq_getElem hi)⟩
    rwa [Nat.zero_add] at this
  fr := fun i => by rw [setCs_fr]; exact h.fr i
theorem Bxc.other {n0 g g' : Nat} {cv : List Value} {wr : World} (h : Bxc n0 g cv wr) (hne : g ≠ g') (us : List Value) : Bxc n0 g cv (setCs wr g' 0 us) where
  ge := h.ge
  lt := by rw [setCs_size]; exact h.lt
  cs := fun i u hu => by rw [setCs_other g' _ us 0 _ (Or.inl hne)]; exact h.cs i u hu
  fr := fun i => by rw [setCs_fr]; exact h.fr i
theorem Bel.setCs {n0 : Nat} {w : World} {g : Nat} (hg : n0 ≤ g) : ∀ (us : List Value) (k : Nat) (wr : World), Bel n0 w wr → Bel n0 w (setCs wr g k us)
  | [], _, _, h => h
  | u :: us, k, wr, h => by
    show Bel n0 w (Go.Proofs.YtjphmbgennadcaaGreatDoor.setCs (wr.setCell ⟨g, k, none⟩ u) g (k + 1) us)
    exact Bel.setCs hg us (k + 1) _ (h.setCell hg _)
/-- What an operation of a region leaves: a value (cal), a row that is used by number u (row), a box that number p stores into (box). -/
structure OpE where
  slot : Nat
  cal : Option Value := none
  row : Option (Nat × Nat × List Value) := none
  box : Option (Nat × List Value × List Value) := none
/-- Slots apart; who stores leaves nothing; no two store into one box; what is stored is as wide. -/
def wfE (E : List OpE) : Bool :=
  (List.range E.length).all fun i => (List.range E.length).all fun j => match E[i]?, E[j]? with
    | some a, some b => (Nat.beq i j || (!(Nat.beq a.slot b.slot) && (match a.box, b.box with | some (p, _, _), some (q, _, _) => !(Nat.beq p q) | _, _ => true)))
      && (match a.box with | some (p, z, v) => !(Nat.beq p i) && Nat.beq z.length v.length && (!(Nat.beq p j) || (b.cal.isNone && b.row.isNone && b.box.isNone)) | none => true)
      && (match a.row with | some (u, _, _) => !(Nat.beq u i) | none => true)
    | _, _ => true
section
variable {E : List OpE}
theorem wf_at (h : wfE E = true) {i j : Nat} {a b : OpE} (hi : E[i]? = some a) (hj : E[j]? = some b) :
    (i ≠ j → Nat.beq a.slot b.slot = false) ∧ (∀ p z v, a.box = some (p, z, v) → p ≠ i ∧ z.length = v.length ∧ (p = j → b.cal = none ∧ b.row = none ∧ b.box = none)) ∧ (∀ p z v q z' v', i ≠ j → a.box = some (p, z, v) → b.box = some (q, z', v') → p ≠ q) := by
  unfold wfE at h
  rw [List.all_eq_true] at h
  have h1 := h i (List.mem_range.2 (List.getElem?_eq_some_iff.1 hi).1)
  rw [List.all_eq_true] at h1
  have h2 := h1 j (List.mem_range.2 (List.getElem?_eq_some_iff.1 hj).1)
  rw [hi, hj] at h2
  simp only [Bool.and_eq_true, Bool.or_eq_true] at h2
  obtain ⟨⟨h3, h4⟩, h5⟩ := h2
  have nb : ∀ {x y : Nat}, Nat.beq x y = true → x = y := Nat.eq_of_beq_eq_true
  refine ⟨fun hne => ?_, fun p z v hb => ?_, fun p z v q z' v' hne hb hb' => ?_⟩
  · rcases h3 with h3 | h3
    · exact absurd (nb h3) hne
    · simpa using h3.1
  · rw [hb] at h4
    simp only [Bool.and_eq_true, Bool.or_eq_true, Bool.not_eq_true', Option.isNone_iff_eq_none] at h4
    refine ⟨fun e => ?_, nb h4.1.2, fun e => ?_⟩
    · rw [e, Nat.beq_refl] at h4; cases h4.1.1
    · rcases h4.2 with h6 | h6
      · rw [e, Nat.beq_refl] at h6; cases h6
      · exact ⟨h6.1.1, h6.1.2, h6.2⟩
  · rcases h3 with h3 | h3
    · exact absurd (nb h3) hne
    · rw [hb, hb'] at h3
      intro e
      have := h3.2
      rw [e] at this
      simp only [Nat.beq_refl] at this
      cases this
/-- Where the region stands: which have come up, what they left. -/
structure Rgc (w0 : World) (E : List OpE) (L : Nat → Bool) (X : Nat → Value) (w' : World) : Prop where
  ord : ∀ i e p z v, E[i]? = some e → e.box = some (p, z, v) → L p = true → L i = true
  bel : Bel w0.heap.size w0 w'
  cal : ∀ i e v, E[i]? = some e → e.cal = some v → L i = true → X e.slot = v
  row : ∀ i e u n r, E[i]? = some e → e.row = some (u, n, r) → L i = true → L u = false → ∃ g, X e.slot = .slice (some ⟨g, 0, none⟩) n n ∧ Bxc w0.heap.size g r w'
  box : ∀ i e p z v, E[i]? = some e → e.box = some (p, z, v) → L i = true → ∃ g, X e.slot = .pointer (some ⟨g, 0, none⟩) ∧ Bxc w0.heap.size g (if L p then v else z) w'
  dis : ∀ i j ei ej, E[i]? = some ei → E[j]? = some ej → i ≠ j → ei.box.isSome = true → ej.box.isSome = true → L i = true → L j = true → X ei.slot ≠ X ej.slot
  rbx : ∀ i j ei ej u n r g g', E[i]? = some ei → E[j]? = some ej → ei.row = some (u, n, r) → ej.box.isSome = true → L i = true → L u = false → L j = true → X ei.slot = .slice (some ⟨g, 0, none⟩) n n → X ej.slot = .pointer (some ⟨g', 0, none⟩) → g ≠ g'
theorem Rgc.below {w0 w' w'' : World} {L : Nat → Bool} {X : Nat → Value} (h : Rgc w0 E L X w') (hb : Below w'.heap.size w' w'') : Rgc w0 E L X w'' where
  ord := h.ord
  bel := h.bel.step hb
  cal := h.cal
  row := fun i e u n r h1 h2 h3 h4 => by obtain ⟨g, hg, hx⟩ := h.row i e u n r h1 h2 h3 h4; exact ⟨g, hg, hx.below hb⟩
  box := fun i e p z v h1 h2 h3 => by obtain ⟨g, hg, hx⟩ := h.box i e p z v h1 h2 h3; exact ⟨g, hg, hx.below hb⟩
  dis := h.dis
  rbx := h.rbx
theorem eq_of_upd {L : Nat → Bool} {i j : Nat} (h : updB L i j = true) : j = i ∨ (j ≠ i ∧ L j = true) := by
  unfold updB at h
  by_cases e : j = i
  · exact Or.inl e
  · refine Or.inr ⟨e, ?_⟩
    split at h
    · rename_i hb; exact absurd (Nat.eq_of_beq_eq_true hb) e
    · exact h
theorem upd_keep {L : Nat → Bool} {i j : Nat} (h : L j = true) : updB L i j = true := by
  unfold updB
  split
  · rfl
  · exact h
theorem upd_false {L : Nat → Bool} {i j : Nat} (h : updB L i j = false) : L j = false := by
  unfold updB at h
  split at h
  · cases h
  · exact h
theorem upd_ne {L : Nat → Bool} {i j : Nat} (h : j ≠ i) : updB L i j = L j := by
  unfold updB
  split
  · rename_i hb; exact absurd (Nat.eq_of_beq_eq_true hb) h
  · rfl
/-- A call that leaves a value. -/
theorem Rgc.stepC {w0 w' : World} {L : Nat → Bool} {X : Nat → Value} (h : Rgc w0 E L X w') (hw : wfE E = true) {i : Nat} {e : OpE} {v : Value} (he : E[i]? = some e) (hc : e.cal = some v) (hr : e.row = none) (hx : e.box = none) (hl : L i = false) : Rgc w0 E (updB L i) (updV X e.slot v) w' where
  ord := fun j ej p z v' hj hbj hp => by
    rcases eq_of_upd hp with rfl | ⟨hne, hp'⟩
    · have := ((wf_at hw hj he).2.1 p z v' hbj).2.2 rfl
      rw [hc] at this; cases this.1
    · exact upd_keep (h.ord j ej p z v' hj hbj hp')
  bel := h.bel
  cal := fun j ej u hj hcj hl => by
    rcases eq_of_upd hl with rfl | ⟨hne, hl⟩
    · rw [he] at hj; cases hj; rw [hc] at hcj; cases hcj; exact updV_same _ _ _
    · rw [updV_ne _ _ _ _ ((wf_at hw hj he).1 hne)]; exact h.cal j ej u hj hcj hl
  row := fun j ej u n r hj hrj hl hu => by
    rcases eq_of_upd hl with rfl | ⟨hne, hl⟩
    · rw [he] at hj; cases hj; rw [hr] at hrj; cases hrj
    · rw [updV_ne _ _ _ _ ((wf_at hw hj he).1 hne)]; exact h.row j ej u n r hj hrj hl (upd_false hu)
  box := fun j ej p z v' hj hbj hl => by
    rcases eq_of_upd hl with rfl | ⟨hne, hl⟩
    · rw [he] at hj; cases hj; rw [hx] at hbj; cases hbj
    · have hp : p ≠ i := fun e => by
        have := ((wf_at hw hj he).2.1 p z v' hbj).2.2 e
        rw [hc] at this; cases this.1
      rw [updV_ne _ _ _ _ ((wf_at hw hj he).1 hne), upd_ne hp]; exact h.box j ej p z v' hj hbj hl
  dis := fun j k ej ek hj hk hjk hbj hbk hlj hlk => by
    rcases eq_of_upd hlj with rfl | ⟨hnej, hlj'⟩
    · rw [he] at hj; cases hj; rw [hx] at hbj; cases hbj
    rcases eq_of_upd hlk with rfl | ⟨hnek, hlk'⟩
    · rw [he] at hk; cases hk; rw [hx] at hbk; cases hbk
    rw [updV_ne _ _ _ _ ((wf_at hw hj he).1 hnej), updV_ne _ _ _ _ ((wf_at hw hk he).1 hnek)]
    exact h.dis j k ej ek hj hk hjk hbj hbk hlj' hlk'
  rbx := fun j k ej ek u n r g g' hj hk hrj hbk hlj hu hlk hg hg' => by
    rcases eq_of_upd hlj with rfl | ⟨hnej, hlj'⟩
    · rw [he] at hj; cases hj; rw [hr] at hrj; cases hrj
    rcases eq_of_upd hlk with rfl | ⟨hnek, hlk'⟩
    · rw [he] at hk; cases hk; rw [hx] at hbk; cases hbk
    rw [updV_ne _ _ _ _ ((wf_at hw hj he).1 hnej)] at hg
    rw [updV_ne _ _ _ _ ((wf_at hw hk he).1 hnek)] at hg'
    exact h.rbx j k ej ek u n r g g' hj hk hrj hbk hlj' (upd_false hu) hlk' hg hg'
/-- A row is made. -/
theorem Rgc.stepR {w0 w' : World} {L : Nat → Bool} {X : Nat → Value} (h : Rgc w0 E L X w') (hw : wfE E = true) {i : Nat} {e : OpE} {u n : Nat} {r : List Value} (he : E[i]? = some e) (hc : e.cal = none) (hr : e.row = some (u, n, r)) (hx : e.box = none) (t : TypeId) :
    Rgc w0 E (updB L i) (updV X e.slot (.slice (some ⟨w'.heap.size, 0, none⟩) n n)) (w'.alloc (.cells r.toArray t)) := by
  have hb : Below w'.heap.size w' (w'.alloc (.cells r.toArray t)) := (Below.refl _ _).alloc (Nat.le_refl _) _
  have h2 := h.below hb
  exact {
  ord := fun j ej p z v' hj hbj hp => by
    rcases eq_of_upd hp with rfl | ⟨hne, hp'⟩
    · have := ((wf_at hw hj he).2.1 p z v' hbj).2.2 rfl
      rw [hr] at this; cases this.2.1
    · exact upd_keep (h.ord j ej p z v' hj hbj hp')
  bel := h2.bel
  cal := fun j ej u hj hcj hl => by
    rcases eq_of_upd hl with rfl | ⟨hne, hl⟩
    · rw [he] at hj; cases hj; rw [hc] at hcj; cases hcj
    · rw [updV_ne _ _ _ _ ((wf_at hw hj he).1 hne)]; exact h.cal j ej u hj hcj hl
  row := fun j ej u n r hj hrj hl hu => by
    rcases eq_of_upd hl with rfl | ⟨hne, hl⟩
    · rw [he] at hj; cases hj; rw [hr] at hrj; cases hrj
      exact ⟨_, updV_same _ _ _, Bxc.new w' h.bel.out.size r t⟩
    · rw [updV_ne _ _ _ _ ((wf_at hw hj he).1 hne)]; exact h2.row j ej u n r hj hrj hl (upd_false hu)
  box := fun j ej p z v' hj hbj hl => by
    rcases eq_of_upd hl with rfl | ⟨hne, hl⟩
    · rw [he] at hj; cases hj; rw [hx] at hbj; cases hbj
    · have hp : p ≠ i := fun e => by
        have := ((wf_at hw hj he).2.1 p z v' hbj).2.2 e
        rw [hr] at this; cases this.2.1
      rw [updV_ne _ _ _ _ ((wf_at hw hj he).1 hne), upd_ne hp]; exact h2.box j ej p z v' hj hbj hl
  dis := fun j k ej ek hj hk hjk hbj hbk hlj hlk => by
    rcases eq_of_upd hlj with rfl | ⟨hnej, hlj'⟩
    · rw [he] at hj; cases hj; rw [hx] at hbj; cases hbj
    rcases eq_of_upd hlk with rfl | ⟨hnek, hlk'⟩
    · rw [he] at hk; cases hk; rw [hx] at hbk; cases hbk
    rw [updV_ne _ _ _ _ ((wf_at hw hj he).1 hnej), updV_ne _ _ _ _ ((wf_at hw hk he).1 hnek)]
    exact h.dis j k ej ek hj hk hjk hbj hbk hlj' hlk'
  rbx := fun j k ej ek u n r g g' hj hk hrj hbk hlj hu hlk hg hg' => by
    rcases eq_of_upd hlk with rfl | ⟨hnek, hlk'⟩
    · rw [he] at hk; cases hk; rw [hx] at hbk; cases hbk
    rw [updV_ne _ _ _ _ ((wf_at hw hk he).1 hnek)] at hg'
    rcases eq_of_upd hlj with rfl | ⟨hnej, hlj'⟩
    · rw [he] at hj; cases hj
      rw [updV_same] at hg
      injection hg with hg
      injection hg with hg
      injection hg with hg
      obtain ⟨bx, hbx⟩ := Option.isSome_iff_exists.1 hbk
      obtain ⟨p, z, v⟩ := bx
      obtain ⟨g2, hg2, hx2⟩ := h.box k ek p z v hk hbx hlk'
      rw [hg2] at hg'
      injection hg' with hg'
      injection hg' with hg'
      injection hg' with hg'
      have := hx2.lt
      omega
    rw [updV_ne _ _ _ _ ((wf_at hw hj he).1 hnej)] at hg
    exact h.rbx j k ej ek u n r g g' hj hk hrj hbk hlj' (upd_false hu) hlk' hg hg' }
/-- A box is made. -/
theorem Rgc.stepB {w0 w' : World} {L : Nat → Bool} {X : Nat → Value} (h : Rgc w0 E L X w') (hw : wfE E = true) {i : Nat} {e : OpE} {p : Nat} {z v : List Value} (he : E[i]? = some e) (hc : e.cal = none) (hr : e.row = none) (hx : e.box = some (p, z, v)) (hl : L i = false) (t : TypeId) :
    Rgc w0 E (updB L i) (updV X e.slot (.pointer (some ⟨w'.heap.size, 0, none⟩))) (w'.alloc (.cells z.toArray t)) := by
  have hb : Below w'.heap.size w' (w'.alloc (.cells z.toArray t)) := (Below.refl _ _).alloc (Nat.le_refl _) _
  have h2 := h.below hb
  have hp : L p = false := by
    cases hq : L p with
    | false => rfl
    | true => rw [h.ord i e p z v he hx hq] at hl; cases hl
  have hpi : p ≠ i := ((wf_at hw he he).2.1 p z v hx).1
  exact {
  ord := fun j ej q z' v' hj hbj hq => by
    rcases eq_of_upd hq with rfl | ⟨hne, hq'⟩
    · have := ((wf_at hw hj he).2.1 q z' v' hbj).2.2 rfl
      rw [hx] at this; cases this.2.2
    · exact upd_keep (h.ord j ej q z' v' hj hbj hq')
  bel := h2.bel
  cal := fun j ej u hj hcj hl => by
    rcases eq_of_upd hl with rfl | ⟨hne, hl⟩
    · rw [he] at hj; cases hj; rw [hc] at hcj; cases hcj
    · rw [updV_ne _ _ _ _ ((wf_at hw hj he).1 hne)]; exact h.cal j ej u hj hcj hl
  row := fun j ej u n r hj hrj hl hu => by
    rcases eq_of_upd hl with rfl | ⟨hne, hl⟩
    · rw [he] at hj; cases hj; rw [hr] at hrj; cases hrj
    · rw [updV_ne _ _ _ _ ((wf_at hw hj he).1 hne)]; exact h2.row j ej u n r hj hrj hl (upd_false hu)
  box := fun j ej q z' v' hj hbj hl => by
    rcases eq_of_upd hl with rfl | ⟨hne, hl⟩
    · rw [he] at hj; cases hj; rw [hx] at hbj; cases hbj
      rw [upd_ne hpi, hp]
      exact ⟨_, updV_same _ _ _, Bxc.new w' h.bel.out.size z t⟩
    · have hq : q ≠ i := fun e => by
        have := ((wf_at hw hj he).2.1 q z' v' hbj).2.2 e
        rw [hx] at this; cases this.2.2
      rw [updV_ne _ _ _ _ ((wf_at hw hj he).1 hne), upd_ne hq]; exact h2.box j ej q z' v' hj hbj hl
  dis := fun j k ej ek hj hk hjk hbj hbk hlj hlk => by
    have fresh : ∀ m em, E[m]? = some em → em.box.isSome = true → L m = true → X em.slot ≠ .pointer (some ⟨w'.heap.size, 0, none⟩) := fun m em hm hbm hlm hh => by
      obtain ⟨⟨p, z, v⟩, hbx⟩ := Option.isSome_iff_exists.1 hbm
      obtain ⟨g2, hg2, hx2⟩ := h.box m em p z v hm hbx hlm
      rw [hg2] at hh
      injection hh with hh
      injection hh with hh
      injection hh with hh
      have := hx2.lt
      omega
    rcases eq_of_upd hlj with rfl | ⟨hnej, hlj'⟩
    · rcases eq_of_upd hlk with rfl | ⟨hnek, hlk'⟩
      · exact absurd rfl hjk
      · rw [he] at hj; cases hj
        rw [updV_same, updV_ne _ _ _ _ ((wf_at hw hk he).1 hnek)]
        exact fun e => fresh k ek hk hbk hlk' e.symm
    rcases eq_of_upd hlk with rfl | ⟨hnek, hlk'⟩
    · rw [he] at hk; cases hk
      rw [updV_same, updV_ne _ _ _ _ ((wf_at hw hj he).1 hnej)]
      exact fresh j ej hj hbj hlj'
    rw [updV_ne _ _ _ _ ((wf_at hw hj he).1 hnej), updV_ne _ _ _ _ ((wf_at hw hk he).1 hnek)]
    exact h.dis j k ej ek hj hk hjk hbj hbk hlj' hlk'
  rbx := fun j k ej ek u n r g g' hj hk hrj hbk hlj hu hlk hg hg' => by
    rcases eq_of_upd hlj with rfl | ⟨hnej, hlj'⟩
    · rw [he] at hj; cases hj; rw [hr] at hrj; cases hrj
    rw [updV_ne _ _ _ _ ((wf_at hw hj he).1 hnej)] at hg
    rcases eq_of_upd hlk with rfl | ⟨hnek, hlk'⟩
    · rw [he] at hk; cases hk
      rw [updV_same] at hg'
      injection hg' with hg'
      injection hg' with hg'
      injection hg' with hg'
      obtain ⟨g2, hg2, hx2⟩ := h.row j ej u n r hj hrj hlj' (upd_false hu)
      rw [hg2] at hg
      injection hg with hg
      injection hg with hg
      injection hg with hg
      have := hx2.lt
      omega
    rw [updV_ne _ _ _ _ ((wf_at hw hk he).1 hnek)] at hg'
    exact h.rbx j k ej ek u n r g g' hj hk hrj hbk hlj' (upd_false hu) hlk' hg hg' }
/-- A box is stored into. -/
theorem Rgc.stepS {w0 w' : World} {L : Nat → Bool} {X : Nat → Value} (h : Rgc w0 E L X w') (hw : wfE E = true) {i p g : Nat} {e e' : OpE} {z v : List Value} (he : E[i]? = some e) (hx : e.box = some (p, z, v)) (he' : E[p]? = some e') (hl : L i = true) (hg : X e.slot = .pointer (some ⟨g, 0, none⟩)) :
    Rgc w0 E (updB L p) X (setCs w' g 0 v) := by
  have hwf := (wf_at hw he he').2.1 p z v hx
  have hn := hwf.2.2 rfl
  obtain ⟨g2, hg2, hx2⟩ := h.box i e p z v he hx hl
  have hgg : g2 = g := by rw [hg2] at hg; injection hg with hg; injection hg with hg; injection hg
  subst hgg
  have hlen : v.length = (if L p then v else z).length := by
    cases L p
    · exact hwf.2.1.symm
    · rfl
  exact {
  ord := fun j ej q z' v' hj hbj hq => by
    by_cases hji : j = i
    · subst hji; exact upd_keep hl
    · rcases eq_of_upd hq with rfl | ⟨hne, hq'⟩
      · exact absurd rfl ((wf_at hw hj he).2.2 q z' v' q z v hji hbj hx)
      · exact upd_keep (h.ord j ej q z' v' hj hbj hq')
  bel := Bel.setCs hx2.ge v 0 w' h.bel
  cal := fun j ej u hj hcj hl => by
    rcases eq_of_upd hl with rfl | ⟨hne, hl⟩
    · rw [he'] at hj; cases hj; rw [hn.1] at hcj; cases hcj
    · exact h.cal j ej u hj hcj hl
  row := fun j ej u n r hj hrj hl hu => by
    rcases eq_of_upd hl with rfl | ⟨hne, hl⟩
    · rw [he'] at hj; cases hj; rw [hn.2.1] at hrj; cases hrj
    · obtain ⟨g3, hg3, hx3⟩ := h.row j ej u n r hj hrj hl (upd_false hu)
      exact ⟨g3, hg3, hx3.other (h.rbx j i ej e u n r g3 g2 hj he hrj (by rw [hx]; rfl) hl (upd_false hu) ‹L i = true› hg3 hg2) v⟩
  box := fun j ej q z' v' hj hbj hlj => by
    rcases eq_of_upd hlj with rfl | ⟨hne, hlj⟩
    · rw [he'] at hj; cases hj; rw [hn.2.2] at hbj; cases hbj
    by_cases hji : j = i
    · subst hji
      rw [he] at hj; cases hj; rw [hx] at hbj; cases hbj
      rw [updB_same]
      exact ⟨g2, hg2, hx2.set v hlen⟩
    · obtain ⟨g3, hg3, hx3⟩ := h.box j ej q z' v' hj hbj hlj
      have hq : q ≠ p := (wf_at hw hj he).2.2 q z' v' p z v hji hbj hx
      rw [upd_ne hq]
      refine ⟨g3, hg3, hx3.other (fun e9 => ?_) v⟩
      have := h.dis j i ej e hj he hji (by rw [hbj]; rfl) (by rw [hx]; rfl) hlj hl
      rw [hg3, hg2, e9] at this
      exact this rfl
  dis := fun j k ej ek hj hk hjk hbj hbk hlj hlk => by
    rcases eq_of_upd hlj with rfl | ⟨hnej, hlj'⟩
    · rw [he'] at hj; cases hj; rw [hn.2.2] at hbj; cases hbj
    rcases eq_of_upd hlk with rfl | ⟨hnek, hlk'⟩
    · rw [he'] at hk; cases hk; rw [hn.2.2] at hbk; cases hbk
    exact h.dis j k ej ek hj hk hjk hbj hbk hlj' hlk'
  rbx := fun j k ej ek u n r g g' hj hk hrj hbk hlj hu hlk hg hg' => by
    rcases eq_of_upd hlj with rfl | ⟨hnej, hlj'⟩
    · rw [he'] at hj; cases hj; rw [hn.2.1] at hrj; cases hrj
    rcases eq_of_upd hlk with rfl | ⟨hnek, hlk'⟩
    · rw [he'] at hk; cases hk; rw [hn.2.2] at hbk; cases hbk
    exact h.rbx j k ej ek u n r g g' hj hk hrj hbk hlj' (upd_false hu) hlk' hg hg' }
/-- The beginning: nothing has come up that leaves anything. -/
theorem Rgc.start {w0 w' : World} {L : Nat → Bool} {X : Nat → Value} (hb : Bel w0.heap.size w0 w') (h : ∀ i e, E[i]? = some e → (L i = true → e.cal = none ∧ e.row = none ∧ e.box = none) ∧ ∀ p z v, e.box = some (p, z, v) → L p = false) : Rgc w0 E L X w' where
  ord := fun i e p z v h1 h2 h3 => by rw [(h i e h1).2 p z v h2] at h3; cases h3
  bel := hb
  cal := fun i e v h1 h2 h3 => by rw [((h i e h1).1 h3).1] at h2; cases h2
  row := fun i e u n r h1 h2 h3 _ => by rw [((h i e h1).1 h3).2.1] at h2; cases h2
  box := fun i e p z v h1 h2 h3 => by rw [((h i e h1).1 h3).2.2] at h2; cases h2
  dis := fun i j ei ej h1 _ _ h2 _ h3 _ => by rw [((h i ei h1).1 h3).2.2] at h2; cases h2
  rbx := fun i j ei ej u n r g g' h1 _ h2 _ h3 _ _ _ _ => by rw [((h i ei h1).1 h3).2.1] at h2; cases h2
/-- .. by reckoning. -/
def stB (E : List OpE) (l : Array Bool) : Bool := (List.range E.length).all fun i => match E[i]? with | some e => (!(l.getD i true) || (e.cal.isNone && e.row.isNone && e.box.isNone)) && (match e.box with | some (p, _, _) => !(l.getD p true) | none => true) | none => true
theorem stB_spec {l : Array Bool} (h : stB E l = true) : ∀ i e, E[i]? = some e → (l.getD i true = true → e.cal = none ∧ e.row = none ∧ e.box = none) ∧ ∀ p z v, e.box = some (p, z, v) → l.getD p true = false := by
  intro i e he
  unfold stB at h
  rw [List.all_eq_true] at h
  have h1 := h i (List.mem_range.2 (List.getElem?_eq_some_iff.1 he).1)
  rw [he] at h1
  simp only [Bool.and_eq_true] at h1
  refine ⟨fun hl => ?_, fun p z v hb => ?_⟩
  · have h2 := h1.1
    simp only [hl, Bool.not_true, Bool.false_or, Bool.and_eq_true, Option.isNone_iff_eq_none] at h2
    exact ⟨h2.1.1, h2.1.2, h2.2⟩
  · have h2 := h1.2
    rw [hb] at h2
    simpa using h2
end
end Go.Proofs.YtjphmbgennadcaaGreatDoor
