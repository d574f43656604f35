/- What lies in memory behind that region. -/
import Derived.Test.YtcemogaacicnfaaGreatDoorAgr
namespace Go.Proofs.YtcemogaacicnfaaGreatDoor
open Go.ChangeShapes Go.WideShapes Go.ChangeAt Go.RowKit Go.Shelf

theorem keeps_of {W W' : World} (h : Below W.heap.size W W') : KeepsOthers W W' := ⟨h.size, fun k _ ho _ => (h.block k (heap_lt ho)).trans ho⟩
theorem own_set5 {w : World} {B g k cap : Nat} {xs : List Value} {z0 z1 z2 z3 z4 : Value} (h : w.ownsRow B 24 5 (.slice (some ⟨g, 0, none⟩) (k + 1) cap) (k + 1) (xs ++ [z0, z1, z2, z3, z4])) (hx : xs.length = k * 5) (v0 v1 v2 v3 v4 : Value) : (set5 w g (k * 5) v0 v1 v2 v3 v4).ownsRow B 24 5 (.slice (some ⟨g, 0, none⟩) (k + 1) cap) (k + 1) (xs ++ [v0, v1, v2, v3, v4]) := by
  have h0 := (h.stored (k * 5) v0).1
  rw [List.set_append_right _ _ (by omega), show k * 5 - xs.length = 0 by omega] at h0
  have h1 := (h0.stored (k * 5 + 1) v1).1
  rw [List.set_append_right _ _ (by omega), show k * 5 + 1 - xs.length = 1 by omega] at h1
  have h2 := (h1.stored (k * 5 + 2) v2).1
  rw [List.set_append_right _ _ (by omega), show k * 5 + 2 - xs.length = 2 by omega] at h2
  have h3 := (h2.stored (k * 5 + 3) v3).1
  rw [List.set_append_right _ _ (by omega), show k * 5 + 3 - xs.length = 3 by omega] at h3
  have h4 := (h3.stored (k * 5 + 4) v4).1
  rw [List.set_append_right _ _ (by omega), show k * 5 + 4 - xs.length = 4 by omega] at h4
  exact h4
theorem set5_keeps (w : World) (g o : Nat) (v0 v1 v2 v3 v4 : Value) : KeepsOthers w (set5 w g o v0 v1 v2 v3 v4) :=
  ((((KeepsOthers.setCell _ _ _).trans (KeepsOthers.setCell _ _ _)).trans (KeepsOthers.setCell _ _ _)).trans (KeepsOthers.setCell _ _ _)).trans (KeepsOthers.setCell _ _ _)
set_option maxHeartbeats 2000000 in
/-- What was collected, with one more. -/
theorem agg_fin (M : Nat) (y : Tr M) (W Wf : World) (n₀ B Bx k cc ly : Nat) (a : Option Addr) (k1 n1 a1 : Int) (t1 : List UInt8) (A : List (Ag M)) (hk1 : k1 = kd M y) (ht1 : t1 = tx M y) (hn1 : n1 = nu M y) (ha1 : a1 = pl M y) (hly : ly = (ks M y).length) (hkA : A.length = k)
    (hbx : Boxed W Bx 22 (Value.slice a k cc)) (hag : AgAt B M W (Value.slice a k cc) A) (hB : B ≤ W.heap.size) (hn0 : n₀ ≤ Bx) (hxB : Bx < B) (hf : ∃ (X w1 : World) (g cap lo : Nat) (s' : Option Addr) (c' : Nat), Below W.heap.size W X ∧ W.heap.size ≤ lo ∧ NdF lo X M y s' ∧ w1.ownsRow B 24 5 (.slice (some ⟨g, 0, none⟩) (k + 1) cap) (k + 1) (agC M A ++ [.int .i64 0, .string ⟨#[]⟩, .int .i64 0, .int .i64 0, .slice none 0 0]) ∧ X.grownBy w1 (Value.slice a k cc).ownBlock ∧ ((Value.slice a k cc).ownBlock = some g ∨ g = X.heap.size) ∧ g < w1.heap.size ∧ (Wf = (set5 w1 g (k * 5) (.int .i64 k1) (.string (bsA t1)) (.int .i64 n1) (.int .i64 a1) (.slice s' ly c')).setCell ⟨Bx, 0, none⟩ (.slice (some ⟨g, 0, none⟩) (k + 1) cap) ∨ Wf = (set5 (w1.setCell ⟨Bx, 0, none⟩ (.slice (some ⟨g, 0, none⟩) (k + 1) cap)) g (k * 5) (.int .i64 k1) (.string (bsA t1)) (.int .i64 n1) (.int .i64 a1) (.slice s' ly c')))) :
    KeepsOthers W Wf ∧ Ka n₀ B Bx W Wf ∧ ((∃ v' A', Boxed Wf Bx 22 v' ∧ AgAt B M Wf v' A' ∧ A'.map (·.1) = A.map (·.1) ++ [y]) ∧ B ≤ Wf.heap.size) ∧ Below n₀ W Wf := by
  subst hk1 ht1 hn1 ha1 hly hkA
  obtain ⟨X, w1, g, cap, lo, s', c', hX, hlo, hF, hown1, hgrow, hlies, hg1, hWf⟩ := hf
  obtain ⟨hown, hq⟩ := hag
  have hxl : (agC M A).length = A.length * 5 := agC_len M A
  have hgB : B ≤ g := by
    rcases hown1.2 with ⟨h, _⟩ | ⟨g', cap', cur, h, hb', _⟩
    · cases h
    · cases h; exact hb'
  have hne : g ≠ Bx := by omega
  have hold : ∀ b, (Value.slice a A.length cc).ownBlock = some b → B ≤ b ∧ b < W.heap.size ∧ ∃ o, W.heap[b]? = some o ∧ o.isCells = true := by
    intro b hb
    rcases hown.2 with ⟨h, _⟩ | ⟨g', cap', cur, h, hb', hg', _⟩
    · rw [h] at hb; cases hb
    · rw [h] at hb
      cases hb
      exact ⟨hb', heap_lt hg', _, hg', rfl⟩
  have hptr : ∀ b, Ptr Bx W b ↔ (Value.slice a A.length cc).ownBlock = some b := fun b => by
    constructor
    · rintro ⟨v, hv, hb⟩
      rw [hbx.cell] at hv
      cases hv
      exact hb
    · intro hb
      exact ⟨_, hbx.cell, hb⟩
  have hb1 : Boxed w1 Bx 22 (Value.slice a A.length cc) := Boxed.kept ((hX.block Bx hbx.lt).trans hbx) hgrow (fun e => by have := (hold Bx e.symm).1; omega)
  -- both orders at once
  obtain ⟨hfh, hfb, hfo, hfs, hfk⟩ : (∀ b, b ≠ g → b ≠ Bx → Wf.heap[b]? = w1.heap[b]?) ∧ Boxed Wf Bx 22 (.slice (some ⟨g, 0, none⟩) (A.length + 1) cap) ∧ Wf.ownsRow B 24 5 (.slice (some ⟨g, 0, none⟩) (A.length + 1) cap) (A.length + 1) (agC M A ++ ndC M (y, s', c')) ∧ Wf.heap.size = w1.heap.size ∧ KeepsOthers w1 Wf := by
    have o5 : ∀ w2 : World, w2.ownsRow B 24 5 (.slice (some ⟨g, 0, none⟩) (A.length + 1) cap) (A.length + 1) (agC M A ++ [.int .i64 0, .string ⟨#[]⟩, .int .i64 0, .int .i64 0, .slice none 0 0]) → (set5 w2 g (A.length * 5) (.int .i64 (kd M y)) (.string (bsA (tx M y))) (.int .i64 (nu M y)) (.int .i64 (pl M y)) (.slice s' (ks M y).length c')).ownsRow B 24 5 (.slice (some ⟨g, 0, none⟩) (A.length + 1) cap) (A.length + 1) (agC M A ++ ndC M (y, s', c')) := fun w2 h => own_set5 h hxl _ _ _ _ _
    have nb : ((.slice (some ⟨g, 0, none⟩) (A.length + 1) cap) : Value).ownBlock ≠ some (⟨Bx, 0, none⟩ : Addr).block := fun e => hne (Option.some.inj e)
    rcases hWf with h | h
    · generalize hwa : set5 w1 g (A.length * 5) (.int .i64 (kd M y)) (.string (bsA (tx M y))) (.int .i64 (nu M y)) (.int .i64 (pl M y)) (.slice s' (ks M y).length c') = wa at h
      have ha : Boxed wa Bx 22 (Value.slice a A.length cc) := by rw [← hwa]; exact (set5_heap _ _ _ _ _ _ _ _ _ (Ne.symm hne)).trans hb1
      have hao := o5 w1 hown1
      have has := set5_size w1 g (A.length * 5) (.int .i64 (kd M y)) (.string (bsA (tx M y))) (.int .i64 (nu M y)) (.int .i64 (pl M y)) (.slice s' (ks M y).length c')
      have hak := set5_keeps w1 g (A.length * 5) (.int .i64 (kd M y)) (.string (bsA (tx M y))) (.int .i64 (nu M y)) (.int .i64 (pl M y)) (.slice s' (ks M y).length c')
      have hah : ∀ b, b ≠ g → wa.heap[b]? = w1.heap[b]? := fun b hb => by rw [← hwa]; exact set5_heap _ _ _ _ _ _ _ _ _ hb
      rw [hwa] at hao has hak
      subst h
      refine ⟨fun b h1 h2 => ?_, ha.set _, ownsRow_setCell_other hao nb _, ?_, hak.trans (KeepsOthers.setCell _ _ _)⟩
      · rw [heap_setCell_other _ _ _ _ h2]; exact hah b h1
      · rw [World.size_setCell]; exact has
    · have hso := o5 _ (ownsRow_setCell_other hown1 nb (.slice (some ⟨g, 0, none⟩) (A.length + 1) cap))
      have hs1 := set5_size (w1.setCell ⟨Bx, 0, none⟩ (.slice (some ⟨g, 0, none⟩) (A.length + 1) cap)) g (A.length * 5) (.int .i64 (kd M y)) (.string (bsA (tx M y))) (.int .i64 (nu M y)) (.int .i64 (pl M y)) (.slice s' (ks M y).length c')
      have hsk := set5_keeps (w1.setCell ⟨Bx, 0, none⟩ (.slice (some ⟨g, 0, none⟩) (A.length + 1) cap)) g (A.length * 5) (.int .i64 (kd M y)) (.string (bsA (tx M y))) (.int .i64 (nu M y)) (.int .i64 (pl M y)) (.slice s' (ks M y).length c')
      have hsh : ∀ b, b ≠ g → Wf.heap[b]? = (w1.setCell ⟨Bx, 0, none⟩ (.slice (some ⟨g, 0, none⟩) (A.length + 1) cap)).heap[b]? := fun b hb => by rw [h]; exact set5_heap _ _ _ _ _ _ _ _ _ hb
      rw [← h] at hso hs1 hsk
      refine ⟨fun b h1 h2 => ?_, (hsh Bx (Ne.symm hne)).trans (hb1.set _), hso, ?_, (KeepsOthers.setCell _ _ _).trans hsk⟩
      · rw [hsh b h1, heap_setCell_other _ _ _ _ h2]
      · rw [hs1, World.size_setCell]
  have hgnew : ∀ b, b < X.heap.size → (Value.slice a A.length cc).ownBlock ≠ some b → b ≠ g := fun b hb hn e => by
    subst e
    rcases hlies with h | h
    · exact hn h
    · omega
  have hall : ∀ b, b < X.heap.size → (Value.slice a A.length cc).ownBlock ≠ some b → b ≠ Bx → Wf.heap[b]? = X.heap[b]? := fun b hb hn hx => by
    rw [hfh b (hgnew b hb hn) hx]
    exact hgrow.block b hb (fun e => hn e.symm)
  have hXs := hX.size
  have hws : X.heap.size ≤ w1.heap.size := hgrow.size
  refine ⟨?_, ⟨by omega, fun b o hb hn ho hc => ?_, fun b hb => ?_⟩, ⟨⟨_, A ++ [(y, s', c')], hfb, ⟨?_, fun p hp => ?_⟩, by simp⟩, by omega⟩, ?_⟩
  · refine (keeps_of hX).trans (KeepsOthers.trans (KeepsOthers.of_grownBy hgrow fun j o ej hj => ?_) hfk)
    obtain ⟨_, h2, o', ho', hc'⟩ := hold j ej
    rw [hX.block j h2, ho'] at hj
    cases hj
    exact hc'
  · have hlt := heap_lt ho
    rw [hall b (by omega) (fun e => hn ((hptr b).2 e)) (by rcases hb with h | h <;> omega), hX.block b hlt]
    exact ho
  · obtain ⟨v, hv, hbb⟩ := hb
    rw [hfb.cell] at hv
    cases hv
    obtain rfl : g = b := Option.some.inj hbb
    rcases hlies with h | h
    · exact Or.inl ((hptr g).2 h)
    · exact Or.inr ⟨by omega, by omega⟩
  · rw [agC_snoc, List.length_append]
    exact hfo
  · rcases List.mem_append.1 hp with hp | hp
    · refine NdQ.keep (fun b z hb hz _ => ?_) (hq p hp)
      have hlt := heap_lt hz
      refine ⟨((hall b (by omega) hb.2 (by omega)).trans (hX.block b hlt)).trans hz, hb.1, ?_⟩
      intro e
      obtain rfl : g = b := Option.some.inj e
      exact hgnew g (by omega) hb.2 rfl
    · simp only [List.mem_singleton] at hp
      subst hp
      have hq2 : NdQ (fun b => lo ≤ b ∧ b < X.heap.size) X M y s' := NdF.q (fun b h1 h2 => ⟨h1, h2⟩) hF
      refine NdQ.keep (fun b z hb hz _ => ?_) hq2
      have hnb : (Value.slice a A.length cc).ownBlock ≠ some b := fun e => by have := (hold b e).2.1; omega
      refine ⟨(hall b hb.2 hnb (by omega)).trans hz, by omega, ?_⟩
      intro e
      obtain rfl : g = b := Option.some.inj e
      exact hgnew g hb.2 hnb rfl
  · have hXn : Below n₀ W X := hX.mono (by omega)
    have h1n : Below n₀ W w1 := hXn.grown hgrow (by omega) (fun b e => by have := (hold b e).1; omega)
    rcases hWf with h | h
    · rw [h]
      exact (set5_below h1n g _ _ _ _ _ _ (by omega)).setCell (p := ⟨Bx, 0, none⟩) hn0 _
    · rw [h]
      exact set5_below (h1n.setCell (p := ⟨Bx, 0, none⟩) hn0 _) g _ _ _ _ _ _ (by omega)
end Go.Proofs.YtcemogaacicnfaaGreatDoor
