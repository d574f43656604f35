/- Blanks and notes around a source. -/
import Derived.Test.YthhbeejfnpcbhaaGreatDoorSf
namespace Go.Proofs.YthhbeejfnpcbhaaGreatDoor
open Go.ChangeShapes Go.WideShapes Go.ChangeAt Go.RowKit

def ntL : List (List UInt8) := [[32], [10], [47, 42, 32, 105, 116, 39, 115, 32, 42, 47], [45, 45, 32, 115, 111, 10], [9, 32, 13, 10]]
def Pre (b : List UInt8) : Prop := ∀ l, sk (b ++ l) = (b.length + (sk l).1, (sk l).2)
theorem pre_cons {c : UInt8} (h : blB c.toNat = true) {b : List UInt8} (hb : Pre b) : Pre (c :: b) := fun l => by
  rw [List.cons_append, sk_bl h, hb l]
  simp only [List.length_cons, Prod.mk.injEq, and_true]
  omega
theorem pre_nil : Pre [] := fun l => by simp
theorem pre_note : Pre [47, 42, 32, 105, 116, 39, 115, 32, 42, 47] := fun l => by
  have hn : noteN ([47, 42, 32, 105, 116, 39, 115, 32, 42, 47] ++ l) = 10 := by
    unfold noteN
    have e : Lib.index (([47, 42, 32, 105, 116, 39, 115, 32, 42, 47] ++ l).drop 2) [42, 47] = 6 := by
      simp [Lib.index, List.isPrefixOf]
    rw [e]; rfl
  have hs : stp ([47, 42, 32, 105, 116, 39, 115, 32, 42, 47] ++ l) = 10 := by
    unfold stp
    rw [if_neg (by simp), if_neg (by simp [blB]), if_neg (by simp [Lib.hasPrefix, List.isPrefixOf]), if_pos (by simp [Lib.hasPrefix, List.isPrefixOf]), hn]
    rfl
  rw [sk_step (by omega), hs]
  simp [Nat.add_comm]
theorem pre_line : Pre [45, 45, 32, 115, 111, 10] := fun l => by
  have hn : lineN ([45, 45, 32, 115, 111, 10] ++ l) = 5 := by
    unfold lineN
    have e : Lib.indexByte ([45, 45, 32, 115, 111, 10] ++ l) 10 = 5 := by simp [Lib.indexByte]
    rw [e]; rfl
  have hs : stp ([45, 45, 32, 115, 111, 10] ++ l) = 5 := by
    unfold stp
    rw [if_neg (by simp), if_neg (by simp [blB]), if_pos (by simp [Lib.hasPrefix, List.isPrefixOf]), hn]
  have e : ([45, 45, 32, 115, 111, 10] ++ l).drop 5 = 10 :: l := rfl
  rw [sk_step (by omega), hs]
  show ((sk (([45, 45, 32, 115, 111, 10] ++ l).drop 5)).1 + 5, (sk (([45, 45, 32, 115, 111, 10] ++ l).drop 5)).2) = _
  rw [e, sk_bl rfl]
  simp only [List.length_cons, List.length_nil, Prod.mk.injEq, and_true]
  omega
theorem pre_all : ∀ b ∈ ntL, Pre b := by
  intro b hb
  simp only [ntL, List.mem_cons, List.not_mem_nil, or_false] at hb
  rcases hb with rfl | rfl | rfl | rfl | rfl
  · exact pre_cons rfl pre_nil
  · exact pre_cons rfl pre_nil
  · exact pre_note
  · exact pre_line
  · exact pre_cons rfl (pre_cons rfl (pre_cons rfl (pre_cons rfl pre_nil)))
/-- Blanks and notes around a source change nothing but the places. -/
theorem lx_note {b : List UInt8} (hb : b ∈ ntL) (l : List UInt8) (a c : Int) (h : (lx l a).2.2 = 0) : (lx (b ++ (l ++ 10 :: b)) c).2.2 = 0 ∧ bar (lx (b ++ (l ++ 10 :: b)) c).1 = bar (lx l a).1 := by
  have hp := pre_all b hb
  have hx : sk (10 :: b) = ((10 :: b).length, true) := by
    have := hp []
    rw [List.append_nil] at this
    rw [sk_bl rfl, this]
    simp [sk, skF, stp]
    omega
  have hs := lx_shift l a (c + b.length)
  rw [lx_pre (hp _), lx_app b hx l _ (by rw [← hs.1]; exact h)]
  exact ⟨by rw [← hs.1]; exact h, hs.2.symm⟩
end Go.Proofs.YthhbeejfnpcbhaaGreatDoor
