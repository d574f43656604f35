/- When two trees are the same (Same, by slices.EqualFunc). -/
import Derived.Test.YtcicdapccondkaaTre
namespace Go.Proofs.Ytcicdapccondkaa
set_option maxRecDepth 20000
set_option maxHeartbeats 4000000
open Go.ChangeShapes Go.WideShapes Go.ChangeAt Go.RowKit

theorem bsA_inj {a b : List UInt8} : bsA a = bsA b ↔ a = b := by
  constructor
  · intro h
    have := congrArg (fun x : ByteArray => x.data.toList) h
    simpa [bsA] using this
  · rintro rfl; rfl
theorem zip_snoc {α : Type} (f : α → α → Bool) {l m : List α} {i : Nat} {a b : α} (ha : l[i]? = some a) (hb : m[i]? = some b) : ((l.zip m).take (i + 1)).all (fun p => f p.1 p.2) = (((l.zip m).take i).all (fun p => f p.1 p.2) && f a b) := by
  have h : (l.zip m)[i]? = some (a, b) := by rw [List.getElem?_zip_eq_some]; exact ⟨ha, hb⟩
  rw [List.take_add_one, h, List.all_append]
  simp
theorem zip_no {α : Type} (f : α → α → Bool) {l m : List α} {i : Nat} {a b : α} (ha : l[i]? = some a) (hb : m[i]? = some b) (hf : f a b = false) : (l.zip m).all (fun p => f p.1 p.2) = false := by
  have h : (l.zip m)[i]? = some (a, b) := by rw [List.getElem?_zip_eq_some]; exact ⟨ha, hb⟩
  rw [List.all_eq_false]
  exact ⟨(a, b), List.mem_of_getElem? h, by simp [hf]⟩
end Go.Proofs.Ytcicdapccondkaa
