/- Programs: what may stand where, and the heights; instructions in memory. -/
import Derived.Test.YtmadofpbfgbdkaaGreatDoorBase
import Derived.Deep.CutBlock
import Derived.Deep.CutRange
import Derived.Deep.DeepCutAuto
import Derived.Deep.LoopGhost
import Derived.Deep.AppendLies
import Derived.Laws.AppendOwn
import Derived.Laws.OwnMore
import Derived.Laws.StructEq
import Derived.OwnWalk
import Derived.Below
namespace Go.Proofs.YtmadofpbfgbdkaaGreatDoor
open Go.ChangeShapes Go.WideShapes Go.ChangeAt Go.RowKit
set_option linter.unusedSimpArgs false
set_option maxRecDepth 20000
set_option maxHeartbeats 4000000

/-- An instruction: kind, N, Text; the value's kind, number, text. -/
abbrev Oq := (Int × Int × ByteArray) × (Int × Int × ByteArray)
def twoS : List (List UInt8) := [[43], [45], [42], [47], [37], [61], [33, 61], [60], [60, 61], [62], [62, 61], [97, 110, 100], [111, 114]]
def twoP (t : ByteArray) : Bool := twoS.contains t.toList
def unP (t : ByteArray) : Bool := t.toList == [45] || t.toList == [110, 111, 116]
/-- May an instruction stand at a place of so many? -/
def mayP (o : Oq) (p n f a : Int) : Bool :=
  if o.1.1 = 1 ∨ o.1.1 = 10 then true
  else if o.1.1 = 2 then decide (0 ≤ o.1.2.1) && decide (o.1.2.1 < f)
  else if o.1.1 = 9 then decide (0 ≤ o.1.2.1) && decide (o.1.2.1 < a)
  else if o.1.1 = 3 then unP o.1.2.2
  else if o.1.1 = 4 then twoP o.1.2.2
  else if o.1.1 = 5 then decide (o.1.2.1 = 0) || decide (o.1.2.1 = 1)
  else if o.1.1 = 6 then decide (0 ≤ o.1.2.1) && decide (o.1.2.1 ≤ 1024)
  else if o.1.1 = 7 ∨ o.1.1 = 8 then decide (p < o.1.2.1) && decide (o.1.2.1 ≤ n)
  else false
def needP (o : Oq) : Int := if o.1.1 = 8 ∨ o.1.1 = 3 ∨ o.1.1 = 5 ∨ o.1.1 = 10 then 1 else if o.1.1 = 4 then 2 else if o.1.1 = 6 then o.1.2.1 else 0
def leftP (o : Oq) : Int := if o.1.1 = 7 ∨ o.1.1 = 8 then 0 else 1
/-- A place is come to with a height. -/
def cmP (H : List Int) (t : Nat) (g : Int) : Option (List Int) := match H[t]? with
  | none => none
  | some x => if x = -1 ∨ x = g then some (H.set t g) else none
/-- Behind an instruction: the height, the heights that are known. -/
def stP (o : Oq) (i : Nat) (n f a : Int) (H : List Int) : Option (Int × List Int) :=
  if mayP o i n f a = true then (match H[i]? with
    | none => none
    | some h => if h < needP o ∨ 1024 < h - needP o + leftP o then none else
      match (if o.1.1 = 7 then some H else cmP H (i + 1) (h - needP o + leftP o)) with
      | none => none
      | some H1 => match (if o.1.1 = 7 ∨ o.1.1 = 8 then cmP H1 o.1.2.1.toNat (h - needP o + leftP o) else some H1) with
        | none => none
        | some H2 => some (h - needP o + leftP o, H2))
  else none
def ckF (n f a : Int) : List Oq → Nat → List Int → Int → Option (List Int × Int)
  | [], _, H, m => some (H, m)
  | o :: l, i, H, m => match stP o i n f a H with
    | none => none
    | some (g, H') => ckF n f a l (i + 1) H' (max m g)
def htP (ops : List Oq) (f a : Int) : Option Int := if 4096 < ops.length then none else
  match ckF ops.length f a ops 0 (0 :: List.replicate ops.length (-1)) 0 with
  | none => none
  | some (H, m) => if H[ops.length]? = some 1 then some m else none
theorem cm_mem {H H1 : List Int} {t : Nat} {g : Int} (h : cmP H t g = some H1) : H1.length = H.length ∧ ∀ x ∈ H1, x ∈ H ∨ x = g := by
  unfold cmP at h
  split at h
  · cases h
  · split at h
    · cases h
      refine ⟨by simp, fun x hx => ?_⟩
      exact List.mem_or_eq_of_mem_set hx
    · cases h
theorem left_ge (o : Oq) : 0 ≤ leftP o := by unfold leftP; split <;> omega
theorem st_mem {o : Oq} {i : Nat} {n f a : Int} {H H' : List Int} {g : Int} (h : stP o i n f a H = some (g, H')) : H'.length = H.length ∧ (∀ x ∈ H', x ∈ H ∨ x = g) ∧ 0 ≤ g ∧ g ≤ 1024 := by
  have hl := left_ge o
  unfold stP at h
  split at h
  · split at h
    · cases h
    · rename_i hh _
      split at h
      · cases h
      · rename_i hng
        split at h
        · cases h
        · rename_i H1 e1
          split at h
          · cases h
          · rename_i H2 e2
            simp only [Option.some.injEq, Prod.mk.injEq] at h
            obtain ⟨rfl, rfl⟩ := h
            have m1 : H1.length = H.length ∧ ∀ x ∈ H1, x ∈ H ∨ x = hh - needP o + leftP o := by
              split at e1
              · cases e1; exact ⟨rfl, fun x hx => Or.inl hx⟩
              · exact cm_mem e1
            have m2 : H2.length = H1.length ∧ ∀ x ∈ H2, x ∈ H1 ∨ x = hh - needP o + leftP o := by
              split at e2
              · exact cm_mem e2
              · cases e2; exact ⟨rfl, fun x hx => Or.inl hx⟩
            refine ⟨m2.1.trans m1.1, fun x hx => ?_, by omega, by omega⟩
            rcases m2.2 x hx with h | h
            · exact m1.2 x h
            · exact Or.inr h
  · cases h
/-- What holds of the heights all along. -/
structure HtI (H : List Int) (m : Int) : Prop where
  all : ∀ x ∈ H, -1 ≤ x ∧ x ≤ m
  lo : 0 ≤ m
  hi : m ≤ 1024
theorem HtI.step {H H' : List Int} {m g : Int} {o : Oq} {i : Nat} {n f a : Int} (h : HtI H m) (hs : stP o i n f a H = some (g, H')) : HtI H' (max m g) := by
  obtain ⟨_, h2, h3, h4⟩ := st_mem hs
  have := h.lo
  have := h.hi
  refine ⟨fun x hx => ?_, by omega, by omega⟩
  rcases h2 x hx with h' | rfl
  · have := h.all x h'; omega
  · omega
theorem ck_inv {n f a : Int} : ∀ (l : List Oq) (i : Nat) (H : List Int) (m : Int) {H' : List Int} {m' : Int}, HtI H m → ckF n f a l i H m = some (H', m') → HtI H' m'
  | [], _, H, m, H', m', h, e => by simp only [ckF, Option.some.injEq, Prod.mk.injEq] at e; obtain ⟨rfl, rfl⟩ := e; exact h
  | o :: l, i, H, m, H', m', h, e => by
    unfold ckF at e
    split at e
    · cases e
    · rename_i hs
      exact ck_inv l _ _ _ (h.step hs) e
theorem HtI.start (n : Nat) : HtI (0 :: List.replicate n (-1)) 0 := ⟨fun x hx => by
  rcases List.mem_cons.1 hx with rfl | hx
  · omega
  · have := List.eq_of_mem_replicate hx; omega, by omega, by omega⟩
theorem ht_pos {ops : List Oq} {f a m : Int} (h : htP ops f a = some m) : 1 ≤ m := by
  unfold htP at h
  split at h
  · cases h
  · split at h
    · cases h
    · rename_i H m0 e
      split at h
      · rename_i hm
        cases h
        have I := ck_inv _ _ _ _ (HtI.start _) e
        have := I.all 1 (List.mem_of_getElem? hm)
        omega
      · cases h
theorem cell_lt' {w : World} {b j : Nat} {v : Value} (h : w.cell? ⟨b, j, none⟩ = some v) : b < w.heap.size := by
  rcases Nat.lt_or_ge b w.heap.size with h' | h'
  · exact h'
  · unfold World.cell? at h
    rw [Array.getElem?_eq_none h'] at h
    cases h
theorem cell_bel {w w' : World} {b j : Nat} {v : Value} (hb : Below w.heap.size w w') (h : w.cell? ⟨b, j, none⟩ = some v) : w'.cell? ⟨b, j, none⟩ = some v := (World.cell?_of_block (a := ⟨b, j, none⟩) (hb.block b (cell_lt' h))).trans h
/-- The cells of an instruction. -/
structure OqAt (w : World) (b off : Nat) (o : Oq) : Prop where
  c0 : w.cell? ⟨b, off, none⟩ = some (.int .i64 o.1.1)
  c1 : w.cell? ⟨b, off + 1, none⟩ = some (.int .i64 o.1.2.1)
  c2 : w.cell? ⟨b, off + 2, none⟩ = some (.string o.1.2.2)
  c3 : w.cell? ⟨b, off + 3, none⟩ = some (.int .i64 o.2.1)
  c4 : w.cell? ⟨b, off + 4, none⟩ = some (.int .i64 o.2.2.1)
  c5 : w.cell? ⟨b, off + 5, none⟩ = some (.string o.2.2.2)
theorem OqAt.below {w w' : World} {b off : Nat} {o : Oq} (h : OqAt w b off o) (hb : Below w.heap.size w w') : OqAt w' b off o := ⟨cell_bel hb h.c0, cell_bel hb h.c1, cell_bel hb h.c2, cell_bel hb h.c3, cell_bel hb h.c4, cell_bel hb h.c5⟩
def OpsAt (w : World) (a : Option Addr) (r : List Oq) : Prop :=
  r = [] ∨ ∃ b off, a = some ⟨b, off, none⟩ ∧ ∀ i o, r[i]? = some o → OqAt w b (off + i * 6) o
theorem OpsAt.below {w w' : World} {a : Option Addr} {r : List Oq} (h : OpsAt w a r) (hb : Below w.heap.size w w') : OpsAt w' a r := by
  rcases h with h | ⟨b, off, ha, hc⟩
  · exact Or.inl h
  · exact Or.inr ⟨b, off, ha, fun i o hi => (hc i o hi).below hb⟩
def oqV (o : Oq) : Value := .agg #[.int .i64 o.1.1, .int .i64 o.1.2.1, .string o.1.2.2, .int .i64 o.2.1, .int .i64 o.2.2.1, .string o.2.2.2]
end Go.Proofs.YtmadofpbfgbdkaaGreatDoor
