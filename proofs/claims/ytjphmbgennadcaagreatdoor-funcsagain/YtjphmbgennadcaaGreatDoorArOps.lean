/- What the operations of package arith give, for any values: sums, differences, products, quotients, rests, changes. -/
import Derived.Test.YtjphmbgennadcaaGreatDoorArSettle
namespace Go.Proofs.YtjphmbgennadcaaGreatDoor.Ar
open Go.ChangeShapes Go.WideShapes Go.ChangeAt Go.RowKit

/-- A number with its kind, or 'it leaves an int'. -/
def fin (k x : Int) : Int × Int × Int := if fits x then (k, x, 0) else (0, 0, 20)
/-- A number in a kind that is its own or that of decimals. -/
def up (kind k n : Int) : Int := if k = kind then n else n * 10000
def inN (kind k n : Int) : Int := if k = kind then n else shN n 10000 1
def alikeS (z : Int → Int → Int) (k n k' n' : Int) : Int × Int × Int :=
  if fits (up (kind2 k k') k n) && fits (up (kind2 k k') k' n') then fin (kind2 k k') (z (up (kind2 k k') k n) (up (kind2 k k') k' n')) else (0, 0, 20)
def addS (k n k' n' : Int) : Int × Int × Int := if (st2 k k').2 then (0, 0, (st2 k k').1) else alikeS (fun x y => x + y) k n k' n'
def subS (k n k' n' : Int) : Int × Int × Int := if (st2 k k').2 then (0, 0, (st2 k k').1) else alikeS (fun x y => x - y) k n k' n'
def mulS (k n k' n' : Int) : Int × Int × Int := if (st2 k k').2 then (0, 0, (st2 k k').1) else fin (kind2 k k') (T3 n n' (if k = 3 ∧ k' = 3 then 10000 else 1))
def un2 (k k' n' : Int) : Int × Bool := if (st2 k k').2 then ((st2 k k').1, true) else if n' = 0 then (21, true) else (0, false)
def divS (k n k' n' : Int) : Int × Int × Int := if (un2 k k' n').2 then (0, 0, (un2 k k' n').1) else if kind2 k k' = 2 then alikeS (fun x y => T3 x 1 y) k n k' n' else alikeS (fun x y => T3 x 10000 y) k n k' n'
def modS (k n k' n' : Int) : Int × Int × Int := if (un2 k k' n').2 then (0, 0, (un2 k k' n').1) else alikeS (fun x y => x.tmod y) k n k' n'
def negS (k n : Int) : Int × Int × Int := if (st1 k).2 then (0, 0, (st1 k).1) else fin k (0 - n)
def decS (k n : Int) : Int × Int × Int := if (st1 k).2 then (0, 0, (st1 k).1) else fin 3 (up 3 k n)
def intS (k n : Int) : Int × Int × Int := if (st1 k).2 then (0, 0, (st1 k).1) else (2, if k = 3 then n.tdiv 10000 else n, 0)

theorem bcell {W w1 : World} (hb : Below W.heap.size W w1) : (∀ b o, b < W.heap.size → w1.cell? ⟨b, o, none⟩ = W.cell? ⟨b, o, none⟩) ∧ (∀ b o, b < W.heap.size → w1.frozen? ⟨b, o, none⟩ = W.frozen? ⟨b, o, none⟩) :=
  ⟨fun b o h => hb.cell (p := ⟨b, o, none⟩) h, fun b o h => hb.frozen (p := ⟨b, o, none⟩) h⟩

theorem plus_ok {a b : Int} (ha : In a) (hb : In b) : (decide (a < wrap64 (a + b)) == decide (0 < b)) = fits (a + b) := by
  unfold In at ha hb
  unfold fits
  rw [Bool.eq_iff_iff]
  simp only [beq_iff_eq, decide_eq_decide, decide_eq_true_eq, wrap64]
  omega
theorem minus_ok {a b : Int} (ha : In a) (hb : In b) : (decide (wrap64 (a - b) < a) == decide (0 < b)) = fits (a - b) := by
  unfold In at ha hb
  unfold fits
  rw [Bool.eq_iff_iff]
  simp only [beq_iff_eq, decide_eq_decide, decide_eq_true_eq, wrap64]
  omega
theorem wrap_in {x : Int} (h : fits x = true) : wrap64 x = x := by
  have := in_of_fits h
  unfold In at this
  simp only [wrap64]; omega
theorem T3_one (n : Int) : T3 n 10000 1 = n * 10000 := by unfold T3; rw [Int.tdiv_one]
theorem up_in {kind k n : Int} (_hn : In n) (h : fits (up kind k n) = true) : inN kind k n = up kind k n := by
  unfold inN up at *
  split
  · rfl
  · rename_i hk; rw [if_neg hk] at h; rw [shN_eq _ _ _ (by rw [T3_one]; exact h), T3_one]
theorem in_inN {kind k n : Int} (hn : In n) : In (inN kind k n) := by
  unfold inN; split
  · exact hn
  · exact in_shN _ _ _
theorem tmod_fits {x y : Int} (hx : In x) : fits (x.tmod y) = true := by
  apply fits_of_in
  unfold In at *
  have h1 : (x.tmod y).natAbs = x.natAbs % y.natAbs := Int.natAbs_tmod x y
  have h2 := Nat.mod_le x.natAbs y.natAbs
  rcases Int.lt_or_le x 0 with h | h
  · have h3 := Int.tmod_nonneg y (show 0 ≤ -x by omega)
    rw [Int.neg_tmod] at h3; omega
  · have := Int.tmod_nonneg y h; omega

set_option maxHeartbeats 400000 in
theorem number_fin (k n x : Int) (w : World) (h : fits x = true → n = x) : Calls Tryz.prog 115 #[.int .i64 k, .int .i64 n, .bool (fits x)] w fun e w' => e = .returned (.tuple #[.agg #[.int .i64 (fin k x).1, .int .i64 (fin k x).2.1, .string ⟨#[]⟩], .int .i64 (fin k x).2.2]) ∧ Below w.heap.size w w' := by
  unfold fin
  cases hx : fits x with
  | true =>
    refine (number_ok k n w).mono ?_
    rintro e w' ⟨rfl, rfl⟩
    exact ⟨by rw [h hx]; rfl, (Bel.alloc (Bel.refl _) _).out⟩
  | false =>
    refine (number_over k n w).mono ?_
    rintro e w' ⟨rfl, rfl⟩
    exact ⟨rfl, (Bel.alloc (Bel.refl _) _).out⟩

set_option maxHeartbeats 400000 in
theorem inKind_any (kind k n : Int) (t : ByteArray) (w : World) (hn : In n) : Calls Tryz.prog 121 #[.int .i64 kind, .agg #[.int .i64 k, .int .i64 n, .string t]] w fun e w' => e = .returned (.tuple #[.int .i64 (inN kind k n), .bool (fits (up kind k n))]) ∧ Below w.heap.size w w' := by
  unfold inN up
  by_cases h : k = kind
  · subst h
    rw [if_pos rfl, if_pos rfl, fits_of_in hn]
    go_enter Tryz.func121, Tryz.ntmps121
    go_wp2
    go_ret2
    exact ⟨rfl, (Bel.out (by repeat (first | exact Bel.refl _ | refine Bel.drew ?_ | refine Bel.drewN ?_ _ | refine Bel.alloc ?_ _ | refine Bel.setCell ?_ (by simp <;> omega) _ | refine Bel.step ?_ (by assumption))))⟩
  · rw [if_neg h, if_neg h, ← T3_one]
    have hs := fun w => share_any n 10000 1 hn (by unfold In; omega) (by unfold In; omega) (by omega) w
    go_enter Tryz.func121, Tryz.ntmps121
    go_wp2_with (go_at_call 140; refine (hs _).mono ?_; rintro e w' ⟨rfl, hb⟩)
    go_ret2
    exact ⟨rfl, (Bel.out (by repeat (first | exact Bel.refl _ | refine Bel.drew ?_ | refine Bel.drewN ?_ _ | refine Bel.alloc ?_ _ | refine Bel.setCell ?_ (by simp <;> omega) _ | refine Bel.step ?_ (by assumption))))⟩

end Go.Proofs.YtjphmbgennadcaaGreatDoor.Ar
