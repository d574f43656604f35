/- Arrivals in memory; whether a number stands among them (Has). -/
import Derived.Test.YtfjpdflilmcnhaaGreatDoorClone
import Derived.Deep.CutBlock
import Derived.Deep.CutRange
import Derived.Deep.DeepCutAuto
import Derived.Deep.LoopGhost
import Derived.Deep.AppendLies
import Derived.Laws.StructEq
import Derived.Deep.Cut
namespace Go.Proofs.YtfjpdflilmcnhaaGreatDoor
open Go.ChangeShapes Go.WideShapes Go.ChangeAt Go.RowKit

theorem info40 : (Tryz.prog.info? 39).map (fun i => (i.zero, i.size, i.bytes)) = some (some (.agg #[.int .i64 0, .int .i64 0, .slice none 0 0]), 3, 40) := by kernel_rfl
/-- An arrival: its number, its time, where its row lies, and the row. -/
structure Arv where
  seq : Int
  time : Int
  a : Option Addr
  cap : Nat
  row : List Val
def arZ : Arv := ⟨0, 0, none, 0, []⟩
def aAt (l : List Arv) (i : Nat) : Arv := l.getD i arZ
theorem aAt_drop {l : List Arv} {i : Nat} (h : i < l.length) : l.drop i = aAt l i :: l.drop (i + 1) := by
  rw [List.drop_eq_getElem_cons h]; unfold aAt
  rw [List.getD_eq_getElem?_getD, List.getElem?_eq_getElem h]; rfl
theorem aAt_take {l : List Arv} {i : Nat} (h : i < l.length) : l.take (i + 1) = l.take i ++ [aAt l i] := by
  rw [List.take_succ_eq_append_getElem h]; unfold aAt
  rw [List.getD_eq_getElem?_getD, List.getElem?_eq_getElem h]; rfl
theorem aAt_mem {l : List Arv} {i : Nat} (h : i < l.length) : aAt l i ∈ l := by
  unfold aAt; rw [List.getD_eq_getElem?_getD, List.getElem?_eq_getElem h]; exact List.getElem_mem h
theorem mem_aAt {l : List Arv} {x : Arv} (h : x ∈ l) : ∃ i, i < l.length ∧ aAt l i = x := by
  obtain ⟨i, hi, e⟩ := List.mem_iff_getElem.1 h
  exact ⟨i, hi, by unfold aAt; rw [List.getD_eq_getElem?_getD, List.getElem?_eq_getElem hi]; exact e⟩
theorem aAt_app_left {l r : List Arv} {i : Nat} (h : i < l.length) : aAt (l ++ r) i = aAt l i := by
  unfold aAt; rw [List.getD_eq_getElem?_getD, List.getElem?_append_left h, ← List.getD_eq_getElem?_getD]
/-- Three cells each. -/
def tri (n : Nat) (p q r : Nat → Value) : List Value := (List.range n).flatMap fun i => [p i, q i, r i]
theorem tri_succ (n : Nat) (p q r : Nat → Value) : tri (n + 1) p q r = tri n p q r ++ [p n, q n, r n] := by
  unfold tri; rw [List.range_succ, List.flatMap_append]; simp
theorem tri_len (n : Nat) (p q r : Nat → Value) : (tri n p q r).length = n * 3 := by
  induction n with
  | zero => rfl
  | succ n ih => rw [tri_succ, List.length_append, ih]; simp; omega
theorem tri_at (n : Nat) (p q r : Nat → Value) (i : Nat) (h : i < n) : (tri n p q r)[i * 3]? = some (p i) ∧ (tri n p q r)[i * 3 + 1]? = some (q i) ∧ (tri n p q r)[i * 3 + 2]? = some (r i) := by
  induction n with
  | zero => omega
  | succ n ih =>
    rw [tri_succ]
    have hl := tri_len n p q r
    rcases Nat.lt_or_ge i n with h1 | h1
    · obtain ⟨a, b, c⟩ := ih h1
      refine ⟨?_, ?_, ?_⟩
      · rw [List.getElem?_append_left (by omega)]; exact a
      · rw [List.getElem?_append_left (by omega)]; exact b
      · rw [List.getElem?_append_left (by omega)]; exact c
    · have e : i = n := by omega
      subst e
      refine ⟨?_, ?_, ?_⟩
      · rw [List.getElem?_append_right (by omega), hl, show i * 3 - i * 3 = 0 by omega]; rfl
      · rw [List.getElem?_append_right (by omega), hl, show i * 3 + 1 - i * 3 = 1 by omega]; rfl
      · rw [List.getElem?_append_right (by omega), hl, show i * 3 + 2 - i * 3 = 2 by omega]; rfl
theorem tri_congr (n : Nat) {p q r p' q' r' : Nat → Value} (h : ∀ i, i < n → p i = p' i ∧ q i = q' i ∧ r i = r' i) : tri n p q r = tri n p' q' r' := by
  induction n with
  | zero => rfl
  | succ n ih =>
    obtain ⟨h1, h2, h3⟩ := h n (by omega)
    rw [tri_succ, tri_succ, ih (fun i hi => h i (by omega)), h1, h2, h3]
def cS (l : List Arv) (i : Nat) : Value := .int .i64 (aAt l i).seq
def cT (l : List Arv) (i : Nat) : Value := .int .i64 (aAt l i).time
def cR (l : List Arv) (i : Nat) : Value := .slice (aAt l i).a (aAt l i).row.length (aAt l i).cap
/-- The cells of arrivals. -/
def arC (l : List Arv) : List Value := tri l.length (cS l) (cT l) (cR l)
theorem arC_len (l : List Arv) : (arC l).length = l.length * 3 := tri_len _ _ _ _
theorem arC_snoc (l : List Arv) (x : Arv) : arC (l ++ [x]) = arC l ++ [.int .i64 x.seq, .int .i64 x.time, .slice x.a x.row.length x.cap] := by
  unfold arC
  rw [List.length_append, List.length_singleton, tri_succ]
  have e : ∀ i, i < l.length → cS (l ++ [x]) i = cS l i ∧ cT (l ++ [x]) i = cT l i ∧ cR (l ++ [x]) i = cR l i := by
    intro i hi
    unfold cS cT cR
    rw [aAt_app_left hi]; exact ⟨rfl, rfl, rfl⟩
  rw [tri_congr _ e]
  unfold cS cT cR aAt
  rw [List.getD_eq_getElem?_getD, List.getElem?_append_right (Nat.le_refl _), Nat.sub_self]
  rfl
theorem arC_nil : arC [] = [] := rfl
theorem arC_single (x : Arv) : arC [x] = [.int .i64 x.seq, .int .i64 x.time, .slice x.a x.row.length x.cap] := by
  have := arC_snoc [] x; simpa [arC_nil] using this
theorem arC_one (l : List Arv) : ∀ u ∈ arC l, u.oneCell' = true := by
  intro u hu
  unfold arC tri at hu
  rw [List.mem_flatMap] at hu
  obtain ⟨i, _, hu⟩ := hu
  simp only [List.mem_cons, List.not_mem_nil, or_false] at hu
  rcases hu with rfl | rfl | rfl <;> rfl
/-- The rows of arrivals lie where these say. -/
def RowsIn (w : World) (l : List Arv) : Prop := ∀ x ∈ l, RowAt w x.a x.row
theorem RowsIn.below {w w' : World} {l : List Arv} (h : RowsIn w l) (hb : Below w.heap.size w w') : RowsIn w' l := fun x hx => (h x hx).below hb
/-- The cells of a slice of arrivals. -/
def CelsAt (w : World) (a : Option Addr) (l : List Arv) : Prop := l = [] ∨ ∃ b off, a = some ⟨b, off, none⟩ ∧ ∀ i, i < l.length → w.cell? ⟨b, off + i * 3, none⟩ = some (.int .i64 (aAt l i).seq) ∧ w.cell? ⟨b, off + i * 3 + 1, none⟩ = some (.int .i64 (aAt l i).time) ∧ w.cell? ⟨b, off + i * 3 + 2, none⟩ = some (.slice (aAt l i).a (aAt l i).row.length (aAt l i).cap)
theorem CelsAt.below {w w' : World} {a : Option Addr} {l : List Arv} (h : CelsAt w a l) (hb : Below w.heap.size w w') : CelsAt w' a l := by
  rcases h with h | ⟨b, off, ha, hc⟩
  · exact Or.inl h
  · exact Or.inr ⟨b, off, ha, fun i hi => ⟨cell_below hb (hc i hi).1, cell_below hb (hc i hi).2.1, cell_below hb (hc i hi).2.2⟩⟩
/-- A slice of arrivals. -/
structure ArsAt (w : World) (a : Option Addr) (l : List Arv) : Prop where
  cels : CelsAt w a l
  rows : RowsIn w l
theorem ArsAt.below {w w' : World} {a : Option Addr} {l : List Arv} (h : ArsAt w a l) (hb : Below w.heap.size w w') : ArsAt w' a l := ⟨h.cels.below hb, h.rows.below hb⟩
theorem ArsAt.alloc {w : World} {a : Option Addr} {l : List Arv} (h : ArsAt w a l) (o : Obj) : ArsAt (w.alloc o) a l := h.below ((Below.refl _ _).alloc (Nat.le_refl _) o)
theorem ars_of_owns {w : World} {base : Nat} {vv : Value} {l : List Arv} (h : w.ownsRow base 39 3 vv l.length (arC l)) : ∃ a cap, vv = .slice a l.length cap ∧ CelsAt w a l ∧ ∀ g o, a = some ⟨g, o, none⟩ → base ≤ g ∧ g < w.heap.size ∧ o = 0 ∧ ∀ j, w.frozen? ⟨g, j, none⟩ = false := by
  have h' := h
  obtain ⟨hlen, ⟨rfl, h0⟩ | ⟨g, cap, cur, rfl, hbg, hg, hcap, hcm, hcs, htake⟩⟩ := h
  · exact ⟨none, 0, by rw [h0], Or.inl (List.length_eq_zero_iff.1 h0), fun _ _ e => by cases e⟩
  refine ⟨_, cap, rfl, Or.inr ⟨g, 0, rfl, fun i hi => ?_⟩, fun g' o' e => by injection e with e; injection e with e1 e2 _; subst e1; exact ⟨hbg, heap_lt hg, e2.symm, fun j => h'.frozenAt j⟩⟩
  have hc := h'.cells (g := g) rfl
  obtain ⟨a, b, c⟩ := tri_at l.length (cS l) (cT l) (cR l) i hi
  have ea := hc _ _ a
  have eb := hc _ _ b
  have ec := hc _ _ c
  rw [add_plain] at ea eb ec
  rw [Nat.zero_add] at ea eb ec ⊢
  exact ⟨ea, eb, ec⟩
theorem owns_below {w w' : World} {base e size n : Nat} {v : Value} {xs : List Value} (h : w.ownsRow base e size v n xs) (hb : Below w.heap.size w w') : w'.ownsRow base e size v n xs :=
  h.kept (row := none) ⟨hb.os, hb.tape, hb.output, hb.size, fun k hk _ => hb.block k hk⟩ (by cases v.ownBlock <;> simp)

/-- Does a number stand among arrivals? -/
def hasS (l : List Arv) (s : Int) : Bool := l.any fun x => x.seq == s
theorem hasS_iff {l : List Arv} {s : Int} : hasS l s = true ↔ s ∈ l.map (·.seq) := by
  unfold hasS
  rw [List.any_eq_true, List.mem_map]
  constructor
  · rintro ⟨x, hx, h⟩; exact ⟨x, hx, by simpa using h⟩
  · rintro ⟨x, hx, h⟩; exact ⟨x, hx, by simpa using h⟩
set_option maxHeartbeats 4000000 in
theorem Has_0 (a : Option Addr) (cap : Nat) (s : Int) (w : World) :
    Calls Tryz.prog 19 #[.slice a 0 cap, .int .i64 s] w fun e w' => e = .returned (.bool false) ∧ Below w.heap.size w w' := by
  go_enter Tryz.func19, Tryz.ntmps19
  go_wp2
  refine wp_loop_rounds 1 ?_
  rw [rounds_succ]
  go_wp2
  go_ret
  exact ⟨rfl, (Bel.out (by repeat (first | exact Bel.refl _ | assumption | refine Bel.drew ?_ | refine Bel.drewN ?_ _ | refine Bel.alloc ?_ _ | refine Bel.setCell ?_ (by simp <;> omega) _ | refine Bel.step ?_ (by assumption))))⟩
set_option maxHeartbeats 4000000 in
theorem Has_go (b off cap : Nat) (l : List Arv) (s : Int) (w : World) (hlen : l.length ≤ 9223372036854775807)
    (hc : ∀ i, i < l.length → w.cell? ⟨b, off + i * 3, none⟩ = some (.int .i64 (aAt l i).seq)) :
    Calls Tryz.prog 19 #[.slice (some ⟨b, off, none⟩) l.length cap, .int .i64 s] w fun e w' => e = .returned (.bool (hasS l s)) ∧ Below w.heap.size w w' := by
  generalize hn : l.length = n at hlen hc ⊢
  go_enter Tryz.func19, Tryz.ntmps19
  go_wp2
  go_loopw [5] (fun i wr => ∃ m : Nat, m ≤ n ∧ i = .int .i64 m ∧ hasS (l.drop m) s = hasS l s ∧ Bel w.heap.size w wr) (fun i _ => n - (intOf i).toNat)
  case atStart => exact ⟨0, Nat.zero_le _, rfl, rfl, Bel.refl _⟩
  case round =>
    obtain ⟨m, hm, rfl, hV, HB⟩ := hrel
    have HV : Hid (hasS (l.drop m) s = hasS l s) := hV
    clear hV
    have hW := HB.out
    rcases Nat.lt_or_ge m n with hlt | hge
    · have c0 := cell_below hW (hc m hlt)
      have hd := aAt_drop (l := l) (i := m) (by omega)
      clear hc
      generalize (aAt l m) = x at c0 hd
      cases hx : x.seq == s
      · have HN : Hid (hasS (l.drop (m + 1)) s = hasS l s) := by show _ = _; rw [← HV.out, hd]; unfold hasS; rw [List.any_cons, hx, Bool.false_or]
        clear hd
        go_wp2
        go_roundw
        case rel => exact ⟨m + 1, by omega, by go_num, HN.out, (by repeat (first | exact Bel.refl _ | assumption | refine Bel.drew ?_ | refine Bel.drewN ?_ _ | refine Bel.alloc ?_ _ | refine Bel.setCell ?_ (by simp <;> omega) _ | refine Bel.step ?_ (by assumption)))⟩
        case measure => simp [intOf]; omega
      · have HN : Hid (true = hasS l s) := by show _ = _; rw [← HV.out, hd]; unfold hasS; rw [List.any_cons, hx, Bool.true_or]
        clear hd
        go_wp2
        go_ret
        exact ⟨ret_bool HN.out, (Bel.out (by repeat (first | exact Bel.refl _ | assumption | refine Bel.drew ?_ | refine Bel.drewN ?_ _ | refine Bel.alloc ?_ _ | refine Bel.setCell ?_ (by simp <;> omega) _ | refine Bel.step ?_ (by assumption))))⟩
    · have HN : Hid (false = hasS l s) := by show _ = _; rw [← HV.out, List.drop_eq_nil_of_le (by omega)]; rfl
      clear hc
      go_wp2
      go_ret
      exact ⟨ret_bool HN.out, (Bel.out (by repeat (first | exact Bel.refl _ | assumption | refine Bel.drew ?_ | refine Bel.drewN ?_ _ | refine Bel.alloc ?_ _ | refine Bel.setCell ?_ (by simp <;> omega) _ | refine Bel.step ?_ (by assumption))))⟩
theorem Has_any (a : Option Addr) (cap : Nat) (l : List Arv) (s : Int) (w : World) (hlen : l.length ≤ 9223372036854775807) (h : CelsAt w a l) :
    Calls Tryz.prog 19 #[.slice a l.length cap, .int .i64 s] w fun e w' => e = .returned (.bool (hasS l s)) ∧ Below w.heap.size w w' := by
  rcases h with rfl | ⟨b, off, rfl, hc⟩
  · exact Has_0 a cap s w
  · exact Has_go b off cap l s w hlen fun i hi => (hc i hi).1
end Go.Proofs.YtfjpdflilmcnhaaGreatDoor
