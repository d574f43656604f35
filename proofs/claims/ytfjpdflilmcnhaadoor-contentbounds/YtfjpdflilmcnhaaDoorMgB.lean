/- Rows copied (slices.Clone, twin): the copy holds what they hold. -/
import Derived.Test.YtfjpdflilmcnhaaDoorMgA
import Derived.Laws.AppendOwn
import Derived.Laws.OwnMore
import Derived.OwnWalk
import Derived.Lib.LazyBuf
import Derived.Deep.CutBlock
import Derived.Deep.CutRange
import Derived.Deep.DeepCutAuto
import Derived.Deep.LoopGhost
import Derived.Deep.AppendLies
import Derived.Laws.StructEq
import Derived.Deep.Cut
namespace Go.Proofs.YtfjpdflilmcnhaaDoor
open Go.ChangeShapes Go.WideShapes Go.ChangeAt Go.RowKit

theorem info46 : (Tryd.prog.info? 46).map (fun i => (i.zero, i.size, i.bytes)) = some (some (.agg #[.int .i64 0, .int .i64 0, .string ⟨#[]⟩]), 3, 32) := by kernel_rfl
def rowC (n : Nat) (k v : Nat → Int) (t : Nat → ByteArray) : List Value := (List.range n).flatMap fun i => [.int .i64 (k i), .int .i64 (v i), .string (t i)]
theorem rowC_succ (n : Nat) (k v : Nat → Int) (t : Nat → ByteArray) : rowC (n + 1) k v t = rowC n k v t ++ [.int .i64 (k n), .int .i64 (v n), .string (t n)] := by
  unfold rowC; rw [List.range_succ, List.flatMap_append]; simp
theorem rowC_len (n : Nat) (k v : Nat → Int) (t : Nat → ByteArray) : (rowC n k v t).length = n * 3 := by
  induction n with
  | zero => rfl
  | succ n ih => rw [rowC_succ, List.length_append, ih]; simp; omega
theorem rowC_at (n : Nat) (k v : Nat → Int) (t : Nat → ByteArray) (i : Nat) (h : i < n) : (rowC n k v t)[i * 3]? = some (.int .i64 (k i)) ∧ (rowC n k v t)[i * 3 + 1]? = some (.int .i64 (v i)) ∧ (rowC n k v t)[i * 3 + 2]? = some (.string (t i)) := by
  induction n with
  | zero => omega
  | succ n ih =>
    rw [rowC_succ]
    have hl := rowC_len n k v t
    rcases Nat.lt_or_ge i n with h1 | h1
    · obtain ⟨a, b, c⟩ := ih h1
      refine ⟨?_, ?_, ?_⟩
      · rw [List.getElem?_append_left (by omega)]; exact a
      · rw [List.getElem?_append_left (by omega)]; exact b
      · rw [List.getElem?_append_left (by omega)]; exact c
    · have e : i = n := by omega
      subst e
      refine ⟨?_, ?_, ?_⟩
      · rw [List.getElem?_append_right (by omega), hl, show i * 3 - i * 3 = 0 by omega]; rfl
      · rw [List.getElem?_append_right (by omega), hl, show i * 3 + 1 - i * 3 = 1 by omega]; rfl
      · rw [List.getElem?_append_right (by omega), hl, show i * 3 + 2 - i * 3 = 2 by omega]; rfl
theorem rowC_one (n : Nat) (k v : Nat → Int) (t : Nat → ByteArray) : ∀ u ∈ rowC n k v t, u.oneCell' = true := by
  intro u hu
  unfold rowC at hu
  rw [List.mem_flatMap] at hu
  obtain ⟨i, _, hu⟩ := hu
  simp only [List.mem_cons, List.not_mem_nil, or_false] at hu
  rcases hu with rfl | rfl | rfl <;> rfl
/-- What lies behind a row's address. -/
theorem rowC_cells {w : World} {b off n : Nat} {k v : Nat → Int} {t : Nat → ByteArray}
    (hv : ∀ i, i < n → w.cell? ⟨b, off + i * 3, none⟩ = some (.int .i64 (k i)) ∧ w.cell? ⟨b, off + i * 3 + 1, none⟩ = some (.int .i64 (v i)) ∧ w.cell? ⟨b, off + i * 3 + 2, none⟩ = some (.string (t i))) :
    ∀ j u, (rowC n k v t)[j]? = some u → w.cell? ((⟨b, off, none⟩ : Addr).add j) = some u := by
  intro j u hj
  have hlt : j < n * 3 := by
    rw [← rowC_len n k v t]
    exact (List.getElem?_eq_some_iff.1 hj).1
  rw [add_plain]
  have hi : j / 3 < n := by omega
  obtain ⟨a, b', c⟩ := rowC_at n k v t (j / 3) hi
  obtain ⟨a', b'', c'⟩ := hv (j / 3) hi
  have h3 : j % 3 = 0 ∨ j % 3 = 1 ∨ j % 3 = 2 := by omega
  rcases h3 with h3 | h3 | h3
  · rw [show j = j / 3 * 3 by omega] at hj ⊢
    rw [a] at hj; rw [a', hj]
  · rw [show j = j / 3 * 3 + 1 by omega] at hj ⊢
    rw [b'] at hj; rw [← Nat.add_assoc, b'', hj]
  · rw [show j = j / 3 * 3 + 2 by omega] at hj ⊢
    rw [c] at hj; rw [← Nat.add_assoc, c', hj]
/-- The cells of a row. -/
def rwC (r : List Val) : List Value := rowC r.length (kAt r) (nAt r) (tAt r)
theorem rwC_nil : rwC [] = [] := rfl
theorem rowC_congr (n : Nat) {k v k' v' : Nat → Int} {t t' : Nat → ByteArray} (h : ∀ i, i < n → k i = k' i ∧ v i = v' i ∧ t i = t' i) : rowC n k v t = rowC n k' v' t' := by
  induction n with
  | zero => rfl
  | succ n ih =>
    obtain ⟨h1, h2, h3⟩ := h n (by omega)
    rw [rowC_succ, rowC_succ, ih (fun i hi => h i (by omega)), h1, h2, h3]
theorem rwC_snoc (r : List Val) (v : Val) : rwC (r ++ [v]) = rwC r ++ [.int .i64 v.1, .int .i64 v.2.1, .string v.2.2] := by
  unfold rwC
  rw [List.length_append, List.length_singleton, rowC_succ]
  have e : ∀ i, i < r.length → kAt (r ++ [v]) i = kAt r i ∧ nAt (r ++ [v]) i = nAt r i ∧ tAt (r ++ [v]) i = tAt r i := by
    intro i hi
    unfold kAt nAt tAt
    rw [List.getD_eq_getElem?_getD, List.getElem?_append_left hi, ← List.getD_eq_getElem?_getD]
    exact ⟨rfl, rfl, rfl⟩
  rw [rowC_congr _ e]
  unfold kAt nAt tAt
  rw [List.getD_eq_getElem?_getD, List.getElem?_append_right (Nat.le_refl _), Nat.sub_self]
  rfl
theorem rwC_len (r : List Val) : (rwC r).length = r.length * 3 := rowC_len _ _ _ _
theorem rwC_cells {w : World} {ad : Addr} {r : List Val} (h : RowAt w (some ad) r) : ∀ j u, (rwC r)[j]? = some u → w.cell? (ad.add j) = some u := by
  rcases h with h0 | ⟨b, off, e, hv⟩
  · intro j u hj
    have := (List.getElem?_eq_some_iff.1 hj).1
    rw [rwC_len, h0] at this; omega
  · injection e with e
    subst e
    exact rowC_cells hv
theorem row_of_owns {w : World} {base : Nat} {vv : Value} {r : List Val} (h : w.ownsRow base 46 3 vv r.length (rwC r)) : ∃ a cap, vv = .slice a r.length cap ∧ RowAt w a r ∧ ∀ g o, a = some ⟨g, o, none⟩ → base ≤ g ∧ g < w.heap.size ∧ o = 0 ∧ ∀ j, w.frozen? ⟨g, j, none⟩ = false := by
  have h' := h
  obtain ⟨hlen, ⟨rfl, h0⟩ | ⟨g, cap, cur, rfl, hbg, hg, hcap, hcm, hcs, htake⟩⟩ := h
  · exact ⟨none, 0, by rw [h0], Or.inl h0, fun _ _ e => by cases e⟩
  refine ⟨_, cap, rfl, Or.inr ⟨g, 0, rfl, fun i hi => ?_⟩, fun g' o' e => by injection e with e; injection e with e1 e2 _; subst e1; exact ⟨hbg, heap_lt hg, e2.symm, fun j => h'.frozenAt j⟩⟩
  have hc := h'.cells (g := g) rfl
  obtain ⟨a, b, c⟩ := rowC_at r.length (kAt r) (nAt r) (tAt r) i hi
  have ea := hc _ _ a
  have eb := hc _ _ b
  have ec := hc _ _ c
  rw [add_plain] at ea eb ec
  rw [Nat.zero_add] at ea eb ec ⊢
  exact ⟨ea, eb, ec⟩
set_option maxHeartbeats 8000000 in
theorem Clone_some (ad : Addr) (cap : Nat) (r : List Val) (w : World) (hby : r.length * 32 ≤ 140737488355328) (hc : RowAt w (some ad) r) :
    Calls Tryd.prog 47 #[.slice (some ad) r.length cap] w fun e w' => ∃ a' cap', e = .returned (.slice a' r.length cap') ∧ RowAt w' a' r ∧ (∀ g o, a' = some ⟨g, o, none⟩ → w.heap.size ≤ g ∧ g < w'.heap.size ∧ o = 0 ∧ ∀ j, w'.frozen? ⟨g, j, none⟩ = false) ∧ Below w.heap.size w w' := by
  obtain ⟨i0, hi, hz0⟩ := Option.map_eq_some_iff.1 info46
  simp only [Prod.mk.injEq] at hz0
  obtain ⟨hz, hs, hb3⟩ := hz0
  have hl : Hid _ := rwC_len r
  have hone : Hid _ := rowC_one r.length (kAt r) (nAt r) (tAt r)
  have hnews : Hid _ := rwC_cells (hc.alloc (.cells #[] 46))
  have hown0 : (w.alloc (.cells #[] 46)).ownsRow w.heap.size 46 3 (.slice (some ⟨w.heap.size, 0, none⟩) 0 0) 0 [] := World.ownsRow_made w #[] 0 (Nat.le_refl _) (by unfold maxLen; omega) rfl
  have hn1 : 0 + r.length ≤ maxLen := by unfold maxLen; omega
  have hby1 : (0 + r.length) * 32 ≤ 140737488355328 := by omega
  have hbase : w.heap.size ≤ (w.alloc (.cells #[] 46)).heap.size := by rw [World.size_alloc]; omega
  have heq : ∀ wx : World, (binOp .eql 38 (.slice (some ad) r.length cap) (.slice none 0 0)).run Tryd.prog wx = .ok (.bool false) wx := fun wx => by rw [Lib.run_eql_slice_nil wx 38 46 _ _ _ _ _ Tryd.underlying38]; rfl
  clear hc
  go_enter Tryd.func47, Tryd.ntmps47
  go_wp2_with (at_builtin; refine wpList_append_own _ rfl _ _ 38 rfl w.heap.size 46 i0 (.agg #[.int .i64 0, .int .i64 0, .string ⟨#[]⟩]) 3 32 Tryd.underlying38 hi hz hs hb3 rfl (by decide) _ 0 [] rfl hown0 ad r.length cap (rwC r) rfl hl.out hnews.out hone.out hn1 hby1 hbase ?_)
  intro v1 w1 hown1 hgrow1 hi1
  clear hi1
  have hB1 : Below w.heap.size w w1 := ((Below.refl _ _).alloc (Nat.le_refl _) _).grown hgrow1 (by rw [World.size_alloc]; omega) (fun kk hk => by injection hk with hk; rw [← hk]; exact Nat.le_refl _)
  obtain ⟨a', cap', hv, hcc, hgg⟩ := row_of_owns (r := r) (by simpa using hown1)
  rw [hv]
  clear hown1 hgrow1 hv hl hone hnews hown0 hn1 hby1 hbase heq hi hz hs hb3
  have HC : Hid _ := hcc
  have HG : Hid _ := hgg
  clear hcc hgg
  go_wp2
  go_ret
  exact ⟨_, _, rfl, HC.out, HG.out, hB1⟩
set_option maxHeartbeats 8000000 in
theorem Clone_none (len cap : Nat) (w : World) :
    Calls Tryd.prog 47 #[.slice none len cap] w fun e w' => e = .returned (.slice none 0 0) ∧ Below w.heap.size w w' := by
  have heq : ∀ wx : World, (binOp .eql 38 (.slice none len cap) (.slice none 0 0)).run Tryd.prog wx = .ok (.bool true) wx := fun wx => by rw [Lib.run_eql_slice_nil wx 38 46 _ _ _ _ _ Tryd.underlying38]; rfl
  go_enter Tryd.func47, Tryd.ntmps47
  go_wp2
  go_ret
  exact ⟨rfl, (Bel.out (by repeat (first | exact Bel.refl _ | assumption | refine Bel.drew ?_ | refine Bel.drewN ?_ _ | refine Bel.alloc ?_ _ | refine Bel.setCell ?_ (by simp <;> omega) _ | refine Bel.step ?_ (by assumption))))⟩
theorem RowAt.none {w : World} {r : List Val} (h : RowAt w none r) : r = [] := by
  rcases h with h0 | ⟨b, off, e, _⟩
  · exact List.length_eq_zero_iff.1 h0
  · cases e
theorem Clone_any (a : Option Addr) (cap : Nat) (r : List Val) (w : World) (hby : r.length * 32 ≤ 140737488355328) (hc : RowAt w a r) :
    Calls Tryd.prog 47 #[.slice a r.length cap] w fun e w' => ∃ a' cap', e = .returned (.slice a' r.length cap') ∧ RowAt w' a' r ∧ (∀ g o, a' = some ⟨g, o, none⟩ → w.heap.size ≤ g ∧ g < w'.heap.size ∧ o = 0 ∧ ∀ j, w'.frozen? ⟨g, j, none⟩ = false) ∧ Below w.heap.size w w' := by
  cases a with
  | some ad => exact Clone_some ad cap r w hby hc
  | none =>
    obtain rfl := hc.none
    exact (Clone_none 0 cap w).mono fun e w' h => ⟨none, 0, h.1, Or.inl rfl, fun _ _ e => (by cases e), h.2⟩
end Go.Proofs.YtfjpdflilmcnhaaDoor

/- Arrivals in memory; whether a number stands among them (Has). -/
namespace Go.Proofs.YtfjpdflilmcnhaaDoor
open Go.ChangeShapes Go.WideShapes Go.ChangeAt Go.RowKit

theorem info40 : (Tryd.prog.info? 40).map (fun i => (i.zero, i.size, i.bytes)) = some (some (.agg #[.int .i64 0, .int .i64 0, .slice none 0 0]), 3, 40) := by kernel_rfl
/-- An arrival: its number, its time, where its row lies, and the row. -/
structure Arv where
  seq : Int
  time : Int
  a : Option Addr
  cap : Nat
  row : List Val
def arZ : Arv := ⟨0, 0, none, 0, []⟩
def aAt (l : List Arv) (i : Nat) : Arv := l.getD i arZ
theorem aAt_drop {l : List Arv} {i : Nat} (h : i < l.length) : l.drop i = aAt l i :: l.drop (i + 1) := by
  rw [List.drop_eq_getElem_cons h]; unfold aAt
  rw [List.getD_eq_getElem?_getD, List.getElem?_eq_getElem h]; rfl
theorem aAt_take {l : List Arv} {i : Nat} (h : i < l.length) : l.take (i + 1) = l.take i ++ [aAt l i] := by
  rw [List.take_succ_eq_append_getElem h]; unfold aAt
  rw [List.getD_eq_getElem?_getD, List.getElem?_eq_getElem h]; rfl
theorem aAt_mem {l : List Arv} {i : Nat} (h : i < l.length) : aAt l i ∈ l := by
  unfold aAt; rw [List.getD_eq_getElem?_getD, List.getElem?_eq_getElem h]; exact List.getElem_mem h
theorem mem_aAt {l : List Arv} {x : Arv} (h : x ∈ l) : ∃ i, i < l.length ∧ aAt l i = x := by
  obtain ⟨i, hi, e⟩ := List.mem_iff_getElem.1 h
  exact ⟨i, hi, by unfold aAt; rw [List.getD_eq_getElem?_getD, List.getElem?_eq_getElem hi]; exact e⟩
theorem aAt_app_left {l r : List Arv} {i : Nat} (h : i < l.length) : aAt (l ++ r) i = aAt l i := by
  unfold aAt; rw [List.getD_eq_getElem?_getD, List.getElem?_append_left h, ← List.getD_eq_getElem?_getD]
/-- Three cells each. -/
def tri (n : Nat) (p q r : Nat → Value) : List Value := (List.range n).flatMap fun i => [p i, q i, r i]
theorem tri_succ (n : Nat) (p q r : Nat → Value) : tri (n + 1) p q r = tri n p q r ++ [p n, q n, r n] := by
  unfold tri; rw [List.range_succ, List.flatMap_append]; simp
theorem tri_len (n : Nat) (p q r : Nat → Value) : (tri n p q r).length = n * 3 := by
  induction n with
  | zero => rfl
  | succ n ih => rw [tri_succ, List.length_append, ih]; simp; omega
theorem tri_at (n : Nat) (p q r : Nat → Value) (i : Nat) (h : i < n) : (tri n p q r)[i * 3]? = some (p i) ∧ (tri n p q r)[i * 3 + 1]? = some (q i) ∧ (tri n p q r)[i * 3 + 2]? = some (r i) := by
  induction n with
  | zero => omega
  | succ n ih =>
    rw [tri_succ]
    have hl := tri_len n p q r
    rcases Nat.lt_or_ge i n with h1 | h1
    · obtain ⟨a, b, c⟩ := ih h1
      refine ⟨?_, ?_, ?_⟩
      · rw [List.getElem?_append_left (by omega)]; exact a
      · rw [List.getElem?_append_left (by omega)]; exact b
      · rw [List.getElem?_append_left (by omega)]; exact c
    · have e : i = n := by omega
      subst e
      refine ⟨?_, ?_, ?_⟩
      · rw [List.getElem?_append_right (by omega), hl, show i * 3 - i * 3 = 0 by omega]; rfl
      · rw [List.getElem?_append_right (by omega), hl, show i * 3 + 1 - i * 3 = 1 by omega]; rfl
      · rw [List.getElem?_append_right (by omega), hl, show i * 3 + 2 - i * 3 = 2 by omega]; rfl
theorem tri_congr (n : Nat) {p q r p' q' r' : Nat → Value} (h : ∀ i, i < n → p i = p' i ∧ q i = q' i ∧ r i = r' i) : tri n p q r = tri n p' q' r' := by
  induction n with
  | zero => rfl
  | succ n ih =>
    obtain ⟨h1, h2, h3⟩ := h n (by omega)
    rw [tri_succ, tri_succ, ih (fun i hi => h i (by omega)), h1, h2, h3]
def cS (l : List Arv) (i : Nat) : Value := .int .i64 (aAt l i).seq
def cT (l : List Arv) (i : Nat) : Value := .int .i64 (aAt l i).time
def cR (l : List Arv) (i : Nat) : Value := .slice (aAt l i).a (aAt l i).row.length (aAt l i).cap
/-- The cells of arrivals. -/
def arC (l : List Arv) : List Value := tri l.length (cS l) (cT l) (cR l)
theorem arC_len (l : List Arv) : (arC l).length = l.length * 3 := tri_len _ _ _ _
theorem arC_snoc (l : List Arv) (x : Arv) : arC (l ++ [x]) = arC l ++ [.int .i64 x.seq, .int .i64 x.time, .slice x.a x.row.length x.cap] := by
  unfold arC
  rw [List.length_append, List.length_singleton, tri_succ]
  have e : ∀ i, i < l.length → cS (l ++ [x]) i = cS l i ∧ cT (l ++ [x]) i = cT l i ∧ cR (l ++ [x]) i = cR l i := by
    intro i hi
    unfold cS cT cR
    rw [aAt_app_left hi]; exact ⟨rfl, rfl, rfl⟩
  rw [tri_congr _ e]
  unfold cS cT cR aAt
  rw [List.getD_eq_getElem?_getD, List.getElem?_append_right (Nat.le_refl _), Nat.sub_self]
  rfl
theorem arC_nil : arC [] = [] := rfl
theorem arC_single (x : Arv) : arC [x] = [.int .i64 x.seq, .int .i64 x.time, .slice x.a x.row.length x.cap] := by
  have := arC_snoc [] x; simpa [arC_nil] using this
theorem arC_one (l : List Arv) : ∀ u ∈ arC l, u.oneCell' = true := by
  intro u hu
  unfold arC tri at hu
  rw [List.mem_flatMap] at hu
  obtain ⟨i, _, hu⟩ := hu
  simp only [List.mem_cons, List.not_mem_nil, or_false] at hu
  rcases hu with rfl | rfl | rfl <;> rfl
/-- The rows of arrivals lie where these say. -/
def RowsIn (w : World) (l : List Arv) : Prop := ∀ x ∈ l, RowAt w x.a x.row
theorem RowsIn.below {w w' : World} {l : List Arv} (h : RowsIn w l) (hb : Below w.heap.size w w') : RowsIn w' l := fun x hx => (h x hx).below hb
/-- The cells of a slice of arrivals. -/
def CelsAt (w : World) (a : Option Addr) (l : List Arv) : Prop := l = [] ∨ ∃ b off, a = some ⟨b, off, none⟩ ∧ ∀ i, i < l.length → w.cell? ⟨b, off + i * 3, none⟩ = some (.int .i64 (aAt l i).seq) ∧ w.cell? ⟨b, off + i * 3 + 1, none⟩ = some (.int .i64 (aAt l i).time) ∧ w.cell? ⟨b, off + i * 3 + 2, none⟩ = some (.slice (aAt l i).a (aAt l i).row.length (aAt l i).cap)
theorem CelsAt.below {w w' : World} {a : Option Addr} {l : List Arv} (h : CelsAt w a l) (hb : Below w.heap.size w w') : CelsAt w' a l := by
  rcases h with h | ⟨b, off, ha, hc⟩
  · exact Or.inl h
  · exact Or.inr ⟨b, off, ha, fun i hi => ⟨cell_below hb (hc i hi).1, cell_below hb (hc i hi).2.1, cell_below hb (hc i hi).2.2⟩⟩
/-- A slice of arrivals. -/
structure ArsAt (w : World) (a : Option Addr) (l : List Arv) : Prop where
  cels : CelsAt w a l
  rows : RowsIn w l
theorem ArsAt.below {w w' : World} {a : Option Addr} {l : List Arv} (h : ArsAt w a l) (hb : Below w.heap.size w w') : ArsAt w' a l := ⟨h.cels.below hb, h.rows.below hb⟩
theorem ArsAt.alloc {w : World} {a : Option Addr} {l : List Arv} (h : ArsAt w a l) (o : Obj) : ArsAt (w.alloc o) a l := h.below ((Below.refl _ _).alloc (Nat.le_refl _) o)
theorem ars_of_owns {w : World} {base : Nat} {vv : Value} {l : List Arv} (h : w.ownsRow base 40 3 vv l.length (arC l)) : ∃ a cap, vv = .slice a l.length cap ∧ CelsAt w a l ∧ ∀ g o, a = some ⟨g, o, none⟩ → base ≤ g ∧ g < w.heap.size ∧ o = 0 ∧ ∀ j, w.frozen? ⟨g, j, none⟩ = false := by
  have h' := h
  obtain ⟨hlen, ⟨rfl, h0⟩ | ⟨g, cap, cur, rfl, hbg, hg, hcap, hcm, hcs, htake⟩⟩ := h
  · exact ⟨none, 0, by rw [h0], Or.inl (List.length_eq_zero_iff.1 h0), fun _ _ e => by cases e⟩
  refine ⟨_, cap, rfl, Or.inr ⟨g, 0, rfl, fun i hi => ?_⟩, fun g' o' e => by injection e with e; injection e with e1 e2 _; subst e1; exact ⟨hbg, heap_lt hg, e2.symm, fun j => h'.frozenAt j⟩⟩
  have hc := h'.cells (g := g) rfl
  obtain ⟨a, b, c⟩ := tri_at l.length (cS l) (cT l) (cR l) i hi
  have ea := hc _ _ a
  have eb := hc _ _ b
  have ec := hc _ _ c
  rw [add_plain] at ea eb ec
  rw [Nat.zero_add] at ea eb ec ⊢
  exact ⟨ea, eb, ec⟩
theorem owns_below {w w' : World} {base e size n : Nat} {v : Value} {xs : List Value} (h : w.ownsRow base e size v n xs) (hb : Below w.heap.size w w') : w'.ownsRow base e size v n xs :=
  h.kept (row := none) ⟨hb.os, hb.tape, hb.output, hb.size, fun k hk _ => hb.block k hk⟩ (by cases v.ownBlock <;> simp)

/-- Does a number stand among arrivals? -/
def hasS (l : List Arv) (s : Int) : Bool := l.any fun x => x.seq == s
theorem hasS_iff {l : List Arv} {s : Int} : hasS l s = true ↔ s ∈ l.map (·.seq) := by
  unfold hasS
  rw [List.any_eq_true, List.mem_map]
  constructor
  · rintro ⟨x, hx, h⟩; exact ⟨x, hx, by simpa using h⟩
  · rintro ⟨x, hx, h⟩; exact ⟨x, hx, by simpa using h⟩
set_option maxHeartbeats 4000000 in
theorem Has_0 (a : Option Addr) (cap : Nat) (s : Int) (w : World) :
    Calls Tryd.prog 13 #[.slice a 0 cap, .int .i64 s] w fun e w' => e = .returned (.bool false) ∧ Below w.heap.size w w' := by
  go_enter Tryd.func13, Tryd.ntmps13
  go_wp2
  refine wp_loop_rounds 1 ?_
  rw [rounds_succ]
  go_wp2
  go_ret
  exact ⟨rfl, (Bel.out (by repeat (first | exact Bel.refl _ | assumption | refine Bel.drew ?_ | refine Bel.drewN ?_ _ | refine Bel.alloc ?_ _ | refine Bel.setCell ?_ (by simp <;> omega) _ | refine Bel.step ?_ (by assumption))))⟩
set_option maxHeartbeats 4000000 in
theorem Has_go (b off cap : Nat) (l : List Arv) (s : Int) (w : World) (hlen : l.length ≤ 9223372036854775807)
    (hc : ∀ i, i < l.length → w.cell? ⟨b, off + i * 3, none⟩ = some (.int .i64 (aAt l i).seq)) :
    Calls Tryd.prog 13 #[.slice (some ⟨b, off, none⟩) l.length cap, .int .i64 s] w fun e w' => e = .returned (.bool (hasS l s)) ∧ Below w.heap.size w w' := by
  generalize hn : l.length = n at hlen hc ⊢
  go_enter Tryd.func13, Tryd.ntmps13
  go_wp2
  go_loopw [5] (fun i wr => ∃ m : Nat, m ≤ n ∧ i = .int .i64 m ∧ hasS (l.drop m) s = hasS l s ∧ Bel w.heap.size w wr) (fun i _ => n - (intOf i).toNat)
  case atStart => exact ⟨0, Nat.zero_le _, rfl, rfl, Bel.refl _⟩
  case round =>
    obtain ⟨m, hm, rfl, hV, HB⟩ := hrel
    have HV : Hid (hasS (l.drop m) s = hasS l s) := hV
    clear hV
    have hW := HB.out
    rcases Nat.lt_or_ge m n with hlt | hge
    · have c0 := cell_below hW (hc m hlt)
      have hd := aAt_drop (l := l) (i := m) (by omega)
      clear hc
      generalize (aAt l m) = x at c0 hd
      cases hx : x.seq == s
      · have HN : Hid (hasS (l.drop (m + 1)) s = hasS l s) := by show _ = _; rw [← HV.out, hd]; unfold hasS; rw [List.any_cons, hx, Bool.false_or]
        clear hd
        go_wp2
        go_roundw
        case rel => exact ⟨m + 1, by omega, by go_num, HN.out, (by repeat (first | exact Bel.refl _ | assumption | refine Bel.drew ?_ | refine Bel.drewN ?_ _ | refine Bel.alloc ?_ _ | refine Bel.setCell ?_ (by simp <;> omega) _ | refine Bel.step ?_ (by assumption)))⟩
        case measure => simp [intOf]; omega
      · have HN : Hid (true = hasS l s) := by show _ = _; rw [← HV.out, hd]; unfold hasS; rw [List.any_cons, hx, Bool.true_or]
        clear hd
        go_wp2
        go_ret
        exact ⟨ret_bool HN.out, (Bel.out (by repeat (first | exact Bel.refl _ | assumption | refine Bel.drew ?_ | refine Bel.drewN ?_ _ | refine Bel.alloc ?_ _ | refine Bel.setCell ?_ (by simp <;> omega) _ | refine Bel.step ?_ (by assumption))))⟩
    · have HN : Hid (false = hasS l s) := by show _ = _; rw [← HV.out, List.drop_eq_nil_of_le (by omega)]; rfl
      clear hc
      go_wp2
      go_ret
      exact ⟨ret_bool HN.out, (Bel.out (by repeat (first | exact Bel.refl _ | assumption | refine Bel.drew ?_ | refine Bel.drewN ?_ _ | refine Bel.alloc ?_ _ | refine Bel.setCell ?_ (by simp <;> omega) _ | refine Bel.step ?_ (by assumption))))⟩
theorem Has_any (a : Option Addr) (cap : Nat) (l : List Arv) (s : Int) (w : World) (hlen : l.length ≤ 9223372036854775807) (h : CelsAt w a l) :
    Calls Tryd.prog 13 #[.slice a l.length cap, .int .i64 s] w fun e w' => e = .returned (.bool (hasS l s)) ∧ Below w.heap.size w w' := by
  rcases h with rfl | ⟨b, off, rfl, hc⟩
  · exact Has_0 a cap s w
  · exact Has_go b off cap l s w hlen fun i hi => (hc i hi).1
end Go.Proofs.YtfjpdflilmcnhaaDoor
