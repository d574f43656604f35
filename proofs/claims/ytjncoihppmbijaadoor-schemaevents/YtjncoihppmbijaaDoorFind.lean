/- Columns copied (slices.Clone): the copy holds what they hold. -/
import Derived.Test.YtjncoihppmbijaaDoorSch
import Derived.Laws.AppendOwn
namespace Go.Proofs.YtjncoihppmbijaaDoor
open Go.ChangeShapes Go.WideShapes Go.ChangeAt Go.RowKit

theorem info52 : (Tryd.prog.info? 52).map (fun i => (i.zero, i.size, i.bytes)) = some (some (.agg #[.string ⟨#[]⟩, .int .i64 0]), 2, 24) := by kernel_rfl
/-- The cells of columns. -/
def colC (n : Nat) (nm : Nat → ByteArray) (kd : Nat → Int) : List Value := (List.range n).flatMap fun i => [.string (nm i), .int .i64 (kd i)]
theorem colC_succ (n : Nat) (nm : Nat → ByteArray) (kd : Nat → Int) : colC (n + 1) nm kd = colC n nm kd ++ [.string (nm n), .int .i64 (kd n)] := by
  unfold colC; rw [List.range_succ, List.flatMap_append]; simp
theorem colC_len (n : Nat) (nm : Nat → ByteArray) (kd : Nat → Int) : (colC n nm kd).length = n * 2 := by
  induction n with
  | zero => rfl
  | succ n ih => rw [colC_succ, List.length_append, ih]; simp; omega
theorem colC_at (n : Nat) (nm : Nat → ByteArray) (kd : Nat → Int) (i : Nat) (h : i < n) : (colC n nm kd)[i * 2]? = some (.string (nm i)) ∧ (colC n nm kd)[i * 2 + 1]? = some (.int .i64 (kd i)) := by
  induction n with
  | zero => omega
  | succ n ih =>
    rw [colC_succ]
    have hl := colC_len n nm kd
    rcases Nat.lt_or_ge i n with h1 | h1
    · obtain ⟨a, b⟩ := ih h1
      refine ⟨?_, ?_⟩
      · rw [List.getElem?_append_left (by omega)]; exact a
      · rw [List.getElem?_append_left (by omega)]; exact b
    · have e : i = n := by omega
      subst e
      refine ⟨?_, ?_⟩
      · rw [List.getElem?_append_right (by omega), hl, show i * 2 - i * 2 = 0 by omega]; rfl
      · rw [List.getElem?_append_right (by omega), hl, show i * 2 + 1 - i * 2 = 1 by omega]; rfl
theorem colC_one (n : Nat) (nm : Nat → ByteArray) (kd : Nat → Int) : ∀ u ∈ colC n nm kd, u.oneCell' = true := by
  intro u hu
  unfold colC at hu
  rw [List.mem_flatMap] at hu
  obtain ⟨i, _, hu⟩ := hu
  simp only [List.mem_cons, List.not_mem_nil, or_false] at hu
  rcases hu with rfl | rfl <;> rfl
theorem colC_cells {w : World} {ad : Addr} {n : Nat} {nm : Nat → ByteArray} {kd : Nat → Int} (hc : ColsAt w (some ad) n nm kd) : ∀ j u, (colC n nm kd)[j]? = some u → w.cell? (ad.add j) = some u := by
  intro j u hj
  have hlt : j < n * 2 := by
    rw [← colC_len n nm kd]
    exact (List.getElem?_eq_some_iff.1 hj).1
  rcases hc with h0 | ⟨b, off, e, hv⟩
  · omega
  injection e with e
  subst e
  rw [add_plain]
  have hi : j / 2 < n := by omega
  obtain ⟨a, b'⟩ := colC_at n nm kd (j / 2) hi
  obtain ⟨a', b''⟩ := hv (j / 2) hi
  have h3 : j % 2 = 0 ∨ j % 2 = 1 := by omega
  rcases h3 with h3 | h3
  · rw [show j = j / 2 * 2 by omega] at hj ⊢
    rw [a] at hj; rw [a', hj]
  · rw [show j = j / 2 * 2 + 1 by omega] at hj ⊢
    rw [b'] at hj; rw [← Nat.add_assoc, b'', hj]
theorem cols_of_owns {w : World} {base n : Nat} {vv : Value} {nm : Nat → ByteArray} {kd : Nat → Int} (h : w.ownsRow base 52 2 vv n (colC n nm kd)) : ∃ a cap, vv = .slice a n cap ∧ ColsAt w a n nm kd ∧ ∀ g o, a = some ⟨g, o, none⟩ → base ≤ g := by
  have h' := h
  obtain ⟨hlen, ⟨rfl, rfl⟩ | ⟨g, cap, cur, rfl, hbg, hg, hcap, hcm, hcs, htake⟩⟩ := h
  · exact ⟨none, 0, rfl, Or.inl rfl, fun _ _ e => by cases e⟩
  refine ⟨_, cap, rfl, Or.inr ⟨g, 0, rfl, fun i hi => ?_⟩, fun g' o' e => by injection e with e; injection e with e1 _ _; rw [← e1]; exact hbg⟩
  have hc := h'.cells (g := g) rfl
  obtain ⟨a, b⟩ := colC_at n nm kd i hi
  have ea := hc _ _ a
  have eb := hc _ _ b
  rw [add_plain] at ea eb
  rw [Nat.zero_add] at ea eb ⊢
  exact ⟨ea, eb⟩
set_option maxHeartbeats 8000000 in
theorem Clone_some (ad : Addr) (len cap : Nat) (nm : Nat → ByteArray) (kd : Nat → Int) (w : World) (hlen : len ≤ 9223372036854775807) (hby : len * 24 ≤ 140737488355328) (hc : ColsAt w (some ad) len nm kd) :
    Calls Tryd.prog 32 #[.slice (some ad) len cap] w fun e w' => ∃ a' cap', e = .returned (.slice a' len cap') ∧ ColsAt w' a' len nm kd ∧ (∀ g o, a' = some ⟨g, o, none⟩ → w.heap.size ≤ g) ∧ Below w.heap.size w w' := by
  obtain ⟨i0, hi, hz0⟩ := Option.map_eq_some_iff.1 info52
  simp only [Prod.mk.injEq] at hz0
  obtain ⟨hz, hs, hb3⟩ := hz0
  have hl : Hid _ := colC_len len nm kd
  have hone : Hid _ := colC_one len nm kd
  have hnews : Hid _ := colC_cells (hc.alloc (.cells #[] 52))
  have hown0 : (w.alloc (.cells #[] 52)).ownsRow w.heap.size 52 2 (.slice (some ⟨w.heap.size, 0, none⟩) 0 0) 0 [] := World.ownsRow_made w #[] 0 (Nat.le_refl _) (by unfold maxLen; omega) rfl
  have hn1 : 0 + len ≤ maxLen := by unfold maxLen; omega
  have hby1 : (0 + len) * 24 ≤ 140737488355328 := by omega
  have hbase : w.heap.size ≤ (w.alloc (.cells #[] 52)).heap.size := by rw [World.size_alloc]; omega
  have heq : ∀ wx : World, (binOp .eql 22 (.slice (some ad) len cap) (.slice none 0 0)).run Tryd.prog wx = .ok (.bool false) wx := fun wx => by rw [Lib.run_eql_slice_nil wx 22 52 _ _ _ _ _ Tryd.underlying22]; rfl
  clear hc
  go_enter Tryd.func32, Tryd.ntmps32
  go_wp2_with (at_builtin; refine wpList_append_own _ rfl _ _ 22 rfl w.heap.size 52 i0 (.agg #[.string ⟨#[]⟩, .int .i64 0]) 2 24 Tryd.underlying22 hi hz hs hb3 rfl (by decide) _ 0 [] rfl hown0 ad len cap (colC len nm kd) rfl hl.out hnews.out hone.out hn1 hby1 hbase ?_)
  intro v1 w1 hown1 hgrow1 hi1
  clear hi1
  have hB1 : Below w.heap.size w w1 := ((Below.refl _ _).alloc (Nat.le_refl _) _).grown hgrow1 (by rw [World.size_alloc]; omega) (fun kk hk => by injection hk with hk; rw [← hk]; exact Nat.le_refl _)
  obtain ⟨a', cap', hv, hcc, hgg⟩ := cols_of_owns (n := len) (nm := nm) (kd := kd) (by simpa using hown1)
  rw [hv]
  clear hown1 hgrow1 hv hl hone hnews hown0 hn1 hby1 hbase heq hi hz hs hb3
  go_wp2
  go_ret
  exact ⟨_, _, rfl, hcc, hgg, hB1⟩
set_option maxHeartbeats 8000000 in
theorem Clone_none (len cap : Nat) (w : World) :
    Calls Tryd.prog 32 #[.slice none len cap] w fun e w' => e = .returned (.slice none 0 0) ∧ Below w.heap.size w w' := by
  have heq : ∀ wx : World, (binOp .eql 22 (.slice none len cap) (.slice none 0 0)).run Tryd.prog wx = .ok (.bool true) wx := fun wx => by rw [Lib.run_eql_slice_nil wx 22 52 _ _ _ _ _ Tryd.underlying22]; rfl
  go_enter Tryd.func32, Tryd.ntmps32
  go_wp2
  go_ret
  exact ⟨rfl, (Bel.out (by repeat (first | exact Bel.refl _ | assumption | refine Bel.drew ?_ | refine Bel.drewN ?_ _ | refine Bel.alloc ?_ _ | refine Bel.setCell ?_ (by simp <;> omega) _ | refine Bel.step ?_ (by assumption))))⟩
theorem Clone_any (a : Option Addr) (len cap : Nat) (nm : Nat → ByteArray) (kd : Nat → Int) (w : World) (hlen : len ≤ 9223372036854775807) (hby : len * 24 ≤ 140737488355328) (hc : ColsAt w a len nm kd) :
    Calls Tryd.prog 32 #[.slice a len cap] w fun e w' => ∃ a' cap', e = .returned (.slice a' len cap') ∧ ColsAt w' a' len nm kd ∧ (∀ g o, a' = some ⟨g, o, none⟩ → w.heap.size ≤ g) ∧ Below w.heap.size w w' := by
  cases a with
  | some ad => exact Clone_some ad len cap nm kd w hlen hby hc
  | none =>
    have h0 : len = 0 := by
      rcases hc with h0 | ⟨b, off, e, _⟩
      · exact h0
      · cases e
    subst h0
    exact (Clone_none 0 cap w).mono fun e w' h => ⟨none, 0, h.1, Or.inl rfl, fun _ _ e => (by cases e), h.2⟩
theorem ColsAt.set2 {w : World} {a : Option Addr} {n R : Nat} {nm : Nat → ByteArray} {kd : Nat → Int} {x y : Value} (h : ColsAt w a n nm kd) (hg : ∀ g o, a = some ⟨g, o, none⟩ → g ≠ R) : ColsAt ((w.setCell ⟨R, 0, none⟩ x).setCell ⟨R, 1, none⟩ y) a n nm kd := by
  rcases h with h | ⟨b, off, rfl, hc⟩
  · exact Or.inl h
  have hne := hg b off rfl
  have e : ∀ o : Nat, ((w.setCell ⟨R, 0, none⟩ x).setCell ⟨R, 1, none⟩ y).cell? ⟨b, o, none⟩ = w.cell? ⟨b, o, none⟩ := fun o => by
    rw [World.cell?_setCell_other _ _ _ _ (by intro e; injection e with e1 _ _; exact hne e1.symm), World.cell?_setCell_other _ _ _ _ (by intro e; injection e with e1 _ _; exact hne e1.symm)]
  exact Or.inr ⟨b, off, rfl, fun i hi => ⟨(e _).trans (hc i hi).1, (e _).trans (hc i hi).2⟩⟩
theorem keepS {w wx : World} {p0 o0 p1 o1 R : Nat} {c0 c1 x y : Value} (hS : wx.cell? ⟨p0, o0, none⟩ = some c0 ∧ wx.cell? ⟨p1, o1, none⟩ = some c1 ∧ Below w.heap.size w wx) (h0 : p0 < w.heap.size) (h1 : p1 < w.heap.size) (hR : w.heap.size ≤ R) :
    ((wx.setCell ⟨R, 0, none⟩ x).setCell ⟨R, 1, none⟩ y).cell? ⟨p0, o0, none⟩ = some c0 ∧ ((wx.setCell ⟨R, 0, none⟩ x).setCell ⟨R, 1, none⟩ y).cell? ⟨p1, o1, none⟩ = some c1 ∧ Below w.heap.size w ((wx.setCell ⟨R, 0, none⟩ x).setCell ⟨R, 1, none⟩ y) := by
  have hb : Below w.heap.size wx ((wx.setCell ⟨R, 0, none⟩ x).setCell ⟨R, 1, none⟩ y) := ((Below.refl _ _).setCell (p := ⟨R, 0, none⟩) hR _).setCell (p := ⟨R, 1, none⟩) hR _
  exact ⟨(hb.cell (p := ⟨p0, o0, none⟩) h0).trans hS.1, (hb.cell (p := ⟨p1, o1, none⟩) h1).trans hS.2.1, hS.2.2.trans hb⟩
end Go.Proofs.YtjncoihppmbijaaDoor
