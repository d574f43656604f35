/- The places from one up to another (span). -/
import Derived.Test.YtfjpdflilmcnhaaDoorMgF
import Derived.Test.YtfjpdflilmcnhaaDoorTrn
import Derived.Test.YtfjpdflilmcnhaaDoorVat
import Derived.Test.YtfjpdflilmcnhaaDoorMgE
namespace Go.Proofs.YtfjpdflilmcnhaaDoor
open Go.ChangeShapes Go.WideShapes Go.ChangeAt Go.RowKit

set_option maxRecDepth 20000 in
set_option maxHeartbeats 8000000 in
theorem span_any (p n : Nat) (q : Int) (w : World) (hq : q = p + n) (hn : n ≤ 4000000) (hp : p ≤ 4000000) :
    Calls Tryd.prog 49 #[.int .i64 p, .int .i64 q] w fun e w' => (∃ g L, e = .returned (.slice (some ⟨g, 0, none⟩) n n) ∧ w.heap.size ≤ g ∧ w'.ownsRow w.heap.size 3 1 (.slice (some ⟨g, 0, none⟩) n n) n L ∧ ∀ i, i < n → L[i]? = some (.int .i64 ((p : Int) + i))) ∧ Below w.heap.size w w' := by
  obtain ⟨i0, hi, hz0⟩ := Option.map_eq_some_iff.1 info3
  simp only [Prod.mk.injEq] at hz0
  obtain ⟨hz, hs, hb3⟩ := hz0
  subst hq
  have hw1 : IntKind.i64.wrap ((p : Int) + n - p) = n := by rw [IntKind.wrap_i64]; omega
  have hw2 : (p : Int) + n - p = n := by omega
  go_enter Tryd.func49, Tryd.ntmps49
  go_wp2_with (at_make; refine wpList_make_full _ rfl _ _ 22 rfl w.heap.size 3 i0 (.int .i64 0) 1 Tryd.underlying22 hi hz hs .i64 .i64 _ _ n rfl rfl (by first | exact hw1 | exact hw2 | rfl) (by first | exact hw1 | exact hw2 | rfl) (by rw [hb3]; omega) (by unfold maxLen; omega) (Nat.le_refl _) ?_)
  intro w1 hown hgrow
  have HB1 : Bel w.heap.size w w1 := by
    have h := (Below.refl w.heap.size w).grown hgrow (Nat.le_refl _) (fun _ h => by cases h)
    exact ⟨h, h.size⟩
  have HO : Hid (World.ownsRow w1 w.heap.size 3 1 (.slice (some ⟨w.heap.size, 0, none⟩) n n) n (madeCells #[.int .i64 0] n).toList) := hown
  have HLN : Hid ((madeCells #[Value.int .i64 0] n).toList.length = n) := by show _ = _; simp [madeCells]
  generalize (madeCells #[Value.int .i64 0] n).toList = L0 at HO HLN
  clear hown hgrow hi hz hs hb3 i0 hw1 hw2
  go_wp2
  go_loopw [13] (fun i wr => ∃ (m : Nat) (L : List Value), m ≤ n ∧ i = .int .i64 m ∧ L.length = n ∧ (∀ j, j < m → L[j]? = some (.int .i64 ((p : Int) + j))) ∧ World.ownsRow wr w.heap.size 3 1 (.slice (some ⟨w.heap.size, 0, none⟩) n n) n L ∧ Bel w.heap.size w wr) (fun i _ => n - (intOf i).toNat)
  case atStart => exact ⟨0, L0, Nat.zero_le _, rfl, HLN.out, fun j hj => by omega, HO.out, HB1⟩
  case round =>
    obtain ⟨m, L, hm, rfl, hL, hI, hO, HB⟩ := hrel
    have HI : Hid (∀ j, j < m → L[j]? = some (.int .i64 ((p : Int) + j))) := hI
    have HO2 : Hid (World.ownsRow wr w.heap.size 3 1 (.slice (some ⟨w.heap.size, 0, none⟩) n n) n L) := hO
    clear hI
    rcases Nat.lt_or_ge m n with hlt | hge
    · have hc := hO.cellAt m (by omega)
      rw [List.getElem?_eq_getElem (show m < L.length by omega)] at hc
      have hf := hO.frozenAt m
      clear hO HO HB1
      go_wp2
      go_roundw
      case rel =>
        refine ⟨m + 1, L.set m (.int .i64 ((p : Int) + m)), by omega, by go_num, by simpa using hL, fun j hj => ?_, (HO2.out.stored m (.int .i64 ((p : Int) + m))).1, HB.setCell (Nat.le_refl _) _⟩
        rcases Nat.lt_or_ge j m with h | h
        · rw [List.getElem?_set_ne (by omega)]; exact HI.out j h
        · obtain rfl : j = m := by omega
          rw [List.getElem?_set_self (by omega)]
      case measure => simp [intOf]; omega
    · obtain rfl : m = n := by omega
      clear hO HO HB1
      go_wp2
      go_ret
      exact ⟨⟨_, L, rfl, Nat.le_refl _, HO2.out, HI.out⟩, HB.out⟩
end Go.Proofs.YtfjpdflilmcnhaaDoor

/- The places that a view holds: all, the last, the first. -/
namespace Go.Proofs.YtfjpdflilmcnhaaDoor
open Go.ChangeShapes Go.WideShapes Go.ChangeAt Go.RowKit

def SpP (w : World) (p n : Nat) (e : Ending) (w' : World) : Prop := (∃ g, e = .returned (.slice (some ⟨g, 0, none⟩) n n) ∧ ∀ i, i < n → w'.cell? ⟨g, i, none⟩ = some (.int .i64 ((p : Int) + i))) ∧ Below w.heap.size w w'
set_option maxRecDepth 20000 in
set_option maxHeartbeats 8000000 in
theorem all_any (f0 f1 f2 : Nat) (n : Int) (a : Option Addr) (cn cc : Nat) (d : Bool) (la : Option Addr) (ln lc : Nat) (now : Int) (w : World) (hl : ln ≤ 200) :
    Calls Tryd.prog 32 #[vvV f0 f1 f2 n a cn cc d la ln lc now] w (SpP w (0) (ln)) := by
  unfold vvV
  have hs := fun wx => span_any 0 ln ln wx (by omega) (by omega) (by omega)
  go_enter Tryd.func32, Tryd.ntmps32
  go_wp2_with fail
  refine (hs _).mono ?_
  rintro e w1 ⟨⟨g, L, rfl, hg, hO, hL⟩, hb⟩
  have HP : Hid (∀ i, i < ln → w1.cell? ⟨g, i, none⟩ = some (.int .i64 (((0 : Nat) : Int) + i))) := fun i hi => by
    refine (hO.cellAt i (by omega)).trans ((hL i hi).trans ?_)
    first | rfl | (congr 2; omega)
  have HB : Hid (Below w.heap.size w w1) := ((Below.refl w.heap.size w).alloc (Nat.le_refl _) (Obj.cells #[.func (.func f0) #[] #[], .func (.func f1) #[] #[], .func (.func f2) #[] #[], .int .i64 n, .slice a cn cc, .bool d, .slice la ln lc, .int .i64 now] 64)).trans (hb.mono (by simp))
  clear hs hO hL hb hg
  go_wp2
  go_ret
  exact ⟨⟨g, rfl, HP.out⟩, HB.out⟩
set_option maxRecDepth 20000 in
set_option maxHeartbeats 8000000 in
theorem first_any (f0 f1 f2 : Nat) (n : Int) (a : Option Addr) (cn cc : Nat) (d : Bool) (la : Option Addr) (ln lc : Nat) (now : Int) (w : World)  :
    Calls Tryd.prog 46 #[vvV f0 f1 f2 n a cn cc d la ln lc now] w (SpP w (0) (1)) := by
  unfold vvV
  have hs := fun wx => span_any 0 1 1 wx (by omega) (by omega) (by omega)
  go_enter Tryd.func46, Tryd.ntmps46
  go_wp2_with fail
  refine (hs _).mono ?_
  rintro e w1 ⟨⟨g, L, rfl, hg, hO, hL⟩, hb⟩
  have HP : Hid (∀ i, i < 1 → w1.cell? ⟨g, i, none⟩ = some (.int .i64 (((0 : Nat) : Int) + i))) := fun i hi => by
    refine (hO.cellAt i (by omega)).trans ((hL i hi).trans ?_)
    first | rfl | (congr 2; omega)
  have HB : Hid (Below w.heap.size w w1) := ((Below.refl w.heap.size w).alloc (Nat.le_refl _) (Obj.cells #[.func (.func f0) #[] #[], .func (.func f1) #[] #[], .func (.func f2) #[] #[], .int .i64 n, .slice a cn cc, .bool d, .slice la ln lc, .int .i64 now] 64)).trans (hb.mono (by simp))
  clear hs hO hL hb hg
  go_wp2
  go_ret
  exact ⟨⟨g, rfl, HP.out⟩, HB.out⟩
set_option maxRecDepth 20000 in
set_option maxHeartbeats 8000000 in
theorem last_any (f0 f1 f2 : Nat) (n : Int) (a : Option Addr) (cn cc : Nat) (d : Bool) (la : Option Addr) (ln lc : Nat) (now : Int) (w : World) (hl : ln ≤ 200) (h0 : 0 < ln) :
    Calls Tryd.prog 45 #[vvV f0 f1 f2 n a cn cc d la ln lc now] w (SpP w (ln - 1) (1)) := by
  unfold vvV
  have hs := fun wx => span_any (ln - 1) 1 ln wx (by omega) (by omega) (by omega)
  have e1 : ((ln - 1 : Nat) : Int) = (ln : Int) - 1 := by omega
  rw [e1] at hs
  go_enter Tryd.func45, Tryd.ntmps45
  go_wp2_with fail
  refine (hs _).mono ?_
  rintro e w1 ⟨⟨g, L, rfl, hg, hO, hL⟩, hb⟩
  have HP : Hid (∀ i, i < 1 → w1.cell? ⟨g, i, none⟩ = some (.int .i64 (((ln - 1 : Nat) : Int) + i))) := fun i hi => by
    refine (hO.cellAt i (by omega)).trans ((hL i hi).trans ?_)
    first | rfl | (congr 2; omega)
  have HB : Hid (Below w.heap.size w w1) := ((Below.refl w.heap.size w).alloc (Nat.le_refl _) (Obj.cells #[.func (.func f0) #[] #[], .func (.func f1) #[] #[], .func (.func f2) #[] #[], .int .i64 n, .slice a cn cc, .bool d, .slice la ln lc, .int .i64 now] 64)).trans (hb.mono (by simp))
  clear hs hO hL hb hg
  go_wp2
  go_ret
  exact ⟨⟨g, rfl, HP.out⟩, HB.out⟩
end Go.Proofs.YtfjpdflilmcnhaaDoor

/- The least of a sorted view (least). -/
namespace Go.Proofs.YtfjpdflilmcnhaaDoor
open Go.ChangeShapes Go.WideShapes Go.ChangeAt Go.RowKit

open Go.Proofs.YtfjpdflilmcnhaaDoor.Stb
open Go.Shelf Go.Sort
theorem PR.base {w : World} {B B' g n : Nat} {f : Nat → Nat} (h : PR w B g n f) (hb : B' ≤ B) : PR w B' g n f := by
  refine ⟨h.1, ?_⟩
  rcases h.2 with h' | ⟨g', cap, cur, e, h1, h2⟩
  · exact Or.inl h'
  · exact Or.inr ⟨g', cap, cur, e, Nat.le_trans hb h1, h2⟩
set_option maxRecDepth 20000 in
set_option maxHeartbeats 8000000 in
theorem all_own (f0 f1 f2 : Nat) (n : Int) (a : Option Addr) (cn cc : Nat) (d : Bool) (la : Option Addr) (ln lc : Nat) (now : Int) (w : World) (hl : ln ≤ 200) :
    Calls Tryd.prog 32 #[vvV f0 f1 f2 n a cn cc d la ln lc now] w fun e w' => ∃ g, e = .returned (.slice (some ⟨g, 0, none⟩) ln ln) ∧ w.heap.size ≤ g ∧ PR w' w.heap.size g ln (fun k => k) ∧ Below w.heap.size w w' := by
  unfold vvV
  have hs := fun wx => span_any 0 ln ln wx (by omega) (by omega) (by omega)
  go_enter Tryd.func32, Tryd.ntmps32
  go_wp2_with fail
  refine (hs _).mono ?_
  rintro e w1 ⟨⟨g, L, rfl, hg, hO, hL⟩, hb⟩
  have HP : Hid (PR w1 w.heap.size g ln (fun k => k)) := by
    have e : L = (List.range ln).map fun k => Value.int .i64 (k : Nat) := by
      have hlen : L.length = ln := by have := hO.1; omega
      apply List.ext_getElem?
      intro i
      rcases Nat.lt_or_ge i ln with h | h
      · rw [hL i h, List.getElem?_map, List.getElem?_range h]
        simp
      · rw [List.getElem?_eq_none (by omega), List.getElem?_eq_none (by simpa using h)]
    rw [e] at hO
    exact PR.base (B := _) hO (by simp)
  have HG : Hid (w.heap.size ≤ g) := by show _ ≤ _; simp at hg; omega
  have HB : Hid (Below w.heap.size w w1) := ((Below.refl w.heap.size w).alloc (Nat.le_refl _) (Obj.cells #[.func (.func f0) #[] #[], .func (.func f1) #[] #[], .func (.func f2) #[] #[], .int .i64 n, .slice a cn cc, .bool d, .slice la ln lc, .int .i64 now] 64)).trans (hb.mono (by simp))
  clear hs hO hL hb hg
  go_wp2
  go_ret
  exact ⟨g, rfl, HG.out, HP.out, HB.out⟩
theorem LsAt.below {w w' : World} {vb cb co lb lo cc lc col : Nat} {d : Bool} {l : List Arv} (h : LsAt w vb cb co lb lo cc lc col d l) (hb : Below w.heap.size w w') : LsAt w' vb cb co lb lo cc lc col d l :=
  ⟨cell_below hb h.cols, cell_below hb h.desc, cell_below hb h.ars, cell_below hb h.col0, fun x hx => cell_below hb (h.row x hx), fun x hx => (h.rows x hx).below hb, h.rk.below hb⟩
/-- The places that a sorted view holds. -/
def ksP (N : Int) (l : List Arv) (col : Nat) (d : Bool) : List Nat := (List.range l.length).filter fun p => decide (Stb.rank (ltO (ovV l col d)) l.length p < min N.toNat l.length)
theorem srt_eq {zs ys : List Int} (hp : zs.Perm ys) (hs : ys.Pairwise fun x y => x ≤ y) : srt zs = ys :=
  List.Perm.eq_of_pairwise (le := fun x y : Int => x ≤ y) (fun _ _ _ _ h1 h2 => Int.le_antisymm h1 h2) (srt_le zs) hs ((srt_perm zs).trans hp)
theorem range_le (n : Nat) (p : Nat → Bool) : (((List.range n).filter p).map fun k => ((k : Nat) : Int)).Pairwise fun x y => x ≤ y := by
  rw [List.pairwise_map]
  have h : (List.range n).Pairwise fun a b => a < b := List.pairwise_lt_range
  exact (h.filter p).imp fun hab => by omega
set_option maxRecDepth 20000 in
set_option maxHeartbeats 16000000 in
theorem least_any (f0 f1 f2 : Nat) (N : Int) (cb co cc col : Nat) (d : Bool) (la : Option Addr) (lc : Nat) (now : Int) (l : List Arv) (w : World) (hN : 1 ≤ N) (hcol : (col : Int) ≤ 9223372036854775807) (hc0 : w.cell? ⟨cb, co, none⟩ = some (.int .i64 col)) (hA : ArsAt w la l) (hl0 : 0 < l.length) (hl : l.length ≤ 200) (hG : Rng l) (hK : Ranks w) :
    Calls Tryd.prog 44 #[vvV f0 f1 f2 N (some ⟨cb, co, none⟩) 1 cc d la l.length lc now] w fun e w' => (∃ g cap, e = .returned (.slice (some ⟨g, 0, none⟩) (ksP N l col d).length cap) ∧ PsAt w' (some ⟨g, 0, none⟩) (ksP N l col d)) ∧ Below w.heap.size w w' := by
  obtain ⟨M, rfl⟩ : ∃ M : Nat, N = M := ⟨N.toNat, by omega⟩
  obtain ⟨lb, lo, rfl, hcel⟩ : ∃ lb lo, la = some ⟨lb, lo, none⟩ ∧ ∀ i, i < l.length → w.cell? ⟨lb, lo + i * 3, none⟩ = some (.int .i64 (aAt l i).seq) ∧ w.cell? ⟨lb, lo + i * 3 + 1, none⟩ = some (.int .i64 (aAt l i).time) ∧ w.cell? ⟨lb, lo + i * 3 + 2, none⟩ = some (.slice (aAt l i).a (aAt l i).row.length (aAt l i).cap) := by
    rcases hA.cels with h | ⟨b, off, h1, h2⟩
    · rw [h] at hl0; simp at hl0
    · exact ⟨b, off, h1, h2⟩
  have hown := all_own f0 f1 f2 (M : Int) (some ⟨cb, co, none⟩) 1 cc d (some ⟨lb, lo, none⟩) l.length lc now (w.alloc (Obj.cells #[.func (.func f0) #[] #[], .func (.func f1) #[] #[], .func (.func f2) #[] #[], .int .i64 M, .slice (some ⟨cb, co, none⟩) 1 cc, .bool d, .slice (some ⟨lb, lo, none⟩) l.length lc, .int .i64 now] 64)) hl
  have hb1 : Below w.heap.size w (w.alloc (Obj.cells #[.func (.func f0) #[] #[], .func (.func f1) #[] #[], .func (.func f2) #[] #[], .int .i64 M, .slice (some ⟨cb, co, none⟩) 1 cc, .bool d, .slice (some ⟨lb, lo, none⟩) l.length lc, .int .i64 now] 64)) := (Below.refl _ _).alloc (Nat.le_refl _) _
  have ys : ∀ i v, #[Value.func (.func f0) #[] #[], .func (.func f1) #[] #[], .func (.func f2) #[] #[], .int .i64 M, .slice (some ⟨cb, co, none⟩) 1 cc, .bool d, .slice (some ⟨lb, lo, none⟩) l.length lc, .int .i64 now][i]? = some v → (w.alloc (Obj.cells #[.func (.func f0) #[] #[], .func (.func f1) #[] #[], .func (.func f2) #[] #[], .int .i64 M, .slice (some ⟨cb, co, none⟩) 1 cc, .bool d, .slice (some ⟨lb, lo, none⟩) l.length lc, .int .i64 now] 64)).cell? ⟨w.heap.size, i, none⟩ = some v := fun i v h => (World.cell?_alloc_mark w _ 64 (0, 0) i).trans h
  have y3 := ys 3 _ rfl
  have y4 := ys 4 _ rfl
  have y5 := ys 5 _ rfl
  have y6 := ys 6 _ rfl
  have HL1 : Hid (LsAt (w.alloc (Obj.cells #[.func (.func f0) #[] #[], .func (.func f1) #[] #[], .func (.func f2) #[] #[], .int .i64 M, .slice (some ⟨cb, co, none⟩) 1 cc, .bool d, .slice (some ⟨lb, lo, none⟩) l.length lc, .int .i64 now] 64)) w.heap.size cb co lb lo cc lc col d l) :=
    ⟨y4, y5, y6, cell_below hb1 hc0, fun x hx => cell_below hb1 (hcel x hx).2.2, fun x hx => (hA.rows _ (aAt_mem hx)).below hb1, hK.below hb1⟩
  have HY3 : Hid ((w.alloc (Obj.cells #[.func (.func f0) #[] #[], .func (.func f1) #[] #[], .func (.func f2) #[] #[], .int .i64 M, .slice (some ⟨cb, co, none⟩) 1 cc, .bool d, .slice (some ⟨lb, lo, none⟩) l.length lc, .int .i64 now] 64)).cell? ⟨w.heap.size, 3, none⟩ = some (.int .i64 M)) := y3
  have HB1 : Hid (Below w.heap.size w (w.alloc (Obj.cells #[.func (.func f0) #[] #[], .func (.func f1) #[] #[], .func (.func f2) #[] #[], .int .i64 M, .slice (some ⟨cb, co, none⟩) 1 cc, .bool d, .slice (some ⟨lb, lo, none⟩) l.length lc, .int .i64 now] 64))) := hb1
  have HS1 : Hid (w.heap.size < (w.alloc (Obj.cells #[.func (.func f0) #[] #[], .func (.func f1) #[] #[], .func (.func f2) #[] #[], .int .i64 M, .slice (some ⟨cb, co, none⟩) 1 cc, .bool d, .slice (some ⟨lb, lo, none⟩) l.length lc, .int .i64 now] 64)).heap.size) := by show _ < _; simp
  clear hb1 ys y3 y4 y5 y6 hcel hA hc0 hK
  unfold vvV at hown ⊢
  go_enter Tryd.func44, Tryd.ntmps44
  go_wp2_with fail
  generalize w.alloc (Obj.cells #[.func (.func f0) #[] #[], .func (.func f1) #[] #[], .func (.func f2) #[] #[], .int .i64 M, .slice (some ⟨cb, co, none⟩) 1 cc, .bool d, .slice (some ⟨lb, lo, none⟩) l.length lc, .int .i64 now] 64) = w1 at *
  refine hown.mono ?_
  rintro e w2 ⟨g, rfl, hg, hP, hb⟩
  have HSB : Hid (w.heap.size < w1.heap.size) := HS1
  have HL : Hid (LsAt w1 w.heap.size cb co lb lo cc lc col d l) := HL1
  obtain ⟨vb, hvb⟩ : ∃ vb, w.heap.size = vb := ⟨_, rfl⟩
  have HCA : Hid (CmpAt vb g l.length (ovV l col d) w2) := fun wx hF x y hx hy => less_any vb cb co lb lo cc lc col d l x y wx hcol (LsAt.below (by rw [← hvb]; exact HL.out) (hF.below (B := w1.heap.size) hb.size (fun k hk => by rw [hk]; exact hg) hb)) hG hx hy (by omega)
  have hs := sortStable_any vb w1.heap.size g l.length (ovV l col d) (fun k => k) w2 (by omega) ovV_cmp HCA.out (fun k _ => rfl) hP
  have HY : Hid (w1.cell? ⟨vb, 3, none⟩ = some (.int .i64 M)) := by rw [← hvb]; exact HY3
  have HBW : Hid (Below w.heap.size w w1) := HB1
  have HB2 : Hid (Below w1.heap.size w1 w2) := hb
  have HG2 : Hid (w1.heap.size ≤ g) := hg
  have HVB : Hid (vb < w1.heap.size) := by rw [← hvb]; exact HSB.out
  have HVW : Hid (w.heap.size = vb) := hvb
  rw [hvb]
  unfold cvV at hs
  clear hown HL1 HY3 HB1 HS1 HCA hb hg hP hvb HSB HL
  go_wp2_with fail
  refine hs.mono ?_
  rintro e w3 ⟨rfl, ⟨f', hP3, hST⟩, hF3⟩
  have HB13 : Hid (Below w1.heap.size w1 w3) := hF3.below (B := w1.heap.size) HB2.out.size (fun k hk => by rw [hk]; exact HG2.out) HB2.out
  have z3 : w3.cell? ⟨vb, 3, none⟩ = some (.int .i64 M) := cell_below HB13.out HY.out
  have HB3 : Hid (Below w.heap.size w w3) := HBW.out.trans (HB13.out.mono HBW.out.size)
  have HGL : Hid (g < w3.heap.size) := hP3.lt.2
  have HGB : Hid (w.heap.size ≤ g) := Nat.le_trans HBW.out.size HG2.out
  have OWN : Hid (∃ cur, w.heap.size ≤ g ∧ w3.heap[g]? = some (.cells cur 3 (0, 0)) ∧ l.length ≤ l.length ∧ l.length ≤ maxLen ∧ cur.size = l.length * 1 ∧ cur.toList.take (l.length * 1) = (List.range l.length).map fun k => Value.int .i64 (f' k : Nat)) := by
    rcases hP3.2 with ⟨h', _⟩ | ⟨g', cap, cur, h', h1, h2, h3, h4, h5, h6⟩
    · simp at h'
    · simp only [Value.slice.injEq, Option.some.injEq, Addr.mk.injEq, and_true, true_and] at h'
      obtain ⟨rfl, rfl⟩ := h'
      exact ⟨cur, HGB.out, h2, h3, h4, h5, h6⟩
  obtain ⟨m, hm⟩ : ∃ m, min M l.length = m := ⟨_, rfl⟩
  have hml : m ≤ l.length := by omega
  have HPM : Hid (((List.range m).map f').Perm (ksP M l col d)) := by
    have := hST.firsts ovV_cmp.lin hml
    unfold ksP
    rw [show (M : Int).toNat = M from rfl, hm]
    exact this
  have HKL : Hid ((ksP M l col d).length = m) := by
    show _ = _
    have := HPM.out.length_eq
    simpa using this.symm
  have HSE : Hid (srt ((List.range m).map fun k => ((f' k : Nat) : Int)) = (ksP M l col d).map fun k => ((k : Nat) : Int)) := by
    have := HPM.out.map (fun k : Nat => (k : Int))
    rw [List.map_map] at this
    exact srt_eq this (range_le _ _)
  clear hs hF3 hP3 hST HB13 HY HB2 HG2 HVB HVW HBW HPM
  have w7 : min (M : Int) (l.length : Int) = (m : Int) := by omega
  have HML : Hid (m ≤ l.length) := hml
  have hzl : ((List.range m).map fun k => ((f' k : Nat) : Int)).length = m := by simp
  have hH : Holds (Value.int .i64) w3 g 0 ((List.range m).map fun k => ((f' k : Nat) : Int)).toArray := by
    have := OWN.out
    obtain ⟨cur, hbg, hg3, r1, r2, r3, r4⟩ := this
    refine holds_of_block_i hg3 ?_
    rw [hzl]
    have h2 : cur.toList.take m = (List.range m).map fun k => Value.int .i64 (f' k : Nat) := by
      have e : (cur.toList.take (l.length * 1)).take m = cur.toList.take m := by rw [List.take_take, show min m (l.length * 1) = m by omega]
      rw [← e, r4, ← List.map_take, List.take_range, show min m l.length = m by omega]
    rw [h2, List.map_map]; rfl
  have hS0 := Tryd.slices_Sort_int g 0 l.length ((List.range m).map fun k => ((f' k : Nat) : Int)) w3 hH HGL.out (by rw [hzl]; omega)
  rw [hzl] at hS0
  clear hH hzl
  go_wp2_with fail
  refine hS0.mono ?_
  rintro e w4 ⟨rfl, n', os, rfl⟩
  have HO4 : Hid (∃ cap', PsAt (grow (putRow (Value.int .i64) (Sort.ahead w3 n') g 0 (srt ((List.range m).map fun k => ((f' k : Nat) : Int))).toArray) os) (some ⟨g, 0, none⟩) (ksP M l col d) ∧ cap' = l.length) := by
    obtain ⟨cur, hbg, hg3, r1, r2, r3, r4⟩ := OWN.out
    have hks : (ksP M l col d).length = m := by have := HKL.out; simpa using this
    have hown := ownsRow_sorted_i (w := w3) (base := w.heap.size) (n := n') (os := os) (ss := (List.range m).map fun k => ((f' k : Nat) : Int)) (ts := srt ((List.range m).map fun k => ((f' k : Nat) : Int))) (srt_len _) hbg hg3 (by simp; omega) r2 r3
    refine ⟨l.length, Or.inr ⟨g, 0, rfl, fun i hi => ?_⟩, rfl⟩
    rw [hks] at hi
    have hc := hown.cellAt i (by simp; omega)
    rw [HSE.out] at hc
    rw [Nat.zero_add, HSE.out]
    refine hc.trans ?_
    rw [List.map_map, List.getElem?_map, List.getElem?_eq_getElem (by omega)]
    simp [List.getD_eq_getElem?_getD, List.getElem?_eq_getElem (show i < (ksP M l col d).length by omega)]
  have HB4 : Hid (Below w.heap.size w (grow (putRow (Value.int .i64) (Sort.ahead w3 n') g 0 (srt ((List.range m).map fun k => ((f' k : Nat) : Int))).toArray) os)) := HB3.out.grown (grownBy_sorted_i _) HB3.out.size (fun j hj => by cases hj; exact HGB.out)
  have HKM : Hid ((ksP M l col d).length = m) := HKL.out
  clear hS0 OWN HSE HB3 HGL HGB HKL
  change Hid (∃ cap', PsAt (grow (putRow (Value.int .i64) (Sort.ahead w3 n') g 0 (((List.range m).map fun k => ((f' k : Nat) : Int)).mergeSort fun x y => decide (x ≤ y)).toArray) os) _ _ ∧ _) at HO4
  change Hid (Below _ _ (grow (putRow (Value.int .i64) (Sort.ahead w3 n') g 0 (((List.range m).map fun k => ((f' k : Nat) : Int)).mergeSort fun x y => decide (x ≤ y)).toArray) os)) at HB4
  generalize grow (putRow (Value.int .i64) (Sort.ahead w3 n') g 0 (((List.range m).map fun k => ((f' k : Nat) : Int)).mergeSort fun x y => decide (x ≤ y)).toArray) os = w5 at *
  go_wp2
  go_ret
  obtain ⟨_, hps, _⟩ := HO4.out
  exact ⟨⟨g, l.length, by rw [HKM.out]; rfl, hps⟩, HB4.out⟩
end Go.Proofs.YtfjpdflilmcnhaaDoor
