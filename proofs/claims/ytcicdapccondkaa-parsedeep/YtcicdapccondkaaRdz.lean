/- What a reader sees, takes, needs. -/
import Derived.Test.YtcicdapccondkaaRdx
namespace Go.Proofs.Ytcicdapccondkaa
open Go.ChangeShapes Go.WideShapes Go.ChangeAt Go.RowKit
set_option linter.unusedSimpArgs false
set_option maxRecDepth 20000
set_option maxHeartbeats 4000000

def inF (L : List (List UInt8)) (t : List UInt8) : Bool := L.any fun y => decide (y = t)
theorem in_snoc (t : List UInt8) {l : List (List UInt8)} {i : Nat} {x : List UInt8} (h : l[i]? = some x) : inF (l.take (i + 1)) t = (inF (l.take i) t || decide (x = t)) := by
  unfold inF
  rw [List.take_add_one, h, List.any_append]
  simp
/-- Texts that lie side by side. -/
def StsL (w : World) (g : Nat) (L : List (List UInt8)) : Prop := ∀ i x, L[i]? = some x → w.cell? ⟨g, i, none⟩ = some (.string (bsA x))
theorem StsL.below {w w' : World} {g : Nat} {L : List (List UInt8)} (h : StsL w g L) (hb : Below w.heap.size w w') : StsL w' g L := fun i x hx => cell_below hb (h i x hx)
theorem StsL.new (w : World) (cs : Array Value) (T : TypeId) (L : List (List UInt8)) (hcs : cs.toList = L.map fun x => .string (bsA x)) : StsL (w.alloc (.cells cs T)) w.heap.size L := fun i x hx => by
  have e : cs[i]? = some (.string (bsA x)) := by rw [← Array.getElem?_toList, hcs, List.getElem?_map, hx]; rfl
  exact (World.cell?_alloc_mark w cs T _ i).trans e
theorem index_any (t : List UInt8) (L : List (List UInt8)) (g c : Nat) (w : World) (hl : L.length ≤ 1000) (hc : StsL w g L) :
    Calls Try.prog 82 #[.slice (some ⟨g, 0, none⟩) L.length c, .string (bsA t)] w fun e w' => (∃ j : Int, e = .returned (.int .i64 j) ∧ decide (0 ≤ j) = inF L t) ∧ w' = w := by
  have HC : Hid _ := hc
  clear hc
  go_enter Try.func82, Try.ntmps82
  go_wp2
  go_loopw [5, 8] (fun _ y wr => ∃ k : Nat, k ≤ L.length ∧ y = .int .i64 k ∧ inF (L.take k) t = false ∧ wr = w) (fun _ y _ => L.length - (intOf y).toNat)
  case atStart => exact ⟨0, Nat.zero_le _, rfl, rfl, rfl⟩
  case round =>
    obtain ⟨k, hk, rfl, hV, rfl⟩ := hrel
    have HV : Hid (inF (L.take k) t = false) := hV
    clear hV
    rcases Nat.lt_or_ge k L.length with hlt | hge
    · obtain ⟨x, gx⟩ : ∃ x, L[k]? = some x := ⟨_, List.getElem?_eq_getElem hlt⟩
      have c0 := HC.out k x gx
      have HZ : Hid _ := in_snoc t gx
      by_cases hx : x = t
      · have HN : Hid (inF L t = true) := by
          show _ = _
          unfold inF
          rw [List.any_eq_true]
          exact ⟨x, List.mem_of_getElem? gx, by simpa using hx⟩
        subst hx
        clear gx HZ HV
        go_wp2
        go_ret
        exact ⟨⟨k, rfl, by rw [HN.out]; exact decide_eq_true (by omega)⟩, rfl⟩
      · have HN : Hid (inF (L.take (k + 1)) t = false) := by show _ = _; rw [HZ.out, HV.out, decide_eq_false hx]; rfl
        have hx2 : ((bsA t).toList == (bsA x).toList) = false := by
          rw [bsA_tl, bsA_tl, beq_eq_false_iff_ne]
          exact fun e => hx e.symm
        clear gx HZ HV
        go_wp2
        go_roundw
        case rel => exact ⟨k + 1, by omega, by go_num, HN.out, trivial⟩
        case measure => simp [intOf]; omega
    · have HN : Hid (inF L t = false) := by
        show _ = _
        rw [← HV.out, List.take_of_length_le hge]
      go_wp2
      go_ret
      exact ⟨⟨-1, rfl, by rw [HN.out]; decide⟩, rfl⟩
theorem contains_any (t : List UInt8) (L : List (List UInt8)) (g c : Nat) (w : World) (hl : L.length ≤ 1000) (hc : StsL w g L) :
    Calls Try.prog 76 #[.slice (some ⟨g, 0, none⟩) L.length c, .string (bsA t)] w fun e w' => e = .returned (.bool (inF L t)) ∧ w' = w := by
  have h1 := index_any t L g c w hl hc
  generalize inF L t = q at h1 ⊢
  clear hc
  go_enter Try.func76, Try.ntmps76
  go_wp2_with fail
  refine h1.mono ?_
  rintro e w1 ⟨⟨j, rfl, hj⟩, rfl⟩
  have HJ : Hid _ := hj
  clear h1 hj
  go_wp2
  go_ret
  exact ⟨ret_bool HJ.out, rfl⟩
/-- Is a token of the kind, with one of the texts? -/
def isT (t : Tt) (k : Int) (L : List (List UInt8)) : Bool := decide (t.1.1 = k) && inF L t.1.2.1
theorem is_any (t : Tt) (k : Int) (L : List (List UInt8)) (g c : Nat) (w : World) (hl : L.length ≤ 1000) (hc : StsL w g L) :
    Calls Try.prog 71 #[ttV t, .int .i64 k, .slice (some ⟨g, 0, none⟩) L.length c] w fun e w' => e = .returned (.bool (isT t k L)) ∧ Below w.heap.size w w' := by
  obtain ⟨⟨q1, q2, q3⟩, q4⟩ := t
  unfold ttV isT
  dsimp only
  have hA : Below w.heap.size w (w.alloc (Obj.cells #[Value.int IntKind.i64 q1, Value.string (bsA q2), Value.int IntKind.i64 q3, Value.int IntKind.i64 q4] 51)) := (Below.refl _ _).alloc (Nat.le_refl _) _
  have h1 := contains_any q2 L g c _ hl (hc.below hA)
  obtain ⟨y0, y1, y2, y3⟩ := Box4.new w (.int .i64 q1) (.string (bsA q2)) (.int .i64 q3) (.int .i64 q4) 51
  generalize inF L q2 = b at h1 ⊢
  clear hc
  by_cases hk : q1 = k
  · subst hk
    rw [decide_eq_true rfl, Bool.true_and]
    go_enter Try.func71, Try.ntmps71
    go_wp2_with (go_at_call 76; refine h1.mono ?_; rintro e w1 ⟨rfl, rfl⟩; clear h1)
    go_ret
    exact ⟨rfl, hA⟩
  · rw [decide_eq_false hk, Bool.false_and]
    have g1 : (q1 == k) = false := by simpa using hk
    clear hk
    go_enter Try.func71, Try.ntmps71
    go_wp2_with (go_at_call 76; refine h1.mono ?_; rintro e w1 ⟨rfl, rfl⟩; clear h1)
    go_ret
    exact ⟨rfl, hA⟩
theorem sees_any (rb : Nat) (ta : Option Addr) (cap : Nat) (T : List Tt) (i op : Nat) (k : Int) (L : List (List UInt8)) (g c : Nat) (w : World) (hr : Rdr w rb ta cap T i op) (hl : L.length ≤ 1000) (hc : StsL w g L) :
    Calls Try.prog 64 #[ptr rb, .int .i64 k, .slice (some ⟨g, 0, none⟩) L.length c] w fun e w' => e = .returned (.bool (isT (tkI T i) k L)) ∧ Below w.heap.size w w' := by
  have h1 := token_any rb ta cap T i op 0 w hr (by omega)
  have HC : Hid _ := hc
  rw [Nat.add_zero] at h1
  have H2 : Hid _ := fun (W : World) (h : StsL W g L) => is_any (tkI T i) k L g c W hl h
  generalize isT (tkI T i) k L = b at H2 ⊢
  unfold ttV at h1 H2
  unfold ptr at h1 ⊢
  clear hr hc
  go_enter Try.func64, Try.ntmps64
  go_wp2_with fail
  refine h1.mono ?_
  rintro e w1 ⟨rfl, hb1⟩
  clear h1
  go_wp2_with fail
  refine (H2.out _ (StsL.below HC.out hb1)).mono ?_
  rintro e w2 ⟨rfl, hb2⟩
  have hB := hb1.trans (hb2.mono hb1.size)
  clear hb1 hb2
  go_wp2
  go_ret
  exact ⟨rfl, hB⟩
theorem seesBehind_any (rb : Nat) (ta : Option Addr) (cap : Nat) (T : List Tt) (i op : Nat) (k : Int) (L : List (List UInt8)) (g c : Nat) (w : World) (hr : Rdr w rb ta cap T i op) (hl : L.length ≤ 1000) (hc : StsL w g L) :
    Calls Try.prog 87 #[ptr rb, .int .i64 k, .slice (some ⟨g, 0, none⟩) L.length c] w fun e w' => e = .returned (.bool (isT (tkI T (i + 1)) k L)) ∧ Below w.heap.size w w' := by
  have h1 := token_any rb ta cap T i op 1 w hr (by omega)
  have HC : Hid _ := hc
  have H2 : Hid _ := fun (W : World) (h : StsL W g L) => is_any (tkI T (i + 1)) k L g c W hl h
  generalize isT (tkI T (i + 1)) k L = b at H2 ⊢
  unfold ttV at h1 H2
  unfold ptr at h1 ⊢
  clear hr hc
  go_enter Try.func87, Try.ntmps87
  go_wp2_with fail
  refine h1.mono ?_
  rintro e w1 ⟨rfl, hb1⟩
  clear h1
  go_wp2_with fail
  refine (H2.out _ (StsL.below HC.out hb1)).mono ?_
  rintro e w2 ⟨rfl, hb2⟩
  have hB := hb1.trans (hb2.mono hb1.size)
  clear hb1 hb2
  go_wp2
  go_ret
  exact ⟨rfl, hB⟩
end Go.Proofs.Ytcicdapccondkaa
