/- The greatest, the least. -/
import Derived.Test.YtjphmbgennadcaaGreatDoorCh2
import Derived.Test.YtjphmbgennadcaaGreatDoorEqu
import Derived.Test.YtjphmbgennadcaaGreatDoorLogic
namespace Go.Proofs.YtjphmbgennadcaaGreatDoor
set_option maxHeartbeats 4000000
set_option linter.unusedSimpArgs false
open Go.ChangeShapes Go.WideShapes Go.ChangeAt Go.RowKit


/-- The first that none lies beyond. -/
def fsP (way : Int) : Val → List Val → Val
  | b, [] => b
  | b, v :: r => fsP way (if cmpC v.1 v.2.1 v.2.2 b.1 b.2.1 b.2.2 == way then v else b) r
def farP (way : Int) (r : List Val) : Val × Int := if (inK r).1 = 0 then (fsP way ((inK r).2.headD dv) ((inK r).2.drop 1), 0) else (dv, (inK r).1)
/-- A value in a box of the call's own. -/
structure Bst (w1 : World) (bb : Nat) (v : Val) (wr : World) : Prop where
  bel : Bel w1.heap.size w1 wr
  ge : w1.heap.size ≤ bb
  lt : bb < wr.heap.size
  b0 : wr.cell? ⟨bb, 0, none⟩ = some (.int .i64 v.1)
  b1 : wr.cell? ⟨bb, 1, none⟩ = some (.int .i64 v.2.1)
  b2 : wr.cell? ⟨bb, 2, none⟩ = some (.string v.2.2)
  fr : ∀ i, wr.frozen? ⟨bb, i, none⟩ = false
theorem Bst.below {w1 wr w' : World} {bb : Nat} {v : Val} (h : Bst w1 bb v wr) (hb : Below wr.heap.size wr w') : Bst w1 bb v w' where
  bel := h.bel.step hb
  ge := h.ge
  lt := Nat.lt_of_lt_of_le h.lt hb.size
  b0 := cell_below hb h.b0
  b1 := cell_below hb h.b1
  b2 := cell_below hb h.b2
  fr := fun i => by rw [hb.frozen (p := ⟨bb, i, none⟩) h.lt]; exact h.fr i
theorem Bst.set {w1 wr : World} {bb : Nat} {v : Val} (h : Bst w1 bb v wr) (k n : Int) (t : ByteArray) : Bst w1 bb (k, n, t) (((wr.setCell ⟨bb, 0, none⟩ (.int .i64 k)).setCell ⟨bb, 1, none⟩ (.int .i64 n)).setCell ⟨bb, 2, none⟩ (.string t)) where
  bel := ((h.bel.setCell h.ge _).setCell h.ge _).setCell h.ge _
  ge := h.ge
  lt := by simpa [World.setCell] using h.lt
  b0 := by rw [set_off (by decide), set_off (by decide)]; exact World.cell?_setCell_same _ _ _ h.b0
  b1 := by rw [set_off (by decide)]; exact World.cell?_setCell_same _ _ _ (by rw [set_off (by decide)]; exact h.b1)
  b2 := World.cell?_setCell_same _ _ _ (by rw [set_off (by decide), set_off (by decide)]; exact h.b2)
  fr := fun i => by rw [World.frozen?_setCell, World.frozen?_setCell, World.frozen?_setCell]; exact h.fr i
theorem Bst.new {w1 : World} (k n : Int) (t : ByteArray) : Bst w1 w1.heap.size (k, n, t) (w1.alloc (.cells #[.int .i64 k, .int .i64 n, .string t] 34)) where
  bel := (Bel.refl _).alloc _
  ge := Nat.le_refl _
  lt := by simp
  b0 := World.cell?_alloc_new _ _ _ _
  b1 := World.cell?_alloc_new _ _ _ _
  b2 := World.cell?_alloc_new _ _ _ _
  fr := fun _ => World.frozen?_alloc_new _ _ _ _
theorem farthest_any (way : Int) (a : Option Addr) (cap : Nat) (r : List Val) (w : World) (h1 : 1 ≤ r.length) (hlen : r.length * 32 ≤ 140737488355328) (hcap : r.length ≤ cap) (hI : IntR r) (hr : RowAt w a r) :
    Calls Tryz.prog 91 #[.int .i64 way, .slice a r.length cap] w fun e w' => e = .returned (.tuple #[.agg #[.int .i64 (farP way r).1.1, .int .i64 (farP way r).1.2.1, .string (farP way r).1.2.2], .int .i64 (farP way r).2]) ∧ Below w.heap.size w w' := by
  have hA : Below w.heap.size w (w.alloc (.cells #[.int .i64 0, .int .i64 0, .string ⟨#[]⟩] 34)) := (Below.refl _ _).alloc (Nat.le_refl _) _
  have hk := inTheir_any a cap r (w.alloc (.cells #[.int .i64 0, .int .i64 0, .string ⟨#[]⟩] 34)) hlen hcap hI (hr.below hA)
  have HL : Hid ((inK r).1 = 0 → (inK r).2.length = r.length) := inK_len r
  have HI : Hid (IntR (inK r).2) := inK_int hI
  have HP : Hid (farP way r = if (inK r).1 = 0 then (fsP way ((inK r).2.headD dv) ((inK r).2.drop 1), 0) else (dv, (inK r).1)) := rfl
  generalize farP way r = R at HP ⊢
  generalize inK r = D at *
  obtain ⟨er, L⟩ := D
  dsimp only at HP HL HI
  by_cases h0 : er = 0
  · subst h0
    have HR : Hid (R = (fsP way (L.headD dv) (L.drop 1), 0)) := by show _ = _; rw [HP.out, if_pos rfl]
    have hLl : L.length = r.length := HL.out rfl
    have HLL : Hid (L.length = r.length) := hLl
    go_enter Tryz.func91, Tryz.ntmps91
    go_wp2_with fail
    refine hk.mono ?_
    rintro e w1 ⟨hp, hb1⟩
    unfold ItkP at hp
    rw [if_pos rfl] at hp
    obtain ⟨a2, cap2, rfl, hcp2, hra⟩ := hp
    dsimp only at hra hcp2 ⊢
    obtain ⟨b, off, rfl, hc⟩ : ∃ b off, a2 = some ⟨b, off, none⟩ ∧ ∀ i, i < L.length → w1.cell? ⟨b, off + i * 3, none⟩ = some (.int .i64 (kAt L i)) ∧ w1.cell? ⟨b, off + i * 3 + 1, none⟩ = some (.int .i64 (nAt L i)) ∧ w1.cell? ⟨b, off + i * 3 + 2, none⟩ = some (.string (tAt L i)) := by
      rcases hra with h | h
      · omega
      · exact h
    have HC : Hid _ := hc
    have HB1 : Hid _ := hb1
    have hz1 : w.heap.size < w1.heap.size := by have := hb1.size; simp at this; omega
    have hLp : 1 ≤ L.length := by omega
    have hLm : L.length ≤ 9223372036854775807 := by omega
    obtain ⟨g0, g1, g2⟩ := hc 0 (by omega)
    rw [Nat.zero_mul, Nat.add_zero] at g0 g1 g2
    have HH : Hid (L.headD dv = (kAt L 0, nAt L 0, tAt L 0)) := by
      show _ = _
      rw [at_val]
      cases L with
      | nil => simp at hLp
      | cons x y => rfl
    have HB0 : Hid _ := Bst.new (w1 := w1) (kAt L 0) (nAt L 0) (tAt L 0)
    clear hc hk hb1 hLl hra
    have HBq : Hid (fsP way (kAt L 0, nAt L 0, tAt L 0) (L.drop 1) = fsP way (L.headD dv) (L.drop 1) ∧ I64 (nAt L 0)) := by
      refine ⟨?_, HI.out.at 0⟩
      rw [HH.out]
    generalize kAt L 0 = k0 at *
    generalize nAt L 0 = n0 at *
    generalize tAt L 0 = t0 at *
    clear HH HL HP
    by_cases hcp1 : cap2 = 1
    · have hL1 : L.length = 1 := by omega
      have HR1 : Hid (R = ((k0, n0, t0), 0)) := by
        show _ = _
        rw [HR.out, ← HBq.out.1, List.drop_eq_nil_of_le (by omega)]; rfl
      subst hcp1
      rw [hL1] at *
      have hW0 := HB1.out
      obtain ⟨hc1, hf1⟩ := bcell hW0
      go_wp2
      refine wp_loop_rounds 1 ?_
      rw [rounds_succ]
      go_wp2
      exact bodyPost_ret (v := .tuple #[.agg #[.int .i64 k0, .int .i64 n0, .string t0], .int .i64 0]) (by simp [results, Tryz.results91, go_sem, hc1, hz1]) rfl ⟨ret_v HR1.out, (Bel.out (by repeat (first | exact Bel.refl _ | assumption | refine Bel.drew ?_ | refine Bel.drewN ?_ _ | refine Bel.alloc ?_ _ | refine Bel.setCell ?_ (by simp <;> omega) _ | refine Bel.step ?_ (by assumption))))⟩
    · have hcp3 : 2 ≤ cap2 := by omega
      clear hcp1
      go_wp2
      obtain ⟨bb, hbb⟩ : ∃ bb, bb = w1.heap.size := ⟨_, rfl⟩
      rw [← hbb] at HB0 ⊢
      generalize w1.alloc (.cells #[.int .i64 k0, .int .i64 n0, .string t0] 34) = W1 at HB0 ⊢
      clear g0 g1 g2
      go_loopw [28] (fun i wr => ∃ (m : Nat) (v : Val), m + 1 ≤ L.length ∧ i = .int .i64 m ∧ fsP way v (L.drop (m + 1)) = fsP way (L.headD dv) (L.drop 1) ∧ I64 v.2.1 ∧ Bst w1 bb v wr) (fun i _ => L.length - (intOf i).toNat)
      case atStart => exact ⟨0, (k0, n0, t0), by omega, rfl, HBq.out.1, HBq.out.2, HB0.out⟩
      case round =>
        obtain ⟨m, v, hm, rfl, hV, hvI, hB⟩ := hrel
        obtain ⟨k, n, t⟩ := v
        have HV : Hid (fsP way (k, n, t) (L.drop (m + 1)) = fsP way (L.headD dv) (L.drop 1)) := hV
        have HB : Hid (Bst w1 bb (k, n, t) wr) := hB
        have hW := hB.bel.out
        have hbl := hB.lt
        have hbg := hB.ge
        have v0 := hB.b0
        have v1 := hB.b1
        have v2 := hB.b2
        have hvf := hB.fr
        dsimp only at v0 v1 v2 hvI
        clear hV hB HB0 hbb
        rcases Nat.lt_or_ge (m + 1) L.length with hlt | hge
        · have c0 := cell_below hW (HC.out (m + 1) hlt).1
          have c1 := cell_below hW (HC.out (m + 1) hlt).2.1
          have c2 := cell_below hW (HC.out (m + 1) hlt).2.2
          have HD : Hid (L.drop (m + 1) = (kAt L (m + 1), nAt L (m + 1), tAt L (m + 1)) :: L.drop (m + 2)) := drop_at hlt
          have hxI := HI.out.at (m + 1)
          generalize kAt L (m + 1) = kx at *
          generalize nAt L (m + 1) = nx at *
          generalize tAt L (m + 1) = tx at *
          rw [show off + (m + 1) * 3 = off + 3 + m * 3 by omega] at c0 c1 c2
          have hcmp := fun w => Compare_any kx nx k n tx t w hxI.1 hxI.2 hvI.1 hvI.2
          have hm1 : (m : Int) < (L.length : Int) - 1 := by omega
          have hm2 : m < L.length - 1 := by omega
          have HF : Hid (fsP way (if cmpC kx nx tx k n t == way then (kx, nx, tx) else (k, n, t)) (L.drop (m + 2)) = fsP way (L.headD dv) (L.drop 1)) := by
            show _ = _
            rw [← HV.out, HD.out, fsP]
          generalize cmpC kx nx tx k n t = c at *
          generalize hq : (c == way) = q at HF
          cases q
          · go_wp2_with fail
            refine (hcmp _).mono ?_
            rintro e w2 ⟨rfl, hb2⟩
            have hb3 : Below wr.heap.size wr w2 := ((Below.refl _ _).alloc (Nat.le_refl _) _).trans (hb2.mono (by simp))
            go_wp2
            go_roundw
            case rel => exact ⟨m + 1, (k, n, t), by omega, by go_num, HF.out, hvI, HB.out.below hb3⟩
            case measure => simp [intOf]; omega
          · go_wp2_with fail
            refine (hcmp _).mono ?_
            rintro e w2 ⟨rfl, hb2⟩
            have hb3 : Below wr.heap.size wr w2 := ((Below.refl _ _).alloc (Nat.le_refl _) _).trans (hb2.mono (by simp))
            have HB2 : Hid _ := HB.out.below hb3
            obtain ⟨hc2, hf2⟩ := bcell hb2
            have hz2 : wr.heap.size < w2.heap.size := by have := hb2.size; simp at this; omega
            go_wp2
            go_roundw
            case rel => exact ⟨m + 1, (kx, nx, tx), by omega, by go_num, HF.out, hxI, HB2.out.set kx nx tx⟩
            case measure => simp [intOf]; omega
        · have hmL : m + 1 = L.length := by omega
          have HR1 : Hid (R = ((k, n, t), 0)) := by
            show _ = _
            rw [HR.out, ← HV.out, List.drop_eq_nil_of_le (by omega)]; rfl
          have hW0 : Below (w.alloc (.cells #[.int .i64 0, .int .i64 0, .string ⟨#[]⟩] 34)).heap.size (w.alloc (.cells #[.int .i64 0, .int .i64 0, .string ⟨#[]⟩] 34)) wr := HB1.out.trans (hW.mono HB1.out.size)
          obtain ⟨hc1, hf1⟩ := bcell hW0
          have hz2 : w.heap.size < wr.heap.size := by have := hW0.size; simp at this; omega
          have hm1 : ((m : Int) < (L.length : Int) - 1) = False := eq_false (by omega)
          have hm2 : (m < L.length - 1) = False := eq_false (by omega)
          go_wp2
          exact bodyPost_ret (v := .tuple #[.agg #[.int .i64 k, .int .i64 n, .string t], .int .i64 0]) (by simp [results, Tryz.results91, go_sem, hc1, hz2]) rfl ⟨ret_v HR1.out, (Bel.out (by repeat (first | exact Bel.refl _ | assumption | refine Bel.drew ?_ | refine Bel.drewN ?_ _ | refine Bel.alloc ?_ _ | refine Bel.setCell ?_ (by simp <;> omega) _ | refine Bel.step ?_ (by assumption))))⟩
  · have HR : Hid (R = ((0, 0, ⟨#[]⟩), er)) := by show _ = _; rw [HP.out, if_neg h0]; rfl
    have h0' : (er != 0) = true := by simpa using h0
    have HE : Hid (er ≠ 0) := h0
    clear h0
    go_enter Tryz.func91, Tryz.ntmps91
    go_wp2_with fail
    refine hk.mono ?_
    rintro e w1 ⟨hp, hb1⟩
    unfold ItkP at hp
    rw [if_neg HE.out] at hp
    subst hp
    obtain ⟨hc1, hf1⟩ := bcell hb1
    go_wp2
    exact bodyPost_ret (v := .tuple #[.agg #[.int .i64 0, .int .i64 0, .string ⟨#[]⟩], .int .i64 er]) (by simp [results, Tryz.results91, go_sem, hc1]) rfl ⟨ret_v HR.out, (Bel.out (by repeat (first | exact Bel.refl _ | assumption | refine Bel.drew ?_ | refine Bel.drewN ?_ _ | refine Bel.alloc ?_ _ | refine Bel.setCell ?_ (by simp <;> omega) _ | refine Bel.step ?_ (by assumption))))⟩
theorem greatest_any (a : Option Addr) (cap : Nat) (r : List Val) (w : World) (h1 : 1 ≤ r.length) (hlen : r.length * 32 ≤ 140737488355328) (hcap : r.length ≤ cap) (hI : IntR r) (hr : RowAt w a r) :
    Calls Tryz.prog 49 #[.slice a r.length cap] w fun e w' => e = .returned (.tuple #[.agg #[.int .i64 (farP (1) r).1.1, .int .i64 (farP (1) r).1.2.1, .string (farP (1) r).1.2.2], .int .i64 (farP (1) r).2]) ∧ Below w.heap.size w w' := by
  have hA : Below w.heap.size w (w.alloc (.cells #[.int .i64 0, .int .i64 0, .string ⟨#[]⟩] 34)) := (Below.refl _ _).alloc (Nat.le_refl _) _
  have hk := farthest_any (1) a cap r (w.alloc (.cells #[.int .i64 0, .int .i64 0, .string ⟨#[]⟩] 34)) h1 hlen hcap hI (hr.below hA)
  generalize farP (1) r = R at *
  obtain ⟨⟨k, n, t⟩, e0⟩ := R
  dsimp only at hk ⊢
  go_enter Tryz.func49, Tryz.ntmps49
  go_wp2_with fail
  refine hk.mono ?_
  rintro e w1 ⟨rfl, hb1⟩
  obtain ⟨hc1, hf1⟩ := bcell hb1
  go_wp2
  exact bodyPost_ret (v := .tuple #[.agg #[.int .i64 k, .int .i64 n, .string t], .int .i64 e0]) (by simp [results, Tryz.results49, go_sem, hc1]) rfl ⟨rfl, (Bel.out (by repeat (first | exact Bel.refl _ | assumption | refine Bel.drew ?_ | refine Bel.drewN ?_ _ | refine Bel.alloc ?_ _ | refine Bel.setCell ?_ (by simp <;> omega) _ | refine Bel.step ?_ (by assumption))))⟩
theorem least_any (a : Option Addr) (cap : Nat) (r : List Val) (w : World) (h1 : 1 ≤ r.length) (hlen : r.length * 32 ≤ 140737488355328) (hcap : r.length ≤ cap) (hI : IntR r) (hr : RowAt w a r) :
    Calls Tryz.prog 50 #[.slice a r.length cap] w fun e w' => e = .returned (.tuple #[.agg #[.int .i64 (farP (-1) r).1.1, .int .i64 (farP (-1) r).1.2.1, .string (farP (-1) r).1.2.2], .int .i64 (farP (-1) r).2]) ∧ Below w.heap.size w w' := by
  have hA : Below w.heap.size w (w.alloc (.cells #[.int .i64 0, .int .i64 0, .string ⟨#[]⟩] 34)) := (Below.refl _ _).alloc (Nat.le_refl _) _
  have hk := farthest_any (-1) a cap r (w.alloc (.cells #[.int .i64 0, .int .i64 0, .string ⟨#[]⟩] 34)) h1 hlen hcap hI (hr.below hA)
  generalize farP (-1) r = R at *
  obtain ⟨⟨k, n, t⟩, e0⟩ := R
  dsimp only at hk ⊢
  go_enter Tryz.func50, Tryz.ntmps50
  go_wp2_with fail
  refine hk.mono ?_
  rintro e w1 ⟨rfl, hb1⟩
  obtain ⟨hc1, hf1⟩ := bcell hb1
  go_wp2
  exact bodyPost_ret (v := .tuple #[.agg #[.int .i64 k, .int .i64 n, .string t], .int .i64 e0]) (by simp [results, Tryz.results50, go_sem, hc1]) rfl ⟨rfl, (Bel.out (by repeat (first | exact Bel.refl _ | assumption | refine Bel.drew ?_ | refine Bel.drewN ?_ _ | refine Bel.alloc ?_ _ | refine Bel.setCell ?_ (by simp <;> omega) _ | refine Bel.step ?_ (by assumption))))⟩

def nuiP (v u : Val) : Val × Int := if eqT v.1 v.2.1 v.2.2 u.1 u.2.1 u.2.2 == 1 then (dv, 0) else (v, 0)
theorem nullif_any (b off cap : Nat) (k n k' n' : Int) (t t' : ByteArray) (w : World) (hn : I64 n) (hn' : I64 n') (hc : w.cell? ⟨b, off, none⟩ = some (.int .i64 k) ∧ w.cell? ⟨b, off + 1, none⟩ = some (.int .i64 n) ∧ w.cell? ⟨b, off + 2, none⟩ = some (.string t)) (hd : w.cell? ⟨b, off + 3, none⟩ = some (.int .i64 k') ∧ w.cell? ⟨b, off + 4, none⟩ = some (.int .i64 n') ∧ w.cell? ⟨b, off + 5, none⟩ = some (.string t')) :
    Calls Tryz.prog 55 #[.slice (some ⟨b, off, none⟩) 2 cap] w fun e w' => e = .returned (.tuple #[.agg #[.int .i64 (nuiP (k, n, t) (k', n', t')).1.1, .int .i64 (nuiP (k, n, t) (k', n', t')).1.2.1, .string (nuiP (k, n, t) (k', n', t')).1.2.2], .int .i64 (nuiP (k, n, t) (k', n', t')).2]) ∧ Below w.heap.size w w' := by
  have hbl := cell_lt hc.1
  obtain ⟨c0, c1, c2⟩ := hc
  obtain ⟨d0, d1, d2⟩ := hd
  have hEq := fun w => Equal_any k n k' n' t t' w hn.1 hn.2 hn'.1 hn'.2
  have HP : Hid (nuiP (k, n, t) (k', n', t') = if eqT k n t k' n' t' == 1 then (dv, 0) else ((k, n, t), 0)) := rfl
  generalize nuiP (k, n, t) (k', n', t') = R at HP ⊢
  have hx2 : eqT k n t k' n' t' ≤ 2 := by unfold eqT; split; exact Nat.le_refl _; split <;> omega
  have hlg := lg_t hx2
  generalize eqT k n t k' n' t' = x at *
  have hTr : ∀ w, Calls Tryz.prog 94 #[.agg #[.int .i64 (tk x), .int .i64 (tn x), .string ⟨#[]⟩]] w fun e w' => e = .returned (.bool (x == 1)) ∧ Below w.heap.size w w' := fun w => (True_any (tk x) (tn x) ⟨#[]⟩ w).mono (fun e w' h => ⟨by rw [h.1, hlg], by rw [h.2]; exact (Below.refl _ _).alloc (Nat.le_refl _) _⟩)
  have hA0 : Below w.heap.size w (w.alloc (.cells #[.int .i64 0, .int .i64 0, .string ⟨#[]⟩] 34)) := (Below.refl _ _).alloc (Nat.le_refl _) _
  have y0 : (w.alloc (.cells #[.int .i64 0, .int .i64 0, .string ⟨#[]⟩] 34)).cell? ⟨w.heap.size, 0, none⟩ = some (.int .i64 0) := World.cell?_alloc_new _ _ _ _
  have y1 : (w.alloc (.cells #[.int .i64 0, .int .i64 0, .string ⟨#[]⟩] 34)).cell? ⟨w.heap.size, 1, none⟩ = some (.int .i64 0) := World.cell?_alloc_new _ _ _ _
  have y2 : (w.alloc (.cells #[.int .i64 0, .int .i64 0, .string ⟨#[]⟩] 34)).cell? ⟨w.heap.size, 2, none⟩ = some (.string ⟨#[]⟩) := World.cell?_alloc_new _ _ _ _
  have yf : ∀ i, (w.alloc (.cells #[.int .i64 0, .int .i64 0, .string ⟨#[]⟩] 34)).frozen? ⟨w.heap.size, i, none⟩ = false := fun _ => World.frozen?_alloc_new _ _ _ _
  have hz0 : w.heap.size < (w.alloc (.cells #[.int .i64 0, .int .i64 0, .string ⟨#[]⟩] 34)).heap.size := by simp
  clear hlg hx2
  generalize hq : (x == 1) = q at *
  have HQ : Hid _ := hq
  clear hq
  cases q
  · have HN : Hid (R = ((k, n, t), 0)) := by show _ = _; rw [HP.out]; rfl
    go_enter Tryz.func55, Tryz.ntmps55
    go_wp2
    replace c0 := cell_below hA0 c0
    replace c1 := cell_below hA0 c1
    replace c2 := cell_below hA0 c2
    replace d0 := cell_below hA0 d0
    replace d1 := cell_below hA0 d1
    replace d2 := cell_below hA0 d2
    generalize w.alloc (.cells #[.int .i64 0, .int .i64 0, .string ⟨#[]⟩] 34) = W0 at *
    have hbl2 : b < W0.heap.size := by omega
    refine wp_region_held_drew (S := (fun wS => Bel W0.heap.size W0 wS)) (by kernel_rfl) ?_ (fun hHeld => ?_)
    · (try dsimp only); exact (Bel.refl _).drew
    refine wpAnyH_take (i := 0) (oi := { dst := some 4, op := Op.move (Operand.tmp 0), type := 32, pos := "choices.go:59", after := #[], guard := none }) (v := ?_) rfl (by kernel_rfl) (by kernel_rfl) (by kernel_rfl) (fun _ _ _ h => h) (Or.inl ⟨by kernel_rfl, ?_⟩) (by assumption) ?_
    rotate_left
    · intro wS hSw; (try dsimp only at hSw); go_simp; (try with_reducible rfl)
    try simp only [Act.put, List.setIfInBounds_toArray, List.set_cons_zero, List.set_cons_succ]
    refine wpAnyH_take (i := 1) (oi := { dst := some 5, op := Op.indexAddr 32 (Operand.tmp 4) (Operand.const (Value.int IntKind.i64 0)), type := 0, pos := "choices.go:59", after := #[{ on := 0, ground := Ground.data }], guard := none }) (v := ?_) rfl (by kernel_rfl) (by kernel_rfl) (by kernel_rfl) (fun _ _ _ h => h) (Or.inl ⟨by kernel_rfl, ?_⟩) (by assumption) ?_
    rotate_left
    · intro wS hSw; (try dsimp only at hSw); go_simp; (try with_reducible rfl)
    try simp only [Act.put, List.setIfInBounds_toArray, List.set_cons_zero, List.set_cons_succ]
    refine wpAnyH_take (i := 2) (oi := { dst := some 6, op := Op.load 34 (Operand.tmp 5), type := 34, pos := "choices.go:59", after := #[{ on := 1, ground := Ground.data }], guard := none }) (v := ?_) rfl (by kernel_rfl) (by kernel_rfl) (by kernel_rfl) (fun _ _ _ h => h) (Or.inl ⟨by kernel_rfl, ?_⟩) (by assumption) ?_
    rotate_left
    · intro wS hSw; (try dsimp only at hSw); have y0 := cell_below hSw.out c0; have y1 := cell_below hSw.out c1; have y2 := cell_below hSw.out c2; have z0 := cell_below hSw.out d0; have z1 := cell_below hSw.out d1; have z2 := cell_below hSw.out d2; go_simp; (try with_reducible rfl)
    try simp only [Act.put, List.setIfInBounds_toArray, List.set_cons_zero, List.set_cons_succ]
    refine wpAnyH_take (i := 3) (oi := { dst := some 7, op := Op.move (Operand.tmp 0), type := 32, pos := "choices.go:59", after := #[], guard := none }) (v := ?_) rfl (by kernel_rfl) (by kernel_rfl) (by kernel_rfl) (fun _ _ _ h => h) (Or.inl ⟨by kernel_rfl, ?_⟩) (by assumption) ?_
    rotate_left
    · intro wS hSw; (try dsimp only at hSw); go_simp; (try with_reducible rfl)
    try simp only [Act.put, List.setIfInBounds_toArray, List.set_cons_zero, List.set_cons_succ]
    refine wpAnyH_take (i := 4) (oi := { dst := some 8, op := Op.indexAddr 32 (Operand.tmp 7) (Operand.const (Value.int IntKind.i64 1)), type := 0, pos := "choices.go:59", after := #[{ on := 3, ground := Ground.data }], guard := none }) (v := ?_) rfl (by kernel_rfl) (by kernel_rfl) (by kernel_rfl) (fun _ _ _ h => h) (Or.inl ⟨by kernel_rfl, ?_⟩) (by assumption) ?_
    rotate_left
    · intro wS hSw; (try dsimp only at hSw); go_simp; (try with_reducible rfl)
    try simp only [Act.put, List.setIfInBounds_toArray, List.set_cons_zero, List.set_cons_succ]
    refine wpAnyH_take (i := 5) (oi := { dst := some 9, op := Op.load 34 (Operand.tmp 8), type := 34, pos := "choices.go:59", after := #[{ on := 4, ground := Ground.data }], guard := none }) (v := ?_) rfl (by kernel_rfl) (by kernel_rfl) (by kernel_rfl) (fun _ _ _ h => h) (Or.inl ⟨by kernel_rfl, ?_⟩) (by assumption) ?_
    rotate_left
    · intro wS hSw; (try dsimp only at hSw); have y0 := cell_below hSw.out c0; have y1 := cell_below hSw.out c1; have y2 := cell_below hSw.out c2; have z0 := cell_below hSw.out d0; have z1 := cell_below hSw.out d1; have z2 := cell_below hSw.out d2; go_simp; (try with_reducible rfl)
    try simp only [Act.put, List.setIfInBounds_toArray, List.set_cons_zero, List.set_cons_succ]
    refine wpAnyH_ready (rs := [6]) (by kernel_rfl) (by simp) ?_
    refine AllReadyH.cons (o := { dst := some 10, op := Op.call { callee := Callee.value (Operand.func 95), args := #[Operand.tmp 6, Operand.tmp 9], argTypes := #[34, 34] }, type := 34, pos := "choices.go:59", after := #[{ on := 2, ground := Ground.data }, { on := 5, ground := Ground.data }], guard := none }) rfl (fun K hK => ?_) AllReadyH.nil
    go_simp
    refine (hEq _).mono ?_
    rintro e w1 ⟨rfl, hb1⟩
    refine hK.out _ _ ?_ (fun hH6 => ?_)
    · (try dsimp only); exact (Bel.refl _).drew.step hb1
    clear hK K
    try simp only [Act.put, List.setIfInBounds_toArray, List.set_cons_zero, List.set_cons_succ]
    refine wpAnyH_ready (rs := [7]) (by kernel_rfl) (by simp) ?_
    refine AllReadyH.cons (o := { dst := some 11, op := Op.call { callee := Callee.value (Operand.func 94), args := #[Operand.tmp 10], argTypes := #[34] }, type := 4, pos := "choices.go:59", after := #[{ on := 6, ground := Ground.data }, { on := 6, ground := Ground.chain }], guard := none }) rfl (fun K hK => ?_) AllReadyH.nil
    go_simp
    refine (hTr _).mono ?_
    rintro e w2 ⟨rfl, hb2⟩
    refine hK.out _ _ ?_ (fun hH7 => ?_)
    · (try dsimp only); exact ((Bel.refl _).drew.step hb1).step hb2
    clear hK K
    try simp only [Act.put, List.setIfInBounds_toArray, List.set_cons_zero, List.set_cons_succ]
    refine wpAnyH_done (by kernel_rfl) ?_ _
    have hb3 : Below W0.heap.size W0 w2 := (((Bel.refl W0).drew.step hb1).step hb2).out
    have hb4 : Below w.heap.size w w2 := hA0.trans (hb3.mono hA0.size)
    have hz2 : w.heap.size < w2.heap.size := by have := hb3.size; omega
    obtain ⟨hc1, hf1⟩ := bcell hb3
    clear hb1 hb2
    go_wp2
    exact bodyPost_ret (v := .tuple #[.agg #[.int .i64 k, .int .i64 n, .string t], .int .i64 0]) (by simp [results, Tryz.results55, go_sem, hc1, hz2, hz0, y0, y1, y2]) rfl ⟨ret_v HN.out, (Bel.out (by repeat (first | exact Bel.refl _ | assumption | refine Bel.drew ?_ | refine Bel.drewN ?_ _ | refine Bel.alloc ?_ _ | refine Bel.setCell ?_ (by simp <;> omega) _ | refine Bel.step ?_ (by assumption))))⟩
  · have HN : Hid (R = ((0, 0, ⟨#[]⟩), 0)) := by show _ = _; rw [HP.out]; rfl
    go_enter Tryz.func55, Tryz.ntmps55
    go_wp2
    replace c0 := cell_below hA0 c0
    replace c1 := cell_below hA0 c1
    replace c2 := cell_below hA0 c2
    replace d0 := cell_below hA0 d0
    replace d1 := cell_below hA0 d1
    replace d2 := cell_below hA0 d2
    generalize w.alloc (.cells #[.int .i64 0, .int .i64 0, .string ⟨#[]⟩] 34) = W0 at *
    have hbl2 : b < W0.heap.size := by omega
    refine wp_region_held_drew (S := (fun wS => Bel W0.heap.size W0 wS)) (by kernel_rfl) ?_ (fun hHeld => ?_)
    · (try dsimp only); exact (Bel.refl _).drew
    refine wpAnyH_take (i := 0) (oi := { dst := some 4, op := Op.move (Operand.tmp 0), type := 32, pos := "choices.go:59", after := #[], guard := none }) (v := ?_) rfl (by kernel_rfl) (by kernel_rfl) (by kernel_rfl) (fun _ _ _ h => h) (Or.inl ⟨by kernel_rfl, ?_⟩) (by assumption) ?_
    rotate_left
    · intro wS hSw; (try dsimp only at hSw); go_simp; (try with_reducible rfl)
    try simp only [Act.put, List.setIfInBounds_toArray, List.set_cons_zero, List.set_cons_succ]
    refine wpAnyH_take (i := 1) (oi := { dst := some 5, op := Op.indexAddr 32 (Operand.tmp 4) (Operand.const (Value.int IntKind.i64 0)), type := 0, pos := "choices.go:59", after := #[{ on := 0, ground := Ground.data }], guard := none }) (v := ?_) rfl (by kernel_rfl) (by kernel_rfl) (by kernel_rfl) (fun _ _ _ h => h) (Or.inl ⟨by kernel_rfl, ?_⟩) (by assumption) ?_
    rotate_left
    · intro wS hSw; (try dsimp only at hSw); go_simp; (try with_reducible rfl)
    try simp only [Act.put, List.setIfInBounds_toArray, List.set_cons_zero, List.set_cons_succ]
    refine wpAnyH_take (i := 2) (oi := { dst := some 6, op := Op.load 34 (Operand.tmp 5), type := 34, pos := "choices.go:59", after := #[{ on := 1, ground := Ground.data }], guard := none }) (v := ?_) rfl (by kernel_rfl) (by kernel_rfl) (by kernel_rfl) (fun _ _ _ h => h) (Or.inl ⟨by kernel_rfl, ?_⟩) (by assumption) ?_
    rotate_left
    · intro wS hSw; (try dsimp only at hSw); have y0 := cell_below hSw.out c0; have y1 := cell_below hSw.out c1; have y2 := cell_below hSw.out c2; have z0 := cell_below hSw.out d0; have z1 := cell_below hSw.out d1; have z2 := cell_below hSw.out d2; go_simp; (try with_reducible rfl)
    try simp only [Act.put, List.setIfInBounds_toArray, List.set_cons_zero, List.set_cons_succ]
    refine wpAnyH_take (i := 3) (oi := { dst := some 7, op := Op.move (Operand.tmp 0), type := 32, pos := "choices.go:59", after := #[], guard := none }) (v := ?_) rfl (by kernel_rfl) (by kernel_rfl) (by kernel_rfl) (fun _ _ _ h => h) (Or.inl ⟨by kernel_rfl, ?_⟩) (by assumption) ?_
    rotate_left
    · intro wS hSw; (try dsimp only at hSw); go_simp; (try with_reducible rfl)
    try simp only [Act.put, List.setIfInBounds_toArray, List.set_cons_zero, List.set_cons_succ]
    refine wpAnyH_take (i := 4) (oi := { dst := some 8, op := Op.indexAddr 32 (Operand.tmp 7) (Operand.const (Value.int IntKind.i64 1)), type := 0, pos := "choices.go:59", after := #[{ on := 3, ground := Ground.data }], guard := none }) (v := ?_) rfl (by kernel_rfl) (by kernel_rfl) (by kernel_rfl) (fun _ _ _ h => h) (Or.inl ⟨by kernel_rfl, ?_⟩) (by assumption) ?_
    rotate_left
    · intro wS hSw; (try dsimp only at hSw); go_simp; (try with_reducible rfl)
    try simp only [Act.put, List.setIfInBounds_toArray, List.set_cons_zero, List.set_cons_succ]
    refine wpAnyH_take (i := 5) (oi := { dst := some 9, op := Op.load 34 (Operand.tmp 8), type := 34, pos := "choices.go:59", after := #[{ on := 4, ground := Ground.data }], guard := none }) (v := ?_) rfl (by kernel_rfl) (by kernel_rfl) (by kernel_rfl) (fun _ _ _ h => h) (Or.inl ⟨by kernel_rfl, ?_⟩) (by assumption) ?_
    rotate_left
    · intro wS hSw; (try dsimp only at hSw); have y0 := cell_below hSw.out c0; have y1 := cell_below hSw.out c1; have y2 := cell_below hSw.out c2; have z0 := cell_below hSw.out d0; have z1 := cell_below hSw.out d1; have z2 := cell_below hSw.out d2; go_simp; (try with_reducible rfl)
    try simp only [Act.put, List.setIfInBounds_toArray, List.set_cons_zero, List.set_cons_succ]
    refine wpAnyH_ready (rs := [6]) (by kernel_rfl) (by simp) ?_
    refine AllReadyH.cons (o := { dst := some 10, op := Op.call { callee := Callee.value (Operand.func 95), args := #[Operand.tmp 6, Operand.tmp 9], argTypes := #[34, 34] }, type := 34, pos := "choices.go:59", after := #[{ on := 2, ground := Ground.data }, { on := 5, ground := Ground.data }], guard := none }) rfl (fun K hK => ?_) AllReadyH.nil
    go_simp
    refine (hEq _).mono ?_
    rintro e w1 ⟨rfl, hb1⟩
    refine hK.out _ _ ?_ (fun hH6 => ?_)
    · (try dsimp only); exact (Bel.refl _).drew.step hb1
    clear hK K
    try simp only [Act.put, List.setIfInBounds_toArray, List.set_cons_zero, List.set_cons_succ]
    refine wpAnyH_ready (rs := [7]) (by kernel_rfl) (by simp) ?_
    refine AllReadyH.cons (o := { dst := some 11, op := Op.call { callee := Callee.value (Operand.func 94), args := #[Operand.tmp 10], argTypes := #[34] }, type := 4, pos := "choices.go:59", after := #[{ on := 6, ground := Ground.data }, { on := 6, ground := Ground.chain }], guard := none }) rfl (fun K hK => ?_) AllReadyH.nil
    go_simp
    refine (hTr _).mono ?_
    rintro e w2 ⟨rfl, hb2⟩
    refine hK.out _ _ ?_ (fun hH7 => ?_)
    · (try dsimp only); exact ((Bel.refl _).drew.step hb1).step hb2
    clear hK K
    try simp only [Act.put, List.setIfInBounds_toArray, List.set_cons_zero, List.set_cons_succ]
    refine wpAnyH_done (by kernel_rfl) ?_ _
    have hb3 : Below W0.heap.size W0 w2 := (((Bel.refl W0).drew.step hb1).step hb2).out
    have hb4 : Below w.heap.size w w2 := hA0.trans (hb3.mono hA0.size)
    have hz2 : w.heap.size < w2.heap.size := by have := hb3.size; omega
    obtain ⟨hc1, hf1⟩ := bcell hb3
    clear hb1 hb2
    go_wp2
    exact bodyPost_ret (v := .tuple #[.agg #[.int .i64 0, .int .i64 0, .string ⟨#[]⟩], .int .i64 0]) (by simp [results, Tryz.results55, go_sem, hc1, hz2, hz0, y0, y1, y2]) rfl ⟨ret_v HN.out, (Bel.out (by repeat (first | exact Bel.refl _ | assumption | refine Bel.drew ?_ | refine Bel.drewN ?_ _ | refine Bel.alloc ?_ _ | refine Bel.setCell ?_ (by simp <;> omega) _ | refine Bel.step ?_ (by assumption))))⟩
end Go.Proofs.YtjphmbgennadcaaGreatDoor
