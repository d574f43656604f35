/- What a reader needs, in one; bracketed. -/
import Derived.Test.YtcicdapccondkaaNm
namespace Go.Proofs.Ytcicdapccondkaa
open Go.ChangeShapes Go.WideShapes Go.ChangeAt Go.RowKit
set_option linter.unusedSimpArgs false
set_option maxRecDepth 20000
set_option maxHeartbeats 4000000

/-- What a need ends with. -/
def NPost (rb : Nat) (ta : Option Addr) (cap : Nat) (T : List Tt) (op : Nat) (w : World) (r : Sum Er (Tt × Nat)) (e : Ending) (w' : World) : Prop :=
  (match r with
    | .inl q => GUp q.1 q.2 e
    | .inr q => e = .returned (ttV q.1) ∧ Rdr w' rb ta cap T q.2 op) ∧ Fx rb w w'
theorem NPost.no {rb : Nat} {ta : Option Addr} {cap : Nat} {T : List Tt} {op : Nat} {w w' : World} {q : Er} {e : Ending} (h : NPost rb ta cap T op w (.inl q) e w') : GUp q.1 q.2 e ∧ Fx rb w w' := h
theorem NPost.ok {rb : Nat} {ta : Option Addr} {cap : Nat} {T : List Tt} {op : Nat} {w w' : World} {q : Tt × Nat} {e : Ending} (h : NPost rb ta cap T op w (.inr q) e w') : (e = .returned (ttV q.1) ∧ Rdr w' rb ta cap T q.2 op) ∧ Fx rb w w' := h
theorem need_any (rb : Nat) (ta : Option Addr) (cap : Nat) (T : List Tt) (i op : Nat) (k : Int) (t : List UInt8) (hk : k ≠ 0) (w : World) (hr : Rdr w rb ta cap T i op) : ∃ r, needP T k t i = some r ∧ Calls Try.prog 85 #[ptr rb, .int .i64 k, .string (bsA t)] w (NPost rb ta cap T op w r) := by
  unfold needP
  cases hb : isT (tkI T i) k [t] with
  | false =>
    refine ⟨.inl (i, 70), rfl, (need_no rb ta cap T i op k t w hr hb).mono ?_⟩
    rintro e w' ⟨h1, h2⟩
    exact ⟨h1, Fx.below h2⟩
  | true =>
    refine ⟨.inr (tkI T i, i + 1), rfl, (need_ok rb ta cap T i op k t w hr hk hb).mono ?_⟩
    rintro e w' ⟨h1, h2, h3⟩
    exact ⟨⟨h1, h2⟩, h3⟩
/-- The first step of two has an answer. -/
theorem bnd_some {α β : Type} {a : Rz α} {f : α → Nat → Rz β} {r : Sum Er (β × Nat)} (h : bnd a f = some r) : ∃ r1, a = some r1 ∧ bnd (some r1) f = some r := by
  cases a with
  | none => cases h
  | some r1 => exact ⟨r1, rfl, h⟩
theorem bracketed_any (rb : Nat) (ta : Option Addr) (cap : Nat) (T : List Tt) (E : Nat → Nat → Rz X) (hp : Reads rb ta cap T 16 E) : Reads rb ta cap T 93 (fun i op => brackP T (fun j => E j op) i) := by
  intro i op w r hop hr h
  have HH : Hid (bnd (needP T 6 [40] i) (fun _ j => bnd (E j op) fun x j => bnd (needP T 6 [41] j) fun _ j => okR x j) = some r) := h
  have HP : Hid (Reads rb ta cap T 16 E) := hp
  have hA : Below w.heap.size w (w.alloc (Obj.cells #[Value.int IntKind.i64 0, Value.string { data := #[] }, Value.int IntKind.i64 0, Value.int IntKind.i64 0, Value.slice none 0 0] 26)) := (Below.refl _ _).alloc (Nat.le_refl _) _
  have hlt := cell_lt hr.c0
  have hne : w.heap.size ≠ rb := by omega
  have HZ : Hid (Box5 (w.alloc (Obj.cells #[Value.int IntKind.i64 0, Value.string { data := #[] }, Value.int IntKind.i64 0, Value.int IntKind.i64 0, Value.slice none 0 0] 26)) w.heap.size (.int .i64 0) (.string ⟨#[]⟩) (.int .i64 0) (.int .i64 0) (.slice none 0 0)) := Box5.new w (.int .i64 0) (.string ⟨#[]⟩) (.int .i64 0) (.int .i64 0) (.slice none 0 0) 26
  have HA : Hid (Fx rb w (w.alloc (Obj.cells #[Value.int IntKind.i64 0, Value.string { data := #[] }, Value.int IntKind.i64 0, Value.int IntKind.i64 0, Value.slice none 0 0] 26))) := Fx.below hA
  obtain ⟨r1, e1, h1⟩ := need_any rb ta cap T i op 6 [40] (by decide) _ (hr.below hA)
  have HL : Hid (bnd (some r1) (fun _ j => bnd (E j op) fun x j => bnd (needP T 6 [41] j) fun _ j => okR x j) = some r) := by
    have h := HH.out
    rw [e1] at h
    exact h
  unfold ptr at h1 ⊢
  clear hr h hp hA HH e1
  go_enter Try.func93, Try.ntmps93
  go_wp2_with fail
  refine h1.mono ?_
  intro e w1 hpost
  clear h1
  cases r1 with
  | inl q =>
      obtain ⟨hG, hF⟩ := hpost.no
      unfold GUp at hG
      subst hG
      have HF : Hid _ := HA.out.trans hF
      have HRR : Hid (r = .inl q) := (Option.some.inj HL.out).symm
      clear hpost hF
      go_wp2
      exact ⟨rfl, by rw [HRR.out]; exact ⟨rfl, HF.out⟩⟩
  | inr q =>
    obtain ⟨t1, j1⟩ := q
    obtain ⟨⟨rfl, hr1⟩, hF1⟩ := hpost.ok
    dsimp only at hr1
    obtain ⟨r2, e2, hl2⟩ := bnd_some (show bnd (E j1 op) (fun x j => bnd (needP T 6 [41] j) fun _ j => okR x j) = some r from HL.out)
    have HL2 : Hid (bnd (some r2) (fun x j => bnd (needP T 6 [41] j) fun _ j => okR x j) = some r) := hl2
    have h2 := HP.out j1 op w1 r2 hop hr1 e2
    unfold ptr at h2
    have HF1 : Hid (Fx rb w w1) := HA.out.trans hF1
    have HZ1 : Hid (Box5 w1 w.heap.size (.int .i64 0) (.string ⟨#[]⟩) (.int .i64 0) (.int .i64 0) (.slice none 0 0)) := HZ.out.fx hF1 hne
    have hs1 : w.heap.size + 1 ≤ w1.heap.size := by have h := hF1.size; rw [World.size_alloc] at h; exact h
    clear hpost hF1 hr1 hl2 e2 HL HZ HA HP
    unfold ttV
    go_wp2_with fail
    refine h2.mono ?_
    intro e w2 hpost
    clear h2
    cases r2 with
    | inl q =>
      obtain ⟨hG, hF⟩ := hpost.no
      unfold GUp at hG
      subst hG
      have HF : Hid _ := HF1.out.trans hF
      have HRR : Hid (r = .inl q) := (Option.some.inj HL2.out).symm
      clear hpost hF
      go_wp2
      exact ⟨rfl, by rw [HRR.out]; exact ⟨rfl, HF.out⟩⟩
    | inr q =>
      obtain ⟨x, j⟩ := q
      obtain ⟨⟨⟨s1, c1, rfl, hx⟩, hr2⟩, hF2⟩ := hpost.ok
      dsimp only at hx hr2
      have hY : Below w2.heap.size w2 (w2.alloc (Obj.cells #[Value.int IntKind.i64 (xk x), Value.string (bsA (xt x)), Value.int IntKind.i64 (xn x), Value.int IntKind.i64 (xa x), Value.slice s1 (xl x) c1] 26)) := (Below.refl _ _).alloc (Nat.le_refl _) _
      obtain ⟨r3, e3, h3⟩ := need_any rb ta cap T j op 6 [41] (by decide) _ (hr2.below hY)
      unfold ptr at h3
      have HL3 : Hid (bnd (some r3) (fun _ j => okR x j) = some r) := by
        have h : bnd (needP T 6 [41] j) (fun _ j => okR x j) = some r := HL2.out
        rw [e3] at h
        exact h
      have HX : Hid (XAt (w.heap.size + 1) (w2.alloc (Obj.cells #[Value.int IntKind.i64 (xk x), Value.string (bsA (xt x)), Value.int IntKind.i64 (xn x), Value.int IntKind.i64 (xa x), Value.slice s1 (xl x) c1] 26)) x s1) := NdF.keep hs1 (fun b _ hb => hY.block b hb) hx
      have HB : Hid (Box5 (w2.alloc (Obj.cells #[Value.int IntKind.i64 (xk x), Value.string (bsA (xt x)), Value.int IntKind.i64 (xn x), Value.int IntKind.i64 (xa x), Value.slice s1 (xl x) c1] 26)) w2.heap.size (.int .i64 (xk x)) (.string (bsA (xt x))) (.int .i64 (xn x)) (.int .i64 (xa x)) (.slice s1 (xl x) c1)) := Box5.new w2 _ _ _ _ _ 26
      have HF2 : Hid (Fx rb w (w2.alloc (Obj.cells #[Value.int IntKind.i64 (xk x), Value.string (bsA (xt x)), Value.int IntKind.i64 (xn x), Value.int IntKind.i64 (xa x), Value.slice s1 (xl x) c1] 26))) := HF1.out.trans (hF2.trans (Fx.below hY))
      have HZ2 : Hid (Box5 (w2.alloc (Obj.cells #[Value.int IntKind.i64 (xk x), Value.string (bsA (xt x)), Value.int IntKind.i64 (xn x), Value.int IntKind.i64 (xa x), Value.slice s1 (xl x) c1] 26)) w.heap.size (.int .i64 0) (.string ⟨#[]⟩) (.int .i64 0) (.int .i64 0) (.slice none 0 0)) := (HZ1.out.fx hF2 hne).below hY
      have hn2 : w2.heap.size ≠ rb := by have h := hF2.size; omega
      have hn3 : w.heap.size ≠ w2.heap.size := by have h := hF2.size; omega
      clear hpost hx hr2 hF2 hY e3 HL2
      unfold xV nV
      go_wp2_with fail
      refine h3.mono ?_
      intro e w3 hpost
      clear h3
      cases r3 with
      | inl q =>
        obtain ⟨hG, hF⟩ := hpost.no
        unfold GUp at hG
        subst hG
        have HF : Hid _ := HF2.out.trans hF
        have HRR : Hid (r = .inl q) := (Option.some.inj HL3.out).symm
        clear hpost hF
        go_wp2
        exact ⟨rfl, by rw [HRR.out]; exact ⟨rfl, HF.out⟩⟩
      | inr q =>
        obtain ⟨t3, j3⟩ := q
        obtain ⟨⟨rfl, hr3⟩, hF3⟩ := hpost.ok
        dsimp only at hr3
        have HRR : Hid (r = .inr (x, j3)) := (Option.some.inj HL3.out).symm
        have HFin : Hid _ := PPost.put (w := w) (c := c1) (NdF.keep (Nat.le_refl _) (fun b hb hl => hF3.blk b hl (by omega)) HX.out) hr3 (HF2.out.trans hF3) hlt
        have hz := HZ2.out.fx hF3 hne
        obtain ⟨z0, z1, z2, z3, z4, f0, f1, f2, f3, f4⟩ := own5 hz (.int .i64 (xk x)) (.string (bsA (xt x))) (.int .i64 (xn x)) (.int .i64 (xa x)) (.slice s1 (xl x) c1)
        obtain ⟨d0, d1, d2, d3, d4, g0, g1, g2, g3, g4⟩ := hz
        obtain ⟨b0, b1, b2, b3, b4, _, _, _, _, _⟩ := HB.out.fx hF3 hn2
        clear hF3 hr3 HX HB HF2 HZ2 hpost HL3
        unfold ttV
        go_wp2
        refine bodyPost_ret (v := .agg #[.int .i64 (xk x), .string (bsA (xt x)), .int .i64 (xn x), .int .i64 (xa x), .slice s1 (xl x) c1]) (by unfold set5 at z0 z1 z2 z3 z4; simp [results, Try.results93, go_sem, z0, z1, z2, z3, z4]) rfl ?_
        rw [HRR.out]
        exact HFin.out
end Go.Proofs.Ytcicdapccondkaa
