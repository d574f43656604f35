/- A tree in new memory (Copy). -/
import Derived.Test.YtcemogaacicnfaaGreatDoorCln
namespace Go.Proofs.YtcemogaacicnfaaGreatDoor
set_option maxRecDepth 20000
set_option maxHeartbeats 8000000
open Go.ChangeShapes Go.WideShapes Go.ChangeAt Go.RowKit

theorem sc_ne {w : World} {a b : Addr} {v : Value} (h : a ≠ b) : (w.setCell a v).cell? b = w.cell? b := World.cell?_setCell_other _ _ _ _ h
theorem sc_eq {w : World} {a : Addr} {u v : Value} (h : w.cell? a = some u) : (w.setCell a v).cell? a = some v := World.cell?_setCell_same _ _ _ h
/-- Five cells of a block. -/
structure Box5 (w : World) (b : Nat) (v0 v1 v2 v3 v4 : Value) : Prop where
  c0 : w.cell? ⟨b, 0, none⟩ = some v0
  c1 : w.cell? ⟨b, 1, none⟩ = some v1
  c2 : w.cell? ⟨b, 2, none⟩ = some v2
  c3 : w.cell? ⟨b, 3, none⟩ = some v3
  c4 : w.cell? ⟨b, 4, none⟩ = some v4
  f0 : w.frozen? ⟨b, 0, none⟩ = false
  f1 : w.frozen? ⟨b, 1, none⟩ = false
  f2 : w.frozen? ⟨b, 2, none⟩ = false
  f3 : w.frozen? ⟨b, 3, none⟩ = false
  f4 : w.frozen? ⟨b, 4, none⟩ = false
theorem Box5.new (w : World) (v0 v1 v2 v3 v4 : Value) (T : TypeId) : Box5 (w.alloc (.cells #[v0, v1, v2, v3, v4] T)) w.heap.size v0 v1 v2 v3 v4 := by
  refine ⟨?_, ?_, ?_, ?_, ?_, ?_, ?_, ?_, ?_, ?_⟩ <;> simp [go_sem]
theorem Box5.below {w w2 : World} {b : Nat} {v0 v1 v2 v3 v4 : Value} (h : Box5 w b v0 v1 v2 v3 v4) (hb : Below w.heap.size w w2) : Box5 w2 b v0 v1 v2 v3 v4 where
  c0 := cell_below hb h.c0
  c1 := cell_below hb h.c1
  c2 := cell_below hb h.c2
  c3 := cell_below hb h.c3
  c4 := cell_below hb h.c4
  f0 := (hb.frozen (p := ⟨b, 0, none⟩) (cell_lt h.c0)).trans h.f0
  f1 := (hb.frozen (p := ⟨b, 1, none⟩) (cell_lt h.c0)).trans h.f1
  f2 := (hb.frozen (p := ⟨b, 2, none⟩) (cell_lt h.c0)).trans h.f2
  f3 := (hb.frozen (p := ⟨b, 3, none⟩) (cell_lt h.c0)).trans h.f3
  f4 := (hb.frozen (p := ⟨b, 4, none⟩) (cell_lt h.c0)).trans h.f4
theorem Box5.drew {w : World} {b : Nat} {v0 v1 v2 v3 v4 : Value} (h : Box5 w b v0 v1 v2 v3 v4) : Box5 w.drew b v0 v1 v2 v3 v4 := h.below (Below.refl _ _).drew
theorem Box5.far {w : World} {b : Nat} {v0 v1 v2 v3 v4 : Value} (h : Box5 w b v0 v1 v2 v3 v4) (g o : Nat) (v : Value) (hg : g ≠ b) : Box5 (w.setCell ⟨g, o, none⟩ v) b v0 v1 v2 v3 v4 where
  c0 := by rw [World.cell?_setCell_far _ _ _ _ hg]; exact h.c0
  c1 := by rw [World.cell?_setCell_far _ _ _ _ hg]; exact h.c1
  c2 := by rw [World.cell?_setCell_far _ _ _ _ hg]; exact h.c2
  c3 := by rw [World.cell?_setCell_far _ _ _ _ hg]; exact h.c3
  c4 := by rw [World.cell?_setCell_far _ _ _ _ hg]; exact h.c4
  f0 := by rw [World.frozen?_setCell]; exact h.f0
  f1 := by rw [World.frozen?_setCell]; exact h.f1
  f2 := by rw [World.frozen?_setCell]; exact h.f2
  f3 := by rw [World.frozen?_setCell]; exact h.f3
  f4 := by rw [World.frozen?_setCell]; exact h.f4
theorem Box5.put4 {w : World} {b : Nat} {v0 v1 v2 v3 v4 : Value} (h : Box5 w b v0 v1 v2 v3 v4) (v : Value) : Box5 (w.setCell ⟨b, 4, none⟩ v) b v0 v1 v2 v3 v where
  c0 := by rw [sc_ne (by simp)]; exact h.c0
  c1 := by rw [sc_ne (by simp)]; exact h.c1
  c2 := by rw [sc_ne (by simp)]; exact h.c2
  c3 := by rw [sc_ne (by simp)]; exact h.c3
  c4 := sc_eq h.c4
  f0 := by rw [World.frozen?_setCell]; exact h.f0
  f1 := by rw [World.frozen?_setCell]; exact h.f1
  f2 := by rw [World.frozen?_setCell]; exact h.f2
  f3 := by rw [World.frozen?_setCell]; exact h.f3
  f4 := by rw [World.frozen?_setCell]; exact h.f4
/-- Five cells written. -/
def set5 (w : World) (g o : Nat) (v0 v1 v2 v3 v4 : Value) : World := ((((w.setCell ⟨g, o, none⟩ v0).setCell ⟨g, o + 1, none⟩ v1).setCell ⟨g, o + 2, none⟩ v2).setCell ⟨g, o + 3, none⟩ v3).setCell ⟨g, o + 4, none⟩ v4
theorem set5_far (w : World) (g o : Nat) (v0 v1 v2 v3 v4 : Value) (b j : Nat) (h : g ≠ b) : (set5 w g o v0 v1 v2 v3 v4).cell? ⟨b, j, none⟩ = w.cell? ⟨b, j, none⟩ := by
  unfold set5
  rw [World.cell?_setCell_far _ _ _ _ h, World.cell?_setCell_far _ _ _ _ h, World.cell?_setCell_far _ _ _ _ h, World.cell?_setCell_far _ _ _ _ h, World.cell?_setCell_far _ _ _ _ h]
theorem set5_off (w : World) (g o : Nat) (v0 v1 v2 v3 v4 : Value) (j : Nat) (h : j < o ∨ o + 4 < j) : (set5 w g o v0 v1 v2 v3 v4).cell? ⟨g, j, none⟩ = w.cell? ⟨g, j, none⟩ := by
  unfold set5
  have e : ∀ q, q ≤ 4 → (⟨g, o + q, none⟩ : Addr) ≠ ⟨g, j, none⟩ := fun q hq h2 => by injection h2; omega
  rw [sc_ne (e 4 (by omega)), sc_ne (e 3 (by omega)), sc_ne (e 2 (by omega)), sc_ne (e 1 (by omega))]
  exact sc_ne (e 0 (by omega))
theorem set5_at (w : World) (g o : Nat) (v0 v1 v2 v3 v4 : Value) {u0 u1 u2 u3 u4 : Value} (h0 : w.cell? ⟨g, o, none⟩ = some u0) (h1 : w.cell? ⟨g, o + 1, none⟩ = some u1) (h2 : w.cell? ⟨g, o + 2, none⟩ = some u2) (h3 : w.cell? ⟨g, o + 3, none⟩ = some u3) (h4 : w.cell? ⟨g, o + 4, none⟩ = some u4) :
    (set5 w g o v0 v1 v2 v3 v4).cell? ⟨g, o, none⟩ = some v0 ∧ (set5 w g o v0 v1 v2 v3 v4).cell? ⟨g, o + 1, none⟩ = some v1 ∧ (set5 w g o v0 v1 v2 v3 v4).cell? ⟨g, o + 2, none⟩ = some v2 ∧ (set5 w g o v0 v1 v2 v3 v4).cell? ⟨g, o + 3, none⟩ = some v3 ∧ (set5 w g o v0 v1 v2 v3 v4).cell? ⟨g, o + 4, none⟩ = some v4 := by
  unfold set5
  refine ⟨?_, ?_, ?_, ?_, ?_⟩
  · rw [sc_ne (by simp), sc_ne (by simp), sc_ne (by simp), sc_ne (by simp)]
    exact sc_eq h0
  · rw [sc_ne (by simp), sc_ne (by simp), sc_ne (by simp)]
    exact sc_eq (by rw [sc_ne (by simp)]; exact h1)
  · rw [sc_ne (by simp), sc_ne (by simp)]
    exact sc_eq (by rw [sc_ne (by simp), sc_ne (by simp)]; exact h2)
  · rw [sc_ne (by simp)]
    exact sc_eq (by rw [sc_ne (by simp), sc_ne (by simp), sc_ne (by simp)]; exact h3)
  · exact sc_eq (by rw [sc_ne (by simp), sc_ne (by simp), sc_ne (by simp), sc_ne (by simp)]; exact h4)
theorem set5_frozen (w : World) (g o : Nat) (v0 v1 v2 v3 v4 : Value) (p : Addr) : (set5 w g o v0 v1 v2 v3 v4).frozen? p = w.frozen? p := by
  unfold set5
  rw [World.frozen?_setCell, World.frozen?_setCell, World.frozen?_setCell, World.frozen?_setCell, World.frozen?_setCell]
theorem set5_below {B : Nat} {w0 w : World} (hb : Below B w0 w) (g o : Nat) (v0 v1 v2 v3 v4 : Value) (h : B ≤ g) : Below B w0 (set5 w g o v0 v1 v2 v3 v4) :=
  ((((hb.setCell (p := ⟨g, o, none⟩) h _).setCell (p := ⟨g, o + 1, none⟩) h _).setCell (p := ⟨g, o + 2, none⟩) h _).setCell (p := ⟨g, o + 3, none⟩) h _).setCell (p := ⟨g, o + 4, none⟩) h _
theorem set5_heap (w : World) (g o : Nat) (v0 v1 v2 v3 v4 : Value) (b : Nat) (h : b ≠ g) : (set5 w g o v0 v1 v2 v3 v4).heap[b]? = w.heap[b]? := by
  unfold set5
  rw [Below.heap_setCell _ _ _ _ h, Below.heap_setCell _ _ _ _ h, Below.heap_setCell _ _ _ _ h, Below.heap_setCell _ _ _ _ h, Below.heap_setCell _ _ _ _ h]
theorem set5_size (w : World) (g o : Nat) (v0 v1 v2 v3 v4 : Value) : (set5 w g o v0 v1 v2 v3 v4).heap.size = w.heap.size := by unfold set5; simp
theorem Box5.set5 {w : World} {b : Nat} {v0 v1 v2 v3 v4 : Value} (h : Box5 w b v0 v1 v2 v3 v4) (g o : Nat) (u0 u1 u2 u3 u4 : Value) (hg : g ≠ b) : Box5 (set5 w g o u0 u1 u2 u3 u4) b v0 v1 v2 v3 v4 :=
  ((((h.far g o u0 hg).far g (o + 1) u1 hg).far g (o + 2) u2 hg).far g (o + 3) u3 hg).far g (o + 4) u4 hg
/-- A row that is copied up to i. -/
def Mid (w0 w : World) (g i n : Nat) (l : List (Tr n)) : Prop := (∀ j, w.frozen? ⟨g, j, none⟩ = false) ∧ g < w.heap.size ∧ Row w g n l (fun j y s => (j < i → NdF (g + 1) w n y s) ∧ (i ≤ j → NdAt w0 n y s))
theorem Mid.step {w0 wr w3 : World} {g i n : Nat} {l : List (Tr n)} (h : Mid w0 wr g i n l) (hb : Below wr.heap.size wr w3) {y : Tr n} {s' : Option Addr} {c' : Nat} (hy : l[i]? = some y) (hF : NdF (g + 1) w3 n y s') :
    Mid w0 (set5 w3 g (i * 5) (.int .i64 (kd n y)) (.string (bsA (tx n y))) (.int .i64 (nu n y)) (.int .i64 (pl n y)) (.slice s' (ks n y).length c')) g (i + 1) n l := by
  obtain ⟨hf, hlt, hr⟩ := h
  have keep : ∀ {z : Tr n} {s : Option Addr}, NdF (g + 1) w3 n z s → NdF (g + 1) (set5 w3 g (i * 5) (.int .i64 (kd n y)) (.string (bsA (tx n y))) (.int .i64 (nu n y)) (.int .i64 (pl n y)) (.slice s' (ks n y).length c')) n z s := fun h => NdF.keep (Nat.le_refl _) (fun b hb _ => set5_heap _ _ _ _ _ _ _ _ _ (by omega)) h
  refine ⟨fun j => by rw [set5_frozen]; exact (hb.frozen (p := ⟨g, j, none⟩) hlt).trans (hf j), by rw [set5_size]; exact Nat.lt_of_lt_of_le hlt hb.size, fun j z hz => ?_⟩
  by_cases hji : j = i
  · subst hji
    rw [hy] at hz
    cases hz
    obtain ⟨s, c, ⟨c0, c1, c2, c3, c4⟩, _⟩ := hr j y hy
    exact ⟨s', c', set5_at w3 g (j * 5) _ _ _ _ _ (cell_below hb c0) (cell_below hb c1) (cell_below hb c2) (cell_below hb c3) (cell_below hb c4), fun _ => keep hF, fun h => absurd h (by omega)⟩
  · obtain ⟨s, c, ⟨c0, c1, c2, c3, c4⟩, hp, hq⟩ := hr j z hz
    refine ⟨s, c, ⟨?_, ?_, ?_, ?_, ?_⟩, fun h => keep (NdF.below hb (hp (by omega))), fun h => hq (by omega)⟩
    · rw [set5_off _ _ _ _ _ _ _ _ _ (by omega)]; exact cell_below hb c0
    · rw [set5_off _ _ _ _ _ _ _ _ _ (by omega)]; exact cell_below hb c1
    · rw [set5_off _ _ _ _ _ _ _ _ _ (by omega)]; exact cell_below hb c2
    · rw [set5_off _ _ _ _ _ _ _ _ _ (by omega)]; exact cell_below hb c3
    · rw [set5_off _ _ _ _ _ _ _ _ _ (by omega)]; exact cell_below hb c4
def CopyIH (n : Nat) (y : Tr n) : Prop := ∀ (s : Option Addr) (c : Nat) (W : World), NdAt W n y s → Calls Tryz.prog 15 #[ndV n y s c] W fun e w' => (∃ s' c', e = .returned (ndV n y s' c') ∧ NdF W.heap.size w' n y s') ∧ Below W.heap.size W w'
theorem Copy_go (n : Nat) (k : Int) (t : List UInt8) (m a : Int) (l : List (Tr n)) (ad : Addr) (c : Nat) (w : World) (hby : l.length * 64 ≤ 140737488355328) (hl : KsAt w n (some ad) l) (ih : ∀ y ∈ l, CopyIH n y) :
    Calls Tryz.prog 15 #[.agg #[.int .i64 k, .string (bsA t), .int .i64 m, .int .i64 a, .slice (some ad) l.length c]] w fun e w' => (∃ g c', e = .returned (.agg #[.int .i64 k, .string (bsA t), .int .i64 m, .int .i64 a, .slice (some ⟨g, 0, none⟩) l.length c']) ∧ w.heap.size ≤ g ∧ (∀ j, w'.frozen? ⟨g, j, none⟩ = false) ∧ Row w' g n l (fun _ y s => NdF (g + 1) w' n y s)) ∧ Below w.heap.size w w' := by
  have hA : Below w.heap.size w ((w.alloc (Obj.cells #[Value.int IntKind.i64 k, Value.string (bsA t), Value.int IntKind.i64 m, Value.int IntKind.i64 a, Value.slice (some ad) l.length c] 24)).alloc (Obj.cells #[Value.int IntKind.i64 0, Value.string { data := #[] }, Value.int IntKind.i64 0, Value.int IntKind.i64 0, Value.slice none 0 0] 24)) := ((Below.refl _ w).alloc (Nat.le_refl _) _).alloc (by simp) _
  have bA := (Box5.new w (.int .i64 k) (.string (bsA t)) (.int .i64 m) (.int .i64 a) (.slice (some ad) l.length c) 24).below ((Below.refl _ _).alloc (Nat.le_refl _) (Obj.cells #[Value.int IntKind.i64 0, Value.string { data := #[] }, Value.int IntKind.i64 0, Value.int IntKind.i64 0, Value.slice none 0 0] 24))
  have bZ := Box5.new (w.alloc (Obj.cells #[Value.int IntKind.i64 k, Value.string (bsA t), Value.int IntKind.i64 m, Value.int IntKind.i64 a, Value.slice (some ad) l.length c] 24)) (.int .i64 0) (.string ⟨#[]⟩) (.int .i64 0) (.int .i64 0) (.slice none 0 0) 24
  rw [World.size_alloc] at bZ
  have hsz : ((w.alloc (Obj.cells #[Value.int IntKind.i64 k, Value.string (bsA t), Value.int IntKind.i64 m, Value.int IntKind.i64 a, Value.slice (some ad) l.length c] 24)).alloc (Obj.cells #[Value.int IntKind.i64 0, Value.string { data := #[] }, Value.int IntKind.i64 0, Value.int IntKind.i64 0, Value.slice none 0 0] 24)).heap.size = w.heap.size + 2 := by simp
  have h1 := Clone_some n l (NdAt w n) ad c ((w.alloc (Obj.cells #[Value.int IntKind.i64 k, Value.string (bsA t), Value.int IntKind.i64 m, Value.int IntKind.i64 a, Value.slice (some ad) l.length c] 24)).alloc (Obj.cells #[Value.int IntKind.i64 0, Value.string { data := #[] }, Value.int IntKind.i64 0, Value.int IntKind.i64 0, Value.slice none 0 0] 24)) hby (KsL.mono hl hA (fun _ _ h => h))
  have HIH0 : Hid _ := ih
  have HL : Hid _ := hl
  clear ih hl
  go_enter Tryz.func15, Tryz.ntmps15
  go_wp2_with fail
  refine h1.mono ?_
  rintro e w1 ⟨⟨g, c', rfl, hg1, hg2, hfz, hrow⟩, hb1⟩
  have bA := bA.below hb1
  have bZ := bZ.below hb1
  have hB1 : Below w.heap.size w w1 := hA.trans (hb1.mono hA.size)
  have hgs : w.heap.size + 2 ≤ g := by omega
  clear h1 hb1
  have bA2 := bA.put4 (.slice (some ⟨g, 0, none⟩) l.length c')
  have bZ2 := bZ.far w.heap.size 4 (.slice (some ⟨g, 0, none⟩) l.length c') (by omega)
  have hB2 : Below w.heap.size w (w1.setCell ⟨w.heap.size, 4, none⟩ (.slice (some ⟨g, 0, none⟩) l.length c')) := hB1.setCell (p := ⟨w.heap.size, 4, none⟩) (Nat.le_refl _) _
  have HM : Hid (Mid w (w1.setCell ⟨w.heap.size, 4, none⟩ (.slice (some ⟨g, 0, none⟩) l.length c')) g 0 n l) := by
    refine ⟨fun j => by rw [World.frozen?_setCell]; exact hfz j, by simpa using hg2, fun j y hy => ?_⟩
    obtain ⟨s, cs, ⟨c0, c1, c2, c3, c4⟩, hp⟩ := hrow j y hy
    have hne : w.heap.size ≠ g := by omega
    exact ⟨s, cs, ⟨by rw [World.cell?_setCell_far _ _ _ _ hne]; exact c0, by rw [World.cell?_setCell_far _ _ _ _ hne]; exact c1, by rw [World.cell?_setCell_far _ _ _ _ hne]; exact c2, by rw [World.cell?_setCell_far _ _ _ _ hne]; exact c3, by rw [World.cell?_setCell_far _ _ _ _ hne]; exact c4⟩, fun h => absurd h (Nat.not_lt_zero _), fun _ => hp⟩
  have x4 := bA.c4
  have y4 := bA.f4
  clear hfz hrow hg2 HL
  have HA2 : Hid _ := bA2
  have HZ2 : Hid _ := bZ2
  have z4 := bA2.c4
  clear bA bZ bA2 bZ2 hsz hg1 hA hB1
  go_wp2
  generalize w1.setCell ⟨w.heap.size, 4, none⟩ (.slice (some ⟨g, 0, none⟩) l.length c') = W2 at *
  clear x4 y4
  go_loopw [12] (fun i wr => ∃ j : Nat, j ≤ l.length ∧ i = .int .i64 j ∧ Mid w wr g j n l ∧ Box5 wr w.heap.size (.int .i64 k) (.string (bsA t)) (.int .i64 m) (.int .i64 a) (.slice (some ⟨g, 0, none⟩) l.length c') ∧ Box5 wr (w.heap.size + 1) (.int .i64 0) (.string ⟨#[]⟩) (.int .i64 0) (.int .i64 0) (.slice none 0 0) ∧ Bel w.heap.size w wr) (fun i _ => l.length - (intOf i).toNat)
  case atStart => exact ⟨0, Nat.zero_le _, rfl, HM.out, HA2.out, HZ2.out, ⟨hB2, hB2.size⟩⟩
  case round =>
    obtain ⟨i, hi, rfl, hM, hbA, hbZ, HB⟩ := hrel
    have hW := HB.out
    have HMM : Hid (Mid w wr g i n l) := hM
    obtain ⟨hfz, hgl, hrow⟩ := hM
    have HFZ : Hid _ := hfz
    have HBA : Hid _ := hbA
    have HBZ : Hid _ := hbZ
    have hl63 : l.length ≤ 9223372036854775807 := by omega
    clear HM HA2 HZ2 hB2 hfz
    rcases Nat.lt_or_ge i l.length with hlt | hge
    · have gy : l[i]? = some l[i] := List.getElem?_eq_getElem hlt
      obtain ⟨s, cs, ⟨c0, c1, c2, c3, c4⟩, _, hq⟩ := hrow i _ gy
      have HP : Hid _ := NdAt.below hW (hq (Nat.le_refl _))
      have hih := HIH0.out l[i] (List.mem_of_getElem? gy) s cs
      have HGY : Hid _ := gy
      clear hrow hq hbA hbZ gy
      generalize l[i] = y at *
      have h1 := fun W (hb : Below (wr.alloc (Obj.cells #[Value.int IntKind.i64 (kd n y), Value.string (bsA (tx n y)), Value.int IntKind.i64 (nu n y), Value.int IntKind.i64 (pl n y), Value.slice s (ks n y).length cs] 24)).heap.size (wr.alloc (Obj.cells #[Value.int IntKind.i64 (kd n y), Value.string (bsA (tx n y)), Value.int IntKind.i64 (nu n y), Value.int IntKind.i64 (pl n y), Value.slice s (ks n y).length cs] 24)) W) => hih W (NdAt.below hb (NdAt.below ((Below.refl _ wr).alloc (Nat.le_refl _) _) HP.out))
      unfold ndV at h1
      have HIH : Hid _ := h1
      have HA1 : Hid (Box5 (wr.alloc (Obj.cells #[Value.int IntKind.i64 (kd n y), Value.string (bsA (tx n y)), Value.int IntKind.i64 (nu n y), Value.int IntKind.i64 (pl n y), Value.slice s (ks n y).length cs] 24)) w.heap.size (.int .i64 k) (.string (bsA t)) (.int .i64 m) (.int .i64 a) (.slice (some ⟨g, 0, none⟩) l.length c')) := HBA.out.below ((Below.refl _ wr).alloc (Nat.le_refl _) _)
      have HY1 : Hid (Box5 (wr.alloc (Obj.cells #[Value.int IntKind.i64 (kd n y), Value.string (bsA (tx n y)), Value.int IntKind.i64 (nu n y), Value.int IntKind.i64 (pl n y), Value.slice s (ks n y).length cs] 24)) wr.heap.size (.int .i64 (kd n y)) (.string (bsA (tx n y))) (.int .i64 (nu n y)) (.int .i64 (pl n y)) (.slice s (ks n y).length cs)) := Box5.new wr _ _ _ _ _ 24
      clear h1 hih
      go_wp2_with fail
      refine wp_region_held_drew (S := (fun wS => Box5 wS w.heap.size (.int .i64 k) (.string (bsA t)) (.int .i64 m) (.int .i64 a) (.slice (some ⟨g, 0, none⟩) l.length c') ∧ Box5 wS wr.heap.size (.int .i64 (kd n y)) (.string (bsA (tx n y))) (.int .i64 (nu n y)) (.int .i64 (pl n y)) (.slice s (ks n y).length cs))) (by kernel_rfl) ?_ (fun hHeld => ?_)
      · (try dsimp only); exact ⟨HA1.out.drew, HY1.out.drew⟩
      refine tk 0 (some 17) (v := ?_) rfl ?_ ?_
      rotate_left
      · intro wS hSw; (try dsimp only at hSw); go_simp; (try with_reducible rfl)
      try simp only [Act.put, List.setIfInBounds_toArray, List.set_cons_zero, List.set_cons_succ]
      refine tk 1 (some 18) (v := ?_) rfl ?_ ?_
      rotate_left
      · intro wS hSw; (try dsimp only at hSw); have z4 := hSw.1.c4; go_simp; (try with_reducible rfl)
      try simp only [Act.put, List.setIfInBounds_toArray, List.set_cons_zero, List.set_cons_succ]
      refine tk 2 (some 19) (v := ?_) rfl ?_ ?_
      rotate_left
      · intro wS hSw; (try dsimp only at hSw); go_simp; (try with_reducible rfl)
      try simp only [Act.put, List.setIfInBounds_toArray, List.set_cons_zero, List.set_cons_succ]
      refine tk 3 (some 20) (v := ?_) rfl ?_ ?_
      rotate_left
      · intro wS hSw; (try dsimp only at hSw); have q0 := hSw.2.c0; have q1 := hSw.2.c1; have q2 := hSw.2.c2; have q3 := hSw.2.c3; have q4 := hSw.2.c4; go_simp; (try with_reducible rfl)
      try simp only [Act.put, List.setIfInBounds_toArray, List.set_cons_zero, List.set_cons_succ]
      refine wpAnyH_ready (rs := [4]) (by kernel_rfl) (by simp) ?_
      refine AllReadyH.cons rfl (fun K hK => ?_) AllReadyH.nil
      go_simp
      go_at_call 15
      refine (HIH.out _ (Below.refl _ (wr.alloc (Obj.cells #[Value.int IntKind.i64 (kd n y), Value.string (bsA (tx n y)), Value.int IntKind.i64 (nu n y), Value.int IntKind.i64 (pl n y), Value.slice s (ks n y).length cs] 24))).drew).mono ?_
      rintro e w3 ⟨⟨s', cs', rfl, hF3⟩, hb3⟩
      have HF3 : Hid _ := hF3
      clear hF3
      have hX3 : Below wr.heap.size wr w3 := (((Below.refl _ wr).alloc (Nat.le_refl _) _).drew).trans (hb3.mono (by simp))
      have g0 := cell_below hX3 c0
      have g1 := cell_below hX3 c1
      have g2 := cell_below hX3 c2
      have g3 := cell_below hX3 c3
      have g4 := cell_below hX3 c4
      have e0 := (hX3.frozen (p := ⟨g, i * 5, none⟩) hgl).trans (HFZ.out (i * 5))
      have e1 := (hX3.frozen (p := ⟨g, i * 5 + 1, none⟩) hgl).trans (HFZ.out (i * 5 + 1))
      have e2 := (hX3.frozen (p := ⟨g, i * 5 + 2, none⟩) hgl).trans (HFZ.out (i * 5 + 2))
      have e3 := (hX3.frozen (p := ⟨g, i * 5 + 3, none⟩) hgl).trans (HFZ.out (i * 5 + 3))
      have e4 := (hX3.frozen (p := ⟨g, i * 5 + 4, none⟩) hgl).trans (HFZ.out (i * 5 + 4))
      refine hK.out _ _ ?_ (fun hH4 => ?_)
      · (try dsimp only); exact ⟨HA1.out.drew.below hb3, HY1.out.drew.below hb3⟩
      clear hK K
      try simp only [Act.put, List.setIfInBounds_toArray, List.set_cons_zero, List.set_cons_succ]
      refine tk 5 (some 22) (v := ?_) rfl ?_ ?_
      rotate_left
      · intro wS hSw; (try dsimp only at hSw); go_simp; (try with_reducible rfl)
      try simp only [Act.put, List.setIfInBounds_toArray, List.set_cons_zero, List.set_cons_succ]
      refine wpAnyH_ready (rs := [6]) (by kernel_rfl) (by simp) ?_
      refine AllReadyH.cons rfl (fun K hK => ?_) AllReadyH.nil
      go_simp
      skip
      refine hK.out _ _ ?_ (fun hH6 => ?_)
      · (try dsimp only); exact ⟨(HA1.out.drew.below hb3).set5 _ _ _ _ _ _ _ (by omega), (HY1.out.drew.below hb3).set5 _ _ _ _ _ _ _ (by omega)⟩
      clear hK K
      try simp only [Act.put, List.setIfInBounds_toArray, List.set_cons_zero, List.set_cons_succ]
      refine wpAnyH_done (by kernel_rfl) ?_ _
      have HN : Hid (Mid w (set5 w3 g (i * 5) (.int .i64 (kd n y)) (.string (bsA (tx n y))) (.int .i64 (nu n y)) (.int .i64 (pl n y)) (.slice s' (ks n y).length cs')) g (i + 1) n l) := Mid.step HMM.out hX3 HGY.out (NdF.keep (by simp; omega) (fun _ _ _ => rfl) HF3.out)
      have HA5 : Hid _ := (HA1.out.drew.below hb3).set5 g (i * 5) (.int .i64 (kd n y)) (.string (bsA (tx n y))) (.int .i64 (nu n y)) (.int .i64 (pl n y)) (.slice s' (ks n y).length cs') (by omega)
      have HZ5 : Hid _ := ((HBZ.out.below hX3)).set5 g (i * 5) (.int .i64 (kd n y)) (.string (bsA (tx n y))) (.int .i64 (nu n y)) (.int .i64 (pl n y)) (.slice s' (ks n y).length cs') (by omega)
      have hB5 := set5_below (hW.trans (hX3.mono hW.size)) g (i * 5) (.int .i64 (kd n y)) (.string (bsA (tx n y))) (.int .i64 (nu n y)) (.int .i64 (pl n y)) (.slice s' (ks n y).length cs') (by omega)
      go_wp2
      go_roundw
      case rel => exact ⟨i + 1, by omega, by go_num, HN.out, HA5.out, HZ5.out, ⟨hB5, hB5.size⟩⟩
      case measure => simp [intOf]; omega
    · have hRow : Row (set5 wr (w.heap.size + 1) 0 (.int .i64 k) (.string (bsA t)) (.int .i64 m) (.int .i64 a) (.slice (some ⟨g, 0, none⟩) l.length c')) g n l (fun _ y s => NdF (g + 1) (set5 wr (w.heap.size + 1) 0 (.int .i64 k) (.string (bsA t)) (.int .i64 m) (.int .i64 a) (.slice (some ⟨g, 0, none⟩) l.length c')) n y s) := by
        intro j y hy
        have hjl : j < l.length := (List.getElem?_eq_some_iff.1 hy).1
        obtain ⟨s, cs, ⟨c0, c1, c2, c3, c4⟩, hp, _⟩ := hrow j y hy
        have far : ∀ b o v, g ≤ b → wr.cell? ⟨b, o, none⟩ = some v → (set5 wr (w.heap.size + 1) 0 (.int .i64 k) (.string (bsA t)) (.int .i64 m) (.int .i64 a) (.slice (some ⟨g, 0, none⟩) l.length c')).cell? ⟨b, o, none⟩ = some v := fun b o v hb hv => by rw [set5_far _ _ _ _ _ _ _ _ _ _ (by omega)]; exact hv
        exact ⟨s, cs, ⟨far _ _ _ (Nat.le_refl _) c0, far _ _ _ (Nat.le_refl _) c1, far _ _ _ (Nat.le_refl _) c2, far _ _ _ (Nat.le_refl _) c3, far _ _ _ (Nat.le_refl _) c4⟩, NdF.keep (Nat.le_refl _) (fun b hb _ => set5_heap _ _ _ _ _ _ _ _ _ (by omega)) (hp (by omega))⟩
      have HRow : Hid _ := hRow
      have HFG : Hid (∀ j, (set5 wr (w.heap.size + 1) 0 (.int .i64 k) (.string (bsA t)) (.int .i64 m) (.int .i64 a) (.slice (some ⟨g, 0, none⟩) l.length c')).frozen? ⟨g, j, none⟩ = false) := fun j => by rw [set5_frozen]; exact HFZ.out j
      have hB5 := set5_below hW (w.heap.size + 1) 0 (.int .i64 k) (.string (bsA t)) (.int .i64 m) (.int .i64 a) (.slice (some ⟨g, 0, none⟩) l.length c') (by omega)
      obtain ⟨a0, a1, a2, a3, a4, _, _, _, _, _⟩ := hbA
      obtain ⟨z0, z1, z2, z3, z4', f0, f1, f2, f3, f4⟩ := hbZ
      clear hRow hrow
      go_wp2
      refine bodyPost_ret (v := .agg #[.int .i64 k, .string (bsA t), .int .i64 m, .int .i64 a, .slice (some ⟨g, 0, none⟩) l.length c']) (by simp [results, Tryz.results15, go_sem, z0, z1, z2, z3, z4']) rfl ⟨⟨g, ⟨c', rfl⟩, by omega, fun j => HFG.out j, HRow.out⟩, hB5⟩
theorem Copy_0 (k : Int) (t : List UInt8) (m a : Int) (c : Nat) (w : World) :
    Calls Tryz.prog 15 #[.agg #[.int .i64 k, .string (bsA t), .int .i64 m, .int .i64 a, .slice none 0 c]] w fun e w' => e = .returned (.agg #[.int .i64 k, .string (bsA t), .int .i64 m, .int .i64 a, .slice none 0 0]) ∧ Below w.heap.size w w' := by
  have hA : Below w.heap.size w ((w.alloc (Obj.cells #[Value.int IntKind.i64 k, Value.string (bsA t), Value.int IntKind.i64 m, Value.int IntKind.i64 a, Value.slice none 0 c] 24)).alloc (Obj.cells #[Value.int IntKind.i64 0, Value.string { data := #[] }, Value.int IntKind.i64 0, Value.int IntKind.i64 0, Value.slice none 0 0] 24)) := ((Below.refl _ w).alloc (Nat.le_refl _) _).alloc (by simp) _
  have bA := (Box5.new w (.int .i64 k) (.string (bsA t)) (.int .i64 m) (.int .i64 a) (.slice none 0 c) 24).below ((Below.refl _ _).alloc (Nat.le_refl _) (Obj.cells #[Value.int IntKind.i64 0, Value.string { data := #[] }, Value.int IntKind.i64 0, Value.int IntKind.i64 0, Value.slice none 0 0] 24))
  have bZ := Box5.new (w.alloc (Obj.cells #[Value.int IntKind.i64 k, Value.string (bsA t), Value.int IntKind.i64 m, Value.int IntKind.i64 a, Value.slice none 0 c] 24)) (.int .i64 0) (.string ⟨#[]⟩) (.int .i64 0) (.int .i64 0) (.slice none 0 0) 24
  rw [World.size_alloc] at bZ
  have h1 := Clone_none 0 c ((w.alloc (Obj.cells #[Value.int IntKind.i64 k, Value.string (bsA t), Value.int IntKind.i64 m, Value.int IntKind.i64 a, Value.slice none 0 c] 24)).alloc (Obj.cells #[Value.int IntKind.i64 0, Value.string { data := #[] }, Value.int IntKind.i64 0, Value.int IntKind.i64 0, Value.slice none 0 0] 24))
  go_enter Tryz.func15, Tryz.ntmps15
  go_wp2_with fail
  refine h1.mono ?_
  rintro e w1 ⟨rfl, hb1⟩
  have bA := bA.below hb1
  have bZ := bZ.below hb1
  have hB1 : Below w.heap.size w w1 := hA.trans (hb1.mono hA.size)
  clear h1 hb1
  have bA2 := bA.put4 (.slice none 0 0)
  have bZ2 := bZ.far w.heap.size 4 (.slice none 0 0) (by omega)
  have hB2 : Below w.heap.size w (w1.setCell ⟨w.heap.size, 4, none⟩ (.slice none 0 0)) := hB1.setCell (p := ⟨w.heap.size, 4, none⟩) (Nat.le_refl _) _
  have x4 := bA.c4
  have y4 := bA.f4
  have z4 := bA2.c4
  clear bA bZ hA hB1
  go_wp2
  generalize w1.setCell ⟨w.heap.size, 4, none⟩ (.slice none 0 0) = W2 at *
  clear x4 y4
  refine wp_loop_rounds 1 ?_
  rw [rounds_succ]
  have hB5 := set5_below hB2 (w.heap.size + 1) 0 (.int .i64 k) (.string (bsA t)) (.int .i64 m) (.int .i64 a) (.slice none 0 0) (by omega)
  obtain ⟨a0, a1, a2, a3, a4, _, _, _, _, _⟩ := bA2
  obtain ⟨z0, z1, z2, z3, z4', f0, f1, f2, f3, f4⟩ := bZ2
  go_wp2
  refine bodyPost_ret (v := .agg #[.int .i64 k, .string (bsA t), .int .i64 m, .int .i64 a, .slice none 0 0]) (by simp [results, Tryz.results15, go_sem, z0, z1, z2, z3, z4']) rfl ⟨rfl, hB5⟩
theorem Copy_any : ∀ (n : Nat) (x : Tr n), Wid n x → CopyIH n x
  | 0, x, _ => Empty.elim x
  | n + 1, x, hw => by
    obtain ⟨hby, hk⟩ := hw
    intro s c W hx
    have hl : KsAt W n s (ks (n + 1) x) := NdAt.kids hx
    have e63 : (ks (n + 1) x).length ≤ 9223372036854775807 := hl.1
    unfold ndV
    cases s with
    | none =>
      have h0 : ks (n + 1) x = [] := by
        rcases hl.2 with h | ⟨b, off, e, _⟩
        · exact h
        · cases e
      have h1 := Copy_0 (kd (n + 1) x) (tx (n + 1) x) (nu (n + 1) x) (pl (n + 1) x) c W
      rw [h0]
      refine h1.mono fun e w' h => ⟨⟨none, 0, h.1, ⟨e63, Or.inl h0⟩⟩, h.2⟩
    | some ad =>
      have h1 := Copy_go n (kd (n + 1) x) (tx (n + 1) x) (nu (n + 1) x) (pl (n + 1) x) (ks (n + 1) x) ad c W hby hl (fun y hy => Copy_any n y (hk y hy))
      refine h1.mono fun e w' h => ?_
      obtain ⟨⟨g, c', he, hg, hfz, hr⟩, hb⟩ := h
      refine ⟨⟨some ⟨g, 0, none⟩, c', he, e63, Or.inr ⟨g, 0, rfl, ⟨hg, rfl, hfz⟩, fun i y hi => ?_⟩⟩, hb⟩
      obtain ⟨s, cc, hc, hp⟩ := hr i y hi
      simp only [Nat.zero_add]
      exact ⟨s, cc, hc, NdF.keep (by omega) (fun _ _ _ => rfl) hp⟩
end Go.Proofs.YtcemogaacicnfaaGreatDoor
