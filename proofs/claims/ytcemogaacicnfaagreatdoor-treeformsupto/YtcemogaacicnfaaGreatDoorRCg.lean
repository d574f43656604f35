/- A tree in new memory, by the document (its Copy), with the room that its rows tell. -/
import Derived.Test.YtcemogaacicnfaaGreatDoorAgf
import Derived.Test.YtcemogaacicnfaaGreatDoorRSa
import Derived.Test.YtcemogaacicnfaaGreatDoorNdg
namespace Go.Proofs.YtcemogaacicnfaaGreatDoor
set_option maxRecDepth 20000
set_option maxHeartbeats 8000000
set_option linter.unusedSimpArgs false
open Go.ChangeShapes Go.WideShapes Go.ChangeAt Go.RowKit Go.Shelf

def NdFg (lo : Nat) (w : World) : (n : Nat) → Tr n → Option Addr → Nat → Prop
  | 0, _, _, _ => False
  | n + 1, x, sl, cap => (ks (n + 1) x).length ≤ 9223372036854775807 ∧ (ks (n + 1) x = [] ∨ ∃ b off, sl = some ⟨b, off, none⟩ ∧ (lo ≤ b ∧ off = 0 ∧ ∀ j, w.frozen? ⟨b, j, none⟩ = false) ∧ ∀ i (y : Tr n), (ks (n + 1) x)[i]? = some y → ∃ s c, (w.cell? ⟨b, off + i * 5, none⟩ = some (.int .i64 (kd n y)) ∧ w.cell? ⟨b, off + i * 5 + 1, none⟩ = some (.string (bsA (tx n y))) ∧ w.cell? ⟨b, off + i * 5 + 2, none⟩ = some (.int .i64 (nu n y)) ∧ w.cell? ⟨b, off + i * 5 + 3, none⟩ = some (.int .i64 (pl n y)) ∧ w.cell? ⟨b, off + i * 5 + 4, none⟩ = some (.slice s (ks n y).length c)) ∧ NdFg lo w n y s c) ∧ (ks (n + 1) x).length ≤ cap
def NdQg (q : Nat → Prop) (w : World) : (n : Nat) → Tr n → Option Addr → Nat → Prop
  | 0, _, _, _ => False
  | n + 1, x, sl, cap => (ks (n + 1) x).length ≤ 9223372036854775807 ∧ (ks (n + 1) x = [] ∨ ∃ b off, sl = some ⟨b, off, none⟩ ∧ (q b ∧ off = 0 ∧ ∀ j, w.frozen? ⟨b, j, none⟩ = false) ∧ ∀ i (y : Tr n), (ks (n + 1) x)[i]? = some y → ∃ s c, (w.cell? ⟨b, off + i * 5, none⟩ = some (.int .i64 (kd n y)) ∧ w.cell? ⟨b, off + i * 5 + 1, none⟩ = some (.string (bsA (tx n y))) ∧ w.cell? ⟨b, off + i * 5 + 2, none⟩ = some (.int .i64 (nu n y)) ∧ w.cell? ⟨b, off + i * 5 + 3, none⟩ = some (.int .i64 (pl n y)) ∧ w.cell? ⟨b, off + i * 5 + 4, none⟩ = some (.slice s (ks n y).length c)) ∧ NdQg q w n y s c) ∧ (ks (n + 1) x).length ≤ cap
theorem NdFg.g {lo : Nat} {w : World} : ∀ {n : Nat} {x : Tr n} {sl : Option Addr} {cap : Nat}, NdFg lo w n x sl cap → NdG w n x sl cap
  | 0, _, _, _, h => h
  | n + 1, x, sl, cap, h => by
    obtain ⟨hl, h, hcp⟩ := h
    refine ⟨hl, ?_, hcp⟩
    rcases h with h | ⟨b, off, e, hb, hc⟩
    · exact Or.inl h
    · refine Or.inr ⟨b, off, e, fun i y hi => ?_⟩
      obtain ⟨s, c, hcs, hp⟩ := hc i y hi
      exact ⟨s, c, hcs, NdFg.g hp⟩
theorem NdFg.keep {lo lo' : Nat} {w w' : World} (hlo : lo' ≤ lo) (hk : ∀ b, lo ≤ b → b < w.heap.size → w'.heap[b]? = w.heap[b]?) : ∀ {n : Nat} {x : Tr n} {sl : Option Addr} {cap : Nat}, NdFg lo w n x sl cap → NdFg lo' w' n x sl cap
  | 0, _, _, _, h => h
  | n + 1, x, sl, cap, h => by
    obtain ⟨hl, h, hcp⟩ := h
    refine ⟨hl, ?_, hcp⟩
    rcases h with h | ⟨b, off, e, hb, hc⟩
    · exact Or.inl h
    · cases hks : ks (n + 1) x with
      | nil => exact Or.inl rfl
      | cons y0 r =>
        have hlt : b < w.heap.size := by
          obtain ⟨s, c, ⟨c0, _⟩, _⟩ := hc 0 y0 (by rw [hks]; rfl)
          exact cell_lt c0
        have e' := hk b hb.1 hlt
        rw [← hks]
        refine Or.inr ⟨b, off, e, ⟨by omega, hb.2.1, fun j => (World.frozen?_of_block (a := ⟨b, j, none⟩) e').trans (hb.2.2 j)⟩, fun i y hi => ?_⟩
        obtain ⟨s, c, ⟨c0, c1, c2, c3, c4⟩, hp⟩ := hc i y hi
        exact ⟨s, c, ⟨cell_same c0 e', cell_same c1 e', cell_same c2 e', cell_same c3 e', cell_same c4 e'⟩, NdFg.keep hlo hk hp⟩
theorem NdQg.keep {q q' : Nat → Prop} {w w' : World} (hk : ∀ b o, q b → w.heap[b]? = some o → o.isCells = true → w'.heap[b]? = some o ∧ q' b) : ∀ {n : Nat} {x : Tr n} {sl : Option Addr} {cap : Nat}, NdQg q w n x sl cap → NdQg q' w' n x sl cap
  | 0, _, _, _, h => h
  | n + 1, x, sl, cap, h => by
    obtain ⟨hl, h, hcp⟩ := h
    refine ⟨hl, ?_, hcp⟩
    rcases h with h | ⟨b, off, e, hb, hc⟩
    · exact Or.inl h
    · cases hks : ks (n + 1) x with
      | nil => exact Or.inl rfl
      | cons y0 r =>
        obtain ⟨z, hz, hzc⟩ : ∃ z, w.heap[b]? = some z ∧ z.isCells = true := by
          obtain ⟨s, c, ⟨c0, _⟩, _⟩ := hc 0 y0 (by rw [hks]; rfl)
          exact cell_block c0
        obtain ⟨hz', hq⟩ := hk b z hb.1 hz hzc
        have e' : w'.heap[b]? = w.heap[b]? := hz'.trans hz.symm
        rw [← hks]
        refine Or.inr ⟨b, off, e, ⟨hq, hb.2.1, fun j => (World.frozen?_of_block (a := ⟨b, j, none⟩) e').trans (hb.2.2 j)⟩, fun i y hi => ?_⟩
        obtain ⟨s, c, ⟨c0, c1, c2, c3, c4⟩, hp⟩ := hc i y hi
        exact ⟨s, c, ⟨cell_same c0 e', cell_same c1 e', cell_same c2 e', cell_same c3 e', cell_same c4 e'⟩, NdQg.keep hk hp⟩
theorem NdFg.q {lo : Nat} {q : Nat → Prop} {w : World} (hq : ∀ b, lo ≤ b → b < w.heap.size → q b) : ∀ {n : Nat} {x : Tr n} {sl : Option Addr} {cap : Nat}, NdFg lo w n x sl cap → NdQg q w n x sl cap
  | 0, _, _, _, h => h
  | n + 1, x, sl, cap, h => by
    obtain ⟨hl, h, hcp⟩ := h
    refine ⟨hl, ?_, hcp⟩
    rcases h with h | ⟨b, off, e, hb, hc⟩
    · exact Or.inl h
    · cases hks : ks (n + 1) x with
      | nil => exact Or.inl rfl
      | cons y0 r =>
        have hqb : q b := by
          obtain ⟨s, c, ⟨c0, _⟩, _⟩ := hc 0 y0 (by rw [hks]; rfl)
          exact hq b hb.1 (cell_lt c0)
        rw [← hks]
        refine Or.inr ⟨b, off, e, ⟨hqb, hb.2⟩, fun i y hi => ?_⟩
        obtain ⟨s, c, hcs, hp⟩ := hc i y hi
        exact ⟨s, c, hcs, NdFg.q hq hp⟩
theorem NdQg.f {B : Nat} {q : Nat → Prop} {W : World} (hq : ∀ b, q b → B ≤ b) : ∀ {n : Nat} {x : Tr n} {s : Option Addr} {cap : Nat}, NdQg q W n x s cap → NdFg B W n x s cap
  | 0, _, _, _, h => h
  | n + 1, x, s, cap, h => by
    obtain ⟨hl, h, hcp⟩ := h
    refine ⟨hl, ?_, hcp⟩
    rcases h with h | ⟨b, off, e, hb, hc⟩
    · exact Or.inl h
    · refine Or.inr ⟨b, off, e, ⟨hq b hb.1, hb.2⟩, fun i y hi => ?_⟩
      obtain ⟨s, c, hcs, hp⟩ := hc i y hi
      exact ⟨s, c, hcs, NdQg.f hq hp⟩
theorem NdFg.below {lo : Nat} {w w' : World} (hb : Below w.heap.size w w') {n : Nat} {x : Tr n} {sl : Option Addr} {cap : Nat} (h : NdFg lo w n x sl cap) : NdFg lo w' n x sl cap := NdFg.keep (Nat.le_refl _) (fun b _ h => hb.block b h) h
def AgG (B M : Nat) (W : World) (v : Value) (A : List (Ag M)) : Prop := W.ownsRow B 24 5 v A.length (agC M A) ∧ ∀ p ∈ A, NdQg (fun b => B ≤ b ∧ v.ownBlock ≠ some b) W M p.1 p.2.1 p.2.2
/-- One more behind those that lie there. -/
theorem agg_pushg (M : Nat) (y : Tr M) (W X w1 : World) (B g cap lo : Nat) (v : Value) (A : List (Ag M)) (s' : Option Addr) (c' : Nat) (hag : AgG B M W v A) (hX : Below W.heap.size W X) (hlo : W.heap.size ≤ lo) (hF : NdFg lo X M y s' c')
    (hown1 : w1.ownsRow B 24 5 (.slice (some ⟨g, 0, none⟩) (A.length + 1) cap) (A.length + 1) (agC M A ++ ndC M (y, s', c'))) (hgrow : X.grownBy w1 v.ownBlock) (hlies : v.ownBlock = some g ∨ g = X.heap.size) (hB : B ≤ W.heap.size) :
    AgG B M w1 (.slice (some ⟨g, 0, none⟩) (A.length + 1) cap) (A ++ [(y, s', c')]) ∧ ∀ b, b < X.heap.size → v.ownBlock ≠ some b → w1.heap[b]? = X.heap[b]? := by
  obtain ⟨hown, hq⟩ := hag
  have hold : ∀ b, v.ownBlock = some b → B ≤ b ∧ b < W.heap.size := by
    intro b hb
    rcases hown.2 with ⟨h, _⟩ | ⟨g', cap', cur, h, hb', hg', _⟩
    · rw [h] at hb; cases hb
    · rw [h] at hb
      obtain rfl : g' = b := Option.some.inj hb
      exact ⟨hb', heap_lt hg'⟩
  have hgnew : ∀ b, b < X.heap.size → v.ownBlock ≠ some b → b ≠ g := fun b hb hn e => by
    subst e
    rcases hlies with h | h
    · exact hn h
    · omega
  have hall : ∀ b, b < X.heap.size → v.ownBlock ≠ some b → w1.heap[b]? = X.heap[b]? := fun b hb hn => hgrow.block b hb (fun e => hn e.symm)
  have hXs := hX.size
  refine ⟨⟨by rw [agC_snoc, List.length_append]; exact hown1, fun p hp => ?_⟩, hall⟩
  rcases List.mem_append.1 hp with hp | hp
  · refine NdQg.keep (fun b z hb hz _ => ?_) (hq p hp)
    have hlt := heap_lt hz
    refine ⟨((hall b (by omega) hb.2).trans (hX.block b hlt)).trans hz, hb.1, ?_⟩
    intro e
    obtain rfl : g = b := Option.some.inj e
    exact hgnew g (by omega) hb.2 rfl
  · simp only [List.mem_singleton] at hp
    subst hp
    have hq2 : NdQg (fun b => lo ≤ b ∧ b < X.heap.size) X M y s' c' := NdFg.q (fun b h1 h2 => ⟨h1, h2⟩) hF
    refine NdQg.keep (fun b z hb hz _ => ?_) hq2
    have hnb : v.ownBlock ≠ some b := fun e => by have := (hold b e).2; omega
    refine ⟨(hall b hb.2 hnb).trans hz, by omega, ?_⟩
    intro e
    obtain rfl : g = b := Option.some.inj e
    exact hgnew g hb.2 hnb rfl
theorem AgG.far {B M : Nat} {W : World} {v : Value} {A : List (Ag M)} (h : AgG B M W v A) (b o : Nat) (u : Value) (hb : b < B) : AgG B M (W.setCell ⟨b, o, none⟩ u) v A := by
  obtain ⟨hr, hq⟩ := h
  exact ⟨ownsRow_setCell_below hr hb u, fun p hp => NdQg.keep (fun x z hx hz _ => ⟨(Below.heap_setCell _ _ _ _ (show x ≠ b by omega)).trans hz, hx⟩) (hq p hp)⟩
theorem AgG.below {B M : Nat} {W W' : World} {v : Value} {A : List (Ag M)} (h : AgG B M W v A) (hb : Below W.heap.size W W') : AgG B M W' v A :=
  ⟨owns_below h.1 hb, fun p hp => NdQg.keep (fun x _ hx hz _ => ⟨(hb.block x (heap_lt hz)).trans hz, hx⟩) (h.2 p hp)⟩
/-- Those that lie there, as the kids of a tree in new memory. -/
theorem AgG.kidsF {B lo M : Nat} {W : World} {v : Value} {A : List (Ag M)} (h : AgG B M W v A) (hlo : lo ≤ B) (x : Tr (M + 1)) (hx : A.map (·.1) = ks (M + 1) x) (hlen : A.length ≤ 9223372036854775807) : ∃ a c, v = .slice a (ks (M + 1) x).length c ∧ NdFg lo W (M + 1) x a c := by
  obtain ⟨h, hq⟩ := h
  have h' := h
  rw [← hx, List.length_map]
  obtain ⟨hl, ⟨rfl, h0⟩ | ⟨g, cap, cur, rfl, hbg, hg, hcap, hcm, hcs, htake⟩⟩ := h
  · exact ⟨none, 0, by rw [h0], by rw [← hx]; simp [h0], Or.inl (by rw [← hx, List.length_eq_zero_iff.1 h0]; rfl), by rw [← hx]; simp [h0]⟩
  · refine ⟨some ⟨g, 0, none⟩, cap, rfl, by rw [← hx, List.length_map]; exact hlen, Or.inr ⟨g, 0, rfl, ⟨by omega, rfl, fun j => h'.frozenAt j⟩, fun i y hi => ?_⟩, by rw [← hx, List.length_map]; exact hcap⟩
    rw [← hx, List.getElem?_map] at hi
    obtain ⟨p, hp, rfl⟩ := Option.map_eq_some_iff.1 hi
    have key : ∀ r u, (ndC M p)[r]? = some u → W.cell? ⟨g, 0 + (i * 5 + r), none⟩ = some u := fun r u hr => by
      have := h'.cells (g := g) rfl _ _ (agC_at M A i p hp r u hr)
      rw [add_plain] at this
      exact this
    refine ⟨p.2.1, p.2.2, ⟨key 0 _ rfl, ?_, ?_, ?_, ?_⟩, NdQg.f (fun b hb => by have := hb.1; omega) (hq p (List.mem_of_getElem? hp))⟩
    · rw [Nat.add_assoc]; exact key 1 _ rfl
    · rw [Nat.add_assoc]; exact key 2 _ rfl
    · rw [Nat.add_assoc]; exact key 3 _ rfl
    · rw [Nat.add_assoc]; exact key 4 _ rfl
theorem Box5.grown {w w2 : World} {b : Nat} {row : Option Nat} {v0 v1 v2 v3 v4 : Value} (h : Box5 w b v0 v1 v2 v3 v4) (hg : w.grownBy w2 row) (hne : row ≠ some b) : Box5 w2 b v0 v1 v2 v3 v4 := by
  have hlt : b < w.heap.size := cell_lt h.c0
  have hb : w2.heap[b]? = w.heap[b]? := hg.block b hlt (fun e => hne e.symm)
  exact ⟨cell_same h.c0 hb, cell_same h.c1 hb, cell_same h.c2 hb, cell_same h.c3 hb, cell_same h.c4 hb, (World.frozen?_of_block (a := ⟨b, 0, none⟩) hb).trans h.f0, (World.frozen?_of_block (a := ⟨b, 1, none⟩) hb).trans h.f1, (World.frozen?_of_block (a := ⟨b, 2, none⟩) hb).trans h.f2, (World.frozen?_of_block (a := ⟨b, 3, none⟩) hb).trans h.f3, (World.frozen?_of_block (a := ⟨b, 4, none⟩) hb).trans h.f4⟩
theorem nd_cells (X : World) (n : Nat) (y : Tr n) (s' : Option Addr) (c' : Nat) : ∀ j u, (ndC n (y, s', c'))[j]? = some u → (X.alloc (Obj.cells #[Value.int IntKind.i64 (kd n y), Value.string (bsA (tx n y)), Value.int IntKind.i64 (nu n y), Value.int IntKind.i64 (pl n y), Value.slice s' (ks n y).length c'] 24)).cell? ((⟨X.heap.size, 0, none⟩ : Addr).add j) = some u := by
  intro j u hj
  obtain ⟨d0, d1, d2, d3, d4, _⟩ := Box5.new X (.int .i64 (kd n y)) (.string (bsA (tx n y))) (.int .i64 (nu n y)) (.int .i64 (pl n y)) (.slice s' (ks n y).length c') 24
  rw [add_plain, Nat.zero_add]
  match j, hj with
  | 0, hj => cases hj; exact d0
  | 1, hj => cases hj; exact d1
  | 2, hj => cases hj; exact d2
  | 3, hj => cases hj; exact d3
  | 4, hj => cases hj; exact d4
theorem RCopy_0 (k : Int) (t : List UInt8) (m a : Int) (s : Option Addr) (c : Nat) (w : World) :
    Calls Tryz.prog 7 #[.agg #[.int .i64 k, .string (bsA t), .int .i64 m, .int .i64 a, .slice s 0 c]] w fun e w' => e = .returned (.agg #[.int .i64 k, .string (bsA t), .int .i64 m, .int .i64 a, .slice none 0 0]) ∧ Below w.heap.size w w' := by
  have hA : Below w.heap.size w (((w.alloc (Obj.cells #[Value.int IntKind.i64 k, Value.string (bsA t), Value.int IntKind.i64 m, Value.int IntKind.i64 a, Value.slice s 0 c] 24)).alloc (Obj.cells #[Value.int IntKind.i64 0, Value.string { data := #[] }, Value.int IntKind.i64 0, Value.int IntKind.i64 0, Value.slice none 0 0] 24)).alloc (Obj.cells #[Value.int IntKind.i64 k, Value.string (bsA t), Value.int IntKind.i64 m, Value.int IntKind.i64 a, Value.slice none 0 0] 24)) := (((Below.refl _ w).alloc (Nat.le_refl _) _).alloc (by simp) _).alloc (by simp <;> omega) _
  have bA := ((Box5.new w (.int .i64 k) (.string (bsA t)) (.int .i64 m) (.int .i64 a) (.slice s 0 c) 24).below ((Below.refl _ _).alloc (Nat.le_refl _) (Obj.cells #[Value.int IntKind.i64 0, Value.string { data := #[] }, Value.int IntKind.i64 0, Value.int IntKind.i64 0, Value.slice none 0 0] 24))).below ((Below.refl _ _).alloc (Nat.le_refl _) (Obj.cells #[Value.int IntKind.i64 k, Value.string (bsA t), Value.int IntKind.i64 m, Value.int IntKind.i64 a, Value.slice none 0 0] 24))
  have bZ := (Box5.new (w.alloc (Obj.cells #[Value.int IntKind.i64 k, Value.string (bsA t), Value.int IntKind.i64 m, Value.int IntKind.i64 a, Value.slice s 0 c] 24)) (.int .i64 0) (.string ⟨#[]⟩) (.int .i64 0) (.int .i64 0) (.slice none 0 0) 24).below ((Below.refl _ _).alloc (Nat.le_refl _) (Obj.cells #[Value.int IntKind.i64 k, Value.string (bsA t), Value.int IntKind.i64 m, Value.int IntKind.i64 a, Value.slice none 0 0] 24))
  have bX := Box5.new ((w.alloc (Obj.cells #[Value.int IntKind.i64 k, Value.string (bsA t), Value.int IntKind.i64 m, Value.int IntKind.i64 a, Value.slice s 0 c] 24)).alloc (Obj.cells #[Value.int IntKind.i64 0, Value.string { data := #[] }, Value.int IntKind.i64 0, Value.int IntKind.i64 0, Value.slice none 0 0] 24)) (.int .i64 k) (.string (bsA t)) (.int .i64 m) (.int .i64 a) (.slice none 0 0) 24
  simp only [World.size_alloc] at bZ bX
  go_enter Tryz.func7, Tryz.ntmps7
  go_wp2
  generalize ((w.alloc (Obj.cells #[Value.int IntKind.i64 k, Value.string (bsA t), Value.int IntKind.i64 m, Value.int IntKind.i64 a, Value.slice s 0 c] 24)).alloc (Obj.cells #[Value.int IntKind.i64 0, Value.string { data := #[] }, Value.int IntKind.i64 0, Value.int IntKind.i64 0, Value.slice none 0 0] 24)).alloc (Obj.cells #[Value.int IntKind.i64 k, Value.string (bsA t), Value.int IntKind.i64 m, Value.int IntKind.i64 a, Value.slice none 0 0] 24) = W0 at *
  refine wp_loop_rounds 1 ?_
  rw [rounds_succ]
  have hB5 := set5_below hA (w.heap.size + 1) 0 (.int .i64 k) (.string (bsA t)) (.int .i64 m) (.int .i64 a) (.slice none 0 0) (by omega)
  obtain ⟨a0, a1, a2, a3, a4, _, _, _, _, _⟩ := bA
  obtain ⟨x0, x1, x2, x3, x4', _, _, _, _, _⟩ := bX
  obtain ⟨z0, z1, z2, z3, z4', f0, f1, f2, f3, f4⟩ := bZ
  go_wp2
  refine bodyPost_ret (v := .agg #[.int .i64 k, .string (bsA t), .int .i64 m, .int .i64 a, .slice none 0 0]) (by simp [results, Tryz.results7, go_sem, z0, z1, z2, z3, z4']) rfl ⟨rfl, hB5⟩
def RCgIH (n : Nat) (y : Tr n) : Prop := ∀ (s : Option Addr) (c : Nat) (W : World), NdAt W n y s → Calls Tryz.prog 7 #[ndV n y s c] W fun e w' => (∃ s' c', e = .returned (ndV n y s' c') ∧ NdFg W.heap.size w' n y s' c') ∧ Below W.heap.size W w'
theorem RCg_go (n : Nat) (k : Int) (t : List UInt8) (m a : Int) (l : List (Tr n)) (b off c : Nat) (w : World) (hby : l.length * 64 ≤ 140737488355328) (hc : ∀ i y, l[i]? = some y → ∃ s c, (w.cell? ⟨b, off + i * 5, none⟩ = some (.int .i64 (kd n y)) ∧ w.cell? ⟨b, off + i * 5 + 1, none⟩ = some (.string (bsA (tx n y))) ∧ w.cell? ⟨b, off + i * 5 + 2, none⟩ = some (.int .i64 (nu n y)) ∧ w.cell? ⟨b, off + i * 5 + 3, none⟩ = some (.int .i64 (pl n y)) ∧ w.cell? ⟨b, off + i * 5 + 4, none⟩ = some (.slice s (ks n y).length c)) ∧ NdAt w n y s) (ih : ∀ y ∈ l, RCgIH n y) :
    Calls Tryz.prog 7 #[.agg #[.int .i64 k, .string (bsA t), .int .i64 m, .int .i64 a, .slice (some ⟨b, off, none⟩) l.length c]] w fun e w' => (∃ v A, e = .returned (.agg #[.int .i64 k, .string (bsA t), .int .i64 m, .int .i64 a, v]) ∧ AgG (w.heap.size + 3) n w' v A ∧ A.map (·.1) = l) ∧ Below w.heap.size w w' := by
  have hA : Below w.heap.size w (((w.alloc (Obj.cells #[Value.int IntKind.i64 k, Value.string (bsA t), Value.int IntKind.i64 m, Value.int IntKind.i64 a, Value.slice (some ⟨b, off, none⟩) l.length c] 24)).alloc (Obj.cells #[Value.int IntKind.i64 0, Value.string { data := #[] }, Value.int IntKind.i64 0, Value.int IntKind.i64 0, Value.slice none 0 0] 24)).alloc (Obj.cells #[Value.int IntKind.i64 k, Value.string (bsA t), Value.int IntKind.i64 m, Value.int IntKind.i64 a, Value.slice none 0 0] 24)) := (((Below.refl _ w).alloc (Nat.le_refl _) _).alloc (by simp) _).alloc (by simp <;> omega) _
  have bA := ((Box5.new w (.int .i64 k) (.string (bsA t)) (.int .i64 m) (.int .i64 a) (.slice (some ⟨b, off, none⟩) l.length c) 24).below ((Below.refl _ _).alloc (Nat.le_refl _) (Obj.cells #[Value.int IntKind.i64 0, Value.string { data := #[] }, Value.int IntKind.i64 0, Value.int IntKind.i64 0, Value.slice none 0 0] 24))).below ((Below.refl _ _).alloc (Nat.le_refl _) (Obj.cells #[Value.int IntKind.i64 k, Value.string (bsA t), Value.int IntKind.i64 m, Value.int IntKind.i64 a, Value.slice none 0 0] 24))
  have bZ := (Box5.new (w.alloc (Obj.cells #[Value.int IntKind.i64 k, Value.string (bsA t), Value.int IntKind.i64 m, Value.int IntKind.i64 a, Value.slice (some ⟨b, off, none⟩) l.length c] 24)) (.int .i64 0) (.string ⟨#[]⟩) (.int .i64 0) (.int .i64 0) (.slice none 0 0) 24).below ((Below.refl _ _).alloc (Nat.le_refl _) (Obj.cells #[Value.int IntKind.i64 k, Value.string (bsA t), Value.int IntKind.i64 m, Value.int IntKind.i64 a, Value.slice none 0 0] 24))
  have bX := Box5.new ((w.alloc (Obj.cells #[Value.int IntKind.i64 k, Value.string (bsA t), Value.int IntKind.i64 m, Value.int IntKind.i64 a, Value.slice (some ⟨b, off, none⟩) l.length c] 24)).alloc (Obj.cells #[Value.int IntKind.i64 0, Value.string { data := #[] }, Value.int IntKind.i64 0, Value.int IntKind.i64 0, Value.slice none 0 0] 24)) (.int .i64 k) (.string (bsA t)) (.int .i64 m) (.int .i64 a) (.slice none 0 0) 24
  simp only [World.size_alloc] at bZ bX
  have hsz : (((w.alloc (Obj.cells #[Value.int IntKind.i64 k, Value.string (bsA t), Value.int IntKind.i64 m, Value.int IntKind.i64 a, Value.slice (some ⟨b, off, none⟩) l.length c] 24)).alloc (Obj.cells #[Value.int IntKind.i64 0, Value.string { data := #[] }, Value.int IntKind.i64 0, Value.int IntKind.i64 0, Value.slice none 0 0] 24)).alloc (Obj.cells #[Value.int IntKind.i64 k, Value.string (bsA t), Value.int IntKind.i64 m, Value.int IntKind.i64 a, Value.slice none 0 0] 24)).heap.size = w.heap.size + 3 := by simp
  have HIH0 : Hid _ := ih
  have HC : Hid _ := hc
  clear ih hc
  go_enter Tryz.func7, Tryz.ntmps7
  go_wp2
  generalize ((w.alloc (Obj.cells #[Value.int IntKind.i64 k, Value.string (bsA t), Value.int IntKind.i64 m, Value.int IntKind.i64 a, Value.slice (some ⟨b, off, none⟩) l.length c] 24)).alloc (Obj.cells #[Value.int IntKind.i64 0, Value.string { data := #[] }, Value.int IntKind.i64 0, Value.int IntKind.i64 0, Value.slice none 0 0] 24)).alloc (Obj.cells #[Value.int IntKind.i64 k, Value.string (bsA t), Value.int IntKind.i64 m, Value.int IntKind.i64 a, Value.slice none 0 0] 24) = W0 at *
  go_loopw [4] (fun i wr => ∃ (j : Nat) (sv : Option Addr) (cv : Nat) (A : List (Ag n)), j ≤ l.length ∧ i = .int .i64 j ∧ A.map (·.1) = l.take j ∧ AgG (w.heap.size + 3) n wr (.slice sv j cv) A ∧ Box5 wr w.heap.size (.int .i64 k) (.string (bsA t)) (.int .i64 m) (.int .i64 a) (.slice (some ⟨b, off, none⟩) l.length c) ∧ Box5 wr (w.heap.size + 1) (.int .i64 0) (.string ⟨#[]⟩) (.int .i64 0) (.int .i64 0) (.slice none 0 0) ∧ Box5 wr (w.heap.size + 2) (.int .i64 k) (.string (bsA t)) (.int .i64 m) (.int .i64 a) (.slice sv j cv) ∧ Bel w.heap.size w wr ∧ w.heap.size + 3 ≤ wr.heap.size) (fun i _ => l.length - (intOf i).toNat)
  case atStart => exact ⟨0, none, 0, [], Nat.zero_le _, rfl, rfl, ⟨World.ownsRow_nil _ _ _ _, fun p hp => by cases hp⟩, bA, bZ, bX, ⟨hA, hA.size⟩, by omega⟩
  case round =>
    obtain ⟨i, sv, cv, A, hi, rfl, hmap, hag, hbA, hbZ, hbX, HB, hge3⟩ := hrel
    obtain ⟨i0, hi0, hz0⟩ := Option.map_eq_some_iff.1 info24
    simp only [Prod.mk.injEq] at hz0
    obtain ⟨hz1, hzs, hz3⟩ := hz0
    have hW := HB.out
    have HBA : Hid _ := hbA
    have HBZ : Hid _ := hbZ
    have HBX : Hid _ := hbX
    have HAG : Hid _ := hag
    have hAl : A.length = i := by
      have := congrArg List.length hmap
      rw [List.length_map, List.length_take] at this
      omega
    have HAl : Hid (A.length = i) := hAl
    have HOWN : Hid (wr.ownsRow (w.heap.size + 3) 24 5 (.slice sv i cv) i (agC n A)) := by
      have h := hag.1
      rw [hAl] at h
      exact h
    clear hAl
    have HMP : Hid _ := hmap
    have hl63 : l.length ≤ 9223372036854775807 := by omega
    have x4 := hbX.c4
    have a4 := hbA.c4
    clear bA bZ bX hA hsz hag hmap
    rcases Nat.lt_or_ge i l.length with hlt | hge
    · have gy : l[i]? = some l[i] := List.getElem?_eq_getElem hlt
      obtain ⟨s, cs, ⟨c0, c1, c2, c3, c4⟩, hp⟩ := HC.out i _ gy
      have HP : Hid _ := NdAt.below hW hp
      have hih := HIH0.out l[i] (List.mem_of_getElem? gy) s cs
      have HGY : Hid _ := gy
      clear hbA hbZ hbX gy hp
      generalize l[i] = y at *
      have h1 := fun W (hb : Below wr.heap.size wr W) => hih W (NdAt.below hb HP.out)
      unfold ndV at h1
      have HIH : Hid _ := h1
      clear h1 hih
      go_wp2_with fail
      clear a4
      refine wp_region_held_drew (S := (fun wS => Box5 wS w.heap.size (.int .i64 k) (.string (bsA t)) (.int .i64 m) (.int .i64 a) (.slice (some ⟨b, off, none⟩) l.length c) ∧ Bel w.heap.size w wS)) (by kernel_rfl) ?_ (fun hHeld => ?_)
      · (try dsimp only); exact ⟨HBA.out.drew, HB.drew⟩
      refine tk 0 (some 14) (v := ?_) rfl ?_ ?_
      rotate_left
      · intro wS hSw; (try dsimp only at hSw); go_simp; (try with_reducible rfl)
      try simp only [Act.put, List.setIfInBounds_toArray, List.set_cons_zero, List.set_cons_succ]
      refine tk 2 (some 16) (v := ?_) rfl ?_ ?_
      rotate_left
      · intro wS hSw; (try dsimp only at hSw); go_simp; (try with_reducible rfl)
      try simp only [Act.put, List.setIfInBounds_toArray, List.set_cons_zero, List.set_cons_succ]
      refine tk 3 (some 17) (v := ?_) rfl ?_ ?_
      rotate_left
      · intro wS hSw; (try dsimp only at hSw); have z4 := hSw.1.c4; go_simp; (try with_reducible rfl)
      try simp only [Act.put, List.setIfInBounds_toArray, List.set_cons_zero, List.set_cons_succ]
      refine tk 4 (some 18) (v := ?_) rfl ?_ ?_
      rotate_left
      · intro wS hSw; (try dsimp only at hSw); go_simp; (try with_reducible rfl)
      try simp only [Act.put, List.setIfInBounds_toArray, List.set_cons_zero, List.set_cons_succ]
      refine tk 5 (some 19) (v := ?_) rfl ?_ ?_
      rotate_left
      · intro wS hSw; (try dsimp only at hSw); go_simp; (try with_reducible rfl)
      try simp only [Act.put, List.setIfInBounds_toArray, List.set_cons_zero, List.set_cons_succ]
      refine tk 6 (some 20) (v := ?_) rfl ?_ ?_
      rotate_left
      · intro wS hSw; (try dsimp only at hSw); have q0 := cell_below hSw.2.out c0; have q1 := cell_below hSw.2.out c1; have q2 := cell_below hSw.2.out c2; have q3 := cell_below hSw.2.out c3; have q4 := cell_below hSw.2.out c4; go_simp; (try with_reducible rfl)
      try simp only [Act.put, List.setIfInBounds_toArray, List.set_cons_zero, List.set_cons_succ]
      refine wpAnyH_ready (rs := [1, 7]) (by kernel_rfl) (by simp) ?_
      refine AllReadyH.cons rfl (fun K hK => ?_) ?_
      · go_simp
        refine hK.out _ _ ?_ (fun hH1 => ?_)
        · (try dsimp only); exact ⟨HBA.out.drew, HB.drew⟩
        clear hK K
        try simp only [Act.put, List.setIfInBounds_toArray, List.set_cons_zero, List.set_cons_succ]
        refine wpAnyH_ready (rs := [7]) (by kernel_rfl) (by simp) ?_
        refine AllReadyH.cons rfl (fun K hK => ?_) AllReadyH.nil
        go_simp
        go_at_call 7
        refine (HIH.out _ (Below.refl _ wr).drew).mono ?_
        rintro e w3 ⟨⟨s', c', rfl, hF3⟩, hb3⟩
        have HF3 : Hid _ := hF3
        have hX3 : Below wr.heap.size wr w3 := (Below.refl _ wr).drew.trans (hb3.mono (by simp))
        have HA3 : Hid _ := HBA.out.below hX3
        have HB3 : Bel w.heap.size w w3 := HB.step hX3
        have x4 := cell_below hX3 x4
        clear hF3
        refine hK.out _ _ ?_ (fun hH7 => ?_)
        · (try dsimp only); exact ⟨HA3.out, HB3⟩
        clear hK K
        try simp only [Act.put, List.setIfInBounds_toArray, List.set_cons_zero, List.set_cons_succ]
        refine wpAnyH_ready (rs := [8]) (by kernel_rfl) (by simp) ?_
        refine AllReadyH.cons rfl (fun K hK => ?_) AllReadyH.nil
        go_simp
        refine hK.out _ _ ?_ (fun hH8 => ?_)
        · (try dsimp only); exact ⟨HA3.out.below ((Below.refl _ w3).alloc (Nat.le_refl _) _), HB3.alloc _⟩
        clear hK K
        try simp only [Act.put, List.setIfInBounds_toArray, List.set_cons_zero, List.set_cons_succ]
        have x4 := cell_below ((Below.refl _ w3).alloc (Nat.le_refl _) (Obj.cells #[Value.int IntKind.i64 (kd n y), Value.string (bsA (tx n y)), Value.int IntKind.i64 (nu n y), Value.int IntKind.i64 (pl n y), Value.slice s' (ks n y).length c'] 24)) x4
        refine wpAnyH_ready (rs := [9]) (by kernel_rfl) (by simp) ?_
        refine AllReadyH.cons rfl (fun K hK => ?_) AllReadyH.nil
        refine step_append_lies (w3.alloc (Obj.cells #[Value.int IntKind.i64 (kd n y), Value.string (bsA (tx n y)), Value.int IntKind.i64 (nu n y), Value.int IntKind.i64 (pl n y), Value.slice s' (ks n y).length c'] 24)) rfl _ _ 22 rfl (w.heap.size + 3) 24 i0 (.agg #[.int .i64 0, .string ⟨#[]⟩, .int .i64 0, .int .i64 0, .slice none 0 0]) 5 64 Tryz.underlying22 hi0 hz1 hzs hz3 rfl (by decide) _ i (agC n A) rfl (owns_below (owns_below HOWN.out hX3) ((Below.refl _ _).alloc (Nat.le_refl _) _)) ⟨w3.heap.size, 0, none⟩ 1 1 (ndC n (y, s', c')) rfl rfl (nd_cells w3 n y s' c') (by intro u hu; simp only [ndC, List.mem_cons, List.not_mem_nil, or_false] at hu; rcases hu with rfl | rfl | rfl | rfl | rfl <;> rfl) (by omega) (by unfold maxLen; omega) (by omega) (by have := hX3.size; simp; omega) _ rfl ?_
        intro g cap w1 hown1 hgrow1 hlies hg1
        have hX4 : Below wr.heap.size wr (w3.alloc (Obj.cells #[Value.int IntKind.i64 (kd n y), Value.string (bsA (tx n y)), Value.int IntKind.i64 (nu n y), Value.int IntKind.i64 (pl n y), Value.slice s' (ks n y).length c'] 24)) := hX3.alloc hX3.size _
        have hob : ∀ q, (Value.slice sv i cv).ownBlock = some q → w.heap.size + 3 ≤ q := fun q hq => by
          rcases HAG.out.1.2 with ⟨h, _⟩ | ⟨g', cap', cur, h, hb', _⟩
          · rw [h] at hq; cases hq
          · rw [h] at hq
            obtain rfl : g' = q := Option.some.inj hq
            exact hb'
        have HA9 : Hid _ := (HBA.out.below hX4).grown hgrow1 (fun e => by have := hob _ e; omega)
        have HZ9 : Hid _ := (HBZ.out.below hX4).grown hgrow1 (fun e => by have := hob _ e; omega)
        have hX9 := (HBX.out.below hX4).grown hgrow1 (fun e => by have := hob _ e; omega)
        have HB9 : Bel w.heap.size w w1 := ⟨((hW.trans (hX4.mono hW.size))).grown hgrow1 (by have := hW.size; have := hX4.size; omega) (fun q hq => by have := hob q hq; omega), by have := hW.size; have := hX4.size; have := hgrow1.size; omega⟩
        obtain ⟨hag9, _⟩ := agg_pushg n y wr (w3.alloc (Obj.cells #[Value.int IntKind.i64 (kd n y), Value.string (bsA (tx n y)), Value.int IntKind.i64 (nu n y), Value.int IntKind.i64 (pl n y), Value.slice s' (ks n y).length c'] 24)) w1 (w.heap.size + 3) g cap wr.heap.size _ A s' c' HAG.out hX4 (Nat.le_refl _) (NdFg.below ((Below.refl _ w3).alloc (Nat.le_refl _) _) (NdFg.keep (by simp) (fun _ _ _ => rfl) HF3.out)) (by rw [HAl.out]; exact hown1) hgrow1 hlies hge3
        rw [HAl.out] at hag9
        have HAG9 : Hid _ := hag9
        have x9 := hX9.c4
        have y9 := hX9.f4
        have hws : w.heap.size + 3 ≤ w1.heap.size := by have := hX4.size; have := hgrow1.size; omega
        have HX9 : Hid _ := hX9
        clear hag9 hX9 hown1
        refine hK.out _ _ ?_ (fun hH9 => ?_)
        · (try dsimp only); exact ⟨HA9.out, HB9⟩
        clear hK K
        try simp only [Act.put, List.setIfInBounds_toArray, List.set_cons_zero, List.set_cons_succ]
        refine tk 10 (some 24) (v := ?_) rfl ?_ ?_
        rotate_left
        · intro wS hSw; (try dsimp only at hSw); go_simp; (try with_reducible rfl)
        try simp only [Act.put, List.setIfInBounds_toArray, List.set_cons_zero, List.set_cons_succ]
        refine wpAnyH_ready (rs := [11]) (by kernel_rfl) (by simp) ?_
        refine AllReadyH.cons rfl (fun K hK => ?_) AllReadyH.nil
        go_simp
        refine hK.out _ _ ?_ (fun hH11 => ?_)
        · (try dsimp only); exact ⟨HA9.out.far _ _ _ (by omega), HB9.setCell (p := ⟨w.heap.size + 1 + 1, 4, none⟩) (by simp <;> omega) _⟩
        clear hK K
        try simp only [Act.put, List.setIfInBounds_toArray, List.set_cons_zero, List.set_cons_succ]
        refine wpAnyH_done (by kernel_rfl) ?_ _
        have HE : Hid _ := AgG.far (M := n) (A := A ++ [(y, s', c')]) HAG9.out (w.heap.size + 2) 4 (.slice (some ⟨g, 0, none⟩) (i + 1) cap) (by omega)
        go_wp2
        go_roundw
        case rel => exact ⟨i + 1, some ⟨g, 0, none⟩, cap, A ++ [(y, s', c')], by omega, by go_num, by rw [List.map_append, HMP.out, List.map_singleton, List.take_add_one, HGY.out]; rfl, HE.out, HA9.out.far _ _ _ (by omega), HZ9.out.far _ _ _ (by omega), by simpa using HX9.out.put4 _, HB9.setCell (p := ⟨w.heap.size + 1 + 1, 4, none⟩) (by simp <;> omega) _, by simpa using hws⟩
        case measure => simp [intOf]; omega
      refine AllReadyH.cons rfl (fun K hK => ?_) AllReadyH.nil
      go_simp
      go_at_call 7
      refine (HIH.out _ (Below.refl _ wr).drew).mono ?_
      rintro e w3 ⟨⟨s', c', rfl, hF3⟩, hb3⟩
      have HF3 : Hid _ := hF3
      have hX3 : Below wr.heap.size wr w3 := (Below.refl _ wr).drew.trans (hb3.mono (by simp))
      have HA3 : Hid _ := HBA.out.below hX3
      have HB3 : Bel w.heap.size w w3 := HB.step hX3
      have x4 := cell_below hX3 x4
      clear hF3
      refine hK.out _ _ ?_ (fun hH7 => ?_)
      · (try dsimp only); exact ⟨HA3.out, HB3⟩
      clear hK K
      try simp only [Act.put, List.setIfInBounds_toArray, List.set_cons_zero, List.set_cons_succ]
      refine wpAnyH_ready (rs := [1, 8]) (by kernel_rfl) (by simp) ?_
      refine AllReadyH.cons rfl (fun K hK => ?_) ?_
      · go_simp
        refine hK.out _ _ ?_ (fun hH1 => ?_)
        · (try dsimp only); exact ⟨HA3.out, HB3⟩
        clear hK K
        try simp only [Act.put, List.setIfInBounds_toArray, List.set_cons_zero, List.set_cons_succ]
        refine wpAnyH_ready (rs := [8]) (by kernel_rfl) (by simp) ?_
        refine AllReadyH.cons rfl (fun K hK => ?_) AllReadyH.nil
        go_simp
        refine hK.out _ _ ?_ (fun hH8 => ?_)
        · (try dsimp only); exact ⟨HA3.out.below ((Below.refl _ w3).alloc (Nat.le_refl _) _), HB3.alloc _⟩
        clear hK K
        try simp only [Act.put, List.setIfInBounds_toArray, List.set_cons_zero, List.set_cons_succ]
        have x4 := cell_below ((Below.refl _ w3).alloc (Nat.le_refl _) (Obj.cells #[Value.int IntKind.i64 (kd n y), Value.string (bsA (tx n y)), Value.int IntKind.i64 (nu n y), Value.int IntKind.i64 (pl n y), Value.slice s' (ks n y).length c'] 24)) x4
        refine wpAnyH_ready (rs := [9]) (by kernel_rfl) (by simp) ?_
        refine AllReadyH.cons rfl (fun K hK => ?_) AllReadyH.nil
        refine step_append_lies (w3.alloc (Obj.cells #[Value.int IntKind.i64 (kd n y), Value.string (bsA (tx n y)), Value.int IntKind.i64 (nu n y), Value.int IntKind.i64 (pl n y), Value.slice s' (ks n y).length c'] 24)) rfl _ _ 22 rfl (w.heap.size + 3) 24 i0 (.agg #[.int .i64 0, .string ⟨#[]⟩, .int .i64 0, .int .i64 0, .slice none 0 0]) 5 64 Tryz.underlying22 hi0 hz1 hzs hz3 rfl (by decide) _ i (agC n A) rfl (owns_below (owns_below HOWN.out hX3) ((Below.refl _ _).alloc (Nat.le_refl _) _)) ⟨w3.heap.size, 0, none⟩ 1 1 (ndC n (y, s', c')) rfl rfl (nd_cells w3 n y s' c') (by intro u hu; simp only [ndC, List.mem_cons, List.not_mem_nil, or_false] at hu; rcases hu with rfl | rfl | rfl | rfl | rfl <;> rfl) (by omega) (by unfold maxLen; omega) (by omega) (by have := hX3.size; simp; omega) _ rfl ?_
        intro g cap w1 hown1 hgrow1 hlies hg1
        have hX4 : Below wr.heap.size wr (w3.alloc (Obj.cells #[Value.int IntKind.i64 (kd n y), Value.string (bsA (tx n y)), Value.int IntKind.i64 (nu n y), Value.int IntKind.i64 (pl n y), Value.slice s' (ks n y).length c'] 24)) := hX3.alloc hX3.size _
        have hob : ∀ q, (Value.slice sv i cv).ownBlock = some q → w.heap.size + 3 ≤ q := fun q hq => by
          rcases HAG.out.1.2 with ⟨h, _⟩ | ⟨g', cap', cur, h, hb', _⟩
          · rw [h] at hq; cases hq
          · rw [h] at hq
            obtain rfl : g' = q := Option.some.inj hq
            exact hb'
        have HA9 : Hid _ := (HBA.out.below hX4).grown hgrow1 (fun e => by have := hob _ e; omega)
        have HZ9 : Hid _ := (HBZ.out.below hX4).grown hgrow1 (fun e => by have := hob _ e; omega)
        have hX9 := (HBX.out.below hX4).grown hgrow1 (fun e => by have := hob _ e; omega)
        have HB9 : Bel w.heap.size w w1 := ⟨((hW.trans (hX4.mono hW.size))).grown hgrow1 (by have := hW.size; have := hX4.size; omega) (fun q hq => by have := hob q hq; omega), by have := hW.size; have := hX4.size; have := hgrow1.size; omega⟩
        obtain ⟨hag9, _⟩ := agg_pushg n y wr (w3.alloc (Obj.cells #[Value.int IntKind.i64 (kd n y), Value.string (bsA (tx n y)), Value.int IntKind.i64 (nu n y), Value.int IntKind.i64 (pl n y), Value.slice s' (ks n y).length c'] 24)) w1 (w.heap.size + 3) g cap wr.heap.size _ A s' c' HAG.out hX4 (Nat.le_refl _) (NdFg.below ((Below.refl _ w3).alloc (Nat.le_refl _) _) (NdFg.keep (by simp) (fun _ _ _ => rfl) HF3.out)) (by rw [HAl.out]; exact hown1) hgrow1 hlies hge3
        rw [HAl.out] at hag9
        have HAG9 : Hid _ := hag9
        have x9 := hX9.c4
        have y9 := hX9.f4
        have hws : w.heap.size + 3 ≤ w1.heap.size := by have := hX4.size; have := hgrow1.size; omega
        have HX9 : Hid _ := hX9
        clear hag9 hX9 hown1
        refine hK.out _ _ ?_ (fun hH9 => ?_)
        · (try dsimp only); exact ⟨HA9.out, HB9⟩
        clear hK K
        try simp only [Act.put, List.setIfInBounds_toArray, List.set_cons_zero, List.set_cons_succ]
        refine tk 10 (some 24) (v := ?_) rfl ?_ ?_
        rotate_left
        · intro wS hSw; (try dsimp only at hSw); go_simp; (try with_reducible rfl)
        try simp only [Act.put, List.setIfInBounds_toArray, List.set_cons_zero, List.set_cons_succ]
        refine wpAnyH_ready (rs := [11]) (by kernel_rfl) (by simp) ?_
        refine AllReadyH.cons rfl (fun K hK => ?_) AllReadyH.nil
        go_simp
        refine hK.out _ _ ?_ (fun hH11 => ?_)
        · (try dsimp only); exact ⟨HA9.out.far _ _ _ (by omega), HB9.setCell (p := ⟨w.heap.size + 1 + 1, 4, none⟩) (by simp <;> omega) _⟩
        clear hK K
        try simp only [Act.put, List.setIfInBounds_toArray, List.set_cons_zero, List.set_cons_succ]
        refine wpAnyH_done (by kernel_rfl) ?_ _
        have HE : Hid _ := AgG.far (M := n) (A := A ++ [(y, s', c')]) HAG9.out (w.heap.size + 2) 4 (.slice (some ⟨g, 0, none⟩) (i + 1) cap) (by omega)
        go_wp2
        go_roundw
        case rel => exact ⟨i + 1, some ⟨g, 0, none⟩, cap, A ++ [(y, s', c')], by omega, by go_num, by rw [List.map_append, HMP.out, List.map_singleton, List.take_add_one, HGY.out]; rfl, HE.out, HA9.out.far _ _ _ (by omega), HZ9.out.far _ _ _ (by omega), by simpa using HX9.out.put4 _, HB9.setCell (p := ⟨w.heap.size + 1 + 1, 4, none⟩) (by simp <;> omega) _, by simpa using hws⟩
        case measure => simp [intOf]; omega
      refine AllReadyH.cons rfl (fun K hK => ?_) AllReadyH.nil
      go_simp
      refine hK.out _ _ ?_ (fun hH8 => ?_)
      · (try dsimp only); exact ⟨HA3.out.below ((Below.refl _ w3).alloc (Nat.le_refl _) _), HB3.alloc _⟩
      clear hK K
      try simp only [Act.put, List.setIfInBounds_toArray, List.set_cons_zero, List.set_cons_succ]
      have x4 := cell_below ((Below.refl _ w3).alloc (Nat.le_refl _) (Obj.cells #[Value.int IntKind.i64 (kd n y), Value.string (bsA (tx n y)), Value.int IntKind.i64 (nu n y), Value.int IntKind.i64 (pl n y), Value.slice s' (ks n y).length c'] 24)) x4
      refine wpAnyH_ready (rs := [1]) (by kernel_rfl) (by simp) ?_
      refine AllReadyH.cons rfl (fun K hK => ?_) AllReadyH.nil
      go_simp
      refine hK.out _ _ ?_ (fun hH1 => ?_)
      · (try dsimp only); exact ⟨HA3.out.below ((Below.refl _ w3).alloc (Nat.le_refl _) _), HB3.alloc _⟩
      clear hK K
      try simp only [Act.put, List.setIfInBounds_toArray, List.set_cons_zero, List.set_cons_succ]
      refine wpAnyH_ready (rs := [9]) (by kernel_rfl) (by simp) ?_
      refine AllReadyH.cons rfl (fun K hK => ?_) AllReadyH.nil
      refine step_append_lies (w3.alloc (Obj.cells #[Value.int IntKind.i64 (kd n y), Value.string (bsA (tx n y)), Value.int IntKind.i64 (nu n y), Value.int IntKind.i64 (pl n y), Value.slice s' (ks n y).length c'] 24)) rfl _ _ 22 rfl (w.heap.size + 3) 24 i0 (.agg #[.int .i64 0, .string ⟨#[]⟩, .int .i64 0, .int .i64 0, .slice none 0 0]) 5 64 Tryz.underlying22 hi0 hz1 hzs hz3 rfl (by decide) _ i (agC n A) rfl (owns_below (owns_below HOWN.out hX3) ((Below.refl _ _).alloc (Nat.le_refl _) _)) ⟨w3.heap.size, 0, none⟩ 1 1 (ndC n (y, s', c')) rfl rfl (nd_cells w3 n y s' c') (by intro u hu; simp only [ndC, List.mem_cons, List.not_mem_nil, or_false] at hu; rcases hu with rfl | rfl | rfl | rfl | rfl <;> rfl) (by omega) (by unfold maxLen; omega) (by omega) (by have := hX3.size; simp; omega) _ rfl ?_
      intro g cap w1 hown1 hgrow1 hlies hg1
      have hX4 : Below wr.heap.size wr (w3.alloc (Obj.cells #[Value.int IntKind.i64 (kd n y), Value.string (bsA (tx n y)), Value.int IntKind.i64 (nu n y), Value.int IntKind.i64 (pl n y), Value.slice s' (ks n y).length c'] 24)) := hX3.alloc hX3.size _
      have hob : ∀ q, (Value.slice sv i cv).ownBlock = some q → w.heap.size + 3 ≤ q := fun q hq => by
        rcases HAG.out.1.2 with ⟨h, _⟩ | ⟨g', cap', cur, h, hb', _⟩
        · rw [h] at hq; cases hq
        · rw [h] at hq
          obtain rfl : g' = q := Option.some.inj hq
          exact hb'
      have HA9 : Hid _ := (HBA.out.below hX4).grown hgrow1 (fun e => by have := hob _ e; omega)
      have HZ9 : Hid _ := (HBZ.out.below hX4).grown hgrow1 (fun e => by have := hob _ e; omega)
      have hX9 := (HBX.out.below hX4).grown hgrow1 (fun e => by have := hob _ e; omega)
      have HB9 : Bel w.heap.size w w1 := ⟨((hW.trans (hX4.mono hW.size))).grown hgrow1 (by have := hW.size; have := hX4.size; omega) (fun q hq => by have := hob q hq; omega), by have := hW.size; have := hX4.size; have := hgrow1.size; omega⟩
      obtain ⟨hag9, _⟩ := agg_pushg n y wr (w3.alloc (Obj.cells #[Value.int IntKind.i64 (kd n y), Value.string (bsA (tx n y)), Value.int IntKind.i64 (nu n y), Value.int IntKind.i64 (pl n y), Value.slice s' (ks n y).length c'] 24)) w1 (w.heap.size + 3) g cap wr.heap.size _ A s' c' HAG.out hX4 (Nat.le_refl _) (NdFg.below ((Below.refl _ w3).alloc (Nat.le_refl _) _) (NdFg.keep (by simp) (fun _ _ _ => rfl) HF3.out)) (by rw [HAl.out]; exact hown1) hgrow1 hlies hge3
      rw [HAl.out] at hag9
      have HAG9 : Hid _ := hag9
      have x9 := hX9.c4
      have y9 := hX9.f4
      have hws : w.heap.size + 3 ≤ w1.heap.size := by have := hX4.size; have := hgrow1.size; omega
      have HX9 : Hid _ := hX9
      clear hag9 hX9 hown1
      refine hK.out _ _ ?_ (fun hH9 => ?_)
      · (try dsimp only); exact ⟨HA9.out, HB9⟩
      clear hK K
      try simp only [Act.put, List.setIfInBounds_toArray, List.set_cons_zero, List.set_cons_succ]
      refine tk 10 (some 24) (v := ?_) rfl ?_ ?_
      rotate_left
      · intro wS hSw; (try dsimp only at hSw); go_simp; (try with_reducible rfl)
      try simp only [Act.put, List.setIfInBounds_toArray, List.set_cons_zero, List.set_cons_succ]
      refine wpAnyH_ready (rs := [11]) (by kernel_rfl) (by simp) ?_
      refine AllReadyH.cons rfl (fun K hK => ?_) AllReadyH.nil
      go_simp
      refine hK.out _ _ ?_ (fun hH11 => ?_)
      · (try dsimp only); exact ⟨HA9.out.far _ _ _ (by omega), HB9.setCell (p := ⟨w.heap.size + 1 + 1, 4, none⟩) (by simp <;> omega) _⟩
      clear hK K
      try simp only [Act.put, List.setIfInBounds_toArray, List.set_cons_zero, List.set_cons_succ]
      refine wpAnyH_done (by kernel_rfl) ?_ _
      have HE : Hid _ := AgG.far (M := n) (A := A ++ [(y, s', c')]) HAG9.out (w.heap.size + 2) 4 (.slice (some ⟨g, 0, none⟩) (i + 1) cap) (by omega)
      go_wp2
      go_roundw
      case rel => exact ⟨i + 1, some ⟨g, 0, none⟩, cap, A ++ [(y, s', c')], by omega, by go_num, by rw [List.map_append, HMP.out, List.map_singleton, List.take_add_one, HGY.out]; rfl, HE.out, HA9.out.far _ _ _ (by omega), HZ9.out.far _ _ _ (by omega), by simpa using HX9.out.put4 _, HB9.setCell (p := ⟨w.heap.size + 1 + 1, 4, none⟩) (by simp <;> omega) _, by simpa using hws⟩
      case measure => simp [intOf]; omega
    · have hAll : A.map (·.1) = l := by rw [HMP.out, List.take_of_length_le hge]
      have HALL : Hid _ := hAll
      have HE : Hid _ := ((((((show AgG (w.heap.size + 3) n wr (.slice sv i cv) A from HAG.out).far (w.heap.size + 1) 0 (.int .i64 k) (by omega)).far (w.heap.size + 1) 1 (.string (bsA t)) (by omega)).far (w.heap.size + 1) 2 (.int .i64 m) (by omega)).far (w.heap.size + 1) 3 (.int .i64 a) (by omega)).far (w.heap.size + 1) 4 (.slice sv i cv) (by omega))
      have hB5 := set5_below hW (w.heap.size + 1) 0 (.int .i64 k) (.string (bsA t)) (.int .i64 m) (.int .i64 a) (.slice sv i cv) (by omega)
      obtain ⟨x0, x1, x2, x3, x4', _, _, _, _, _⟩ := hbX
      obtain ⟨z0, z1, z2, z3, z4', f0, f1, f2, f3, f4⟩ := hbZ
      clear x4 hAll
      go_wp2
      refine bodyPost_ret (v := .agg #[.int .i64 k, .string (bsA t), .int .i64 m, .int .i64 a, (.slice sv i cv)]) (by simp [results, Tryz.results7, go_sem, z0, z1, z2, z3, z4']) rfl ⟨⟨(.slice sv i cv), A, rfl, HE.out, HALL.out⟩, hB5⟩
theorem RCg_any : ∀ (n : Nat) (x : Tr n), Wid n x → RCgIH n x
  | 0, x, _ => Empty.elim x
  | n + 1, x, hw => by
    obtain ⟨hby, hk⟩ := hw
    intro s c W hx
    have hl : KsAt W n s (ks (n + 1) x) := NdAt.kids hx
    have e63 : (ks (n + 1) x).length ≤ 9223372036854775807 := hl.1
    unfold ndV
    rcases hl.2 with h0 | ⟨b, off, rfl, hc⟩
    · have h1 := RCopy_0 (kd (n + 1) x) (tx (n + 1) x) (nu (n + 1) x) (pl (n + 1) x) s c W
      rw [h0]
      exact h1.mono fun e w' h => ⟨⟨none, 0, h.1, ⟨e63, Or.inl h0, by rw [h0]; simp⟩⟩, h.2⟩
    · have h1 := RCg_go n (kd (n + 1) x) (tx (n + 1) x) (nu (n + 1) x) (pl (n + 1) x) (ks (n + 1) x) b off c W hby hc (fun y hy => RCg_any n y (hk y hy))
      refine h1.mono fun e w' h => ?_
      obtain ⟨⟨v, A, he, hag, hm⟩, hb⟩ := h
      obtain ⟨a, c', rfl, hF⟩ := hag.kidsF (lo := W.heap.size) (by omega) x hm (by have := congrArg List.length hm; rw [List.length_map] at this; omega)
      exact ⟨⟨a, c', he, hF⟩, hb⟩
end Go.Proofs.YtcemogaacicnfaaGreatDoor
