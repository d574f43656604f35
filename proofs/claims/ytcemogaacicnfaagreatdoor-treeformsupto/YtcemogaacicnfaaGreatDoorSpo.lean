/- All of a tree is written over (the statement's spoil). -/
import Derived.Test.YtcemogaacicnfaaGreatDoorRCg
namespace Go.Proofs.YtcemogaacicnfaaGreatDoor
set_option linter.unusedSimpArgs false
set_option maxRecDepth 20000
set_option maxHeartbeats 8000000
open Go.ChangeShapes Go.WideShapes Go.ChangeAt Go.RowKit Go.Shelf

/-- Some tree, of so many kids, that lies in blocks of q that may be written. -/
def NdZ (q : Nat → Prop) (w : World) : Nat → Nat → Option Addr → Prop
  | 0, _, _ => False
  | n + 1, len, sl => len ≤ 9223372036854775807 ∧ (len = 0 ∨ ∃ b, sl = some ⟨b, 0, none⟩ ∧ (q b ∧ ∀ j, w.frozen? ⟨b, j, none⟩ = false) ∧ ∀ i, i < len → ∃ k t m a s l c, (w.cell? ⟨b, i * 5, none⟩ = some (.int .i64 k) ∧ w.cell? ⟨b, i * 5 + 1, none⟩ = some (.string t) ∧ w.cell? ⟨b, i * 5 + 2, none⟩ = some (.int .i64 m) ∧ w.cell? ⟨b, i * 5 + 3, none⟩ = some (.int .i64 a) ∧ w.cell? ⟨b, i * 5 + 4, none⟩ = some (.slice s l c)) ∧ NdZ q w n l s)
theorem NdZ.leaf {q : Nat → Prop} {w w' : World} : ∀ {n l : Nat} {s : Option Addr}, NdZ q w n l s → NdZ q w' n 0 none
  | 0, _, _, h => h
  | _ + 1, _, _, _ => ⟨by omega, Or.inl rfl⟩
theorem NdZ.keep {q : Nat → Prop} {w w' : World} (hk : ∀ b, b < w.heap.size → w'.heap[b]? = w.heap[b]?) : ∀ {n len : Nat} {sl : Option Addr}, NdZ q w n len sl → NdZ q w' n len sl
  | 0, _, _, h => h
  | n + 1, len, sl, h => by
    obtain ⟨hl, h⟩ := h
    refine ⟨hl, ?_⟩
    rcases Nat.eq_zero_or_pos len with h0 | hp
    · exact Or.inl h0
    rcases h with h | ⟨b, e, hb, hc⟩
    · exact Or.inl h
    · have hlt : b < w.heap.size := by
        obtain ⟨k, t, m, a, s, l, c, ⟨c0, _⟩, _⟩ := hc 0 hp
        exact cell_lt c0
      have e' := hk b hlt
      refine Or.inr ⟨b, e, ⟨hb.1, fun j => (World.frozen?_of_block (a := ⟨b, j, none⟩) e').trans (hb.2 j)⟩, fun i hi => ?_⟩
      obtain ⟨k, t, m, a, s, l, c, ⟨c0, c1, c2, c3, c4⟩, hp⟩ := hc i hi
      exact ⟨k, t, m, a, s, l, c, ⟨cell_same c0 e', cell_same c1 e', cell_same c2 e', cell_same c3 e', cell_same c4 e'⟩, NdZ.keep hk hp⟩
theorem NdZ.set {q : Nat → Prop} {w : World} {g i0 : Nat} {u0 u1 u2 u3 u4 : Value} (h0 : w.cell? ⟨g, i0 * 5, none⟩ = some u0) (h1 : w.cell? ⟨g, i0 * 5 + 1, none⟩ = some u1) (h2 : w.cell? ⟨g, i0 * 5 + 2, none⟩ = some u2) (h3 : w.cell? ⟨g, i0 * 5 + 3, none⟩ = some u3) (h4 : w.cell? ⟨g, i0 * 5 + 4, none⟩ = some u4) : ∀ {n len : Nat} {sl : Option Addr}, NdZ q w n len sl → NdZ q (set5 w g (i0 * 5) (.int .i64 77) (.string ⟨#[]⟩) (.int .i64 0) (.int .i64 0) (.slice none 0 0)) n len sl
  | 0, _, _, h => h
  | n + 1, len, sl, h => by
    obtain ⟨hl, h⟩ := h
    refine ⟨hl, ?_⟩
    rcases h with h | ⟨b, e, hb, hc⟩
    · exact Or.inl h
    · refine Or.inr ⟨b, e, ⟨hb.1, fun j => by rw [set5_frozen]; exact hb.2 j⟩, fun i hi => ?_⟩
      obtain ⟨k, t, m, a, s, l, c, ⟨c0, c1, c2, c3, c4⟩, hp⟩ := hc i hi
      by_cases hg : g = b
      · subst hg
        by_cases hii : i = i0
        · subst hii
          exact ⟨77, ⟨#[]⟩, 0, 0, none, 0, 0, set5_at w g (i * 5) _ _ _ _ _ h0 h1 h2 h3 h4, NdZ.leaf hp⟩
        · refine ⟨k, t, m, a, s, l, c, ⟨?_, ?_, ?_, ?_, ?_⟩, NdZ.set h0 h1 h2 h3 h4 hp⟩
          · rw [set5_off _ _ _ _ _ _ _ _ _ (by omega)]; exact c0
          · rw [set5_off _ _ _ _ _ _ _ _ _ (by omega)]; exact c1
          · rw [set5_off _ _ _ _ _ _ _ _ _ (by omega)]; exact c2
          · rw [set5_off _ _ _ _ _ _ _ _ _ (by omega)]; exact c3
          · rw [set5_off _ _ _ _ _ _ _ _ _ (by omega)]; exact c4
      · refine ⟨k, t, m, a, s, l, c, ⟨?_, ?_, ?_, ?_, ?_⟩, NdZ.set h0 h1 h2 h3 h4 hp⟩
        · rw [set5_far _ _ _ _ _ _ _ _ _ _ hg]; exact c0
        · rw [set5_far _ _ _ _ _ _ _ _ _ _ hg]; exact c1
        · rw [set5_far _ _ _ _ _ _ _ _ _ _ hg]; exact c2
        · rw [set5_far _ _ _ _ _ _ _ _ _ _ hg]; exact c3
        · rw [set5_far _ _ _ _ _ _ _ _ _ _ hg]; exact c4
theorem NdQ.z {q : Nat → Prop} {w : World} : ∀ {n : Nat} {x : Tr n} {sl : Option Addr}, NdQ q w n x sl → NdZ q w n (ks n x).length sl
  | 0, _, _, h => h
  | n + 1, x, sl, h => by
    obtain ⟨hl, h⟩ := h
    refine ⟨hl, ?_⟩
    rcases h with h | ⟨b, off, e, ⟨hb, rfl, hf⟩, hc⟩
    · exact Or.inl (by rw [h]; rfl)
    · refine Or.inr ⟨b, e, ⟨hb, hf⟩, fun i hi => ?_⟩
      obtain ⟨s, c, hcs, hp⟩ := hc i _ (List.getElem?_eq_getElem hi)
      rw [Nat.zero_add] at hcs
      exact ⟨_, _, _, _, _, _, _, hcs, NdQ.z hp⟩
/-- Nothing is written but new blocks and those of q. -/
structure Spo (q : Nat → Prop) (w w' : World) : Prop where
  b0 : Below 0 w w'
  blk : ∀ b, b < w.heap.size → ¬ q b → w'.heap[b]? = w.heap[b]?
theorem Spo.below {q : Nat → Prop} {w w' : World} (h : Below w.heap.size w w') : Spo q w w' := ⟨h.mono (Nat.zero_le _), fun b hb _ => h.block b hb⟩
theorem Spo.trans {q : Nat → Prop} {a b c : World} (h : Spo q a b) (k : Spo q b c) : Spo q a c :=
  ⟨h.b0.trans k.b0, fun x hx hn => (k.blk x (Nat.lt_of_lt_of_le hx h.b0.size) hn).trans (h.blk x hx hn)⟩
theorem Spo.set {q : Nat → Prop} (w : World) (g o : Nat) (v0 v1 v2 v3 v4 : Value) (hg : q g) : Spo q w (set5 w g o v0 v1 v2 v3 v4) :=
  ⟨set5_below (Below.refl _ _) g o v0 v1 v2 v3 v4 (Nat.zero_le _), fun b _ hn => set5_heap _ _ _ _ _ _ _ _ _ (fun e => hn (by rw [e]; exact hg))⟩
theorem Spo.to {q : Nat → Prop} {lo : Nat} {w w' : World} (h : Spo q w w') (hlo : lo ≤ w.heap.size) (hq : ∀ b, b < lo → ¬ q b) : Below lo w w' :=
  ⟨h.b0.os, h.b0.tape, h.b0.output, h.b0.size, fun b hb => h.blk b (by omega) (hq b hb)⟩
theorem Spo.box {q : Nat → Prop} {w w' : World} {b : Nat} {v0 v1 v2 v3 v4 : Value} (h : Spo q w w') (hb : Box5 w b v0 v1 v2 v3 v4) (hn : ¬ q b) : Box5 w' b v0 v1 v2 v3 v4 := by
  have e := h.blk b (cell_lt hb.c0) hn
  exact ⟨cell_same hb.c0 e, cell_same hb.c1 e, cell_same hb.c2 e, cell_same hb.c3 e, cell_same hb.c4 e, (World.frozen?_of_block (a := ⟨b, 0, none⟩) e).trans hb.f0, (World.frozen?_of_block (a := ⟨b, 1, none⟩) e).trans hb.f1, (World.frozen?_of_block (a := ⟨b, 2, none⟩) e).trans hb.f2, (World.frozen?_of_block (a := ⟨b, 3, none⟩) e).trans hb.f3, (World.frozen?_of_block (a := ⟨b, 4, none⟩) e).trans hb.f4⟩
/-- What spoil does. -/
def SpoPost (q : Nat → Prop) (w : World) (e : Ending) (w' : World) : Prop := e = .returned (.tuple #[]) ∧ Spo q w w' ∧ ∀ n len s, NdZ q w n len s → NdZ q w' n len s
def SpoIH (q : Nat → Prop) (n : Nat) : Prop := ∀ (len : Nat) (s : Option Addr) (k : Int) (t : ByteArray) (m a : Int) (c : Nat) (w : World), NdZ q w n len s → (∀ b, q b → b < w.heap.size) → Calls Tryz.prog 16 #[.agg #[.int .i64 k, .string t, .int .i64 m, .int .i64 a, .slice s len c]] w (SpoPost q w)
theorem spoil_go (q : Nat → Prop) (n : Nat) (len b : Nat) (k : Int) (t : ByteArray) (m a : Int) (c : Nat) (w : World) (hz : NdZ q w (n + 1) len (some ⟨b, 0, none⟩)) (hqb : q b) (hq : ∀ b, q b → b < w.heap.size) (ih : SpoIH q n) :
    Calls Tryz.prog 16 #[.agg #[.int .i64 k, .string t, .int .i64 m, .int .i64 a, .slice (some ⟨b, 0, none⟩) len c]] w (SpoPost q w) := by
  have hA : Below w.heap.size w (w.alloc (Obj.cells #[Value.int IntKind.i64 k, Value.string t, Value.int IntKind.i64 m, Value.int IntKind.i64 a, Value.slice (some ⟨b, 0, none⟩) len c] 24)) := (Below.refl _ w).alloc (Nat.le_refl _) _
  have bA := Box5.new w (.int .i64 k) (.string t) (.int .i64 m) (.int .i64 a) (.slice (some ⟨b, 0, none⟩) len c) 24
  have hsz : (w.alloc (Obj.cells #[Value.int IntKind.i64 k, Value.string t, Value.int IntKind.i64 m, Value.int IntKind.i64 a, Value.slice (some ⟨b, 0, none⟩) len c] 24)).heap.size = w.heap.size + 1 := by simp
  have HIH : Hid _ := ih
  have HZ : Hid (NdZ q w (n + 1) len (some ⟨b, 0, none⟩)) := hz
  have HQ : Hid _ := hq
  have hl63 : len ≤ 9223372036854775807 := hz.1
  have hnq : ¬ q w.heap.size := fun h => by have := hq _ h; omega
  clear ih hz hq
  go_enter Tryz.func16, Tryz.ntmps16
  go_wp2
  generalize w.alloc (Obj.cells #[Value.int IntKind.i64 k, Value.string t, Value.int IntKind.i64 m, Value.int IntKind.i64 a, Value.slice (some ⟨b, 0, none⟩) len c] 24) = W0 at *
  go_loopw [2] (fun i wr => ∃ j : Nat, j ≤ len ∧ i = .int .i64 j ∧ Box5 wr w.heap.size (.int .i64 k) (.string t) (.int .i64 m) (.int .i64 a) (.slice (some ⟨b, 0, none⟩) len c) ∧ Spo q w wr ∧ w.heap.size + 1 ≤ wr.heap.size ∧ ∀ n len s, NdZ q w n len s → NdZ q wr n len s) (fun i _ => len - (intOf i).toNat)
  case atStart => exact ⟨0, Nat.zero_le _, rfl, bA, Spo.below hA, by omega, fun n len s h => NdZ.keep (fun b hb => hA.block b hb) h⟩
  case round =>
    obtain ⟨i, hi, rfl, hbA, hS, hws, hK⟩ := hrel
    have a4 := hbA.c4
    have HBA : Hid _ := hbA
    have HS : Hid _ := hS
    have HK : Hid _ := hK
    clear bA hA hsz hbA hS hK
    rcases Nat.lt_or_ge i len with hlt | hge
    · obtain ⟨k', t', m', a', s', l', c', ⟨c0, c1, c2, c3, c4⟩, hp⟩ : ∃ k t m a s l c, (wr.cell? ⟨b, i * 5, none⟩ = some (.int .i64 k) ∧ wr.cell? ⟨b, i * 5 + 1, none⟩ = some (.string t) ∧ wr.cell? ⟨b, i * 5 + 2, none⟩ = some (.int .i64 m) ∧ wr.cell? ⟨b, i * 5 + 3, none⟩ = some (.int .i64 a) ∧ wr.cell? ⟨b, i * 5 + 4, none⟩ = some (.slice s l c)) ∧ NdZ q wr n l s := by
        obtain ⟨_, h | ⟨b', e, _, hc⟩⟩ := HK.out _ _ _ HZ.out
        · omega
        · cases e
          exact hc i hlt
      have h1 := HIH.out l' s' k' t' m' a' c' wr hp (fun b hb => Nat.lt_of_lt_of_le (HQ.out b hb) (by omega))
      clear hp
      go_wp2_with fail
      refine h1.mono ?_
      rintro e w3 ⟨rfl, hS3, hK3⟩
      clear h1 c0 c1 c2 c3 c4
      obtain ⟨k2, t2, m2, a2, s2, l2, c2', hf2, ⟨c0, c1, c2, c3, c4⟩, hp2⟩ : ∃ k t m a s l c, (∀ j, w3.frozen? ⟨b, j, none⟩ = false) ∧ (w3.cell? ⟨b, i * 5, none⟩ = some (.int .i64 k) ∧ w3.cell? ⟨b, i * 5 + 1, none⟩ = some (.string t) ∧ w3.cell? ⟨b, i * 5 + 2, none⟩ = some (.int .i64 m) ∧ w3.cell? ⟨b, i * 5 + 3, none⟩ = some (.int .i64 a) ∧ w3.cell? ⟨b, i * 5 + 4, none⟩ = some (.slice s l c)) ∧ NdZ q w3 n l s := by
        obtain ⟨_, h | ⟨b', e, hf, hc⟩⟩ := hK3 _ _ _ (HK.out _ _ _ HZ.out)
        · omega
        · cases e
          obtain ⟨k, t, m, a, s, l, c, h⟩ := hc i hlt
          exact ⟨k, t, m, a, s, l, c, hf.2, h⟩
      have f0 := hf2 (i * 5)
      have f1 := hf2 (i * 5 + 1)
      have f2 := hf2 (i * 5 + 2)
      have f3 := hf2 (i * 5 + 3)
      have f4 := hf2 (i * 5 + 4)
      have bA3 := hS3.box HBA.out hnq
      have a4 := bA3.c4
      have HBA5 : Hid _ := bA3.set5 b (i * 5) (.int .i64 77) (.string ⟨#[]⟩) (.int .i64 0) (.int .i64 0) (.slice none 0 0) (by have := HQ.out b hqb; omega)
      have HS5 : Hid _ := (HS.out.trans hS3).trans (Spo.set w3 b (i * 5) (.int .i64 77) (.string ⟨#[]⟩) (.int .i64 0) (.int .i64 0) (.slice none 0 0) hqb)
      have HK5 : Hid _ := fun n len s h => NdZ.set (q := q) (n := n) (len := len) (sl := s) c0 c1 c2 c3 c4 (hK3 n len s (HK.out n len s h))
      have hw5 : w.heap.size + 1 ≤ (set5 w3 b (i * 5) (.int .i64 77) (.string ⟨#[]⟩) (.int .i64 0) (.int .i64 0) (.slice none 0 0)).heap.size := by rw [set5_size]; have := hS3.b0.size; omega
      clear hf2 bA3 hp2 hS3 hK3
      go_wp2
      go_roundw
      case rel => exact ⟨i + 1, by omega, by go_num, HBA5.out, HS5.out, hw5, HK5.out⟩
      case measure => simp [intOf]; omega
    · go_wp2
      exact bodyPost_end (v := .tuple #[]) (by simp [results, Tryz.f16]) rfl ⟨rfl, HS.out, HK.out⟩
theorem spoil_0 (q : Nat → Prop) (s : Option Addr) (k : Int) (t : ByteArray) (m a : Int) (c : Nat) (w : World) :
    Calls Tryz.prog 16 #[.agg #[.int .i64 k, .string t, .int .i64 m, .int .i64 a, .slice s 0 c]] w (SpoPost q w) := by
  have hA : Below w.heap.size w (w.alloc (Obj.cells #[Value.int IntKind.i64 k, Value.string t, Value.int IntKind.i64 m, Value.int IntKind.i64 a, Value.slice s 0 c] 24)) := (Below.refl _ w).alloc (Nat.le_refl _) _
  have bA := Box5.new w (.int .i64 k) (.string t) (.int .i64 m) (.int .i64 a) (.slice s 0 c) 24
  go_enter Tryz.func16, Tryz.ntmps16
  go_wp2
  generalize w.alloc (Obj.cells #[Value.int IntKind.i64 k, Value.string t, Value.int IntKind.i64 m, Value.int IntKind.i64 a, Value.slice s 0 c] 24) = W0 at *
  have a4 := bA.c4
  clear bA
  refine wp_loop_rounds 1 ?_
  rw [rounds_succ]
  go_wp2
  exact bodyPost_end (v := .tuple #[]) (by simp [results, Tryz.f16]) rfl ⟨rfl, Spo.below hA, fun n len s h => NdZ.keep (fun b hb => hA.block b hb) h⟩
theorem spoil_any (q : Nat → Prop) : ∀ n, SpoIH q n
  | 0 => fun _ _ _ _ _ _ _ _ h _ => h.elim
  | n + 1 => by
    intro len s k t m a c w hz hq
    rcases Nat.eq_zero_or_pos len with rfl | hp
    · exact spoil_0 q s k t m a c w
    · have hz' := hz
      obtain ⟨_, h | ⟨b, rfl, hb, _⟩⟩ := hz
      · omega
      · exact spoil_go q n len b k t m a c w hz' hb.1 hq (spoil_any q n)
end Go.Proofs.YtcemogaacicnfaaGreatDoor
