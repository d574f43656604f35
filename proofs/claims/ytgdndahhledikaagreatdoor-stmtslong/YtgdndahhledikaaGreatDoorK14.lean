/- Stt, Sra. -/
import Derived.Test.YtgdndahhledikaaGreatDoorK07
import Derived.Test.YtgdndahhledikaaGreatDoorK04
namespace Go.Proofs.YtgdndahhledikaaGreatDoor
open Go.ChangeShapes Go.WideShapes Go.ChangeAt Go.RowKit
set_option linter.unusedSimpArgs false
set_option maxRecDepth 20000
set_option maxHeartbeats 4000000
structure IsB (w : World) (b : Nat) (vs : List Value) : Prop where
 lt : b < w.heap.size
 c : ∀ j v, vs[j]? = some v → w.cell? ⟨b, j, none⟩ = some v
 f : ∀ j, w.frozen? ⟨b, j, none⟩ = false
theorem IsB.same {w w' : World} {b : Nat} {vs : List Value} (h : IsB w b vs) (hs : w.heap.size ≤ w'.heap.size) (e : w'.heap[b]? = w.heap[b]?) : IsB w' b vs :=
 ⟨Nat.lt_of_lt_of_le h.lt hs, fun j v hv => cell_same (h.c j v hv) e, fun j => (World.frozen?_of_block (a := ⟨b, j, none⟩) e).trans (h.f j)⟩
theorem IsB.new (w : World) (cs : Array Value) (ty : TypeId) (vs : List Value) (hcs : cs.toList = vs) : IsB (w.alloc (.cells cs ty)) w.heap.size vs :=
 ⟨by simp, fun j v hv => by
  have e : cs[j]? = some v := by rw [← Array.getElem?_toList, hcs]; exact hv
  exact (World.cell?_alloc_mark w cs ty _ j).trans e, fun j => by simp [go_sem]⟩
theorem IsB.put {w : World} {b : Nat} {vs : List Value} (h : IsB w b vs) (j : Nat) (v : Value) (hj : j < vs.length) : IsB (w.setCell ⟨b, j, none⟩ v) b (vs.set j v) :=
 ⟨by have := h.lt; simpa [World.setCell] using this, fun k u hu => by
  rcases Nat.lt_or_ge j k with hl | hl
  ·
   rw [List.getElem?_set_ne (by omega)] at hu
   rw [World.cell?_setCell_other _ _ _ _ (by simp <;> omega)]
   exact h.c k u hu
  ·
   rcases Nat.lt_or_ge k j with hg | hg
   ·
    rw [List.getElem?_set_ne (by omega)] at hu
    rw [World.cell?_setCell_other _ _ _ _ (by simp <;> omega)]
    exact h.c k u hu
   ·
    obtain rfl : j = k := by omega
    rw [List.getElem?_set_self hj] at hu
    obtain rfl := Option.some.inj hu
    exact World.cell?_setCell_same _ _ _ (h.c j _ (List.getElem?_eq_getElem hj)), fun k => by rw [World.frozen?_setCell]; exact h.f k⟩
abbrev Bxs := List (Nat × List Value)
def Hld (rb lo : Nat) (B : Bxs) (w : World) (x : X) (s : Option Addr) : Prop := ∀ w' : World, (∀ b, b < w.heap.size → b ≠ rb → (∀ p ∈ B, b ≠ p.1) → w'.heap[b]? = w.heap[b]?) → XAt lo w' x s
theorem Hld.move {rb lo : Nat} {B B' : Bxs} {w w1 : World} {x : X} {s : Option Addr} (h : Hld rb lo B w x s) (hs : w.heap.size ≤ w1.heap.size) (hB : ∀ p ∈ B', p ∈ B ∨ w.heap.size ≤ p.1 ∨ ∃ q ∈ B, q.1 = p.1) (hk : ∀ b, b < w.heap.size → b ≠ rb → (∀ p ∈ B, b ≠ p.1) → w1.heap[b]? = w.heap[b]?) : Hld rb lo B' w1 x s := fun w' h' => h w' fun b hb h1 h2 => (h' b (Nat.lt_of_lt_of_le hb hs) h1 (fun p hp => by
 rcases hB p hp with h3 | h3 | ⟨q, h3, h4⟩
 · exact h2 p h3
 · omega
 · rw [← h4]; exact h2 q h3)).trans (hk b hb h1 h2)
structure St (rb : Nat) (ta : Option Addr) (cap : Nat) (T : List Tt) (w0 : World) (B : Bxs) (K : List (X × Option Addr)) (i op : Nat) (w : World) : Prop where
 fx : Fx rb w0 w
 rdr : Rdr w rb ta cap T i op
 box : ∀ p ∈ B, IsB w p.1 p.2 ∧ w0.heap.size ≤ p.1
 nd : (B.map (·.1)).Nodup
 kid : ∀ p ∈ K, Hld rb w0.heap.size B w p.1 p.2
 lt : rb < w0.heap.size
theorem St.start {rb : Nat} {ta : Option Addr} {cap : Nat} {T : List Tt} {i op : Nat} {w : World} (hr : Rdr w rb ta cap T i op) : St rb ta cap T w [] [] i op w := ⟨Fx.refl w, hr, fun _ h => (by cases h), List.nodup_nil, fun _ h => (by cases h), cell_lt hr.c0⟩
theorem St.call {rb : Nat} {ta : Option Addr} {cap : Nat} {T : List Tt} {w0 : World} {B : Bxs} {K : List (X × Option Addr)} {i op : Nat} {w : World} {j op' : Nat} {w' : World} (h : St rb ta cap T w0 B K i op w) (hf : Fx rb w w') (hr : Rdr w' rb ta cap T j op') : St rb ta cap T w0 B K j op' w' :=
 ⟨h.fx.trans hf, hr, fun p hp => ⟨(h.box p hp).1.same hf.size (hf.blk p.1 (h.box p hp).1.lt (by have := (h.box p hp).2; have := h.lt; omega)), (h.box p hp).2⟩, h.nd, fun p hp => (h.kid p hp).move hf.size (fun p hp => Or.inl hp) (fun b hb hn _ => hf.blk b hb hn), h.lt⟩
theorem St.below {rb : Nat} {ta : Option Addr} {cap : Nat} {T : List Tt} {w0 : World} {B : Bxs} {K : List (X × Option Addr)} {i op : Nat} {w : World} {w' : World} (h : St rb ta cap T w0 B K i op w) (hb : Below w.heap.size w w') : St rb ta cap T w0 B K i op w' := h.call (Fx.below hb) (h.rdr.below hb)
theorem St.drew {rb : Nat} {ta : Option Addr} {cap : Nat} {T : List Tt} {w0 : World} {B : Bxs} {K : List (X × Option Addr)} {i op : Nat} {w : World} (h : St rb ta cap T w0 B K i op w) : St rb ta cap T w0 B K i op w.drew := h.below (Below.refl _ _).drew
theorem St.new {rb : Nat} {ta : Option Addr} {cap : Nat} {T : List Tt} {w0 : World} {B : Bxs} {K : List (X × Option Addr)} {i op : Nat} {w : World} (h : St rb ta cap T w0 B K i op w) (cs : Array Value) (ty : TypeId) (vs : List Value) (hcs : cs.toList = vs := by rfl) : St rb ta cap T w0 ((w.heap.size, vs) :: B) K i op (w.alloc (.cells cs ty)) := by
 have hb : Below w.heap.size w (w.alloc (.cells cs ty)) := (Below.refl _ _).alloc (Nat.le_refl _) _
 have h1 := h.below hb
 refine ⟨h1.fx, h1.rdr, fun p hp => ?_, ?_, fun p hp => (h.kid p hp).move hb.size (fun q hq => ?_) (fun b hl _ _ => hb.block b hl), h.lt⟩
 ·
  rcases List.mem_cons.1 hp with rfl | hp
  · exact ⟨IsB.new w cs ty vs hcs, h.fx.size⟩
  · exact h1.box p hp
 ·
  rw [List.map_cons, List.nodup_cons]
  refine ⟨fun hm => ?_, h.nd⟩
  obtain ⟨q, hq, e⟩ := List.mem_map.1 hm
  have := (h.box q hq).1.lt
  dsimp only at e
  omega
 ·
  rcases List.mem_cons.1 hq with rfl | hq
  · exact Or.inr (Or.inl (Nat.le_refl _))
  · exact Or.inl hq
theorem St.tree {rb : Nat} {ta : Option Addr} {cap : Nat} {T : List Tt} {w0 : World} {B : Bxs} {K : List (X × Option Addr)} {i op : Nat} {w : World} {j op' : Nat} {w' : World} {x : X} {s : Option Addr} (h : St rb ta cap T w0 B K i op w) (hf : Fx rb w w') (hr : Rdr w' rb ta cap T j op') (hx : XAt w.heap.size w' x s) : St rb ta cap T w0 B ((x, s) :: K) j op' w' := by
 have h1 := h.call hf hr
 refine ⟨h1.fx, hr, h1.box, h1.nd, fun p hp => ?_, h.lt⟩
 rcases List.mem_cons.1 hp with rfl | hp
 ·
  refine fun w2 hk => NdF.keep h.fx.size (fun b hb hl => hk b hl ?_ ?_) hx
  · have := h.lt; have := h.fx.size; omega
  ·
   intro p hp
   have := (h.box p hp).1.lt
   omega
 · exact h1.kid p hp
theorem St.leaf {rb : Nat} {ta : Option Addr} {cap : Nat} {T : List Tt} {w0 : World} {B : Bxs} {K : List (X × Option Addr)} {i op : Nat} {w : World} (h : St rb ta cap T w0 B K i op w) (k : Int) (t : List UInt8) (m a : Int) (s : Option Addr) : St rb ta cap T w0 B ((mkX k t m a [], s) :: K) i op w :=
 ⟨h.fx, h.rdr, h.box, h.nd, fun p hp => by
  rcases List.mem_cons.1 hp with rfl | hp
  · exact fun _ _ => mkX_at0 _ _ _ _ _
  · exact h.kid p hp, h.lt⟩
theorem St.get {rb : Nat} {ta : Option Addr} {cap : Nat} {T : List Tt} {w0 : World} {B : Bxs} {K : List (X × Option Addr)} {i op : Nat} {w : World} (h : St rb ta cap T w0 B K i op w) {b : Nat} {vs : List Value} (hb : (b, vs) ∈ B) (j : Nat) {v : Value} (hv : vs[j]? = some v) : w.cell? ⟨b, j, none⟩ = some v := (h.box _ hb).1.c j v hv
theorem St.fr {rb : Nat} {ta : Option Addr} {cap : Nat} {T : List Tt} {w0 : World} {B : Bxs} {K : List (X × Option Addr)} {i op : Nat} {w : World} (h : St rb ta cap T w0 B K i op w) {b : Nat} {vs : List Value} (hb : (b, vs) ∈ B) (j : Nat) : w.frozen? ⟨b, j, none⟩ = false := (h.box _ hb).1.f j
theorem St.at {rb : Nat} {ta : Option Addr} {cap : Nat} {T : List Tt} {w0 : World} {B : Bxs} {K : List (X × Option Addr)} {i op : Nat} {w : World} (h : St rb ta cap T w0 B K i op w) {b : Nat} {vs : List Value} (hb : (b, vs) ∈ B) : b < w.heap.size ∧ w0.heap.size ≤ b ∧ b ≠ rb := ⟨(h.box _ hb).1.lt, (h.box _ hb).2, by have := (h.box _ hb).2; have := h.lt; dsimp only at *; omega⟩
theorem St.put {rb : Nat} {ta : Option Addr} {cap : Nat} {T : List Tt} {w0 : World} (B1 : Bxs) {B2 : Bxs} {b : Nat} {vs : List Value} {K : List (X × Option Addr)} {i op : Nat} {w : World} (h : St rb ta cap T w0 (B1 ++ (b, vs) :: B2) K i op w) (j : Nat) (v : Value) (hj : j < vs.length := by simp) : St rb ta cap T w0 (B1 ++ (b, vs.set j v) :: B2) K i op (w.setCell ⟨b, j, none⟩ v) := by
 have hb := h.box (b, vs) (by simp)
 have hlt := h.lt
 have hsz : (w.setCell ⟨b, j, none⟩ v).heap.size = w.heap.size := by simp [World.setCell]
 have hdis : ∀ p, p ∈ B1 ∨ p ∈ B2 → p.1 ≠ b := fun p hp e => by
  have hn := h.nd
  rw [List.map_append, List.map_cons, List.nodup_append] at hn
  rcases hp with hp | hp
  · exact hn.2.2 p.1 (List.mem_map_of_mem hp) b (by simp) e
  ·
   have := (List.nodup_cons.1 hn.2.1).1
   exact this (by rw [← e]; exact List.mem_map_of_mem (f := (·.1)) hp)
 refine ⟨h.fx.new b j v hb.2, h.rdr.far b j v (by have := hb.2; dsimp only at this; omega), fun p hp => ?_, ?_, fun p hp => (h.kid p hp).move (Nat.le_of_eq hsz.symm) (fun q hq => ?_) (fun c _ _ hn => Below.heap_setCell _ _ _ _ (hn (b, vs) (by simp))), hlt⟩
 ·
  have hp' : p ∈ B1 ∨ p = (b, vs.set j v) ∨ p ∈ B2 := by simpa using hp
  rcases hp' with hp' | rfl | hp'
  ·
   have h1 := h.box p (by simp [hp'])
   exact ⟨h1.1.same (Nat.le_of_eq hsz.symm) (Below.heap_setCell _ _ _ _ (hdis p (Or.inl hp'))), h1.2⟩
  · exact ⟨hb.1.put j v hj, hb.2⟩
  ·
   have h1 := h.box p (by simp [hp'])
   exact ⟨h1.1.same (Nat.le_of_eq hsz.symm) (Below.heap_setCell _ _ _ _ (hdis p (Or.inr hp'))), h1.2⟩
 ·
  have hn := h.nd
  rw [List.map_append, List.map_cons] at hn ⊢
  exact hn
 ·
  have hq' : q ∈ B1 ∨ q = (b, vs.set j v) ∨ q ∈ B2 := by simpa using hq
  rcases hq' with hq' | rfl | hq'
  · exact Or.inl (by simp [hq'])
  · exact Or.inr (Or.inr ⟨(b, vs), by simp, rfl⟩)
  · exact Or.inl (by simp [hq'])
theorem St.drop {rb : Nat} {ta : Option Addr} {cap : Nat} {T : List Tt} {w0 : World} (B1 : Bxs) {B2 : Bxs} {p : Nat × List Value} {K : List (X × Option Addr)} {i op : Nat} {w : World} (h : St rb ta cap T w0 (B1 ++ p :: B2) K i op w) : St rb ta cap T w0 (B1 ++ B2) K i op w := by
 have hs : ∀ q ∈ B1 ++ B2, q ∈ B1 ++ p :: B2 := fun q hq => by
  have : q ∈ B1 ∨ q ∈ B2 := by simpa using hq
  rcases this with h | h <;> simp [h]
 refine ⟨h.fx, h.rdr, fun q hq => h.box q (hs q hq), ?_, fun q hq => (h.kid q hq).move (Nat.le_refl _) (fun q hq => Or.inl (hs q hq)) (fun _ _ _ _ => rfl), h.lt⟩
 have hn := h.nd
 rw [List.map_append, List.map_cons, List.nodup_append] at hn
 rw [List.map_append, List.nodup_append]
 exact ⟨hn.1, (List.nodup_cons.1 hn.2.1).2, fun a ha b hb => hn.2.2 a ha b (by simp [hb])⟩
theorem St.row {rb : Nat} {ta : Option Addr} {cap : Nat} {T : List Tt} {w0 : World} (B1 : Bxs) {B2 : Bxs} {g : Nat} {vs : List Value} {K : List (X × Option Addr)} {i op : Nat} {w : World} (h : St rb ta cap T w0 (B1 ++ (g, vs) :: B2) K i op w) (A : List Xp) (k : Int) (t : List UInt8) (m a : Int) (hA : ∀ p ∈ A, (p.1, p.2.1) ∈ K) (hvs : vs = xC A := by rfl) (hl : A.length ≤ 9223372036854775807 := by simp) : St rb ta cap T w0 (B1 ++ B2) ((mkX k t m a (A.map (·.1)), some ⟨g, 0, none⟩) :: K) i op w := by
 subst hvs
 have hb := h.box (g, xC A) (by simp)
 have h1 := h.drop
 have hlt := h.lt
 refine ⟨h1.fx, h1.rdr, h1.box, h1.nd, fun p hp => ?_, hlt⟩
 rcases List.mem_cons.1 hp with rfl | hp
 ·
  intro w' hs
  have hn : ∀ q ∈ B1 ++ B2, g ≠ q.1 := fun q hq e => by
   have hn := h.nd
   rw [List.map_append, List.map_cons, List.nodup_append] at hn
   have : q ∈ B1 ∨ q ∈ B2 := by simpa using hq
   rcases this with hq | hq
   · exact hn.2.2 q.1 (List.mem_map_of_mem hq) g (by simp) e.symm
   · exact (List.nodup_cons.1 hn.2.1).1 (by rw [e]; exact List.mem_map_of_mem (f := (·.1)) hq)
  have e := hs g hb.1.lt (by have := hb.2; dsimp only at this ⊢; omega) hn
  refine mkX_at k t m a ⟨⟨hb.2, fun j => (World.frozen?_of_block (a := ⟨g, j, none⟩) e).trans (hb.1.f j)⟩, fun i x hi => ?_⟩ (by rw [List.length_map]; exact hl)
  rw [List.getElem?_map] at hi
  obtain ⟨p, hp, rfl⟩ := Option.map_eq_some_iff.1 hi
  obtain ⟨h0, h2, h3, h4, h5⟩ := xC_at A i p hp
  refine ⟨p.2.1, p.2.2, ⟨cell_same (hb.1.c _ _ h0) e, cell_same (hb.1.c _ _ h2) e, cell_same (hb.1.c _ _ h3) e, cell_same (hb.1.c _ _ h4) e, cell_same (hb.1.c _ _ h5) e⟩, ?_⟩
  exact h1.kid (p.1, p.2.1) (hA p (List.mem_of_getElem? hp)) w' hs
 · exact h1.kid p hp
theorem St.ret {rb : Nat} {ta : Option Addr} {cap : Nat} {T : List Tt} {w0 : World} {B : Bxs} {K : List (X × Option Addr)} {i op : Nat} {w : World} {x : X} {s : Option Addr} (h : St rb ta cap T w0 B K i op w) (hk : (x, s) ∈ K) (c : Nat) : PPost rb ta cap T op w0 (.inr (x, i)) (.returned (xV x s c)) w := ⟨⟨⟨s, c, rfl, h.kid _ hk w (fun _ _ _ _ => rfl)⟩, h.rdr⟩, h.fx⟩
theorem St.bad {rb : Nat} {ta : Option Addr} {cap : Nat} {T : List Tt} {w0 : World} {B : Bxs} {K : List (X × Option Addr)} {i op : Nat} {w : World} {w' : World} {q : Er} {e : Ending} (h : St rb ta cap T w0 B K i op w) (hf : Fx rb w w') (hG : GUp q.1 q.2 e) : PPost rb ta cap T op w0 (.inl q) e w' := ⟨hG, h.fx.trans hf⟩
end Go.Proofs.YtgdndahhledikaaGreatDoor
namespace Go.Proofs.YtgdndahhledikaaGreatDoor
open Go.ChangeShapes Go.WideShapes Go.ChangeAt Go.RowKit
set_option linter.unusedSimpArgs false
set_option maxRecDepth 20000
set_option maxHeartbeats 4000000
theorem drewN_below (q : Nat) (w : World) : Below w.heap.size w (w.drewN q) := ((Bel.refl w).drewN q).out
theorem next_any (rb : Nat) (ta : Option Addr) (cap : Nat) (T : List Tt) (i op : Nat) (w : World) (hr : Rdr w rb ta cap T i op) :
  Calls Tryz.prog 70 #[ptr rb] w fun e w' => e = .returned (ttV (tkI T i)) ∧ Below w.heap.size w w' := by
 have hA : Below w.heap.size w (w.alloc (Obj.cells #[Value.int IntKind.i64 0, Value.string { data := #[] }, Value.int IntKind.i64 0, Value.int IntKind.i64 0] 26)) := (Below.refl _ _).alloc (Nat.le_refl _) _
 have hr2 := hr.below hA
 have c0 := hr2.c0
 have c1 := hr2.c1
 have hl := hr.len
 have hle := hr.le
 have hlt := cell_lt hr.c0
 have hbx := tokBox (Below.refl _ (w.alloc tokO))
 rw [tokO51] at hbx
 obtain ⟨y0, y1, y2, y3, f0, f1, f2, f3⟩ := hbx
 rcases Nat.lt_or_ge i T.length with hi | hi
 ·
  have HI : Hid (i < T.length) := hi
  have HR : Hid _ := hr2
  obtain ⟨q, hq⟩ : ∃ q, tkI T i = q := ⟨_, rfl⟩
  have HQ : Hid (tkI T i = q) := hq
  obtain ⟨b, off, rfl, _⟩ := tk_cells hr2.toks i hi
  rw [hq]
  unfold ptr ttV
  obtain ⟨⟨q1, q2, q3⟩, q4⟩ := q
  dsimp only
  have hii : (i : Int) < (T.length : Int) := by omega
  obtain ⟨n, hn⟩ : ∃ n, n = T.length := ⟨_, rfl⟩
  have HN : Hid (n = T.length) := hn
  rw [← hn] at c0 hl hii
  clear hr hr2 hi hq hle hn
  go_enter Tryz.func70, Tryz.ntmps70
  go_wp2_with fail
  go_quiet (fail)
  go_wp2_with fail
  refine wp_region_held_drew (S := (fun wS => Rdr wS rb (some ⟨b, off, none⟩) cap T i op)) (by kernel_rfl) ?_ (fun hHeld => ?_)
  · exact ((HR.out.below (drewN_below nq _)).below (Below.refl _ _).drew)
  refine tk 0 (some 13) (v := ?_) rfl ?_ ?_
  rotate_left
  · intro wS hSw; (try dsimp only at hSw); go_simp; (try with_reducible rfl)
  try simp only [Act.put, List.setIfInBounds_toArray, List.set_cons_zero, List.set_cons_succ]
  refine tk 1 (some 14) (v := ?_) rfl ?_ ?_
  rotate_left
  · intro wS hSw; (try dsimp only at hSw); go_simp; (try with_reducible rfl)
  try simp only [Act.put, List.setIfInBounds_toArray, List.set_cons_zero, List.set_cons_succ]
  refine tk 2 (some 15) (v := ?_) rfl ?_ ?_
  rotate_left
  · intro wS hSw; (try dsimp only at hSw); go_simp; (try with_reducible rfl)
  try simp only [Act.put, List.setIfInBounds_toArray, List.set_cons_zero, List.set_cons_succ]
  refine tk 3 (some 16) (v := ?_) rfl ?_ ?_
  rotate_left
  · intro wS hSw; (try dsimp only at hSw); have c0 := hSw.c0; rw [← HN.out] at c0; go_simp; (try with_reducible rfl)
  try simp only [Act.put, List.setIfInBounds_toArray, List.set_cons_zero, List.set_cons_succ]
  refine tk 4 (some 17) (v := ?_) rfl ?_ ?_
  rotate_left
  · intro wS hSw; (try dsimp only at hSw); go_simp; (try with_reducible rfl)
  try simp only [Act.put, List.setIfInBounds_toArray, List.set_cons_zero, List.set_cons_succ]
  refine tk 5 (some 18) (v := ?_) rfl ?_ ?_
  rotate_left
  · intro wS hSw; (try dsimp only at hSw); go_simp; (try with_reducible rfl)
  try simp only [Act.put, List.setIfInBounds_toArray, List.set_cons_zero, List.set_cons_succ]
  refine tk 6 (some 19) (v := ?_) rfl ?_ ?_
  rotate_left
  · intro wS hSw; (try dsimp only at hSw); go_simp; (try with_reducible rfl)
  try simp only [Act.put, List.setIfInBounds_toArray, List.set_cons_zero, List.set_cons_succ]
  refine tk 7 (some 20) (v := ?_) rfl ?_ ?_
  rotate_left
  · intro wS hSw; (try dsimp only at hSw); have c1 := hSw.c1; go_simp; (try with_reducible rfl)
  try simp only [Act.put, List.setIfInBounds_toArray, List.set_cons_zero, List.set_cons_succ]
  refine tk 8 (some 21) (v := ?_) rfl ?_ ?_
  rotate_left
  · intro wS hSw; (try dsimp only at hSw); go_simp; (try with_reducible rfl)
  try simp only [Act.put, List.setIfInBounds_toArray, List.set_cons_zero, List.set_cons_succ]
  refine tk 9 (some 22) (v := ?_) rfl ?_ ?_
  rotate_left
  · intro wS hSw; (try dsimp only at hSw); obtain ⟨b2, o2, e2, t0, t1, t2, t3⟩ := tk_cells hSw.toks i HI.out; cases e2; rw [HQ.out] at t0 t1 t2 t3; go_simp; (try with_reducible rfl)
  try simp only [Act.put, List.setIfInBounds_toArray, List.set_cons_zero, List.set_cons_succ]
  refine wpAnyH_ready (rs := [10]) (by kernel_rfl) (by simp) ?_
  refine AllReadyH.cons rfl (fun K hK => ?_) AllReadyH.nil
  go_simp
  refine hK.out _ _ ?_ (fun hHz => ?_)
  · exact (((((HR.out.below (drewN_below (nq + 1) _)).far _ 0 _ hlt).far _ 1 _ hlt).far _ 2 _ hlt).far _ 3 _ hlt)
  clear hK K hHz
  try simp only [Act.put, List.setIfInBounds_toArray, List.set_cons_zero, List.set_cons_succ]
  refine wpAnyH_done (by kernel_rfl) ?_ _
  go_wp2
  refine bodyPost_ret (v := .agg #[.int .i64 q1, .string (bsA q2), .int .i64 q3, .int .i64 q4]) (by simp [results, Tryz.results70, go_sem, y0, y1, y2, y3]) rfl ⟨rfl, ?_⟩
  exact ((((((hA.trans ((drewN_below (nq + 1) _).mono hA.size)).setCell (p := ⟨w.heap.size, 0, none⟩) (Nat.le_refl _) _).setCell (p := ⟨w.heap.size, 1, none⟩) (Nat.le_refl _) _).setCell (p := ⟨w.heap.size, 2, none⟩) (Nat.le_refl _) _).setCell (p := ⟨w.heap.size, 3, none⟩) (Nat.le_refl _) _))
 ·
  rw [tkI_end hi]
  unfold ptr
  show Calls _ _ _ _ fun e w' => e = .returned (.agg #[.int .i64 0, .string ⟨#[]⟩, .int .i64 0, .int .i64 0]) ∧ _
  have hii : ¬ ((i : Int) < (T.length : Int)) := by omega
  generalize T.length = n at c0 hl hi hle hii
  clear hr hr2
  go_enter Tryz.func70, Tryz.ntmps70
  go_wp2_with fail
  go_quiet (fail)
  go_wp2
  refine bodyPost_ret (v := .agg #[.int .i64 0, .string ⟨#[]⟩, .int .i64 0, .int .i64 0]) (by simp [results, Tryz.results70, go_sem, y0, y1, y2, y3]) rfl ⟨rfl, ?_⟩
  exact ((((((hA.trans ((drewN_below nq _).mono hA.size)).setCell (p := ⟨w.heap.size, 0, none⟩) (Nat.le_refl _) _).setCell (p := ⟨w.heap.size, 1, none⟩) (Nat.le_refl _) _).setCell (p := ⟨w.heap.size, 2, none⟩) (Nat.le_refl _) _).setCell (p := ⟨w.heap.size, 3, none⟩) (Nat.le_refl _) _))
theorem isT_one (t : Tt) (k : Int) (s : List UInt8) : isT t k [s] = (decide (t.1.1 = k) && decide (t.1.2.1 = s)) := by
 unfold isT inF
 simp [eq_comm]
theorem see_any (rb : Nat) (ta : Option Addr) (cap : Nat) (T : List Tt) (i op : Nat) (k : Int) (t : List UInt8) (w : World) (hr : Rdr w rb ta cap T i op) :
  Calls Tryz.prog 66 #[ptr rb, .int .i64 k, .string (bsA t)] w fun e w' => e = .returned (.bool (isT (tkI T i) k [t])) ∧ Below w.heap.size w w' := by
 have h1 := next_any rb ta cap T i op w hr
 rw [isT_one]
 unfold ttV at h1
 generalize tkI T i = q at h1 ⊢
 obtain ⟨⟨q1, q2, q3⟩, q4⟩ := q
 dsimp only at h1 ⊢
 unfold ptr at h1 ⊢
 clear hr
 by_cases hk : q1 = k
 ·
  subst hk
  by_cases ht : q2 = t
  ·
   subst ht
   rw [decide_eq_true rfl, decide_eq_true rfl]
   go_enter Tryz.func66, Tryz.ntmps66
   go_wp2_with fail
   refine h1.mono ?_
   rintro e w1 ⟨rfl, hb1⟩
   clear h1
   have hE := hb1.trans (((Below.refl w1.heap.size w1).alloc (Nat.le_refl _) (Obj.cells #[Value.int IntKind.i64 q1, Value.string (bsA q2), Value.int IntKind.i64 q3, Value.int IntKind.i64 q4] 26)).mono hb1.size)
   go_wp2
   go_ret
   exact ⟨rfl, hE⟩
  ·
   rw [decide_eq_true rfl, decide_eq_false ht]
   have g2 : ((bsA q2).toList == (bsA t).toList) = false := by rw [bsA_tl, bsA_tl, beq_eq_false_iff_ne]; exact ht
   clear ht
   go_enter Tryz.func66, Tryz.ntmps66
   go_wp2_with fail
   refine h1.mono ?_
   rintro e w1 ⟨rfl, hb1⟩
   clear h1
   have hE := hb1.trans (((Below.refl w1.heap.size w1).alloc (Nat.le_refl _) (Obj.cells #[Value.int IntKind.i64 q1, Value.string (bsA q2), Value.int IntKind.i64 q3, Value.int IntKind.i64 q4] 26)).mono hb1.size)
   go_wp2
   go_ret
   exact ⟨rfl, hE⟩
 ·
  rw [decide_eq_false hk, Bool.false_and]
  have g1 : (q1 == k) = false := by simpa using hk
  clear hk
  go_enter Tryz.func66, Tryz.ntmps66
  go_wp2_with fail
  refine h1.mono ?_
  rintro e w1 ⟨rfl, hb1⟩
  clear h1
  have hE := hb1.trans (((Below.refl w1.heap.size w1).alloc (Nat.le_refl _) (Obj.cells #[Value.int IntKind.i64 q1, Value.string (bsA q2), Value.int IntKind.i64 q3, Value.int IntKind.i64 q4] 26)).mono hb1.size)
  go_wp2
  go_ret
  exact ⟨rfl, hE⟩
theorem seesWord_any (rb : Nat) (ta : Option Addr) (cap : Nat) (T : List Tt) (i op : Nat) (t : List UInt8) (w : World) (hr : Rdr w rb ta cap T i op) :
  Calls Tryz.prog 88 #[ptr rb, .string (bsA t)] w fun e w' => e = .returned (.bool (isT (tkI T i) 2 [t])) ∧ Below w.heap.size w w' := by
 have h1 := see_any rb ta cap T i op 2 t w hr
 generalize isT (tkI T i) 2 [t] = b at h1 ⊢
 unfold ptr at h1 ⊢
 clear hr
 go_enter Tryz.func88, Tryz.ntmps88
 go_wp2_with fail
 refine h1.mono ?_
 rintro e w1 ⟨rfl, hb1⟩
 clear h1
 go_wp2
 go_ret
 exact ⟨rfl, hb1⟩
theorem seesSign_any (rb : Nat) (ta : Option Addr) (cap : Nat) (T : List Tt) (i op : Nat) (t : List UInt8) (w : World) (hr : Rdr w rb ta cap T i op) :
  Calls Tryz.prog 48 #[ptr rb, .string (bsA t)] w fun e w' => e = .returned (.bool (isT (tkI T i) 6 [t])) ∧ Below w.heap.size w w' := by
 have h1 := see_any rb ta cap T i op 6 t w hr
 generalize isT (tkI T i) 6 [t] = b at h1 ⊢
 unfold ptr at h1 ⊢
 clear hr
 go_enter Tryz.func48, Tryz.ntmps48
 go_wp2_with fail
 refine h1.mono ?_
 rintro e w1 ⟨rfl, hb1⟩
 clear h1
 go_wp2
 go_ret
 exact ⟨rfl, hb1⟩
theorem seesThen_any (rb : Nat) (ta : Option Addr) (cap : Nat) (T : List Tt) (i op : Nat) (w : World) (hr : Rdr w rb ta cap T i op) :
  Calls Tryz.prog 28 #[ptr rb] w fun e w' => e = .returned (.bool (isT (tkI T i) 6 [[45, 62]])) ∧ Below w.heap.size w w' := by
 have h1 := seesSign_any rb ta cap T i op [45, 62] w hr
 generalize isT (tkI T i) 6 [[45, 62]] = b at h1 ⊢
 unfold ptr at h1 ⊢
 clear hr
 go_enter Tryz.func28, Tryz.ntmps28
 go_wp2_with fail
 refine h1.mono ?_
 rintro e w1 ⟨rfl, hb1⟩
 clear h1
 go_wp2
 go_ret
 exact ⟨rfl, hb1⟩
theorem seesOr_any (rb : Nat) (ta : Option Addr) (cap : Nat) (T : List Tt) (i op : Nat) (w : World) (hr : Rdr w rb ta cap T i op) :
  Calls Tryz.prog 51 #[ptr rb] w fun e w' => e = .returned (.bool (isT (tkI T i) 2 [[111, 114]])) ∧ Below w.heap.size w w' := by
 have h1 := seesWord_any rb ta cap T i op [111, 114] w hr
 generalize isT (tkI T i) 2 [[111, 114]] = b at h1 ⊢
 unfold ptr at h1 ⊢
 clear hr
 go_enter Tryz.func51, Tryz.ntmps51
 go_wp2_with fail
 refine h1.mono ?_
 rintro e w1 ⟨rfl, hb1⟩
 clear h1
 go_wp2
 go_ret
 exact ⟨rfl, hb1⟩
theorem seesAnd_any (rb : Nat) (ta : Option Addr) (cap : Nat) (T : List Tt) (i op : Nat) (w : World) (hr : Rdr w rb ta cap T i op) :
  Calls Tryz.prog 89 #[ptr rb] w fun e w' => e = .returned (.bool (isT (tkI T i) 2 [[97, 110, 100]])) ∧ Below w.heap.size w w' := by
 have h1 := seesWord_any rb ta cap T i op [97, 110, 100] w hr
 generalize isT (tkI T i) 2 [[97, 110, 100]] = b at h1 ⊢
 unfold ptr at h1 ⊢
 clear hr
 go_enter Tryz.func89, Tryz.ntmps89
 go_wp2_with fail
 refine h1.mono ?_
 rintro e w1 ⟨rfl, hb1⟩
 clear h1
 go_wp2
 go_ret
 exact ⟨rfl, hb1⟩
def fsV (p : Nat) (er : Int) : Value := .iface 71 (.agg #[.int .i64 p, .int .i64 er])
def GUs (p : Nat) (er : Int) (e : Ending) : Prop := e = .panicked [{ v := fsV p er, recovered := false }]
theorem must_ok (rb : Nat) (w : World) : Calls Tryz.prog 23 #[ptr rb, .bool true] w fun e w' => e = .returned (.tuple #[]) ∧ w' = w := by
 unfold ptr
 go_enter Tryz.func23, Tryz.ntmps23
 go_wp2
 go_end0
 exact ⟨rfl, rfl⟩
theorem must_no (rb : Nat) (ta : Option Addr) (cap : Nat) (T : List Tt) (i op : Nat) (w : World) (hr : Rdr w rb ta cap T i op) : Calls Tryz.prog 23 #[ptr rb, .bool false] w fun e w' => GUs i 70 e ∧ w' = w := by
 have c1 := hr.c1
 unfold ptr
 unfold GUs fsV
 clear hr
 go_enter Tryz.func23, Tryz.ntmps23
 go_wp2
 exact ⟨rfl, rfl, rfl⟩
theorem beg_ok (rb : Nat) (ta : Option Addr) (cap : Nat) (T : List Tt) (i op : Nat) (w : World) (hr : Rdr w rb ta cap T i op) (ho : op < 100) :
  Calls Tryz.prog 26 #[ptr rb] w fun e w' => e = .returned (.tuple #[]) ∧ Rdr w' rb ta cap T i (op + 1) ∧ Fx rb w w' := by
 have c2 := hr.c2
 have f2 := hr.f2
 have h := hr.op (op + 1)
 rw [show (((op + 1 : Nat)) : Int) = (op : Int) + 1 by omega] at h
 have HR : Hid _ := h
 have g1 : ((op : Int) == 100) = false := by rw [beq_eq_false_iff_ne]; omega
 unfold ptr
 clear hr h
 go_enter Tryz.func26, Tryz.ntmps26
 go_wp2
 go_end0
 exact ⟨rfl, HR.out, Fx.set _ _ _⟩
theorem beg_no (rb : Nat) (ta : Option Addr) (cap : Nat) (T : List Tt) (i : Nat) (w : World) (hr : Rdr w rb ta cap T i 100) :
  Calls Tryz.prog 26 #[ptr rb] w fun e w' => GUs i 71 e ∧ w' = w := by
 have c1 := hr.c1
 have c2 := hr.c2
 unfold ptr
 unfold GUs fsV
 clear hr
 go_enter Tryz.func26, Tryz.ntmps26
 go_wp2
 exact ⟨rfl, rfl, rfl⟩
theorem fin_any (rb : Nat) (ta : Option Addr) (cap : Nat) (T : List Tt) (i op : Nat) (w : World) (hr : Rdr w rb ta cap T i (op + 1)) (ho : op ≤ 100) :
  Calls Tryz.prog 30 #[ptr rb] w fun e w' => e = .returned (.tuple #[]) ∧ Rdr w' rb ta cap T i op ∧ Fx rb w w' := by
 have c2 := hr.c2
 have f2 := hr.f2
 have HR : Hid _ := hr.op op
 have e1 : (((op + 1 : Nat) : Int) - 1) = (op : Int) := by omega
 unfold ptr
 clear hr
 go_enter Tryz.func30, Tryz.ntmps30
 go_wp2
 go_end0
 exact ⟨rfl, HR.out, Fx.set _ _ _⟩
theorem take_s (rb : Nat) (ta : Option Addr) (cap : Nat) (T : List Tt) (i op : Nat) (w : World) (hr : Rdr w rb ta cap T i op) (hi : i < T.length) :
  Calls Tryz.prog 49 #[ptr rb] w fun e w' => e = .returned (ttV (tkI T i)) ∧ Rdr w' rb ta cap T (i + 1) op ∧ Fx rb w w' := by
 have hA : Below w.heap.size w (w.alloc (Obj.cells #[Value.int IntKind.i64 0, Value.string { data := #[] }, Value.int IntKind.i64 0, Value.int IntKind.i64 0] 26)) := (Below.refl _ _).alloc (Nat.le_refl _) _
 have h1 := next_any rb ta cap T i op _ (hr.below hA)
 have HR0 : Hid _ := hr.below hA
 have hne : rb ≠ w.heap.size := Nat.ne_of_lt (cell_lt hr.c0)
 have hl := hr.len
 have bo := Box.new w (.int .i64 0) (.string ⟨#[]⟩) (.int .i64 0) (.int .i64 0)
 have HBO : Hid _ := bo
 unfold ttV at h1 ⊢
 generalize tkI T i = q at h1 ⊢
 obtain ⟨⟨q1, q2, q3⟩, q4⟩ := q
 dsimp only at h1 ⊢
 unfold ptr at h1 ⊢
 clear hr bo
 go_enter Tryz.func49, Tryz.ntmps49
 go_wp2_with fail
 refine h1.mono ?_
 rintro e w1 ⟨rfl, hb1⟩
 clear h1
 have hX : Below w1.heap.size w1 (w1.alloc (Obj.cells #[Value.int IntKind.i64 q1, Value.string (bsA q2), Value.int IntKind.i64 q3, Value.int IntKind.i64 q4] 26)) := (Below.refl _ _).alloc (Nat.le_refl _) _
 have HR : Hid _ := (HR0.out.below hb1).below hX
 obtain ⟨z0, z1, z2, z3⟩ := Box4.new w1 (.int .i64 q1) (.string (bsA q2)) (.int .i64 q3) (.int .i64 q4) 26
 obtain ⟨y0, y1, y2, y3, g0, g1, g2, g3⟩ := (HBO.out.below hb1).below hX
 have c1 := HR.out.c1
 have f1 := HR.out.f1
 have hne1 : rb ≠ w1.heap.size := Nat.ne_of_lt (Nat.lt_of_lt_of_le (cell_lt HR0.out.c0) hb1.size)
 have HF : Hid (Fx rb w w1) := (Fx.below hA).trans (Fx.below hb1)
 have hlt : rb < w.heap.size := by have h1 := cell_lt HR0.out.c0; rw [World.size_alloc] at h1; omega
 have hsz : w.heap.size < w1.heap.size := by have h1 := hb1.size; rw [World.size_alloc] at h1; omega
 go_wp2
 have h2 := HR.out.at (i + 1) (by omega)
 rw [show (((i + 1 : Nat)) : Int) = (i : Int) + 1 by omega] at h2
 refine bodyPost_ret (v := .agg #[.int .i64 q1, .string (bsA q2), .int .i64 q3, .int .i64 q4]) (by simp [results, Tryz.results49, go_sem, y0, y1, y2, y3, hne, hne1]) rfl ⟨rfl, ?_, ?_⟩
 · exact (((h2.far _ 0 _ hlt).far _ 1 _ hlt).far _ 2 _ hlt).far _ 3 _ hlt
 · exact (((((HF.out.trans (Fx.below hX)).trans (Fx.set _ 1 _)).new _ 0 _ (Nat.le_refl _)).new _ 1 _ (Nat.le_refl _)).new _ 2 _ (Nat.le_refl _)).new _ 3 _ (Nat.le_refl _)
end Go.Proofs.YtgdndahhledikaaGreatDoor
