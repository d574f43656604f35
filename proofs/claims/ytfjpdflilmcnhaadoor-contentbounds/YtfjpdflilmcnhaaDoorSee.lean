/- A view that looks at what came (see, turns). -/
import Derived.Test.YtfjpdflilmcnhaaDoorTrn
import Derived.Test.YtfjpdflilmcnhaaDoorMgF
namespace Go.Proofs.YtfjpdflilmcnhaaDoor
open Go.ChangeShapes Go.WideShapes Go.ChangeAt Go.RowKit

structure Wrp (p : Prop) : Prop where
  out : p
theorem consHd {P : Program} {md : Region.Mode} {ops : Array Oper} {Q : Exit → Act → World → Prop} {S : World → Prop} {fuel : Nat} {listed : Array Bool} {a : Act} {w : World} (i : Nat) (o : Oper) {rs : List Nat} (ho : ops[i]? = some o)
    (h : ∀ K' : Act → World → Prop, Shut (∀ a w, S w → (S w → wpAnyH P md ops Q S fuel (listed.setIfInBounds i true) a w) → K' a w) → Wrp (if Region.wanted o (yielded ops a.tmps) = true then Oper.wp P o a w K' Q else K' (a.put o.dst undef) w))
    (hs : AllReadyH P md ops Q S fuel listed a w rs) : AllReadyH P md ops Q S fuel listed a w (i :: rs) := AllReadyH.cons ho (fun K hK => (h K hK).out) hs
def tC (c : Nat) (n : Int) (l : List Arv) (now : Int) : Option Int := if c = 3 then lvP n now l else if c = 5 then btP (aAt l 0).time n now l else none
theorem eachT (c : Nat) (hc : c < 10) (n : Int) (a : Option Addr) (cn cc : Nat) (d : Bool) (la : Option Addr) (lc : Nat) (now : Int) (l : List Arv) (w : World) (hok : c = 3 ∨ c = 5 → CelsAt w la l ∧ l.length ≤ 200 ∧ Tms l ∧ 1 ≤ n ∧ n ≤ 1099511627776) :
    Calls Tryd.prog (kT c) #[vvV (kM c) (kH c) (kT c) n a cn cc d la l.length lc now] w fun e w' => e = .returned (oT (tC c n l now)) ∧ Below w.heap.size w w' := by
  have h : c = 3 ∨ c = 5 ∨ (kT c = 30 ∧ tC c n l now = none) := by
    have : c = 0 ∨ c = 1 ∨ c = 2 ∨ c = 3 ∨ c = 4 ∨ c = 5 ∨ c = 6 ∨ c = 7 ∨ c = 8 ∨ c = 9 := by omega
    rcases this with rfl | rfl | rfl | rfl | rfl | rfl | rfl | rfl | rfl | rfl <;> first | exact Or.inl rfl | exact Or.inr (Or.inl rfl) | exact Or.inr (Or.inr ⟨rfl, rfl⟩)
  rcases h with rfl | rfl | ⟨h1, h2⟩
  · obtain ⟨q1, q2, q3, q4, q5⟩ := hok (Or.inl rfl)
    exact leaving_any _ _ _ n a cn cc d la lc now l w q1 q2 q3 q4 q5
  · obtain ⟨q1, q2, q3, q4, q5⟩ := hok (Or.inr rfl)
    exact batching_any _ _ _ n a cn cc d la lc now l w q1 q2 q3 q4 q5
  · rw [h2, h1]
    exact never_any _ _ _ n a cn cc d la l.length lc now w
theorem kT_enters (c : Nat) (hc : c < 10) (args : Array Value) (w : World) : (callFunc (kT c) args).run Tryd.prog w = .ok (.enter (kT c) args) w := by
  have : c = 0 ∨ c = 1 ∨ c = 2 ∨ c = 3 ∨ c = 4 ∨ c = 5 ∨ c = 6 ∨ c = 7 ∨ c = 8 ∨ c = 9 := by omega
  have h : kT c = 30 ∨ kT c = 37 ∨ kT c = 40 := by
    rcases this with rfl | rfl | rfl | rfl | rfl | rfl | rfl | rfl | rfl | rfl <;> decide
  rcases h with h | h | h <;> rw [h]
  · exact enters_of Tryd.func30 (by kernel_rfl) rfl args w
  · exact enters_of Tryd.func37 (by kernel_rfl) rfl args w
  · exact enters_of Tryd.func40 (by kernel_rfl) rfl args w
set_option maxRecDepth 20000 in
set_option maxHeartbeats 8000000 in
theorem turns_any (c : Nat) (hc : c < 10) (n : Int) (a : Option Addr) (cn cc : Nat) (d : Bool) (la : Option Addr) (lc : Nat) (now : Int) (l : List Arv) (w : World) (hok : c = 3 ∨ c = 5 → CelsAt w la l ∧ l.length ≤ 200 ∧ Tms l ∧ 1 ≤ n ∧ n ≤ 1099511627776) :
    Calls Tryd.prog 26 #[vvV (kM c) (kH c) (kT c) n a cn cc d la l.length lc now] w fun e w' => e = .returned (oT (tC c n l now)) ∧ Below w.heap.size w w' := by
  have hE := fun wx (hb : Below w.heap.size w wx) => eachT c hc n a cn cc d la lc now l wx (fun h => by obtain ⟨q1, q2⟩ := hok h; exact ⟨q1.below hb, q2⟩)
  have eg := kT_enters c hc
  unfold oT at hE ⊢
  generalize tC c n l now = o at *
  generalize l.length = ln at *
  unfold vvV at hE ⊢
  generalize kM c = f0 at *
  generalize kH c = f1 at *
  generalize kT c = f2 at *
  clear hok
  go_enter Tryd.func26, Tryd.ntmps26
  go_wp2_with fail
  refine (hE _ (Bel.out (by repeat (first | exact Bel.refl _ | assumption | refine Bel.drew ?_ | refine Bel.drewN ?_ _ | refine Bel.alloc ?_ _ | refine Bel.setCell ?_ (by simp <;> omega) _ | refine Bel.step ?_ (by assumption))))).mono ?_
  rintro e w1 ⟨rfl, hb1⟩
  clear hE eg
  go_wp2
  go_ret2
  exact ⟨rfl, (Bel.out (by repeat (first | exact Bel.refl _ | assumption | refine Bel.drew ?_ | refine Bel.drewN ?_ _ | refine Bel.alloc ?_ _ | refine Bel.setCell ?_ (by simp <;> omega) _ | refine Bel.step ?_ (by assumption))))⟩
theorem frz_below {w w' : World} (hb : Below w.heap.size w w') {b o : Nat} {v : Value} (h : w.cell? ⟨b, o, none⟩ = some v) (hf : w.frozen? ⟨b, o, none⟩ = false) : w'.frozen? ⟨b, o, none⟩ = false := by
  rw [hb.frozen (p := ⟨b, o, none⟩) (cell_lt h)]; exact hf
theorem set8_cells {w : World} {X : Nat} {u0 u1 u2 u3 u4 u5 u6 u7 : Value} (z0 : w.cell? ⟨X, 0, none⟩ = some u0) (z1 : w.cell? ⟨X, 1, none⟩ = some u1) (z2 : w.cell? ⟨X, 2, none⟩ = some u2) (z3 : w.cell? ⟨X, 3, none⟩ = some u3) (z4 : w.cell? ⟨X, 4, none⟩ = some u4) (z5 : w.cell? ⟨X, 5, none⟩ = some u5) (z6 : w.cell? ⟨X, 6, none⟩ = some u6) (z7 : w.cell? ⟨X, 7, none⟩ = some u7) (v0 v1 v2 v3 v4 v5 v6 v7 : Value) :
    World.cell? ((((((((w.setCell ⟨X, 0, none⟩ v0).setCell ⟨X, 1, none⟩ v1).setCell ⟨X, 2, none⟩ v2).setCell ⟨X, 3, none⟩ v3).setCell ⟨X, 4, none⟩ v4).setCell ⟨X, 5, none⟩ v5).setCell ⟨X, 6, none⟩ v6).setCell ⟨X, 7, none⟩ v7) ⟨X, 0, none⟩ = some v0 ∧ World.cell? ((((((((w.setCell ⟨X, 0, none⟩ v0).setCell ⟨X, 1, none⟩ v1).setCell ⟨X, 2, none⟩ v2).setCell ⟨X, 3, none⟩ v3).setCell ⟨X, 4, none⟩ v4).setCell ⟨X, 5, none⟩ v5).setCell ⟨X, 6, none⟩ v6).setCell ⟨X, 7, none⟩ v7) ⟨X, 1, none⟩ = some v1 ∧ World.cell? ((((((((w.setCell ⟨X, 0, none⟩ v0).setCell ⟨X, 1, none⟩ v1).setCell ⟨X, 2, none⟩ v2).setCell ⟨X, 3, none⟩ v3).setCell ⟨X, 4, none⟩ v4).setCell ⟨X, 5, none⟩ v5).setCell ⟨X, 6, none⟩ v6).setCell ⟨X, 7, none⟩ v7) ⟨X, 2, none⟩ = some v2 ∧ World.cell? ((((((((w.setCell ⟨X, 0, none⟩ v0).setCell ⟨X, 1, none⟩ v1).setCell ⟨X, 2, none⟩ v2).setCell ⟨X, 3, none⟩ v3).setCell ⟨X, 4, none⟩ v4).setCell ⟨X, 5, none⟩ v5).setCell ⟨X, 6, none⟩ v6).setCell ⟨X, 7, none⟩ v7) ⟨X, 3, none⟩ = some v3 ∧ World.cell? ((((((((w.setCell ⟨X, 0, none⟩ v0).setCell ⟨X, 1, none⟩ v1).setCell ⟨X, 2, none⟩ v2).setCell ⟨X, 3, none⟩ v3).setCell ⟨X, 4, none⟩ v4).setCell ⟨X, 5, none⟩ v5).setCell ⟨X, 6, none⟩ v6).setCell ⟨X, 7, none⟩ v7) ⟨X, 4, none⟩ = some v4 ∧ World.cell? ((((((((w.setCell ⟨X, 0, none⟩ v0).setCell ⟨X, 1, none⟩ v1).setCell ⟨X, 2, none⟩ v2).setCell ⟨X, 3, none⟩ v3).setCell ⟨X, 4, none⟩ v4).setCell ⟨X, 5, none⟩ v5).setCell ⟨X, 6, none⟩ v6).setCell ⟨X, 7, none⟩ v7) ⟨X, 5, none⟩ = some v5 ∧ World.cell? ((((((((w.setCell ⟨X, 0, none⟩ v0).setCell ⟨X, 1, none⟩ v1).setCell ⟨X, 2, none⟩ v2).setCell ⟨X, 3, none⟩ v3).setCell ⟨X, 4, none⟩ v4).setCell ⟨X, 5, none⟩ v5).setCell ⟨X, 6, none⟩ v6).setCell ⟨X, 7, none⟩ v7) ⟨X, 6, none⟩ = some v6 ∧ World.cell? ((((((((w.setCell ⟨X, 0, none⟩ v0).setCell ⟨X, 1, none⟩ v1).setCell ⟨X, 2, none⟩ v2).setCell ⟨X, 3, none⟩ v3).setCell ⟨X, 4, none⟩ v4).setCell ⟨X, 5, none⟩ v5).setCell ⟨X, 6, none⟩ v6).setCell ⟨X, 7, none⟩ v7) ⟨X, 7, none⟩ = some v7 := by
  refine ⟨?_, ?_, ?_, ?_, ?_, ?_, ?_, ?_⟩ <;> go_simp
theorem set8_below {w0 w : World} {X : Nat} (hb : Below w0.heap.size w0 w) (hX : w0.heap.size ≤ X) (v0 v1 v2 v3 v4 v5 v6 v7 : Value) : Below w0.heap.size w0 ((((((((w.setCell ⟨X, 0, none⟩ v0).setCell ⟨X, 1, none⟩ v1).setCell ⟨X, 2, none⟩ v2).setCell ⟨X, 3, none⟩ v3).setCell ⟨X, 4, none⟩ v4).setCell ⟨X, 5, none⟩ v5).setCell ⟨X, 6, none⟩ v6).setCell ⟨X, 7, none⟩ v7) := by
  have hp : ∀ i, w0.heap.size ≤ (⟨X, i, none⟩ : Addr).block := fun i => hX
  exact ((((((((hb.setCell (hp 0) v0).setCell (hp 1) v1).setCell (hp 2) v2).setCell (hp 3) v3).setCell (hp 4) v4).setCell (hp 5) v5).setCell (hp 6) v6).setCell (hp 7) v7)
theorem cell_belowB {B : Nat} {w w' : World} (hb : Below B w w') {b o : Nat} {v : Value} (h : w.cell? ⟨b, o, none⟩ = some v) (hlt : b < B) : w'.cell? ⟨b, o, none⟩ = some v := by
  rw [hb.cell (p := ⟨b, o, none⟩) hlt]; exact h
def sV (ok : Bool) (k n : Int) (a : Option Addr) (cn cc : Nat) (d : Bool) (la : Option Addr) (ln lc : Nat) (now : Int) : Value :=
  if ok then vvV (kM (clsI k)) (kH (clsI k)) (kT (clsI k)) n a cn cc d la ln lc now else vvV (kM 0) (kH 0) (kT 0) 0 none 0 0 false none 0 0 0
set_option maxRecDepth 20000 in
set_option maxHeartbeats 8000000 in
theorem see_some (k n : Int) (a : Option Addr) (cap : Nat) (d : Bool) (la : Option Addr) (lc : Nat) (now : Int) (zs : List Int) (l : List Arv) (w : World) (hreach : zs.length * 8 ≤ 140737488351232) (hz : NsAt w a zs) (hl : CelsAt w la l) (h0 : 0 < l.length) (hll : l.length ≤ 200) :
    Calls Tryd.prog 23 #[vwV k n a zs.length cap d, .slice la l.length lc, .int .i64 now] w fun e w' => e = .returned (sV (mayB k n zs d ((aAt l 0).row.length : Nat)) k n a zs.length cap d la l.length lc now) ∧ Below w.heap.size w w' := by
  obtain ⟨b, off, rfl, hc⟩ : ∃ b off, la = some ⟨b, off, none⟩ ∧ ∀ i, i < l.length → w.cell? ⟨b, off + i * 3, none⟩ = some (.int .i64 (aAt l i).seq) ∧ w.cell? ⟨b, off + i * 3 + 1, none⟩ = some (.int .i64 (aAt l i).time) ∧ w.cell? ⟨b, off + i * 3 + 2, none⟩ = some (.slice (aAt l i).a (aAt l i).row.length (aAt l i).cap) := by
    rcases hl with h | h
    · rw [h] at h0; cases h0
    · exact h
  have c2' := (hc 0 h0).2.2
  simp only [Nat.zero_mul, Nat.add_zero] at c2'
  have hck := fun wx (hb : Below w.heap.size w wx) => Check_any k n a cap d ((aAt l 0).row.length : Nat) zs wx hreach (hz.below hb)
  have hk := kindOf_any k
  have hk0 := kindOf_any 0
  have hc0 : clsI 0 = 0 := by decide
  rw [hc0] at hk0
  unfold sV
  generalize mayB k n zs d ((aAt l 0).row.length : Nat) = ok at *
  generalize (aAt l 0).row.length = rl at *
  generalize (aAt l 0).a = ra at *
  generalize (aAt l 0).cap = rc at *
  generalize zs.length = zl at *
  generalize hll2 : l.length = ll at *
  have hl0 : ¬ ll = 0 := by omega
  have hl1 : (0 < ll) = True := eq_true h0
  have hl2 : (((ll : Nat) : Int) == 0) = false := by simp; omega
  clear hc hl hz hreach
  unfold kndV fnV at hk hk0
  unfold vwV at hck ⊢
  generalize clsI k = cls at *
  generalize hg0 : kM cls = f0 at *
  generalize hg1 : kH cls = f1 at *
  generalize hg2 : kT cls = f2 at *
  generalize kM 0 = e0' at *
  generalize kH 0 = e1' at *
  generalize kT 0 = e2' at *
  clear hg0 hg1 hg2 hc0
  unfold vvV
  go_enter Tryd.func23, Tryd.ntmps23
  go_upto_region 1 with (fail)
  have hb1 : Below w.heap.size w ((w.alloc (Obj.cells #[.int .i64 k, .int .i64 n, .slice a zl cap, .bool d] 24)).alloc (Obj.cells #[.nilFunc, .nilFunc, .nilFunc, .int .i64 0, .slice none 0 0, .bool false, .slice none 0 0, .int .i64 0] 64)) := ((Below.refl w.heap.size w).alloc (Nat.le_refl _) _).alloc (by simp) _
  have c2 := cell_below hb1 c2'
  have y0 : World.cell? ((w.alloc (Obj.cells #[.int .i64 k, .int .i64 n, .slice a zl cap, .bool d] 24)).alloc (Obj.cells #[.nilFunc, .nilFunc, .nilFunc, .int .i64 0, .slice none 0 0, .bool false, .slice none 0 0, .int .i64 0] 64)) ⟨w.heap.size, 0, none⟩ = some (.int .i64 k) := by go_simp
  have y1 : World.cell? ((w.alloc (Obj.cells #[.int .i64 k, .int .i64 n, .slice a zl cap, .bool d] 24)).alloc (Obj.cells #[.nilFunc, .nilFunc, .nilFunc, .int .i64 0, .slice none 0 0, .bool false, .slice none 0 0, .int .i64 0] 64)) ⟨w.heap.size, 1, none⟩ = some (.int .i64 n) := by go_simp
  have y2 : World.cell? ((w.alloc (Obj.cells #[.int .i64 k, .int .i64 n, .slice a zl cap, .bool d] 24)).alloc (Obj.cells #[.nilFunc, .nilFunc, .nilFunc, .int .i64 0, .slice none 0 0, .bool false, .slice none 0 0, .int .i64 0] 64)) ⟨w.heap.size, 2, none⟩ = some (.slice a zl cap) := by go_simp
  have y3 : World.cell? ((w.alloc (Obj.cells #[.int .i64 k, .int .i64 n, .slice a zl cap, .bool d] 24)).alloc (Obj.cells #[.nilFunc, .nilFunc, .nilFunc, .int .i64 0, .slice none 0 0, .bool false, .slice none 0 0, .int .i64 0] 64)) ⟨w.heap.size, 3, none⟩ = some (.bool d) := by go_simp
  have bs : ∀ i v, #[Value.nilFunc, .nilFunc, .nilFunc, .int .i64 0, .slice none 0 0, .bool false, .slice none 0 0, .int .i64 0][i]? = some v → World.cell? ((w.alloc (Obj.cells #[.int .i64 k, .int .i64 n, .slice a zl cap, .bool d] 24)).alloc (Obj.cells #[.nilFunc, .nilFunc, .nilFunc, .int .i64 0, .slice none 0 0, .bool false, .slice none 0 0, .int .i64 0] 64)) ⟨w.heap.size + 1, i, none⟩ = some v := fun i v h => by
    have := World.cell?_alloc_mark (w.alloc (Obj.cells #[.int .i64 k, .int .i64 n, .slice a zl cap, .bool d] 24)) #[.nilFunc, .nilFunc, .nilFunc, .int .i64 0, .slice none 0 0, .bool false, .slice none 0 0, .int .i64 0] 64 (0, 0) i
    rw [World.size_alloc] at this
    exact this.trans h
  have bf : ∀ i, i < 8 → World.frozen? ((w.alloc (Obj.cells #[.int .i64 k, .int .i64 n, .slice a zl cap, .bool d] 24)).alloc (Obj.cells #[.nilFunc, .nilFunc, .nilFunc, .int .i64 0, .slice none 0 0, .bool false, .slice none 0 0, .int .i64 0] 64)) ⟨w.heap.size + 1, i, none⟩ = false := fun i _ => by go_simp
  have HX : Hid (w.heap.size + 1 < (World.heap ((w.alloc (Obj.cells #[.int .i64 k, .int .i64 n, .slice a zl cap, .bool d] 24)).alloc (Obj.cells #[.nilFunc, .nilFunc, .nilFunc, .int .i64 0, .slice none 0 0, .bool false, .slice none 0 0, .int .i64 0] 64))).size) := by show _ < _; simp
  obtain ⟨X, hX⟩ : ∃ X, w.heap.size = X := ⟨_, rfl⟩
  have HB1 : Hid _ := hb1
  have HGX : Hid (w.heap.size = X) := hX
  have HBS : Hid _ := bs
  have HBF : Hid _ := bf
  rw [hX] at y0 y1 y2 y3 HBS HBF HX ⊢
  clear hX c2' bs bf hb1
  generalize ((w.alloc (Obj.cells #[.int .i64 k, .int .i64 n, .slice a zl cap, .bool d] 24)).alloc (Obj.cells #[.nilFunc, .nilFunc, .nilFunc, .int .i64 0, .slice none 0 0, .bool false, .slice none 0 0, .int .i64 0] 64)) = w1 at *
  refine wp_region_held_drew (S := (fun wS => Bel w1.heap.size w1 wS)) (by kernel_rfl) ?_ (fun hHeld => ?_)
  · (try dsimp only); exact (Bel.refl _).drew
  refine wpAnyH_take (i := 0) (oi := { dst := some 7, op := Op.move (Operand.tmp 1), type := 31, pos := "kinds.go:49", after := #[], guard := none }) (v := ?_) rfl (by kernel_rfl) (by kernel_rfl) (by kernel_rfl) (fun _ _ _ h => h) (Or.inl ⟨by kernel_rfl, ?_⟩) (by assumption) ?_
  rotate_left
  · intro wS hSw; (try dsimp only at hSw); go_simp; (try with_reducible rfl)
  try simp only [Act.put, List.setIfInBounds_toArray, List.set_cons_zero, List.set_cons_succ]
  refine wpAnyH_take (i := 1) (oi := { dst := some 8, op := Op.call { callee := Callee.builtin Builtin.len, args := #[Operand.tmp 7], argTypes := #[31] }, type := 3, pos := "kinds.go:49", after := #[{ on := 0, ground := Ground.data }], guard := none }) (v := ?_) rfl (by kernel_rfl) (by kernel_rfl) (by kernel_rfl) (fun _ _ _ h => h) (Or.inl ⟨by kernel_rfl, ?_⟩) (by assumption) ?_
  rotate_left
  · intro wS hSw; (try dsimp only at hSw); go_simp; (try with_reducible rfl)
  try simp only [Act.put, List.setIfInBounds_toArray, List.set_cons_zero, List.set_cons_succ]
  refine wpAnyH_take (i := 2) (oi := { dst := some 9, op := Op.binOp BinOp.eql 3 (Operand.tmp 8) (Operand.const (Value.int IntKind.i64 0)) 3, type := 4, pos := "kinds.go:49", after := #[{ on := 1, ground := Ground.data }], guard := none }) (v := ?_) rfl (by kernel_rfl) (by kernel_rfl) (by kernel_rfl) (fun _ _ _ h => h) (Or.inl ⟨by kernel_rfl, ?_⟩) (by assumption) ?_
  rotate_left
  · intro wS hSw; (try dsimp only at hSw); go_simp; (try with_reducible rfl)
  try simp only [Act.put, List.setIfInBounds_toArray, List.set_cons_zero, List.set_cons_succ]
  refine wpAnyH_take (i := 3) (oi := { dst := some 10, op := Op.move (Operand.tmp 9), type := 4, pos := "kinds.go:49", after := #[{ on := 2, ground := Ground.data }], guard := none }) (v := ?_) rfl (by kernel_rfl) (by kernel_rfl) (by kernel_rfl) (fun _ _ _ h => h) (Or.inl ⟨by kernel_rfl, ?_⟩) (by assumption) ?_
  rotate_left
  · intro wS hSw; (try dsimp only at hSw); go_simp; (try with_reducible rfl)
  try simp only [Act.put, List.setIfInBounds_toArray, List.set_cons_zero, List.set_cons_succ]
  refine wpAnyH_take (i := 4) (oi := { dst := some 11, op := Op.load 24 (Operand.tmp 3), type := 24, pos := "kinds.go:49", after := #[{ on := 3, ground := Ground.guard }], guard := some (3, false) }) (v := ?_) rfl (by kernel_rfl) (by kernel_rfl) (by kernel_rfl) (fun _ _ _ h => h) (Or.inl ⟨by kernel_rfl, ?_⟩) (by assumption) ?_
  rotate_left
  · intro wS hSw; (try dsimp only at hSw); have e0 := cell_below hSw.out y0; have e1 := cell_below hSw.out y1; have e2 := cell_below hSw.out y2; have e3 := cell_below hSw.out y3; go_simp; (try with_reducible rfl)
  try simp only [Act.put, List.setIfInBounds_toArray, List.set_cons_zero, List.set_cons_succ]
  refine wpAnyH_take (i := 5) (oi := { dst := some 12, op := Op.move (Operand.tmp 1), type := 31, pos := "kinds.go:49", after := #[{ on := 3, ground := Ground.guard }], guard := some (3, false) }) (v := ?_) rfl (by kernel_rfl) (by kernel_rfl) (by kernel_rfl) (fun _ _ _ h => h) (Or.inl ⟨by kernel_rfl, ?_⟩) (by assumption) ?_
  rotate_left
  · intro wS hSw; (try dsimp only at hSw); go_simp; (try with_reducible rfl)
  try simp only [Act.put, List.setIfInBounds_toArray, List.set_cons_zero, List.set_cons_succ]
  refine wpAnyH_take (i := 6) (oi := { dst := some 13, op := Op.indexAddr 31 (Operand.tmp 12) (Operand.const (Value.int IntKind.i64 0)), type := 0, pos := "kinds.go:49", after := #[{ on := 5, ground := Ground.data }, { on := 3, ground := Ground.guard }], guard := some (3, false) }) (v := ?_) rfl (by kernel_rfl) (by kernel_rfl) (by kernel_rfl) (fun _ _ _ h => h) (Or.inl ⟨by kernel_rfl, ?_⟩) (by assumption) ?_
  rotate_left
  · intro wS hSw; (try dsimp only at hSw); go_simp; (try with_reducible rfl)
  try simp only [Act.put, List.setIfInBounds_toArray, List.set_cons_zero, List.set_cons_succ]
  refine wpAnyH_take (i := 7) (oi := { dst := some 14, op := Op.fieldAddr 40 (Operand.tmp 13) 2, type := 0, pos := "kinds.go:49", after := #[{ on := 6, ground := Ground.data }, { on := 3, ground := Ground.guard }], guard := some (3, false) }) (v := ?_) rfl (by kernel_rfl) (by kernel_rfl) (by kernel_rfl) (fun _ _ _ h => h) (Or.inl ⟨by kernel_rfl, ?_⟩) (by assumption) ?_
  rotate_left
  · intro wS hSw; (try dsimp only at hSw); go_simp; (try with_reducible rfl)
  try simp only [Act.put, List.setIfInBounds_toArray, List.set_cons_zero, List.set_cons_succ]
  refine wpAnyH_take (i := 8) (oi := { dst := some 15, op := Op.load 38 (Operand.tmp 14), type := 38, pos := "kinds.go:49", after := #[{ on := 7, ground := Ground.data }, { on := 3, ground := Ground.guard }], guard := some (3, false) }) (v := ?_) rfl (by kernel_rfl) (by kernel_rfl) (by kernel_rfl) (fun _ _ _ h => h) (Or.inl ⟨by kernel_rfl, ?_⟩) (by assumption) ?_
  rotate_left
  · intro wS hSw; (try dsimp only at hSw); have e5 := cell_below hSw.out c2; go_simp; (try with_reducible rfl)
  try simp only [Act.put, List.setIfInBounds_toArray, List.set_cons_zero, List.set_cons_succ]
  refine wpAnyH_take (i := 9) (oi := { dst := some 16, op := Op.call { callee := Callee.builtin Builtin.len, args := #[Operand.tmp 15], argTypes := #[38] }, type := 3, pos := "kinds.go:49", after := #[{ on := 8, ground := Ground.data }, { on := 3, ground := Ground.guard }], guard := some (3, false) }) (v := ?_) rfl (by kernel_rfl) (by kernel_rfl) (by kernel_rfl) (fun _ _ _ h => h) (Or.inl ⟨by kernel_rfl, ?_⟩) (by assumption) ?_
  rotate_left
  · intro wS hSw; (try dsimp only at hSw); go_simp; (try with_reducible rfl)
  try simp only [Act.put, List.setIfInBounds_toArray, List.set_cons_zero, List.set_cons_succ]
  refine wpAnyH_ready (rs := [10]) (by kernel_rfl) (by simp) ?_
  refine AllReadyH.cons (o := { dst := some 17, op := Op.call { callee := Callee.value (Operand.func 7), args := #[Operand.tmp 11, Operand.tmp 16], argTypes := #[24, 3] }, type := 25, pos := "kinds.go:49", after := #[{ on := 4, ground := Ground.data }, { on := 9, ground := Ground.data }, { on := 3, ground := Ground.chain }, { on := 3, ground := Ground.guard }], guard := some (3, false) }) rfl (fun K hK => ?_) AllReadyH.nil
  go_simp
  refine (hck _ (HB1.out.trans ((Below.refl w1.heap.size w1).drew.mono HB1.out.size))).mono ?_
  rintro e w2 ⟨rfl, hb2⟩
  have hB2 : Below w1.heap.size w1 w2 := (Below.refl w1.heap.size w1).drew.trans hb2
  (try dsimp only)
  refine hK.out _ _ ?_ (fun hH10 => ?_)
  · (try dsimp only); exact Bel.of hB2
  clear hK K
  try simp only [Act.put, List.setIfInBounds_toArray, List.set_cons_zero, List.set_cons_succ]
  refine wpAnyH_take (i := 11) (oi := { dst := some 18, op := Op.binOp BinOp.neq 25 (Operand.tmp 17) (Operand.const (Value.int IntKind.i64 0)) 25, type := 4, pos := "kinds.go:49", after := #[{ on := 10, ground := Ground.data }, { on := 3, ground := Ground.guard }], guard := some (3, false) }) (v := ?_) rfl (by kernel_rfl) (by kernel_rfl) (by kernel_rfl) (fun _ _ _ h => h) (Or.inl ⟨by kernel_rfl, ?_⟩) (by assumption) ?_
  rotate_left
  · intro wS hSw; (try dsimp only at hSw); go_simp; (try with_reducible rfl)
  try simp only [Act.put, List.setIfInBounds_toArray, List.set_cons_zero, List.set_cons_succ]
  refine wpAnyH_take (i := 12) (oi := { dst := some 19, op := Op.pick (Operand.tmp 10) (Operand.const (Value.bool true)) (Operand.tmp 18), type := 4, pos := "kinds.go:49", after := #[{ on := 3, ground := Ground.data }, { on := 11, ground := Ground.data }], guard := none }) (v := ?_) rfl (by kernel_rfl) (by kernel_rfl) (by kernel_rfl) (fun _ _ _ h => h) (Or.inl ⟨by kernel_rfl, ?_⟩) (by assumption) ?_
  rotate_left
  · intro wS hSw; (try dsimp only at hSw); go_simp; (try with_reducible rfl)
  try simp only [Act.put, List.setIfInBounds_toArray, List.set_cons_zero, List.set_cons_succ]
  refine wpAnyH_done (by kernel_rfl) ?_ _
  have v0 := cell_below hB2 y0
  have v1 := cell_below hB2 y1
  have v2 := cell_below hB2 y2
  have v3 := cell_below hB2 y3
  have HB2 : Hid (Below w1.heap.size w1 w2) := hB2
  clear hck hb2 hB2 hHeld y0 y1 y2 y3 hH10
  unfold ckE
  cases ok
  · simp only [Bool.false_eq_true, if_false]
    clear v0 v1 v2 v3 hk
    go_wp2_with fail
    refine (hk0 _).mono ?_
    rintro e w3 ⟨rfl, hb3⟩
    have z0 := cell_below hb3 (cell_below HB2.out (HBS.out 0 _ rfl))
    have z1 := cell_below hb3 (cell_below HB2.out (HBS.out 1 _ rfl))
    have z2 := cell_below hb3 (cell_below HB2.out (HBS.out 2 _ rfl))
    have z3 := cell_below hb3 (cell_below HB2.out (HBS.out 3 _ rfl))
    have z4 := cell_below hb3 (cell_below HB2.out (HBS.out 4 _ rfl))
    have z5 := cell_below hb3 (cell_below HB2.out (HBS.out 5 _ rfl))
    have z6 := cell_below hb3 (cell_below HB2.out (HBS.out 6 _ rfl))
    have z7 := cell_below hb3 (cell_below HB2.out (HBS.out 7 _ rfl))
    have fz0 := frz_below hb3 (cell_below HB2.out (HBS.out 0 _ rfl)) (frz_below HB2.out (HBS.out 0 _ rfl) (HBF.out 0 (by decide)))
    have fz1 := frz_below hb3 (cell_below HB2.out (HBS.out 1 _ rfl)) (frz_below HB2.out (HBS.out 1 _ rfl) (HBF.out 1 (by decide)))
    have fz2 := frz_below hb3 (cell_below HB2.out (HBS.out 2 _ rfl)) (frz_below HB2.out (HBS.out 2 _ rfl) (HBF.out 2 (by decide)))
    have fz3 := frz_below hb3 (cell_below HB2.out (HBS.out 3 _ rfl)) (frz_below HB2.out (HBS.out 3 _ rfl) (HBF.out 3 (by decide)))
    have fz4 := frz_below hb3 (cell_below HB2.out (HBS.out 4 _ rfl)) (frz_below HB2.out (HBS.out 4 _ rfl) (HBF.out 4 (by decide)))
    have fz5 := frz_below hb3 (cell_below HB2.out (HBS.out 5 _ rfl)) (frz_below HB2.out (HBS.out 5 _ rfl) (HBF.out 5 (by decide)))
    have fz6 := frz_below hb3 (cell_below HB2.out (HBS.out 6 _ rfl)) (frz_below HB2.out (HBS.out 6 _ rfl) (HBF.out 6 (by decide)))
    have fz7 := frz_below hb3 (cell_below HB2.out (HBS.out 7 _ rfl)) (frz_below HB2.out (HBS.out 7 _ rfl) (HBF.out 7 (by decide)))
    clear hk0
    go_wp2_with fail
    obtain ⟨t0, t1, t2, t3, t4, t5, t6, t7⟩ := set8_cells z0 z1 z2 z3 z4 z5 z6 z7 (.func (.func e0') #[] #[]) (.func (.func e1') #[] #[]) (.func (.func e2') #[] #[]) (.int .i64 0) (.slice none 0 0) (.bool false) (.slice none 0 0) (.int .i64 0)
    have hZ := set8_below (X := X + 1) (HB1.out.trans ((HB2.out.trans (hb3.mono HB2.out.size)).mono HB1.out.size)) (Nat.le_of_lt (by rw [HGX.out]; exact Nat.lt_succ_self X)) (.func (.func e0') #[] #[]) (.func (.func e1') #[] #[]) (.func (.func e2') #[] #[]) (.int .i64 0) (.slice none 0 0) (.bool false) (.slice none 0 0) (.int .i64 0)
    clear z0 z1 z2 z3 z4 z5 z6 z7 fz0 fz1 fz2 fz3 fz4 fz5 fz6 fz7
    generalize ((((((((w3.setCell ⟨X + 1, 0, none⟩ (.func (.func e0') #[] #[])).setCell ⟨X + 1, 1, none⟩ (.func (.func e1') #[] #[])).setCell ⟨X + 1, 2, none⟩ (.func (.func e2') #[] #[])).setCell ⟨X + 1, 3, none⟩ (.int .i64 0)).setCell ⟨X + 1, 4, none⟩ (.slice none 0 0)).setCell ⟨X + 1, 5, none⟩ (.bool false)).setCell ⟨X + 1, 6, none⟩ (.slice none 0 0)).setCell ⟨X + 1, 7, none⟩ (.int .i64 0)) = wz at *
    refine bodyPost_ret (v := .agg #[.func (.func e0') #[] #[], .func (.func e1') #[] #[], .func (.func e2') #[] #[], .int .i64 0, .slice none 0 0, .bool false, .slice none 0 0, .int .i64 0]) ?_ rfl ⟨rfl, hZ⟩
    simp [results, Tryd.results23, go_sem, t0, t1, t2, t3, t4, t5, t6, t7]
  · simp only [if_true]
    clear hk0
    have hS2 : Bel (X + 1) w2 w2 := ⟨Below.refl _ _, Nat.le_trans (Nat.le_of_lt HX.out) HB2.out.size⟩
    go_upto_region 3 with (fail)
    refine wp_region_held_drew (S := (fun wS => Bel (X + 1) w2 wS)) (by kernel_rfl) ?_ (fun hHeld => ?_)
    · (try dsimp only); exact Bel.drew hS2
    refine wpAnyH_take (i := 0) (oi := { dst := some 22, op := Op.fieldAddr 24 (Operand.tmp 3) 0, type := 0, pos := "kinds.go:52", after := #[], guard := none }) (v := ?_) rfl (by kernel_rfl) (by kernel_rfl) (by kernel_rfl) (fun _ _ _ h => h) (Or.inl ⟨by kernel_rfl, ?_⟩) (by assumption) ?_
    rotate_left
    · intro wS hSw; (try dsimp only at hSw); go_simp; (try with_reducible rfl)
    try simp only [Act.put, List.setIfInBounds_toArray, List.set_cons_zero, List.set_cons_succ]
    refine wpAnyH_take (i := 1) (oi := { dst := some 23, op := Op.load 3 (Operand.tmp 22), type := 3, pos := "kinds.go:52", after := #[{ on := 0, ground := Ground.data }], guard := none }) (v := ?_) rfl (by kernel_rfl) (by kernel_rfl) (by kernel_rfl) (fun _ _ _ h => h) (Or.inl ⟨by kernel_rfl, ?_⟩) (by assumption) ?_
    rotate_left
    · intro wS hSw; (try dsimp only at hSw); have e0 := cell_belowB hSw.out v0 (Nat.lt_succ_self X); go_simp; (try with_reducible rfl)
    try simp only [Act.put, List.setIfInBounds_toArray, List.set_cons_zero, List.set_cons_succ]
    refine wpAnyH_take (i := 3) (oi := { dst := some 25, op := Op.fieldAddr 24 (Operand.tmp 3) 1, type := 0, pos := "kinds.go:52", after := #[], guard := none }) (v := ?_) rfl (by kernel_rfl) (by kernel_rfl) (by kernel_rfl) (fun _ _ _ h => h) (Or.inl ⟨by kernel_rfl, ?_⟩) (by assumption) ?_
    rotate_left
    · intro wS hSw; (try dsimp only at hSw); go_simp; (try with_reducible rfl)
    try simp only [Act.put, List.setIfInBounds_toArray, List.set_cons_zero, List.set_cons_succ]
    refine wpAnyH_take (i := 4) (oi := { dst := some 26, op := Op.load 3 (Operand.tmp 25), type := 3, pos := "kinds.go:52", after := #[{ on := 3, ground := Ground.data }], guard := none }) (v := ?_) rfl (by kernel_rfl) (by kernel_rfl) (by kernel_rfl) (fun _ _ _ h => h) (Or.inl ⟨by kernel_rfl, ?_⟩) (by assumption) ?_
    rotate_left
    · intro wS hSw; (try dsimp only at hSw); have e1 := cell_belowB hSw.out v1 (Nat.lt_succ_self X); go_simp; (try with_reducible rfl)
    try simp only [Act.put, List.setIfInBounds_toArray, List.set_cons_zero, List.set_cons_succ]
    refine wpAnyH_take (i := 5) (oi := { dst := some 27, op := Op.fieldAddr 24 (Operand.tmp 3) 2, type := 0, pos := "kinds.go:52", after := #[], guard := none }) (v := ?_) rfl (by kernel_rfl) (by kernel_rfl) (by kernel_rfl) (fun _ _ _ h => h) (Or.inl ⟨by kernel_rfl, ?_⟩) (by assumption) ?_
    rotate_left
    · intro wS hSw; (try dsimp only at hSw); go_simp; (try with_reducible rfl)
    try simp only [Act.put, List.setIfInBounds_toArray, List.set_cons_zero, List.set_cons_succ]
    refine wpAnyH_take (i := 6) (oi := { dst := some 28, op := Op.load 22 (Operand.tmp 27), type := 22, pos := "kinds.go:52", after := #[{ on := 5, ground := Ground.data }], guard := none }) (v := ?_) rfl (by kernel_rfl) (by kernel_rfl) (by kernel_rfl) (fun _ _ _ h => h) (Or.inl ⟨by kernel_rfl, ?_⟩) (by assumption) ?_
    rotate_left
    · intro wS hSw; (try dsimp only at hSw); have e2 := cell_belowB hSw.out v2 (Nat.lt_succ_self X); go_simp; (try with_reducible rfl)
    try simp only [Act.put, List.setIfInBounds_toArray, List.set_cons_zero, List.set_cons_succ]
    refine wpAnyH_take (i := 7) (oi := { dst := some 29, op := Op.fieldAddr 24 (Operand.tmp 3) 3, type := 0, pos := "kinds.go:52", after := #[], guard := none }) (v := ?_) rfl (by kernel_rfl) (by kernel_rfl) (by kernel_rfl) (fun _ _ _ h => h) (Or.inl ⟨by kernel_rfl, ?_⟩) (by assumption) ?_
    rotate_left
    · intro wS hSw; (try dsimp only at hSw); go_simp; (try with_reducible rfl)
    try simp only [Act.put, List.setIfInBounds_toArray, List.set_cons_zero, List.set_cons_succ]
    refine wpAnyH_take (i := 8) (oi := { dst := some 30, op := Op.load 4 (Operand.tmp 29), type := 4, pos := "kinds.go:52", after := #[{ on := 7, ground := Ground.data }], guard := none }) (v := ?_) rfl (by kernel_rfl) (by kernel_rfl) (by kernel_rfl) (fun _ _ _ h => h) (Or.inl ⟨by kernel_rfl, ?_⟩) (by assumption) ?_
    rotate_left
    · intro wS hSw; (try dsimp only at hSw); have e3 := cell_belowB hSw.out v3 (Nat.lt_succ_self X); go_simp; (try with_reducible rfl)
    try simp only [Act.put, List.setIfInBounds_toArray, List.set_cons_zero, List.set_cons_succ]
    refine wpAnyH_take (i := 9) (oi := { dst := some 31, op := Op.move (Operand.tmp 1), type := 31, pos := "kinds.go:52", after := #[], guard := none }) (v := ?_) rfl (by kernel_rfl) (by kernel_rfl) (by kernel_rfl) (fun _ _ _ h => h) (Or.inl ⟨by kernel_rfl, ?_⟩) (by assumption) ?_
    rotate_left
    · intro wS hSw; (try dsimp only at hSw); go_simp; (try with_reducible rfl)
    try simp only [Act.put, List.setIfInBounds_toArray, List.set_cons_zero, List.set_cons_succ]
    refine wpAnyH_take (i := 10) (oi := { dst := some 32, op := Op.move (Operand.tmp 2), type := 3, pos := "kinds.go:52", after := #[], guard := none }) (v := ?_) rfl (by kernel_rfl) (by kernel_rfl) (by kernel_rfl) (fun _ _ _ h => h) (Or.inl ⟨by kernel_rfl, ?_⟩) (by assumption) ?_
    rotate_left
    · intro wS hSw; (try dsimp only at hSw); go_simp; (try with_reducible rfl)
    try simp only [Act.put, List.setIfInBounds_toArray, List.set_cons_zero, List.set_cons_succ]
    refine wpAnyH_ready (rs := [2]) (by kernel_rfl) (by simp) ?_
    refine AllReadyH.cons (o := { dst := some 24, op := Op.call { callee := Callee.value (Operand.func 20), args := #[Operand.tmp 23], argTypes := #[3] }, type := 58, pos := "kinds.go:52", after := #[{ on := 1, ground := Ground.data }], guard := none }) rfl (fun K hK => ?_) AllReadyH.nil
    go_simp
    refine (hk _).mono ?_
    rintro e w3 ⟨rfl, hb3⟩
    have hB3 : Below w2.heap.size w2 w3 := (Below.refl w2.heap.size w2).drew.trans hb3
    have hS3 : Bel (X + 1) w2 w3 := ⟨hB3.mono hS2.le, Nat.le_trans hS2.le hB3.size⟩
    (try dsimp only)
    have z0 := cell_below hB3 (cell_below HB2.out (HBS.out 0 _ rfl))
    have z1 := cell_below hB3 (cell_below HB2.out (HBS.out 1 _ rfl))
    have z2 := cell_below hB3 (cell_below HB2.out (HBS.out 2 _ rfl))
    have z3 := cell_below hB3 (cell_below HB2.out (HBS.out 3 _ rfl))
    have z4 := cell_below hB3 (cell_below HB2.out (HBS.out 4 _ rfl))
    have z5 := cell_below hB3 (cell_below HB2.out (HBS.out 5 _ rfl))
    have z6 := cell_below hB3 (cell_below HB2.out (HBS.out 6 _ rfl))
    have z7 := cell_below hB3 (cell_below HB2.out (HBS.out 7 _ rfl))
    have fz0 := frz_below hB3 (cell_below HB2.out (HBS.out 0 _ rfl)) (frz_below HB2.out (HBS.out 0 _ rfl) (HBF.out 0 (by decide)))
    have fz1 := frz_below hB3 (cell_below HB2.out (HBS.out 1 _ rfl)) (frz_below HB2.out (HBS.out 1 _ rfl) (HBF.out 1 (by decide)))
    have fz2 := frz_below hB3 (cell_below HB2.out (HBS.out 2 _ rfl)) (frz_below HB2.out (HBS.out 2 _ rfl) (HBF.out 2 (by decide)))
    have fz3 := frz_below hB3 (cell_below HB2.out (HBS.out 3 _ rfl)) (frz_below HB2.out (HBS.out 3 _ rfl) (HBF.out 3 (by decide)))
    have fz4 := frz_below hB3 (cell_below HB2.out (HBS.out 4 _ rfl)) (frz_below HB2.out (HBS.out 4 _ rfl) (HBF.out 4 (by decide)))
    have fz5 := frz_below hB3 (cell_below HB2.out (HBS.out 5 _ rfl)) (frz_below HB2.out (HBS.out 5 _ rfl) (HBF.out 5 (by decide)))
    have fz6 := frz_below hB3 (cell_below HB2.out (HBS.out 6 _ rfl)) (frz_below HB2.out (HBS.out 6 _ rfl) (HBF.out 6 (by decide)))
    have fz7 := frz_below hB3 (cell_below HB2.out (HBS.out 7 _ rfl)) (frz_below HB2.out (HBS.out 7 _ rfl) (HBF.out 7 (by decide)))
    refine hK.out _ _ ?_ (fun hH2 => ?_)
    · (try dsimp only); exact hS3
    clear hK K
    try simp only [Act.put, List.setIfInBounds_toArray, List.set_cons_zero, List.set_cons_succ]
    refine wpAnyH_take (i := 11) (oi := { dst := some 33, op := Op.build 64 #[(0, Operand.tmp 24), (1, Operand.tmp 26), (2, Operand.tmp 28), (3, Operand.tmp 30), (4, Operand.tmp 31), (5, Operand.tmp 32)], type := 64, pos := "kinds.go:52", after := #[{ on := 2, ground := Ground.data }, { on := 4, ground := Ground.data }, { on := 6, ground := Ground.data }, { on := 8, ground := Ground.data }, { on := 9, ground := Ground.data }, { on := 10, ground := Ground.data }], guard := none }) (v := ?_) rfl (by kernel_rfl) (by kernel_rfl) (by kernel_rfl) (fun _ _ _ h => h) (Or.inl ⟨by kernel_rfl, ?_⟩) (by assumption) ?_
    rotate_left
    · intro wS hSw; (try dsimp only at hSw); go_simp; (try with_reducible rfl)
    try simp only [Act.put, List.setIfInBounds_toArray, List.set_cons_zero, List.set_cons_succ]
    refine wpAnyH_ready (rs := [12]) (by kernel_rfl) (by simp) ?_
    refine consHd 12 { dst := none, op := Op.store 64 (Operand.tmp 6) (Operand.tmp 33), type := 0, pos := "kinds.go:52", after := #[{ on := 11, ground := Ground.data }, { on := 2, ground := Ground.chain }, { on := 0, ground := Ground.phase }, { on := 1, ground := Ground.phase }, { on := 2, ground := Ground.phase }, { on := 3, ground := Ground.phase }, { on := 4, ground := Ground.phase }, { on := 5, ground := Ground.phase }, { on := 6, ground := Ground.phase }, { on := 7, ground := Ground.phase }, { on := 8, ground := Ground.phase }, { on := 9, ground := Ground.phase }, { on := 10, ground := Ground.phase }, { on := 11, ground := Ground.phase }], guard := none } rfl (fun K hK => ?_) AllReadyH.nil
    refine Wrp.mk ?_
    go_simp
    refine hK.out _ _ ?_ (fun hH12 => ?_)
    · (try dsimp only); exact ((((((((hS3.setCell (Nat.le_refl _) _).setCell (Nat.le_refl _) _).setCell (Nat.le_refl _) _).setCell (Nat.le_refl _) _).setCell (Nat.le_refl _) _).setCell (Nat.le_refl _) _).setCell (Nat.le_refl _) _).setCell (Nat.le_refl _) _)
    clear hK K
    try simp only [Act.put, List.setIfInBounds_toArray, List.set_cons_zero, List.set_cons_succ]
    refine wpAnyH_done (by kernel_rfl) ?_ _
    obtain ⟨t0, t1, t2, t3, t4, t5, t6, t7⟩ := set8_cells z0 z1 z2 z3 z4 z5 z6 z7 (.func (.func f0) #[] #[]) (.func (.func f1) #[] #[]) (.func (.func f2) #[] #[]) (.int .i64 n) (.slice a zl cap) (.bool d) (.slice (some ⟨b, off, none⟩) ll lc) (.int .i64 now)
    have hZ := set8_below (X := X + 1) (HB1.out.trans ((HB2.out.trans (hB3.mono HB2.out.size)).mono HB1.out.size)) (Nat.le_of_lt (by rw [HGX.out]; exact Nat.lt_succ_self X)) (.func (.func f0) #[] #[]) (.func (.func f1) #[] #[]) (.func (.func f2) #[] #[]) (.int .i64 n) (.slice a zl cap) (.bool d) (.slice (some ⟨b, off, none⟩) ll lc) (.int .i64 now)
    clear z0 z1 z2 z3 z4 z5 z6 z7 fz0 fz1 fz2 fz3 fz4 fz5 fz6 fz7 hHeld hH12 hH2
    generalize ((((((((w3.setCell ⟨X + 1, 0, none⟩ (.func (.func f0) #[] #[])).setCell ⟨X + 1, 1, none⟩ (.func (.func f1) #[] #[])).setCell ⟨X + 1, 2, none⟩ (.func (.func f2) #[] #[])).setCell ⟨X + 1, 3, none⟩ (.int .i64 n)).setCell ⟨X + 1, 4, none⟩ (.slice a zl cap)).setCell ⟨X + 1, 5, none⟩ (.bool d)).setCell ⟨X + 1, 6, none⟩ (.slice (some ⟨b, off, none⟩) ll lc)).setCell ⟨X + 1, 7, none⟩ (.int .i64 now)) = wz at *
    go_wp2
    refine bodyPost_ret (v := .agg #[.func (.func f0) #[] #[], .func (.func f1) #[] #[], .func (.func f2) #[] #[], .int .i64 n, .slice a zl cap, .bool d, .slice (some ⟨b, off, none⟩) ll lc, .int .i64 now]) ?_ rfl ⟨rfl, hZ⟩
    simp [results, Tryd.results23, go_sem, t0, t1, t2, t3, t4, t5, t6, t7]
set_option maxRecDepth 20000 in
set_option maxHeartbeats 8000000 in
theorem see_none (k n : Int) (a : Option Addr) (zl cap : Nat) (d : Bool) (la : Option Addr) (lc : Nat) (now : Int) (w : World) :
    Calls Tryd.prog 23 #[vwV k n a zl cap d, .slice la 0 lc, .int .i64 now] w fun e w' => e = .returned (sV false k n a zl cap d la 0 lc now) ∧ Below w.heap.size w w' := by
  have hk0 := kindOf_any 0
  have hc0 : clsI 0 = 0 := by decide
  rw [hc0] at hk0
  unfold sV
  simp only [Bool.false_eq_true, if_false]
  unfold kndV fnV at hk0
  unfold vwV
  generalize kM 0 = e0' at *
  generalize kH 0 = e1' at *
  generalize kT 0 = e2' at *
  unfold vvV
  clear hc0
  go_enter Tryd.func23, Tryd.ntmps23
  go_upto_region 1 with (fail)
  have hb1 : Below w.heap.size w ((w.alloc (Obj.cells #[.int .i64 k, .int .i64 n, .slice a zl cap, .bool d] 24)).alloc (Obj.cells #[.nilFunc, .nilFunc, .nilFunc, .int .i64 0, .slice none 0 0, .bool false, .slice none 0 0, .int .i64 0] 64)) := ((Below.refl w.heap.size w).alloc (Nat.le_refl _) _).alloc (by simp) _
  have bs : ∀ i v, #[Value.nilFunc, .nilFunc, .nilFunc, .int .i64 0, .slice none 0 0, .bool false, .slice none 0 0, .int .i64 0][i]? = some v → World.cell? ((w.alloc (Obj.cells #[.int .i64 k, .int .i64 n, .slice a zl cap, .bool d] 24)).alloc (Obj.cells #[.nilFunc, .nilFunc, .nilFunc, .int .i64 0, .slice none 0 0, .bool false, .slice none 0 0, .int .i64 0] 64)) ⟨w.heap.size + 1, i, none⟩ = some v := fun i v h => by
    have := World.cell?_alloc_mark (w.alloc (Obj.cells #[.int .i64 k, .int .i64 n, .slice a zl cap, .bool d] 24)) #[.nilFunc, .nilFunc, .nilFunc, .int .i64 0, .slice none 0 0, .bool false, .slice none 0 0, .int .i64 0] 64 (0, 0) i
    rw [World.size_alloc] at this
    exact this.trans h
  have bf : ∀ i, i < 8 → World.frozen? ((w.alloc (Obj.cells #[.int .i64 k, .int .i64 n, .slice a zl cap, .bool d] 24)).alloc (Obj.cells #[.nilFunc, .nilFunc, .nilFunc, .int .i64 0, .slice none 0 0, .bool false, .slice none 0 0, .int .i64 0] 64)) ⟨w.heap.size + 1, i, none⟩ = false := fun i _ => by go_simp
  obtain ⟨X, hX⟩ : ∃ X, w.heap.size = X := ⟨_, rfl⟩
  have HGX : Hid (w.heap.size = X) := hX
  have HB1 : Hid _ := hb1
  rw [hX] at bs bf ⊢
  clear hX hb1
  generalize ((w.alloc (Obj.cells #[.int .i64 k, .int .i64 n, .slice a zl cap, .bool d] 24)).alloc (Obj.cells #[.nilFunc, .nilFunc, .nilFunc, .int .i64 0, .slice none 0 0, .bool false, .slice none 0 0, .int .i64 0] 64)) = w1 at *
  refine wp_region_held_drew (S := (fun wS => Bel w1.heap.size w1 wS)) (by kernel_rfl) ?_ (fun hHeld => ?_)
  · (try dsimp only); exact (Bel.refl _).drew
  refine wpAnyH_take (i := 0) (oi := { dst := some 7, op := Op.move (Operand.tmp 1), type := 31, pos := "kinds.go:49", after := #[], guard := none }) (v := ?_) rfl (by kernel_rfl) (by kernel_rfl) (by kernel_rfl) (fun _ _ _ h => h) (Or.inl ⟨by kernel_rfl, ?_⟩) (by assumption) ?_
  rotate_left
  · intro wS hSw; (try dsimp only at hSw); go_simp; (try with_reducible rfl)
  try simp only [Act.put, List.setIfInBounds_toArray, List.set_cons_zero, List.set_cons_succ]
  refine wpAnyH_take (i := 1) (oi := { dst := some 8, op := Op.call { callee := Callee.builtin Builtin.len, args := #[Operand.tmp 7], argTypes := #[31] }, type := 3, pos := "kinds.go:49", after := #[{ on := 0, ground := Ground.data }], guard := none }) (v := ?_) rfl (by kernel_rfl) (by kernel_rfl) (by kernel_rfl) (fun _ _ _ h => h) (Or.inl ⟨by kernel_rfl, ?_⟩) (by assumption) ?_
  rotate_left
  · intro wS hSw; (try dsimp only at hSw); go_simp; (try with_reducible rfl)
  try simp only [Act.put, List.setIfInBounds_toArray, List.set_cons_zero, List.set_cons_succ]
  refine wpAnyH_take (i := 2) (oi := { dst := some 9, op := Op.binOp BinOp.eql 3 (Operand.tmp 8) (Operand.const (Value.int IntKind.i64 0)) 3, type := 4, pos := "kinds.go:49", after := #[{ on := 1, ground := Ground.data }], guard := none }) (v := ?_) rfl (by kernel_rfl) (by kernel_rfl) (by kernel_rfl) (fun _ _ _ h => h) (Or.inl ⟨by kernel_rfl, ?_⟩) (by assumption) ?_
  rotate_left
  · intro wS hSw; (try dsimp only at hSw); go_simp; (try with_reducible rfl)
  try simp only [Act.put, List.setIfInBounds_toArray, List.set_cons_zero, List.set_cons_succ]
  refine wpAnyH_take (i := 3) (oi := { dst := some 10, op := Op.move (Operand.tmp 9), type := 4, pos := "kinds.go:49", after := #[{ on := 2, ground := Ground.data }], guard := none }) (v := ?_) rfl (by kernel_rfl) (by kernel_rfl) (by kernel_rfl) (fun _ _ _ h => h) (Or.inl ⟨by kernel_rfl, ?_⟩) (by assumption) ?_
  rotate_left
  · intro wS hSw; (try dsimp only at hSw); go_simp; (try with_reducible rfl)
  try simp only [Act.put, List.setIfInBounds_toArray, List.set_cons_zero, List.set_cons_succ]
  refine wpAnyH_take (i := 4) (oi := { dst := some 11, op := Op.load 24 (Operand.tmp 3), type := 24, pos := "kinds.go:49", after := #[{ on := 3, ground := Ground.guard }], guard := some (3, false) }) (v := undef) rfl (by kernel_rfl) (by kernel_rfl) (by kernel_rfl) (fun _ _ _ h => h) (Or.inr ⟨by kernel_rfl, rfl⟩) (by assumption) ?_
  try simp only [Act.put, List.setIfInBounds_toArray, List.set_cons_zero, List.set_cons_succ]
  refine wpAnyH_take (i := 5) (oi := { dst := some 12, op := Op.move (Operand.tmp 1), type := 31, pos := "kinds.go:49", after := #[{ on := 3, ground := Ground.guard }], guard := some (3, false) }) (v := undef) rfl (by kernel_rfl) (by kernel_rfl) (by kernel_rfl) (fun _ _ _ h => h) (Or.inr ⟨by kernel_rfl, rfl⟩) (by assumption) ?_
  try simp only [Act.put, List.setIfInBounds_toArray, List.set_cons_zero, List.set_cons_succ]
  refine wpAnyH_take (i := 6) (oi := { dst := some 13, op := Op.indexAddr 31 (Operand.tmp 12) (Operand.const (Value.int IntKind.i64 0)), type := 0, pos := "kinds.go:49", after := #[{ on := 5, ground := Ground.data }, { on := 3, ground := Ground.guard }], guard := some (3, false) }) (v := undef) rfl (by kernel_rfl) (by kernel_rfl) (by kernel_rfl) (fun _ _ _ h => h) (Or.inr ⟨by kernel_rfl, rfl⟩) (by assumption) ?_
  try simp only [Act.put, List.setIfInBounds_toArray, List.set_cons_zero, List.set_cons_succ]
  refine wpAnyH_take (i := 7) (oi := { dst := some 14, op := Op.fieldAddr 40 (Operand.tmp 13) 2, type := 0, pos := "kinds.go:49", after := #[{ on := 6, ground := Ground.data }, { on := 3, ground := Ground.guard }], guard := some (3, false) }) (v := undef) rfl (by kernel_rfl) (by kernel_rfl) (by kernel_rfl) (fun _ _ _ h => h) (Or.inr ⟨by kernel_rfl, rfl⟩) (by assumption) ?_
  try simp only [Act.put, List.setIfInBounds_toArray, List.set_cons_zero, List.set_cons_succ]
  refine wpAnyH_take (i := 8) (oi := { dst := some 15, op := Op.load 38 (Operand.tmp 14), type := 38, pos := "kinds.go:49", after := #[{ on := 7, ground := Ground.data }, { on := 3, ground := Ground.guard }], guard := some (3, false) }) (v := undef) rfl (by kernel_rfl) (by kernel_rfl) (by kernel_rfl) (fun _ _ _ h => h) (Or.inr ⟨by kernel_rfl, rfl⟩) (by assumption) ?_
  try simp only [Act.put, List.setIfInBounds_toArray, List.set_cons_zero, List.set_cons_succ]
  refine wpAnyH_take (i := 9) (oi := { dst := some 16, op := Op.call { callee := Callee.builtin Builtin.len, args := #[Operand.tmp 15], argTypes := #[38] }, type := 3, pos := "kinds.go:49", after := #[{ on := 8, ground := Ground.data }, { on := 3, ground := Ground.guard }], guard := some (3, false) }) (v := undef) rfl (by kernel_rfl) (by kernel_rfl) (by kernel_rfl) (fun _ _ _ h => h) (Or.inr ⟨by kernel_rfl, rfl⟩) (by assumption) ?_
  try simp only [Act.put, List.setIfInBounds_toArray, List.set_cons_zero, List.set_cons_succ]
  refine wpAnyH_take (i := 10) (oi := { dst := some 17, op := Op.call { callee := Callee.value (Operand.func 7), args := #[Operand.tmp 11, Operand.tmp 16], argTypes := #[24, 3] }, type := 25, pos := "kinds.go:49", after := #[{ on := 4, ground := Ground.data }, { on := 9, ground := Ground.data }, { on := 3, ground := Ground.chain }, { on := 3, ground := Ground.guard }], guard := some (3, false) }) (v := undef) rfl (by kernel_rfl) (by kernel_rfl) (by kernel_rfl) (fun _ _ _ h => h) (Or.inr ⟨by kernel_rfl, rfl⟩) (by assumption) ?_
  try simp only [Act.put, List.setIfInBounds_toArray, List.set_cons_zero, List.set_cons_succ]
  refine wpAnyH_take (i := 11) (oi := { dst := some 18, op := Op.binOp BinOp.neq 25 (Operand.tmp 17) (Operand.const (Value.int IntKind.i64 0)) 25, type := 4, pos := "kinds.go:49", after := #[{ on := 10, ground := Ground.data }, { on := 3, ground := Ground.guard }], guard := some (3, false) }) (v := undef) rfl (by kernel_rfl) (by kernel_rfl) (by kernel_rfl) (fun _ _ _ h => h) (Or.inr ⟨by kernel_rfl, rfl⟩) (by assumption) ?_
  try simp only [Act.put, List.setIfInBounds_toArray, List.set_cons_zero, List.set_cons_succ]
  refine wpAnyH_take (i := 12) (oi := { dst := some 19, op := Op.pick (Operand.tmp 10) (Operand.const (Value.bool true)) (Operand.tmp 18), type := 4, pos := "kinds.go:49", after := #[{ on := 3, ground := Ground.data }, { on := 11, ground := Ground.data }], guard := none }) (v := ?_) rfl (by kernel_rfl) (by kernel_rfl) (by kernel_rfl) (fun _ _ _ h => h) (Or.inl ⟨by kernel_rfl, ?_⟩) (by assumption) ?_
  rotate_left
  · intro wS hSw; (try dsimp only at hSw); go_simp; (try with_reducible rfl)
  try simp only [Act.put, List.setIfInBounds_toArray, List.set_cons_zero, List.set_cons_succ]
  refine wpAnyH_done (by kernel_rfl) ?_ _
  clear hHeld
  go_wp2_with fail
  refine (hk0 _).mono ?_
  rintro e w3 ⟨rfl, hb3⟩
  have z0 := cell_below hb3 (bs 0 _ rfl)
  have z1 := cell_below hb3 (bs 1 _ rfl)
  have z2 := cell_below hb3 (bs 2 _ rfl)
  have z3 := cell_below hb3 (bs 3 _ rfl)
  have z4 := cell_below hb3 (bs 4 _ rfl)
  have z5 := cell_below hb3 (bs 5 _ rfl)
  have z6 := cell_below hb3 (bs 6 _ rfl)
  have z7 := cell_below hb3 (bs 7 _ rfl)
  have fz0 := frz_below hb3 (bs 0 _ rfl) (bf 0 (by decide))
  have fz1 := frz_below hb3 (bs 1 _ rfl) (bf 1 (by decide))
  have fz2 := frz_below hb3 (bs 2 _ rfl) (bf 2 (by decide))
  have fz3 := frz_below hb3 (bs 3 _ rfl) (bf 3 (by decide))
  have fz4 := frz_below hb3 (bs 4 _ rfl) (bf 4 (by decide))
  have fz5 := frz_below hb3 (bs 5 _ rfl) (bf 5 (by decide))
  have fz6 := frz_below hb3 (bs 6 _ rfl) (bf 6 (by decide))
  have fz7 := frz_below hb3 (bs 7 _ rfl) (bf 7 (by decide))
  clear hk0 bs bf
  go_wp2_with fail
  obtain ⟨t0, t1, t2, t3, t4, t5, t6, t7⟩ := set8_cells z0 z1 z2 z3 z4 z5 z6 z7 (.func (.func e0') #[] #[]) (.func (.func e1') #[] #[]) (.func (.func e2') #[] #[]) (.int .i64 0) (.slice none 0 0) (.bool false) (.slice none 0 0) (.int .i64 0)
  have hZ := set8_below (X := X + 1) (HB1.out.trans (((Below.refl w1.heap.size w1).drew.trans hb3).mono HB1.out.size)) (Nat.le_of_lt (by rw [HGX.out]; exact Nat.lt_succ_self X)) (.func (.func e0') #[] #[]) (.func (.func e1') #[] #[]) (.func (.func e2') #[] #[]) (.int .i64 0) (.slice none 0 0) (.bool false) (.slice none 0 0) (.int .i64 0)
  clear z0 z1 z2 z3 z4 z5 z6 z7 fz0 fz1 fz2 fz3 fz4 fz5 fz6 fz7
  generalize ((((((((w3.setCell ⟨X + 1, 0, none⟩ (.func (.func e0') #[] #[])).setCell ⟨X + 1, 1, none⟩ (.func (.func e1') #[] #[])).setCell ⟨X + 1, 2, none⟩ (.func (.func e2') #[] #[])).setCell ⟨X + 1, 3, none⟩ (.int .i64 0)).setCell ⟨X + 1, 4, none⟩ (.slice none 0 0)).setCell ⟨X + 1, 5, none⟩ (.bool false)).setCell ⟨X + 1, 6, none⟩ (.slice none 0 0)).setCell ⟨X + 1, 7, none⟩ (.int .i64 0)) = wz at *
  refine bodyPost_ret (v := .agg #[.func (.func e0') #[] #[], .func (.func e1') #[] #[], .func (.func e2') #[] #[], .int .i64 0, .slice none 0 0, .bool false, .slice none 0 0, .int .i64 0]) ?_ rfl ⟨rfl, hZ⟩
  simp [results, Tryd.results23, go_sem, t0, t1, t2, t3, t4, t5, t6, t7]
theorem see_any (k n : Int) (a : Option Addr) (cap : Nat) (d : Bool) (la : Option Addr) (lc : Nat) (now : Int) (zs : List Int) (l : List Arv) (w : World) (hreach : zs.length * 8 ≤ 140737488351232) (hz : NsAt w a zs) (hl : CelsAt w la l) (hll : l.length ≤ 200) :
    Calls Tryd.prog 23 #[vwV k n a zs.length cap d, .slice la l.length lc, .int .i64 now] w fun e w' => e = .returned (sV (decide (0 < l.length) && mayB k n zs d ((aAt l 0).row.length : Nat)) k n a zs.length cap d la l.length lc now) ∧ Below w.heap.size w w' := by
  rcases Nat.eq_zero_or_pos l.length with h | h
  · have := see_none k n a zs.length cap d la lc now w
    rw [h]
    simpa using this
  · have := see_some k n a cap d la lc now zs l w hreach hz hl h hll
    simpa [h] using this
/-- When a view's content turns by itself. -/
def nxV (k n : Int) (zs : List Int) (d : Bool) (l : List Arv) (now : Int) : Option Int :=
  if 0 < l.length ∧ mayB k n zs d ((aAt l 0).row.length : Nat) = true then tC (clsI k) n l now else none
theorem mayB_n {k n : Int} {zs : List Int} {d : Bool} {c : Int} (h : mayB k n zs d c = true) (hc : clsI k = 3 ∨ clsI k = 5) : 1 ≤ n ∧ n ≤ 1099511627776 := by
  unfold mayB at h
  have hk : kM (clsI k) = 35 := by rcases hc with hc | hc <;> rw [hc] <;> rfl
  rw [hk] at h
  unfold evB utB at h
  simp at h
  omega
/-- What a view that is seen looks like to 'turns'. -/
theorem seen_turns (k n : Int) (a : Option Addr) (cap : Nat) (d : Bool) (la : Option Addr) (lc : Nat) (now : Int) (zs : List Int) (l : List Arv) (w : World) (hl : CelsAt w la l) (hll : l.length ≤ 200) (ht : Tms l) :
    Calls Tryd.prog 26 #[sV (decide (0 < l.length) && mayB k n zs d ((aAt l 0).row.length : Nat)) k n a zs.length cap d la l.length lc now] w fun e w' => e = .returned (oT (nxV k n zs d l now)) ∧ Below w.heap.size w w' := by
  unfold sV nxV
  by_cases hp : 0 < l.length
  · cases hm : mayB k n zs d ((aAt l 0).row.length : Nat)
    · simp only [hp, decide_true, Bool.true_and, Bool.false_eq_true, and_false, if_false]
      have := turns_any 0 (by decide) 0 none 0 0 false none 0 0 [] w (fun h => by omega)
      simpa [tC] using this
    · simp only [hp, decide_true, Bool.true_and, and_self, if_true]
      refine turns_any (clsI k) (cls_lt k) n a zs.length cap d la lc now l w (fun h => ⟨hl, hll, ht, ?_⟩)
      exact mayB_n hm h
  · have h0 : l.length = 0 := by omega
    simp only [hp, decide_false, Bool.false_and, Bool.false_eq_true, false_and, if_false]
    have := turns_any 0 (by decide) 0 none 0 0 false none 0 0 [] w (fun h => by omega)
    simpa [tC] using this
end Go.Proofs.YtfjpdflilmcnhaaDoor
