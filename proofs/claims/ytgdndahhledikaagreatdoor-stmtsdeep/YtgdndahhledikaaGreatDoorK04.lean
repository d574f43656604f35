/- Ln. -/
import Derived.Test.YtgdndahhledikaaGreatDoorK03
import Derived.Deep.LoopGhost
namespace Go.Proofs.YtgdndahhledikaaGreatDoor
open Go.ChangeShapes Go.WideShapes Go.ChangeAt Go.RowKit
set_option linter.unusedSimpArgs false
set_option maxRecDepth 20000
set_option maxHeartbeats 4000000
def Ent (k : FuncId) : Prop := ∀ (args : Array Value) (w : World), (callFunc k args).run Tryz.prog w = .ok (.enter k args) w
theorem ent_of {k : FuncId} {fn : Func} (h : Tryz.prog.funcs[k]? = some fn) (hn : (fn.name == "runtime.NumGoroutine") = false) (hb : fn.body.isNone = false) : Ent k := fun args w => by
 have hn' : ¬ fn.name = "runtime.NumGoroutine" := by simpa using hn
 have hb' : ¬ fn.body = none := fun e => by rw [e] at hb; cases hb
 simp [callFunc, go_sem, h, hn', hb']
def XSt (rb nb lo : Nat) (w : World) (x : X) (s : Option Addr) : Prop := ∀ w' : World, (∀ b, b < w.heap.size → b ≠ rb → b ≠ nb → w'.heap[b]? = w.heap[b]?) → XAt lo w' x s
theorem XSt.move {rb nb lo : Nat} {w w1 : World} {x : X} {s : Option Addr} (h : XSt rb nb lo w x s) (hs : w.heap.size ≤ w1.heap.size) (hk : ∀ b, b < w.heap.size → b ≠ rb → b ≠ nb → w1.heap[b]? = w.heap[b]?) : XSt rb nb lo w1 x s := fun w' h' => h w' fun b hb h1 h2 => (h' b (Nat.lt_of_lt_of_le hb hs) h1 h2).trans (hk b hb h1 h2)
theorem XSt.below {rb nb lo : Nat} {w w1 : World} {x : X} {s : Option Addr} (h : XSt rb nb lo w x s) (hb : Below w.heap.size w w1) : XSt rb nb lo w1 x s := h.move hb.size fun b hl _ _ => hb.block b hl
theorem XSt.fx {rb nb lo : Nat} {w w1 : World} {x : X} {s : Option Addr} (h : XSt rb nb lo w x s) (hb : Fx rb w w1) : XSt rb nb lo w1 x s := h.move hb.size fun b hl h1 _ => hb.blk b hl h1
theorem XSt.set5 {rb nb lo : Nat} {w : World} {x : X} {s : Option Addr} (h : XSt rb nb lo w x s) (v0 v1 v2 v3 v4 : Value) : XSt rb nb lo (set5 w nb 0 v0 v1 v2 v3 v4) x s := h.move (Nat.le_of_eq (set5_size _ _ _ _ _ _ _ _).symm) fun b _ _ h2 => set5_heap w nb 0 v0 v1 v2 v3 v4 b h2
theorem XSt.old {rb nb lo : Nat} {w : World} {x : X} {s : Option Addr} (h : XAt lo w x s) (hl : rb < lo) (hn : w.heap.size ≤ nb) : XSt rb nb lo w x s := fun w' hk => NdF.keep (Nat.le_refl _) (fun b hb hlt => hk b hlt (by omega) (by omega)) h
theorem XSt.new {rb nb lo lo' : Nat} {w : World} {x : X} {s : Option Addr} (h : XAt lo' w x s) (hr : rb < lo') (hl : lo ≤ lo') (hn : nb < lo') : XSt rb nb lo w x s := fun w' hk => NdF.keep hl (fun b hb hlt => hk b hlt (by omega) (by omega)) h
def PPost (rb : Nat) (ta : Option Addr) (cap : Nat) (T : List Tt) (op : Nat) (w : World) (r : Sum Er (X × Nat)) (e : Ending) (w' : World) : Prop :=
 (match r with
  | .inl q => GUp q.1 q.2 e
  | .inr q => (∃ s c, e = .returned (xV q.1 s c) ∧ XAt w.heap.size w' q.1 s) ∧ Rdr w' rb ta cap T q.2 op) ∧ Fx rb w w'
theorem PPost.no {rb : Nat} {ta : Option Addr} {cap : Nat} {T : List Tt} {op : Nat} {w w' : World} {q : Er} {e : Ending} (h : PPost rb ta cap T op w (.inl q) e w') : GUp q.1 q.2 e ∧ Fx rb w w' := h
theorem PPost.ok {rb : Nat} {ta : Option Addr} {cap : Nat} {T : List Tt} {op : Nat} {w w' : World} {q : X × Nat} {e : Ending} (h : PPost rb ta cap T op w (.inr q) e w') : ((∃ s c, e = .returned (xV q.1 s c) ∧ XAt w.heap.size w' q.1 s) ∧ Rdr w' rb ta cap T q.2 op) ∧ Fx rb w w' := h
theorem PPost.from {rb : Nat} {ta : Option Addr} {cap : Nat} {T : List Tt} {op : Nat} {w0 w w' : World} {r : Sum Er (X × Nat)} {e : Ending} (h : PPost rb ta cap T op w r e w') (hf : Fx rb w0 w) : PPost rb ta cap T op w0 r e w' := by
 refine ⟨?_, hf.trans h.2⟩
 cases r with
 | inl q => exact h.1
 | inr q =>
  obtain ⟨⟨s, c, h1, h2⟩, h3⟩ := h.1
  exact ⟨⟨s, c, h1, NdF.keep hf.size (fun _ _ _ => rfl) h2⟩, h3⟩
def Reads (rb : Nat) (ta : Option Addr) (cap : Nat) (T : List Tt) (k : FuncId) (g : Nat → Nat → Rz X) : Prop := ∀ (i op : Nat) (w : World) (r : Sum Er (X × Nat)), op ≤ 100 → Rdr w rb ta cap T i op → g i op = some r → Calls Tryz.prog k #[ptr rb] w (PPost rb ta cap T op w r)
structure LnI (rb : Nat) (ta : Option Addr) (cap : Nat) (T : List Tt) (op : Nat) (w : World) (nb g : Nat) (L : List (List UInt8)) (n : X) (i : Nat) (wr : World) : Prop where
 box : ∃ s c, Box5 wr nb (.int .i64 (xk n)) (.string (bsA (xt n))) (.int .i64 (xn n)) (.int .i64 (xa n)) (.slice s (xl n) c) ∧ XSt rb nb (w.heap.size + 1) wr n s
 rdr : Rdr wr rb ta cap T i op
 fx : Fx rb w wr
 sts : StsL wr g L
 res : Box5 wr w.heap.size (.int .i64 0) (.string ⟨#[]⟩) (.int .i64 0) (.int .i64 0) (.slice none 0 0)
theorem Box5.fx {rb : Nat} {w w' : World} {b : Nat} {v0 v1 v2 v3 v4 : Value} (hb : Box5 w b v0 v1 v2 v3 v4) (h : Fx rb w w') (hn : b ≠ rb) : Box5 w' b v0 v1 v2 v3 v4 :=
 have e := h.blk b (cell_lt hb.c0) hn
 ⟨cell_same hb.c0 e, cell_same hb.c1 e, cell_same hb.c2 e, cell_same hb.c3 e, cell_same hb.c4 e, (World.frozen?_of_block (a := ⟨b, 0, none⟩) e).trans hb.f0, (World.frozen?_of_block (a := ⟨b, 1, none⟩) e).trans hb.f1, (World.frozen?_of_block (a := ⟨b, 2, none⟩) e).trans hb.f2, (World.frozen?_of_block (a := ⟨b, 3, none⟩) e).trans hb.f3, (World.frozen?_of_block (a := ⟨b, 4, none⟩) e).trans hb.f4⟩
theorem StsL.fx {rb : Nat} {w w' : World} {g : Nat} {L : List (List UInt8)} (h : StsL w g L) (hf : Fx rb w w') (hn : g ≠ rb) : StsL w' g L := fun i x hx => hf.cell hn (h i x hx)
theorem LnI.below {rb : Nat} {ta : Option Addr} {cap : Nat} {T : List Tt} {op : Nat} {w : World} {nb g : Nat} {L : List (List UInt8)} {n : X} {i : Nat} {wr w' : World} (h : LnI rb ta cap T op w nb g L n i wr) (hb : Below wr.heap.size wr w') : LnI rb ta cap T op w nb g L n i w' where
 box := by obtain ⟨s, c, h1, h2⟩ := h.box; exact ⟨s, c, h1.below hb, h2.below hb⟩
 rdr := h.rdr.below hb
 fx := h.fx.trans (Fx.below hb)
 sts := h.sts.below hb
 res := h.res.below hb
structure B4 (w : World) (b : Nat) (v0 v1 v2 v3 : Value) : Prop where
 c0 : w.cell? ⟨b, 0, none⟩ = some v0
 c1 : w.cell? ⟨b, 1, none⟩ = some v1
 c2 : w.cell? ⟨b, 2, none⟩ = some v2
 c3 : w.cell? ⟨b, 3, none⟩ = some v3
theorem B4.new (w : World) (v0 v1 v2 v3 : Value) (T : TypeId) : B4 (w.alloc (.cells #[v0, v1, v2, v3] T)) w.heap.size v0 v1 v2 v3 := by
 obtain ⟨h0, h1, h2, h3⟩ := Box4.new w v0 v1 v2 v3 T
 exact ⟨h0, h1, h2, h3⟩
theorem B4.below {w w' : World} {b : Nat} {v0 v1 v2 v3 : Value} (h : B4 w b v0 v1 v2 v3) (hb : Below w.heap.size w w') : B4 w' b v0 v1 v2 v3 := ⟨cell_below hb h.c0, cell_below hb h.c1, cell_below hb h.c2, cell_below hb h.c3⟩
theorem B4.fx {rb : Nat} {w w' : World} {b : Nat} {v0 v1 v2 v3 : Value} (h : B4 w b v0 v1 v2 v3) (hf : Fx rb w w') (hn : b ≠ rb) : B4 w' b v0 v1 v2 v3 := ⟨hf.cell hn h.c0, hf.cell hn h.c1, hf.cell hn h.c2, hf.cell hn h.c3⟩
theorem B4.set5 {w : World} {b : Nat} {v0 v1 v2 v3 : Value} (h : B4 w b v0 v1 v2 v3) (g o : Nat) (u0 u1 u2 u3 u4 : Value) (hg : g ≠ b) : B4 (set5 w g o u0 u1 u2 u3 u4) b v0 v1 v2 v3 :=
 ⟨by rw [set5_far _ _ _ _ _ _ _ _ _ _ hg]; exact h.c0, by rw [set5_far _ _ _ _ _ _ _ _ _ _ hg]; exact h.c1, by rw [set5_far _ _ _ _ _ _ _ _ _ _ hg]; exact h.c2, by rw [set5_far _ _ _ _ _ _ _ _ _ _ hg]; exact h.c3⟩
theorem own5 {w : World} {b : Nat} {v0 v1 v2 v3 v4 : Value} (h : Box5 w b v0 v1 v2 v3 v4) (u0 u1 u2 u3 u4 : Value) : Box5 (set5 w b 0 u0 u1 u2 u3 u4) b u0 u1 u2 u3 u4 := by
 obtain ⟨h0, h1, h2, h3, h4⟩ := set5_at w b 0 u0 u1 u2 u3 u4 h.c0 h.c1 h.c2 h.c3 h.c4
 exact ⟨h0, h1, h2, h3, h4, (set5_frozen _ _ _ _ _ _ _ _ _).trans h.f0, (set5_frozen _ _ _ _ _ _ _ _ _).trans h.f1, (set5_frozen _ _ _ _ _ _ _ _ _).trans h.f2, (set5_frozen _ _ _ _ _ _ _ _ _).trans h.f3, (set5_frozen _ _ _ _ _ _ _ _ _).trans h.f4⟩
theorem Rdr.set5 {w : World} {rb : Nat} {ta : Option Addr} {cap : Nat} {T : List Tt} {i op : Nat} (h : Rdr w rb ta cap T i op) (b o : Nat) (u0 u1 u2 u3 u4 : Value) (hb : rb < b) : Rdr (set5 w b o u0 u1 u2 u3 u4) rb ta cap T i op := ((((h.far b o u0 hb).far b (o + 1) u1 hb).far b (o + 2) u2 hb).far b (o + 3) u3 hb).far b (o + 4) u4 hb
theorem Fx.set5 {rb : Nat} {w w' : World} (h : Fx rb w w') (b o : Nat) (u0 u1 u2 u3 u4 : Value) (hb : w.heap.size ≤ b) : Fx rb w (set5 w' b o u0 u1 u2 u3 u4) := ((((h.new b o u0 hb).new b (o + 1) u1 hb).new b (o + 2) u2 hb).new b (o + 3) u3 hb).new b (o + 4) u4 hb
theorem XsAt.two {lo : Nat} {w' : World} (w : World) (x y : X) (sx : Option Addr) (cx : Nat) (sy : Option Addr) (cy : Nat) (hw : w'.heap[w.heap.size]? = (w.alloc (Obj.cells #[Value.int IntKind.i64 (xk x), Value.string (bsA (xt x)), Value.int IntKind.i64 (xn x), Value.int IntKind.i64 (xa x), Value.slice sx (xl x) cx, Value.int IntKind.i64 (xk y), Value.string (bsA (xt y)), Value.int IntKind.i64 (xn y), Value.int IntKind.i64 (xa y), Value.slice sy (xl y) cy] 34)).heap[w.heap.size]?) (hlo : lo ≤ w.heap.size) (hx : XAt lo w' x sx) (hy : XAt lo w' y sy) : XsAt lo w' w.heap.size [x, y] := by
 refine ⟨⟨hlo, fun j => (World.frozen?_of_block (a := ⟨w.heap.size, j, none⟩) hw).trans (by simp [go_sem])⟩, ?_⟩
 intro i z hz
 match i, hz with
 | 0, hz =>
  cases hz
  exact ⟨sx, cx, ⟨cell_same (by simp [go_sem]) hw, cell_same (by simp [go_sem]) hw, cell_same (by simp [go_sem]) hw, cell_same (by simp [go_sem]) hw, cell_same (by simp [go_sem]) hw⟩, hx⟩
 | 1, hz =>
  cases hz
  exact ⟨sy, cy, ⟨cell_same (by simp [go_sem]) hw, cell_same (by simp [go_sem]) hw, cell_same (by simp [go_sem]) hw, cell_same (by simp [go_sem]) hw, cell_same (by simp [go_sem]) hw⟩, hy⟩
theorem line_any (rb : Nat) (ta : Option Addr) (cap : Nat) (T : List Tt) (k : FuncId) (hent : Ent k) (part : Nat → Nat → Rz X) (hp : Reads rb ta cap T k part) (kk : Int) (hkk : kk ≠ 0) (L : List (List UInt8)) (g c : Nat) (hL : L.length ≤ 1000) (f i op : Nat) (w : World) (hr : Rdr w rb ta cap T i op) (hs : StsL w g L) (hop : op ≤ 100) (hg : rb < g) (hgl : g < w.heap.size) (r : Sum Er (X × Nat)) (h : bnd (part i op) (lineP T kk L (fun j => part j op) f) = some r) :
  Calls Tryz.prog 195 #[ptr rb, .func (.func k) #[ptr rb] #[], .int .i64 kk, .slice (some ⟨g, 0, none⟩) L.length c] w (PPost rb ta cap T op w r) := by
 have hA : Below w.heap.size w (w.alloc (Obj.cells #[Value.int IntKind.i64 0, Value.string { data := #[] }, Value.int IntKind.i64 0, Value.int IntKind.i64 0, Value.slice none 0 0] 34)) := (Below.refl _ _).alloc (Nat.le_refl _) _
 obtain ⟨r1, e1⟩ : ∃ r1, part i op = some r1 := by
  cases h0 : part i op with
  | none => rw [h0] at h; cases h
  | some r1 => exact ⟨r1, rfl⟩
 have h1 := hp i op _ r1 hop (hr.below hA) e1
 rw [e1] at h
 have HP : Hid _ := hp
 have HS : Hid _ := hs.below hA
 have HH : Hid _ := h
 have hlt := cell_lt hr.c0
 unfold Ent at hent
 unfold ptr at h1 ⊢
 clear hr hs h e1 hp
 go_enter Tryz.func195, Tryz.ntmps195
 go_wp2_with fail
 refine h1.mono ?_
 intro e w1 hpost
 clear h1
 cases r1 with
 | inl q =>
  obtain ⟨hG, hF⟩ := hpost.no
  unfold GUp at hG
  subst hG
  have HF : Hid _ := (Fx.below hA).trans hF
  have HR : Hid (r = .inl q) := by
   have h := HH.out
   exact (Option.some.inj h).symm
  clear hpost hF
  go_wp2
  exact ⟨rfl, by rw [HR.out]; exact ⟨rfl, HF.out⟩⟩
 | inr q =>
  obtain ⟨x, j⟩ := q
  obtain ⟨⟨⟨s1, c1, rfl, hx⟩, hr1⟩, hF⟩ := hpost.ok
  dsimp only at hx hr1
  have HF : Hid _ := (Fx.below hA).trans hF
  have HH2 : Hid (lineP T kk L (fun j => part j op) f x j = some r) := HH.out
  have hne : w.heap.size ≠ rb := by omega
  have hlt1 : w.heap.size < w1.heap.size := by have h1 := hF.size; rw [World.size_alloc] at h1; omega
  have hY : Below w1.heap.size w1 (w1.alloc (Obj.cells #[Value.int IntKind.i64 (xk x), Value.string (bsA (xt x)), Value.int IntKind.i64 (xn x), Value.int IntKind.i64 (xa x), Value.slice s1 (xl x) c1] 34)) := (Below.refl _ _).alloc (Nat.le_refl _) _
  have HI : Hid (LnI rb ta cap T op w w1.heap.size g L x j (w1.alloc (Obj.cells #[Value.int IntKind.i64 (xk x), Value.string (bsA (xt x)), Value.int IntKind.i64 (xn x), Value.int IntKind.i64 (xa x), Value.slice s1 (xl x) c1] 34))) := (LnI.mk ⟨s1, c1, Box5.new w1 _ _ _ _ _ 34, (XSt.old (lo := w.heap.size + 1) (NdF.keep (by simp) (fun _ _ _ => rfl) hx) (by omega) (Nat.le_refl _)).below hY⟩ (hr1.below hY) (HF.out.trans (Fx.below hY)) (StsL.below (StsL.fx HS.out hF (by omega)) hY) (((Box5.new w (.int .i64 0) (.string ⟨#[]⟩) (.int .i64 0) (.int .i64 0) (.slice none 0 0) 34).fx hF hne).below hY))
  unfold xV nV
  obtain ⟨nb, hnb⟩ : ∃ nb, nb = w1.heap.size := ⟨_, rfl⟩
  have hnb1 : w.heap.size < nb := by omega
  clear hpost hF hr1 hx HS HH HF hA hY
  go_wp2
  rw [← hnb] at HI ⊢
  clear hnb hlt1
  go_loopg [10] f (fun gk _ wr => ∃ n i, LnI rb ta cap T op w nb g L n i wr ∧ lineP T kk L (fun j => part j op) gk n i = some r)
  case atStart => exact ⟨x, j, HI.out, HH2.out⟩
  case round =>
   obtain ⟨n, i', hI, hl⟩ := hrel
   obtain ⟨m, rfl⟩ : ∃ m, gk = m + 1 := by
    cases gk with
    | zero => cases hl
    | succ m => exact ⟨m, rfl⟩
   have h1 := sees_any rb ta cap T i' op kk L g c wr hI.rdr hL hI.sts
   unfold ptr at h1
   have HI2 : Hid (LnI rb ta cap T op w nb g L n i' wr) := hI
   have HL : Hid ((if isT (tkI T i') kk L then bnd (part (i' + 1) op) fun m' j => lineP T kk L (fun j => part j op) m (tnd 8 (tkI T i') [n, m']) j else okR n i') = some r) := hl
   clear hl hI
   by_cases hb : isT (tkI T i') kk L = true
   ·
    have hi : i' < T.length := by
     rcases Nat.lt_or_ge i' T.length with h | h
     · exact h
     ·
      exact absurd hb (by
       rw [tkI_end h]
       unfold isT tkE
       rw [decide_eq_false (fun h => hkk h.symm)]
       exact Bool.false_ne_true)
    have HL2 : Hid (bnd (part (i' + 1) op) (fun m' j => lineP T kk L (fun j => part j op) m (tnd 8 (tkI T i') [n, m']) j) = some r) := by
     have h := HL.out
     rw [if_pos hb] at h
     exact h
    rw [hb] at h1
    go_wp2_with fail
    refine h1.mono ?_
    rintro e w2 ⟨rfl, hb2⟩
    clear h1
    have h2 := take_any rb ta cap T i' op w2 (HI2.out.rdr.below hb2) hi
    unfold ptr ttV at h2
    clear hb hi
    have HI3 : Hid (LnI rb ta cap T op w nb g L n i' w2) := HI2.out.below hb2
    clear HL HI2 hb2
    generalize tkI T i' = q at h2 HL2
    obtain ⟨⟨q1, q2, q3⟩, q4⟩ := q
    dsimp only at h2
    go_wp2_with fail
    refine h2.mono ?_
    rintro e w3 ⟨rfl, hr3, hf3⟩
    clear h2
    obtain ⟨sn, cn, hbx, hxn⟩ := HI3.out.box
    have hY : Below w3.heap.size w3 (w3.alloc (Obj.cells #[Value.int IntKind.i64 q1, Value.string (bsA q2), Value.int IntKind.i64 q3, Value.int IntKind.i64 q4] 26)) := (Below.refl _ _).alloc (Nat.le_refl _) _
    have hnr : nb ≠ rb := by omega
    have hl3 : nb < w3.heap.size := Nat.lt_of_lt_of_le (cell_lt hbx.c0) hf3.size
    have HB : Hid (Box5 (w3.alloc (Obj.cells #[Value.int IntKind.i64 q1, Value.string (bsA q2), Value.int IntKind.i64 q3, Value.int IntKind.i64 q4] 26)) nb (.int .i64 (xk n)) (.string (bsA (xt n))) (.int .i64 (xn n)) (.int .i64 (xa n)) (.slice sn (xl n) cn)) := (hbx.fx hf3 hnr).below hY
    have HB4 : Hid (B4 (w3.alloc (Obj.cells #[Value.int IntKind.i64 q1, Value.string (bsA q2), Value.int IntKind.i64 q3, Value.int IntKind.i64 q4] 26)) w3.heap.size (.int .i64 q1) (.string (bsA q2)) (.int .i64 q3) (.int .i64 q4)) := B4.new w3 _ _ _ _ 26
    have HXN : Hid (XSt rb nb (w.heap.size + 1) (w3.alloc (Obj.cells #[Value.int IntKind.i64 q1, Value.string (bsA q2), Value.int IntKind.i64 q3, Value.int IntKind.i64 q4] 26)) n sn) := (hxn.fx hf3).below hY
    have HR3 : Hid (Rdr (w3.alloc (Obj.cells #[Value.int IntKind.i64 q1, Value.string (bsA q2), Value.int IntKind.i64 q3, Value.int IntKind.i64 q4] 26)) rb ta cap T (i' + 1) op) := hr3.below hY
    have HF3 : Hid (Fx rb w (w3.alloc (Obj.cells #[Value.int IntKind.i64 q1, Value.string (bsA q2), Value.int IntKind.i64 q3, Value.int IntKind.i64 q4] 26))) := HI3.out.fx.trans (hf3.trans (Fx.below hY))
    have HS3 : Hid (StsL (w3.alloc (Obj.cells #[Value.int IntKind.i64 q1, Value.string (bsA q2), Value.int IntKind.i64 q3, Value.int IntKind.i64 q4] 26)) g L) := StsL.below (StsL.fx HI3.out.sts hf3 (by omega)) hY
    have HZ3 : Hid (Box5 (w3.alloc (Obj.cells #[Value.int IntKind.i64 q1, Value.string (bsA q2), Value.int IntKind.i64 q3, Value.int IntKind.i64 q4] 26)) w.heap.size (.int .i64 0) (.string ⟨#[]⟩) (.int .i64 0) (.int .i64 0) (.slice none 0 0)) := (HI3.out.res.fx hf3 hne).below hY
    clear hbx hxn hY hr3 hf3 HI3
    obtain ⟨r3, e3⟩ : ∃ r3, part (i' + 1) op = some r3 := by
     cases h0 : part (i' + 1) op with
     | none => have h := HL2.out; rw [h0] at h; cases h
     | some r3 => exact ⟨r3, rfl⟩
    have HL3 : Hid (bnd (some r3) (fun m' j => lineP T kk L (fun j => part j op) m (tnd 8 ((q1, q2, q3), q4) [n, m']) j) = some r) := by
     have h := HL2.out
     rw [e3] at h
     exact h
    have h3 := HP.out (i' + 1) op _ r3 hop (HR3.out.below (Below.refl _ _).drew) e3
    unfold ptr at h3
    have H3 : Hid (Calls Tryz.prog k #[.pointer (some ⟨rb, 0, none⟩)] (w3.alloc (Obj.cells #[Value.int IntKind.i64 q1, Value.string (bsA q2), Value.int IntKind.i64 q3, Value.int IntKind.i64 q4] 26)).drew (PPost rb ta cap T op (w3.alloc (Obj.cells #[Value.int IntKind.i64 q1, Value.string (bsA q2), Value.int IntKind.i64 q3, Value.int IntKind.i64 q4] 26)).drew r3)) := h3
    clear h3 e3 HL2
    go_wp2_with fail
    refine wp_region_held_drew (S := (fun wS => B4 wS w3.heap.size (.int .i64 q1) (.string (bsA q2)) (.int .i64 q3) (.int .i64 q4))) (by kernel_rfl) ?_ (fun hHeld => ?_)
    · (try dsimp only); exact HB4.out.below (Below.refl _ _).drew
    refine tk 0 (some 19) (v := ?_) rfl ?_ ?_
    rotate_left
    · intro wS hSw; (try dsimp only at hSw); have y0 := hSw.c0; have y1 := hSw.c1; have y2 := hSw.c2; have y3 := hSw.c3; go_simp; (try with_reducible rfl)
    try simp only [Act.put, List.setIfInBounds_toArray, List.set_cons_zero, List.set_cons_succ]
    refine tk 2 (some 21) (v := ?_) rfl ?_ ?_
    rotate_left
    · intro wS hSw; (try dsimp only at hSw); go_simp; (try with_reducible rfl)
    try simp only [Act.put, List.setIfInBounds_toArray, List.set_cons_zero, List.set_cons_succ]
    refine wpAnyH_ready (rs := [1, 3]) (by kernel_rfl) (by simp) ?_
    refine AllReadyH.cons rfl (fun K hK => ?_) (AllReadyH.cons rfl (fun K hK => ?_) AllReadyH.nil)
    ·
     clear HP
     obtain ⟨y0, y1, y2, y3, y4, _, _, _, _, _⟩ := HB.out.drew
     go_simp
     clear y0 y1 y2 y3 y4
     refine hK.out _ _ ?_ (fun hHz => ?_)
     · (try dsimp only); exact HB4.out.below (Below.refl _ _).drew
     clear hK K hHz
     try simp only [Act.put, List.setIfInBounds_toArray, List.set_cons_zero, List.set_cons_succ]
     refine wpAnyH_ready (rs := [3]) (by kernel_rfl) (by simp) ?_
     refine AllReadyH.cons rfl (fun K hK => ?_) AllReadyH.nil
     go_simp
     refine H3.out.mono ?_
     intro e w4 hpost
     cases r3 with
     | inl q =>
      obtain ⟨hG, hF⟩ := hpost.no
      unfold GUp at hG
      subst hG
      have HF : Hid (Fx rb w w4) := HF3.out.trans ((Fx.below (Below.refl _ _).drew).trans hF)
      have HR : Hid (r = .inl q) := (Option.some.inj HL3.out).symm
      clear hpost hF
      exact ⟨rfl, by rw [HR.out]; exact ⟨rfl, HF.out⟩⟩
     | inr q =>
      obtain ⟨x3, j3⟩ := q
      obtain ⟨⟨⟨s3, c3, rfl, hx3⟩, hr4⟩, hF4⟩ := hpost.ok
      dsimp only at hx3 hr4
      have hD : Below (w3.alloc (Obj.cells #[Value.int IntKind.i64 q1, Value.string (bsA q2), Value.int IntKind.i64 q3, Value.int IntKind.i64 q4] 26)).heap.size (w3.alloc (Obj.cells #[Value.int IntKind.i64 q1, Value.string (bsA q2), Value.int IntKind.i64 q3, Value.int IntKind.i64 q4] 26)) (w3.alloc (Obj.cells #[Value.int IntKind.i64 q1, Value.string (bsA q2), Value.int IntKind.i64 q3, Value.int IntKind.i64 q4] 26)).drew := (Below.refl _ _).drew
      have HB4b : Hid (Box5 w4 nb (.int .i64 (xk n)) (.string (bsA (xt n))) (.int .i64 (xn n)) (.int .i64 (xa n)) (.slice sn (xl n) cn)) := (HB.out.drew).fx hF4 hnr
      have HT4 : Hid (B4 w4 w3.heap.size (.int .i64 q1) (.string (bsA q2)) (.int .i64 q3) (.int .i64 q4)) := (HB4.out.below hD).fx hF4 (by omega)
      have hl4 : w3.heap.size < w4.heap.size := by have h := hF4.size; simp at h; omega
      have HX3 : Hid (XSt rb nb (w.heap.size + 1) w4 x3 s3) := XSt.new hx3 (by simp; omega) (by simp; omega) (by simp; omega)
      have HXN4 : Hid (XSt rb nb (w.heap.size + 1) w4 n sn) := (HXN.out.below hD).fx hF4
      have HF4 : Hid (Fx rb w w4) := HF3.out.trans ((Fx.below hD).trans hF4)
      have HS4 : Hid (StsL w4 g L) := StsL.fx (StsL.below HS3.out hD) hF4 (by omega)
      have HZ4 : Hid (Box5 w4 w.heap.size (.int .i64 0) (.string ⟨#[]⟩) (.int .i64 0) (.int .i64 0) (.slice none 0 0)) := (HZ3.out.below hD).fx hF4 hne
      have HR4 : Hid (Rdr w4 rb ta cap T j3 op) := hr4
      clear hx3 hr4 hF4 hD
      refine hK.out _ _ ?_ (fun hHz => ?_)
      · (try dsimp only); exact HT4.out
      clear hpost hK K hHz
      try simp only [Act.put, List.setIfInBounds_toArray, List.set_cons_zero, List.set_cons_succ]
      unfold xV nV
      refine wpAnyH_ready (rs := [4]) (by kernel_rfl) (by simp) ?_
      refine AllReadyH.cons rfl (fun K hK => ?_) AllReadyH.nil
      go_simp
      have hA5 : Below w4.heap.size w4 (w4.alloc (Obj.cells #[Value.int IntKind.i64 (xk n), Value.string (bsA (xt n)), Value.int IntKind.i64 (xn n), Value.int IntKind.i64 (xa n), Value.slice sn (xl n) cn, Value.int IntKind.i64 (xk x3), Value.string (bsA (xt x3)), Value.int IntKind.i64 (xn x3), Value.int IntKind.i64 (xa x3), Value.slice s3 (xl x3) c3] 34)) := (Below.refl _ _).alloc (Nat.le_refl _) _
      refine hK.out _ _ ?_ (fun hHz => ?_)
      · (try dsimp only); exact HT4.out.below hA5
      clear hK K hHz
      try simp only [Act.put, List.setIfInBounds_toArray, List.set_cons_zero, List.set_cons_succ]
      refine wpAnyH_ready (rs := [5]) (by kernel_rfl) (by simp) ?_
      refine AllReadyH.cons rfl (fun K hK => ?_) AllReadyH.nil
      go_simp
      have h5 := textNode_any 8 ((q1, q2, q3), q4) (some ⟨w4.heap.size, 0, none⟩) 2 2 (w4.alloc (Obj.cells #[Value.int IntKind.i64 (xk n), Value.string (bsA (xt n)), Value.int IntKind.i64 (xn n), Value.int IntKind.i64 (xa n), Value.slice sn (xl n) cn, Value.int IntKind.i64 (xk x3), Value.string (bsA (xt x3)), Value.int IntKind.i64 (xn x3), Value.int IntKind.i64 (xa x3), Value.slice s3 (xl x3) c3] 34))
      unfold ttV nV at h5
      dsimp only at h5
      refine h5.mono ?_
      rintro e w6 ⟨rfl, hb6⟩
      clear h5
      refine hK.out _ _ ?_ (fun hHz => ?_)
      · (try dsimp only); exact (HT4.out.below hA5).below hb6
      clear hK K hHz
      try simp only [Act.put, List.setIfInBounds_toArray, List.set_cons_zero, List.set_cons_succ]
      refine wpAnyH_ready (rs := [6]) (by kernel_rfl) (by simp) ?_
      refine AllReadyH.cons rfl (fun K hK => ?_) AllReadyH.nil
      obtain ⟨y0, y1, y2, y3, y4, z0, z1, z2, z3, z4⟩ := (HB4b.out.below hA5).below hb6
      go_simp
      clear y0 y1 y2 y3 y4 z0 z1 z2 z3 z4
      refine hK.out _ _ ?_ (fun hHz => ?_)
      · (try dsimp only); exact ((HT4.out.below hA5).below hb6).set5 _ _ _ _ _ _ _ (by omega)
      clear hK K hHz
      try simp only [Act.put, List.setIfInBounds_toArray, List.set_cons_zero, List.set_cons_succ]
      refine wpAnyH_done (by kernel_rfl) ?_ _
      have hs6 : w4.heap.size < w6.heap.size := by have h := hb6.size; simp at h; omega
      have hA6 : Below w4.heap.size w4 w6 := hA5.trans (hb6.mono hA5.size)
      have HN : Hid (LnI rb ta cap T op w nb g L (tnd 8 ((q1, q2, q3), q4) [n, x3]) j3 (set5 w6 nb 0 (.int .i64 8) (.string (bsA q2)) (.int .i64 0) (.int .i64 q4) (.slice (some ⟨w4.heap.size, 0, none⟩) 2 2))) := by
       refine ⟨⟨some ⟨w4.heap.size, 0, none⟩, 2, ?_, ?_⟩, ?_, ?_, ?_, ?_⟩
       ·
        have e := mkX_len 8 q2 0 q4 [n, x3]
        show Box5 _ nb (.int .i64 8) (.string (bsA q2)) (.int .i64 0) (.int .i64 q4) (.slice _ (xl (mkX 8 q2 0 q4 [n, x3])) _)
        rw [e]
        exact own5 (HB4b.out.below hA6) _ _ _ _ _
       ·
        intro w' hk
        have hw : w'.heap[w4.heap.size]? = (w4.alloc (Obj.cells #[Value.int IntKind.i64 (xk n), Value.string (bsA (xt n)), Value.int IntKind.i64 (xn n), Value.int IntKind.i64 (xa n), Value.slice sn (xl n) cn, Value.int IntKind.i64 (xk x3), Value.string (bsA (xt x3)), Value.int IntKind.i64 (xn x3), Value.int IntKind.i64 (xa x3), Value.slice s3 (xl x3) c3] 34)).heap[w4.heap.size]? := (hk _ (by rw [set5_size]; exact hs6) (by omega) (by omega)).trans ((set5_heap _ _ _ _ _ _ _ _ _ (by omega)).trans (hb6.block _ (by simp)))
        exact mkX_at 8 q2 0 q4 (XsAt.two w4 n x3 sn cn s3 c3 hw (by omega) ((HXN4.out.below hA6).set5 _ _ _ _ _ w' hk) ((HX3.out.below hA6).set5 _ _ _ _ _ w' hk)) (by simp)
       · exact Rdr.set5 (HR4.out.below hA6) _ _ _ _ _ _ _ (by omega)
       · exact (HF4.out.trans (Fx.below hA6)).set5 _ _ _ _ _ _ _ (by omega)
       · exact fun i y hy => by rw [set5_far _ _ _ _ _ _ _ _ _ _ (by omega)]; exact StsL.below HS4.out hA6 i y hy
       · exact (HZ4.out.below hA6).set5 _ _ _ _ _ _ _ (by omega)
      have HL4 : Hid (lineP T kk L (fun j => part j op) m (tnd 8 ((q1, q2, q3), q4) [n, x3]) j3 = some r) := HL3.out
      clear hA5 hA6 hb6 hs6 HB4b HT4 HX3 HXN4 HF4 HS4 HZ4 HR4 HL3
      go_wp2
      go_roundg m
      case measure => omega
      case rel => exact ⟨(tnd 8 ((q1, q2, q3), q4) [n, x3]), j3, HN.out, HL4.out⟩
    ·
     clear HP
     go_simp
     refine H3.out.mono ?_
     intro e w4 hpost
     cases r3 with
     | inl q =>
      obtain ⟨hG, hF⟩ := hpost.no
      unfold GUp at hG
      subst hG
      have HF : Hid (Fx rb w w4) := HF3.out.trans ((Fx.below (Below.refl _ _).drew).trans hF)
      have HR : Hid (r = .inl q) := (Option.some.inj HL3.out).symm
      clear hpost hF
      exact ⟨rfl, by rw [HR.out]; exact ⟨rfl, HF.out⟩⟩
     | inr q =>
      obtain ⟨x3, j3⟩ := q
      obtain ⟨⟨⟨s3, c3, rfl, hx3⟩, hr4⟩, hF4⟩ := hpost.ok
      dsimp only at hx3 hr4
      have hD : Below (w3.alloc (Obj.cells #[Value.int IntKind.i64 q1, Value.string (bsA q2), Value.int IntKind.i64 q3, Value.int IntKind.i64 q4] 26)).heap.size (w3.alloc (Obj.cells #[Value.int IntKind.i64 q1, Value.string (bsA q2), Value.int IntKind.i64 q3, Value.int IntKind.i64 q4] 26)) (w3.alloc (Obj.cells #[Value.int IntKind.i64 q1, Value.string (bsA q2), Value.int IntKind.i64 q3, Value.int IntKind.i64 q4] 26)).drew := (Below.refl _ _).drew
      have HB4b : Hid (Box5 w4 nb (.int .i64 (xk n)) (.string (bsA (xt n))) (.int .i64 (xn n)) (.int .i64 (xa n)) (.slice sn (xl n) cn)) := (HB.out.drew).fx hF4 hnr
      have HT4 : Hid (B4 w4 w3.heap.size (.int .i64 q1) (.string (bsA q2)) (.int .i64 q3) (.int .i64 q4)) := (HB4.out.below hD).fx hF4 (by omega)
      have hl4 : w3.heap.size < w4.heap.size := by have h := hF4.size; simp at h; omega
      have HX3 : Hid (XSt rb nb (w.heap.size + 1) w4 x3 s3) := XSt.new hx3 (by simp; omega) (by simp; omega) (by simp; omega)
      have HXN4 : Hid (XSt rb nb (w.heap.size + 1) w4 n sn) := (HXN.out.below hD).fx hF4
      have HF4 : Hid (Fx rb w w4) := HF3.out.trans ((Fx.below hD).trans hF4)
      have HS4 : Hid (StsL w4 g L) := StsL.fx (StsL.below HS3.out hD) hF4 (by omega)
      have HZ4 : Hid (Box5 w4 w.heap.size (.int .i64 0) (.string ⟨#[]⟩) (.int .i64 0) (.int .i64 0) (.slice none 0 0)) := (HZ3.out.below hD).fx hF4 hne
      have HR4 : Hid (Rdr w4 rb ta cap T j3 op) := hr4
      clear hx3 hr4 hF4 hD
      refine hK.out _ _ ?_ (fun hHz => ?_)
      · (try dsimp only); exact HT4.out
      clear hpost hK K hHz
      try simp only [Act.put, List.setIfInBounds_toArray, List.set_cons_zero, List.set_cons_succ]
      unfold xV nV
      refine wpAnyH_ready (rs := [1]) (by kernel_rfl) (by simp) ?_
      refine AllReadyH.cons rfl (fun K hK => ?_) AllReadyH.nil
      obtain ⟨y0, y1, y2, y3, y4, _, _, _, _, _⟩ := HB4b.out
      go_simp
      clear y0 y1 y2 y3 y4
      refine hK.out _ _ ?_ (fun hHz => ?_)
      · (try dsimp only); exact HT4.out
      clear hK K hHz
      try simp only [Act.put, List.setIfInBounds_toArray, List.set_cons_zero, List.set_cons_succ]
      refine wpAnyH_ready (rs := [4]) (by kernel_rfl) (by simp) ?_
      refine AllReadyH.cons rfl (fun K hK => ?_) AllReadyH.nil
      go_simp
      have hA5 : Below w4.heap.size w4 (w4.alloc (Obj.cells #[Value.int IntKind.i64 (xk n), Value.string (bsA (xt n)), Value.int IntKind.i64 (xn n), Value.int IntKind.i64 (xa n), Value.slice sn (xl n) cn, Value.int IntKind.i64 (xk x3), Value.string (bsA (xt x3)), Value.int IntKind.i64 (xn x3), Value.int IntKind.i64 (xa x3), Value.slice s3 (xl x3) c3] 34)) := (Below.refl _ _).alloc (Nat.le_refl _) _
      refine hK.out _ _ ?_ (fun hHz => ?_)
      · (try dsimp only); exact HT4.out.below hA5
      clear hK K hHz
      try simp only [Act.put, List.setIfInBounds_toArray, List.set_cons_zero, List.set_cons_succ]
      refine wpAnyH_ready (rs := [5]) (by kernel_rfl) (by simp) ?_
      refine AllReadyH.cons rfl (fun K hK => ?_) AllReadyH.nil
      go_simp
      have h5 := textNode_any 8 ((q1, q2, q3), q4) (some ⟨w4.heap.size, 0, none⟩) 2 2 (w4.alloc (Obj.cells #[Value.int IntKind.i64 (xk n), Value.string (bsA (xt n)), Value.int IntKind.i64 (xn n), Value.int IntKind.i64 (xa n), Value.slice sn (xl n) cn, Value.int IntKind.i64 (xk x3), Value.string (bsA (xt x3)), Value.int IntKind.i64 (xn x3), Value.int IntKind.i64 (xa x3), Value.slice s3 (xl x3) c3] 34))
      unfold ttV nV at h5
      dsimp only at h5
      refine h5.mono ?_
      rintro e w6 ⟨rfl, hb6⟩
      clear h5
      refine hK.out _ _ ?_ (fun hHz => ?_)
      · (try dsimp only); exact (HT4.out.below hA5).below hb6
      clear hK K hHz
      try simp only [Act.put, List.setIfInBounds_toArray, List.set_cons_zero, List.set_cons_succ]
      refine wpAnyH_ready (rs := [6]) (by kernel_rfl) (by simp) ?_
      refine AllReadyH.cons rfl (fun K hK => ?_) AllReadyH.nil
      obtain ⟨y0, y1, y2, y3, y4, z0, z1, z2, z3, z4⟩ := (HB4b.out.below hA5).below hb6
      go_simp
      clear y0 y1 y2 y3 y4 z0 z1 z2 z3 z4
      refine hK.out _ _ ?_ (fun hHz => ?_)
      · (try dsimp only); exact ((HT4.out.below hA5).below hb6).set5 _ _ _ _ _ _ _ (by omega)
      clear hK K hHz
      try simp only [Act.put, List.setIfInBounds_toArray, List.set_cons_zero, List.set_cons_succ]
      refine wpAnyH_done (by kernel_rfl) ?_ _
      have hs6 : w4.heap.size < w6.heap.size := by have h := hb6.size; simp at h; omega
      have hA6 : Below w4.heap.size w4 w6 := hA5.trans (hb6.mono hA5.size)
      have HN : Hid (LnI rb ta cap T op w nb g L (tnd 8 ((q1, q2, q3), q4) [n, x3]) j3 (set5 w6 nb 0 (.int .i64 8) (.string (bsA q2)) (.int .i64 0) (.int .i64 q4) (.slice (some ⟨w4.heap.size, 0, none⟩) 2 2))) := by
       refine ⟨⟨some ⟨w4.heap.size, 0, none⟩, 2, ?_, ?_⟩, ?_, ?_, ?_, ?_⟩
       ·
        have e := mkX_len 8 q2 0 q4 [n, x3]
        show Box5 _ nb (.int .i64 8) (.string (bsA q2)) (.int .i64 0) (.int .i64 q4) (.slice _ (xl (mkX 8 q2 0 q4 [n, x3])) _)
        rw [e]
        exact own5 (HB4b.out.below hA6) _ _ _ _ _
       ·
        intro w' hk
        have hw : w'.heap[w4.heap.size]? = (w4.alloc (Obj.cells #[Value.int IntKind.i64 (xk n), Value.string (bsA (xt n)), Value.int IntKind.i64 (xn n), Value.int IntKind.i64 (xa n), Value.slice sn (xl n) cn, Value.int IntKind.i64 (xk x3), Value.string (bsA (xt x3)), Value.int IntKind.i64 (xn x3), Value.int IntKind.i64 (xa x3), Value.slice s3 (xl x3) c3] 34)).heap[w4.heap.size]? := (hk _ (by rw [set5_size]; exact hs6) (by omega) (by omega)).trans ((set5_heap _ _ _ _ _ _ _ _ _ (by omega)).trans (hb6.block _ (by simp)))
        exact mkX_at 8 q2 0 q4 (XsAt.two w4 n x3 sn cn s3 c3 hw (by omega) ((HXN4.out.below hA6).set5 _ _ _ _ _ w' hk) ((HX3.out.below hA6).set5 _ _ _ _ _ w' hk)) (by simp)
       · exact Rdr.set5 (HR4.out.below hA6) _ _ _ _ _ _ _ (by omega)
       · exact (HF4.out.trans (Fx.below hA6)).set5 _ _ _ _ _ _ _ (by omega)
       · exact fun i y hy => by rw [set5_far _ _ _ _ _ _ _ _ _ _ (by omega)]; exact StsL.below HS4.out hA6 i y hy
       · exact (HZ4.out.below hA6).set5 _ _ _ _ _ _ _ (by omega)
      have HL4 : Hid (lineP T kk L (fun j => part j op) m (tnd 8 ((q1, q2, q3), q4) [n, x3]) j3 = some r) := HL3.out
      clear hA5 hA6 hb6 hs6 HB4b HT4 HX3 HXN4 HF4 HS4 HZ4 HR4 HL3
      go_wp2
      go_roundg m
      case measure => omega
      case rel => exact ⟨(tnd 8 ((q1, q2, q3), q4) [n, x3]), j3, HN.out, HL4.out⟩
   ·
    have hb1 : isT (tkI T i') kk L = false := by simpa using hb
    have HR : Hid (r = .inr (n, i')) := by
     have h := HL.out
     rw [if_neg hb] at h
     exact (Option.some.inj h).symm
    rw [hb1] at h1
    clear hb hb1 HL
    go_wp2_with fail
    refine h1.mono ?_
    rintro e w2 ⟨rfl, hb2⟩
    clear h1
    obtain ⟨sn, cn, hbx, hxn⟩ := (HI2.out.below hb2).box
    have HFin : Hid (PPost rb ta cap T op w (.inr (n, i')) (.returned (xV n sn cn)) (set5 w2 w.heap.size 0 (.int .i64 (xk n)) (.string (bsA (xt n))) (.int .i64 (xn n)) (.int .i64 (xa n)) (.slice sn (xl n) cn))) := by
     refine ⟨⟨⟨sn, cn, rfl, NdF.keep (Nat.le_succ _) (fun b hb _ => set5_heap _ _ _ _ _ _ _ _ _ (by omega)) (hxn w2 fun _ _ _ _ => rfl)⟩, Rdr.set5 (HI2.out.below hb2).rdr _ _ _ _ _ _ _ (by omega)⟩, (HI2.out.below hb2).fx.set5 _ _ _ _ _ _ _ (Nat.le_refl _)⟩
    obtain ⟨b0, b1, b2, b3, b4, _, _, _, _, _⟩ := hbx
    obtain ⟨z0, z1, z2, z3, z4, f0, f1, f2, f3, f4⟩ := own5 (HI2.out.below hb2).res (.int .i64 (xk n)) (.string (bsA (xt n))) (.int .i64 (xn n)) (.int .i64 (xa n)) (.slice sn (xl n) cn)
    obtain ⟨d0, d1, d2, d3, d4, g0, g1, g2, g3, g4⟩ := (HI2.out.below hb2).res
    clear hxn hb2 HI2 HP
    go_wp2
    refine bodyPost_ret (v := .agg #[.int .i64 (xk n), .string (bsA (xt n)), .int .i64 (xn n), .int .i64 (xa n), .slice sn (xl n) cn]) (by unfold set5 at z0 z1 z2 z3 z4; simp [results, Tryz.results195, go_sem, z0, z1, z2, z3, z4]) rfl ?_
    rw [HR.out]
    exact HFin.out
end Go.Proofs.YtgdndahhledikaaGreatDoor
