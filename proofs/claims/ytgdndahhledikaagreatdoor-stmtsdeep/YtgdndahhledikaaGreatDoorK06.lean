/- Prf, Nm, Brk. -/
import Derived.Test.YtgdndahhledikaaGreatDoorK05
namespace Go.Proofs.YtgdndahhledikaaGreatDoor
open Go.ChangeShapes Go.WideShapes Go.ChangeAt Go.RowKit
set_option linter.unusedSimpArgs false
set_option maxRecDepth 20000
set_option maxHeartbeats 4000000
theorem XsAt.one {lo : Nat} {w' : World} (w : World) (x : X) (sx : Option Addr) (cx : Nat) (hw : w'.heap[w.heap.size]? = (w.alloc (Obj.cells #[Value.int IntKind.i64 (xk x), Value.string (bsA (xt x)), Value.int IntKind.i64 (xn x), Value.int IntKind.i64 (xa x), Value.slice sx (xl x) cx] 34)).heap[w.heap.size]?) (hlo : lo ≤ w.heap.size) (hx : XAt lo w' x sx) : XsAt lo w' w.heap.size [x] := by
 refine ⟨⟨hlo, fun j => (World.frozen?_of_block (a := ⟨w.heap.size, j, none⟩) hw).trans (by simp [go_sem])⟩, ?_⟩
 intro i z hz
 match i, hz with
 | 0, hz =>
  cases hz
  exact ⟨sx, cx, ⟨cell_same (by simp [go_sem]) hw, cell_same (by simp [go_sem]) hw, cell_same (by simp [go_sem]) hw, cell_same (by simp [go_sem]) hw, cell_same (by simp [go_sem]) hw⟩, hx⟩
theorem prefixed_any (rb : Nat) (ta : Option Addr) (cap : Nat) (T : List Tt) (k : FuncId) (hent : Ent k) (part : Nat → Nat → Rz X) (hp : Reads rb ta cap T k part) (kk : Int) (hkk : kk ≠ 0) (t : List UInt8) : ∀ (f i op : Nat) (w : World) (r : Sum Er (X × Nat)), op ≤ 100 → Rdr w rb ta cap T i op → prefP T kk t part f i op = some r →
  Calls Tryz.prog 218 #[ptr rb, .func (.func k) #[ptr rb] #[], .int .i64 kk, .string (bsA t)] w (PPost rb ta cap T op w r) := by
 intro f
 induction f with
 | zero => intro i op w r _ _ h; cases h
 | succ f ih =>
 intro i op w r hop hr h
 have HIH : Hid _ := ih
 have HP : Hid (Reads rb ta cap T k part) := hp
 have hA : Below w.heap.size w (w.alloc (Obj.cells #[Value.int IntKind.i64 0, Value.string { data := #[] }, Value.int IntKind.i64 0, Value.int IntKind.i64 0, Value.slice none 0 0] 34)) := (Below.refl _ _).alloc (Nat.le_refl _) _
 have hB : Below (w.alloc (Obj.cells #[Value.int IntKind.i64 0, Value.string { data := #[] }, Value.int IntKind.i64 0, Value.int IntKind.i64 0, Value.slice none 0 0] 34)).heap.size (w.alloc (Obj.cells #[Value.int IntKind.i64 0, Value.string { data := #[] }, Value.int IntKind.i64 0, Value.int IntKind.i64 0, Value.slice none 0 0] 34)) ((w.alloc (Obj.cells #[Value.int IntKind.i64 0, Value.string { data := #[] }, Value.int IntKind.i64 0, Value.int IntKind.i64 0, Value.slice none 0 0] 34)).alloc (Obj.cells #[Value.string (bsA t)] 9)) := (Below.refl _ _).alloc (Nat.le_refl _) _
 have hlt := cell_lt hr.c0
 have hne : w.heap.size ≠ rb := by omega
 have HZ : Hid (Box5 ((w.alloc (Obj.cells #[Value.int IntKind.i64 0, Value.string { data := #[] }, Value.int IntKind.i64 0, Value.int IntKind.i64 0, Value.slice none 0 0] 34)).alloc (Obj.cells #[Value.string (bsA t)] 9)) w.heap.size (.int .i64 0) (.string ⟨#[]⟩) (.int .i64 0) (.int .i64 0) (.slice none 0 0)) := (Box5.new w (.int .i64 0) (.string ⟨#[]⟩) (.int .i64 0) (.int .i64 0) (.slice none 0 0) 34).below hB
 have HA : Hid (Below w.heap.size w ((w.alloc (Obj.cells #[Value.int IntKind.i64 0, Value.string { data := #[] }, Value.int IntKind.i64 0, Value.int IntKind.i64 0, Value.slice none 0 0] 34)).alloc (Obj.cells #[Value.string (bsA t)] 9))) := hA.trans (hB.mono hA.size)
 have HR : Hid (Rdr ((w.alloc (Obj.cells #[Value.int IntKind.i64 0, Value.string { data := #[] }, Value.int IntKind.i64 0, Value.int IntKind.i64 0, Value.slice none 0 0] 34)).alloc (Obj.cells #[Value.string (bsA t)] 9)) rb ta cap T i op) := (hr.below hA).below hB
 have h1 := sees_any rb ta cap T i op kk [t] (w.alloc (Obj.cells #[Value.int IntKind.i64 0, Value.string { data := #[] }, Value.int IntKind.i64 0, Value.int IntKind.i64 0, Value.slice none 0 0] 34)).heap.size 1 _ HR.out (by simp) (StsL.new (w.alloc (Obj.cells #[Value.int IntKind.i64 0, Value.string { data := #[] }, Value.int IntKind.i64 0, Value.int IntKind.i64 0, Value.slice none 0 0] 34)) #[.string (bsA t)] 9 [t] rfl)
 rw [World.size_alloc] at h1
 have HH : Hid ((if isT (tkI T i) kk [t] then (if op = 100 then noR i 71 else bnd (prefP T kk t part f (i + 1) (op + 1)) fun m j => okR (tnd 7 (tkI T i) [m]) j) else part i op) = some r) := h
 unfold Ent at hent
 unfold ptr at h1 ⊢
 clear hr h hp ih hA hB
 cases hb : isT (tkI T i) kk [t] with
 | false =>
  have HH2 : Hid (part i op = some r) := by
   have h := HH.out
   rw [hb] at h
   exact h
  rw [hb] at h1
  clear hb HH HIH
  go_enter Tryz.func218, Tryz.ntmps218
  go_wp2_with fail
  refine h1.mono ?_
  rintro e w1 ⟨rfl, hb1⟩
  clear h1
  have h2 := HP.out i op w1 r hop (HR.out.below hb1) HH2.out
  unfold ptr at h2
  have HA1 : Hid (Below w.heap.size w w1) := HA.out.trans (hb1.mono HA.out.size)
  have HZ1 : Hid (Box5 w1 w.heap.size (.int .i64 0) (.string ⟨#[]⟩) (.int .i64 0) (.int .i64 0) (.slice none 0 0)) := HZ.out.below hb1
  have hs1 : w.heap.size + 1 ≤ w1.heap.size := by have h := hb1.size; simp at h; omega
  clear hb1 HP HH2 HR HA HZ
  go_wp2_with fail
  refine h2.mono ?_
  intro e w2 hpost
  clear h2
  cases r with
  | inl q =>
   obtain ⟨hG, hF⟩ := hpost.no
   unfold GUp at hG
   subst hG
   have HF : Hid _ := (Fx.below HA1.out).trans hF
   clear hpost hF
   go_wp2
   exact ⟨rfl, rfl, HF.out⟩
  | inr q =>
   obtain ⟨x, j⟩ := q
   obtain ⟨⟨⟨s1, c1, rfl, hx⟩, hr2⟩, hF2⟩ := hpost.ok
   dsimp only at hx hr2
   have HFin : Hid _ := PPost.put (w := w) (c := c1) (NdF.keep hs1 (fun _ _ _ => rfl) hx) hr2 ((Fx.below HA1.out).trans hF2) hlt
   have hz := HZ1.out.fx hF2 hne
   obtain ⟨z0, z1, z2, z3, z4, f0, f1, f2, f3, f4⟩ := own5 hz (.int .i64 (xk x)) (.string (bsA (xt x))) (.int .i64 (xn x)) (.int .i64 (xa x)) (.slice s1 (xl x) c1)
   obtain ⟨d0, d1, d2, d3, d4, g0, g1, g2, g3, g4⟩ := hz
   clear hpost hF2 hx hr2 HA1 HZ1
   unfold xV nV
   go_wp2
   refine bodyPost_ret (v := .agg #[.int .i64 (xk x), .string (bsA (xt x)), .int .i64 (xn x), .int .i64 (xa x), .slice s1 (xl x) c1]) (by unfold set5 at z0 z1 z2 z3 z4; simp [results, Tryz.results218, go_sem, z0, z1, z2, z3, z4]) rfl ?_
   exact HFin.out
 | true =>
  have hi := isT_lt hkk hb
  rw [hb] at h1
  by_cases ho : op = 100
  ·
   have HRR : Hid (r = .inl (i, 71)) := by
    have h := HH.out
    rw [hb, if_pos ho] at h
    exact (Option.some.inj h).symm
   subst ho
   clear hb HH HIH HP
   go_enter Tryz.func218, Tryz.ntmps218
   go_wp2_with fail
   refine h1.mono ?_
   rintro e w1 ⟨rfl, hb1⟩
   clear h1
   have h2 := begin_no rb ta cap T i w1 (HR.out.below hb1)
   unfold ptr at h2
   go_wp2_with fail
   refine h2.mono ?_
   rintro e w2 ⟨hG, hb2⟩
   unfold GUp at hG
   subst hG
   have HF : Hid (Fx rb w w2) := (Fx.below HA.out).trans ((Fx.below hb1).trans (Fx.below hb2))
   clear h2 hb1 hb2 HA HR HZ
   go_wp2
   exact ⟨rfl, by rw [HRR.out]; exact ⟨rfl, HF.out⟩⟩
  ·
   have HH2 : Hid (bnd (prefP T kk t part f (i + 1) (op + 1)) (fun m j => okR (tnd 7 (tkI T i) [m]) j) = some r) := by
    have h := HH.out
    rw [hb, if_neg ho] at h
    exact h
   have ho' : op < 100 := by omega
   clear hb HH HP ho
   go_enter Tryz.func218, Tryz.ntmps218
   go_wp2_with fail
   refine h1.mono ?_
   rintro e w1 ⟨rfl, hb1⟩
   clear h1
   have h2 := begin_ok rb ta cap T i op w1 (HR.out.below hb1) ho'
   unfold ptr at h2
   have HA1 : Hid (Below w.heap.size w w1) := HA.out.trans (hb1.mono HA.out.size)
   have HZ1 : Hid (Box5 w1 w.heap.size (.int .i64 0) (.string ⟨#[]⟩) (.int .i64 0) (.int .i64 0) (.slice none 0 0)) := HZ.out.below hb1
   have hs1 : w.heap.size + 1 ≤ w1.heap.size := by have h := hb1.size; simp at h; omega
   clear hb1 HR HA HZ
   go_wp2_with fail
   refine h2.mono ?_
   rintro e w2 ⟨rfl, hr2, hF2⟩
   clear h2
   have h3 := take_any rb ta cap T i (op + 1) w2 hr2 hi
   have HF2 : Hid (Fx rb w w2) := (Fx.below HA1.out).trans hF2
   have HZ2 : Hid (Box5 w2 w.heap.size (.int .i64 0) (.string ⟨#[]⟩) (.int .i64 0) (.int .i64 0) (.slice none 0 0)) := HZ1.out.fx hF2 hne
   have hs2 : w.heap.size + 1 ≤ w2.heap.size := Nat.le_trans hs1 hF2.size
   clear hF2 hr2 HA1 HZ1 hs1
   unfold ptr ttV at h3
   generalize tkI T i = q at h3 HH2
   obtain ⟨⟨q1, q2, q3⟩, q4⟩ := q
   dsimp only at h3
   go_wp2_with fail
   refine h3.mono ?_
   rintro e w3 ⟨rfl, hr3, hF3⟩
   clear h3
   obtain ⟨r4, e4⟩ : ∃ r4, prefP T kk t part f (i + 1) (op + 1) = some r4 := by
    cases h0 : prefP T kk t part f (i + 1) (op + 1) with
    | none => have h := HH2.out; rw [h0] at h; cases h
    | some r4 => exact ⟨r4, rfl⟩
   have HL : Hid (bnd (some r4) (fun m j => okR (tnd 7 ((q1, q2, q3), q4) [m]) j) = some r) := by
    have h := HH2.out
    rw [e4] at h
    exact h
   have h4 := HIH.out (i + 1) (op + 1) w3 r4 (by omega) hr3 e4
   unfold ptr at h4
   have HF3 : Hid (Fx rb w w3) := HF2.out.trans hF3
   have HZ3 : Hid (Box5 w3 w.heap.size (.int .i64 0) (.string ⟨#[]⟩) (.int .i64 0) (.int .i64 0) (.slice none 0 0)) := HZ2.out.fx hF3 hne
   have hs3 : w.heap.size + 1 ≤ w3.heap.size := Nat.le_trans hs2 hF3.size
   clear hF3 hr3 HF2 HZ2 hs2 e4 HH2 HIH
   go_wp2_with fail
   refine h4.mono ?_
   intro e w5 hpost
   clear h4
   cases r4 with
   | inl q =>
    obtain ⟨hG, hF⟩ := hpost.no
    unfold GUp at hG
    subst hG
    have HF : Hid _ := HF3.out.trans hF
    have HRR : Hid (r = .inl q) := (Option.some.inj HL.out).symm
    clear hpost hF
    go_wp2
    exact ⟨rfl, by rw [HRR.out]; exact ⟨rfl, HF.out⟩⟩
   | inr q =>
    obtain ⟨x, j⟩ := q
    obtain ⟨⟨⟨s1, c1, rfl, hx⟩, hr5⟩, hF5⟩ := hpost.ok
    dsimp only at hx hr5
    have HRR : Hid (r = .inr ((tnd 7 ((q1, q2, q3), q4) [x]), j)) := (Option.some.inj HL.out).symm
    have hC : Below w5.heap.size w5 (w5.alloc (Obj.cells #[Value.int IntKind.i64 (xk x), Value.string (bsA (xt x)), Value.int IntKind.i64 (xn x), Value.int IntKind.i64 (xa x), Value.slice s1 (xl x) c1] 34)) := (Below.refl _ _).alloc (Nat.le_refl _) _
    have h6 := textNode_any 7 ((q1, q2, q3), q4) (some ⟨w5.heap.size, 0, none⟩) 1 1 (w5.alloc (Obj.cells #[Value.int IntKind.i64 (xk x), Value.string (bsA (xt x)), Value.int IntKind.i64 (xn x), Value.int IntKind.i64 (xa x), Value.slice s1 (xl x) c1] 34))
    unfold ttV nV at h6
    dsimp only at h6
    have hs5 : w.heap.size + 1 ≤ w5.heap.size := Nat.le_trans hs3 hF5.size
    have HX5 : Hid (XAt (w.heap.size + 1) w5 x s1) := NdF.keep hs3 (fun _ _ _ => rfl) hx
    have HF5 : Hid (Fx rb w w5) := HF3.out.trans hF5
    have HZ5 : Hid (Box5 w5 w.heap.size (.int .i64 0) (.string ⟨#[]⟩) (.int .i64 0) (.int .i64 0) (.slice none 0 0)) := HZ3.out.fx hF5 hne
    have HR5 : Hid (Rdr w5 rb ta cap T j (op + 1)) := hr5
    clear hpost hx hr5 hF5 HF3 HZ3 hs3 HL
    unfold xV nV
    go_wp2_with fail
    refine h6.mono ?_
    rintro e w6 ⟨rfl, hb6⟩
    clear h6
    have hY : Below w6.heap.size w6 (w6.alloc (Obj.cells #[Value.int IntKind.i64 7, Value.string (bsA q2), Value.int IntKind.i64 0, Value.int IntKind.i64 q4, Value.slice (some ⟨w5.heap.size, 0, none⟩) 1 1] 34)) := (Below.refl _ _).alloc (Nat.le_refl _) _
    have hC6 : Below w5.heap.size w5 w6 := hC.trans (hb6.mono hC.size)
    have hC7 : Below w5.heap.size w5 (w6.alloc (Obj.cells #[Value.int IntKind.i64 7, Value.string (bsA q2), Value.int IntKind.i64 0, Value.int IntKind.i64 q4, Value.slice (some ⟨w5.heap.size, 0, none⟩) 1 1] 34)) := hC6.trans (hY.mono hC6.size)
    have hs6 : w5.heap.size < w6.heap.size := by have h := hb6.size; simp at h; omega
    have hw : (w6.alloc (Obj.cells #[Value.int IntKind.i64 7, Value.string (bsA q2), Value.int IntKind.i64 0, Value.int IntKind.i64 q4, Value.slice (some ⟨w5.heap.size, 0, none⟩) 1 1] 34)).heap[w5.heap.size]? = (w5.alloc (Obj.cells #[Value.int IntKind.i64 (xk x), Value.string (bsA (xt x)), Value.int IntKind.i64 (xn x), Value.int IntKind.i64 (xa x), Value.slice s1 (xl x) c1] 34)).heap[w5.heap.size]? := (hY.block _ hs6).trans (hb6.block _ (by simp))
    have HX7 : Hid (XAt (w.heap.size + 1) (w6.alloc (Obj.cells #[Value.int IntKind.i64 7, Value.string (bsA q2), Value.int IntKind.i64 0, Value.int IntKind.i64 q4, Value.slice (some ⟨w5.heap.size, 0, none⟩) 1 1] 34)) (tnd 7 ((q1, q2, q3), q4) [x]) (some ⟨w5.heap.size, 0, none⟩)) := mkX_at 7 q2 0 q4 (XsAt.one w5 x s1 c1 hw hs5 (HX5.out.below hC7)) (by simp)
    have HF7 : Hid (Fx rb w (w6.alloc (Obj.cells #[Value.int IntKind.i64 7, Value.string (bsA q2), Value.int IntKind.i64 0, Value.int IntKind.i64 q4, Value.slice (some ⟨w5.heap.size, 0, none⟩) 1 1] 34))) := HF5.out.trans (Fx.below hC7)
    have HZ7 : Hid (Box5 (w6.alloc (Obj.cells #[Value.int IntKind.i64 7, Value.string (bsA q2), Value.int IntKind.i64 0, Value.int IntKind.i64 q4, Value.slice (some ⟨w5.heap.size, 0, none⟩) 1 1] 34)) w.heap.size (.int .i64 0) (.string ⟨#[]⟩) (.int .i64 0) (.int .i64 0) (.slice none 0 0)) := HZ5.out.below hC7
    have HB7 : Hid (Box5 (w6.alloc (Obj.cells #[Value.int IntKind.i64 7, Value.string (bsA q2), Value.int IntKind.i64 0, Value.int IntKind.i64 q4, Value.slice (some ⟨w5.heap.size, 0, none⟩) 1 1] 34)) w6.heap.size (.int .i64 7) (.string (bsA q2)) (.int .i64 0) (.int .i64 q4) (.slice (some ⟨w5.heap.size, 0, none⟩) 1 1)) := Box5.new w6 _ _ _ _ _ 34
    have h7 := end_any rb ta cap T j op _ (HR5.out.below hC7) hop
    unfold ptr at h7
    have hn6 : w6.heap.size ≠ rb := by omega
    have hn7 : w.heap.size ≠ w6.heap.size := by omega
    clear hC hb6 hY hC6 hC7 hw HX5 HF5 HZ5 HR5
    go_wp2_with fail
    refine h7.mono ?_
    rintro e w8 ⟨rfl, hr8, hF8⟩
    clear h7
    have hxl : xl (tnd 7 ((q1, q2, q3), q4) [x]) = 1 := mkX_len 7 q2 0 q4 [x]
    have HFin : Hid (PPost rb ta cap T op w (.inr ((tnd 7 ((q1, q2, q3), q4) [x]), j)) (.returned (nV 7 q2 0 q4 (.slice (some ⟨w5.heap.size, 0, none⟩) 1 1))) (set5 w8 w.heap.size 0 (.int .i64 7) (.string (bsA q2)) (.int .i64 0) (.int .i64 q4) (.slice (some ⟨w5.heap.size, 0, none⟩) 1 1))) := by
     have h := PPost.put (w := w) (c := 1) (NdF.keep (Nat.le_refl _) (fun b hb hl => hF8.blk b hl (by omega)) HX7.out) hr8 (HF7.out.trans hF8) hlt
     unfold xV at h
     rw [hxl] at h
     exact h
    have hz := HZ7.out.fx hF8 hne
    obtain ⟨z0, z1, z2, z3, z4, f0, f1, f2, f3, f4⟩ := own5 hz (.int .i64 7) (.string (bsA q2)) (.int .i64 0) (.int .i64 q4) (.slice (some ⟨w5.heap.size, 0, none⟩) 1 1)
    obtain ⟨d0, d1, d2, d3, d4, g0, g1, g2, g3, g4⟩ := hz
    obtain ⟨b0, b1, b2, b3, b4, _, _, _, _, _⟩ := HB7.out.fx hF8 hn6
    clear hF8 hr8 HX7 HF7 HZ7 HB7 hxl
    go_wp2
    refine bodyPost_ret (v := .agg #[.int .i64 7, .string (bsA q2), .int .i64 0, .int .i64 q4, .slice (some ⟨w5.heap.size, 0, none⟩) 1 1]) (by unfold set5 at z0 z1 z2 z3 z4; simp [results, Tryz.results218, go_sem, z0, z1, z2, z3, z4]) rfl ?_
    rw [HRR.out]
    exact HFin.out
end Go.Proofs.YtgdndahhledikaaGreatDoor
namespace Go.Proofs.YtgdndahhledikaaGreatDoor
open Go.ChangeShapes Go.WideShapes Go.ChangeAt Go.RowKit
set_option linter.unusedSimpArgs false
set_option maxRecDepth 20000
set_option maxHeartbeats 4000000
theorem not_any (rb : Nat) (ta : Option Addr) (cap : Nat) (T : List Tt) (part : Nat → Nat → Rz X) (hp : Reads rb ta cap T 219 part) (f : Nat) : Reads rb ta cap T 210 (fun i op => prefP T 2 [110, 111, 116] part f i op) := by
 intro i op w r hop hr h
 have hA : Below w.heap.size w (w.alloc (Obj.cells #[Value.int IntKind.i64 0, Value.string { data := #[] }, Value.int IntKind.i64 0, Value.int IntKind.i64 0, Value.slice none 0 0] 34)) := (Below.refl _ _).alloc (Nat.le_refl _) _
 have hlt := cell_lt hr.c0
 have hne : w.heap.size ≠ rb := by omega
 have h1 := prefixed_any rb ta cap T 219 (ent_of (fn := Tryz.f219) rfl (by decide) rfl) part hp 2 (by decide) [110, 111, 116] f i op (w.alloc (Obj.cells #[Value.int IntKind.i64 0, Value.string { data := #[] }, Value.int IntKind.i64 0, Value.int IntKind.i64 0, Value.slice none 0 0] 34)) r hop (hr.below hA) h
 have HZ : Hid (Box5 (w.alloc (Obj.cells #[Value.int IntKind.i64 0, Value.string { data := #[] }, Value.int IntKind.i64 0, Value.int IntKind.i64 0, Value.slice none 0 0] 34)) w.heap.size (.int .i64 0) (.string ⟨#[]⟩) (.int .i64 0) (.int .i64 0) (.slice none 0 0)) := Box5.new w (.int .i64 0) (.string ⟨#[]⟩) (.int .i64 0) (.int .i64 0) (.slice none 0 0) 34
 have HAB : Hid (Below w.heap.size w (w.alloc (Obj.cells #[Value.int IntKind.i64 0, Value.string { data := #[] }, Value.int IntKind.i64 0, Value.int IntKind.i64 0, Value.slice none 0 0] 34))) := hA
 unfold ptr at h1 ⊢
 clear hr h hp hA
 go_enter Tryz.func210, Tryz.ntmps210
 go_wp2_with fail
 refine h1.mono ?_
 intro e w1 hpost
 clear h1
 cases r with
 | inl q =>
  obtain ⟨hG, hF⟩ := hpost.no
  unfold GUp at hG
  subst hG
  have HF : Hid _ := (Fx.below HAB.out).trans hF
  clear hpost hF
  go_wp2
  exact ⟨rfl, rfl, HF.out⟩
 | inr q =>
  obtain ⟨x, j⟩ := q
  obtain ⟨⟨⟨s1, c1, rfl, hx⟩, hr1⟩, hF⟩ := hpost.ok
  dsimp only at hx hr1
  have HFin : Hid _ := PPost.put (w := w) (c := c1) (NdF.keep (by simp) (fun _ _ _ => rfl) hx) hr1 ((Fx.below HAB.out).trans hF) hlt
  have hz := HZ.out.fx hF hne
  obtain ⟨z0, z1, z2, z3, z4, f0, f1, f2, f3, f4⟩ := own5 hz (.int .i64 (xk x)) (.string (bsA (xt x))) (.int .i64 (xn x)) (.int .i64 (xa x)) (.slice s1 (xl x) c1)
  obtain ⟨d0, d1, d2, d3, d4, g0, g1, g2, g3, g4⟩ := hz
  clear hpost hF hx hr1 HAB HZ
  unfold xV nV
  go_wp2
  refine bodyPost_ret (v := .agg #[.int .i64 (xk x), .string (bsA (xt x)), .int .i64 (xn x), .int .i64 (xa x), .slice s1 (xl x) c1]) (by unfold set5 at z0 z1 z2 z3 z4; simp [results, Tryz.results210, go_sem, z0, z1, z2, z3, z4]) rfl ?_
  exact HFin.out
theorem minus_any (rb : Nat) (ta : Option Addr) (cap : Nat) (T : List Tt) (part : Nat → Nat → Rz X) (hp : Reads rb ta cap T 246 part) (f : Nat) : Reads rb ta cap T 240 (fun i op => prefP T 6 [45] part f i op) := by
 intro i op w r hop hr h
 have hA : Below w.heap.size w (w.alloc (Obj.cells #[Value.int IntKind.i64 0, Value.string { data := #[] }, Value.int IntKind.i64 0, Value.int IntKind.i64 0, Value.slice none 0 0] 34)) := (Below.refl _ _).alloc (Nat.le_refl _) _
 have hlt := cell_lt hr.c0
 have hne : w.heap.size ≠ rb := by omega
 have h1 := prefixed_any rb ta cap T 246 (ent_of (fn := Tryz.f246) rfl (by decide) rfl) part hp 6 (by decide) [45] f i op (w.alloc (Obj.cells #[Value.int IntKind.i64 0, Value.string { data := #[] }, Value.int IntKind.i64 0, Value.int IntKind.i64 0, Value.slice none 0 0] 34)) r hop (hr.below hA) h
 have HZ : Hid (Box5 (w.alloc (Obj.cells #[Value.int IntKind.i64 0, Value.string { data := #[] }, Value.int IntKind.i64 0, Value.int IntKind.i64 0, Value.slice none 0 0] 34)) w.heap.size (.int .i64 0) (.string ⟨#[]⟩) (.int .i64 0) (.int .i64 0) (.slice none 0 0)) := Box5.new w (.int .i64 0) (.string ⟨#[]⟩) (.int .i64 0) (.int .i64 0) (.slice none 0 0) 34
 have HAB : Hid (Below w.heap.size w (w.alloc (Obj.cells #[Value.int IntKind.i64 0, Value.string { data := #[] }, Value.int IntKind.i64 0, Value.int IntKind.i64 0, Value.slice none 0 0] 34))) := hA
 unfold ptr at h1 ⊢
 clear hr h hp hA
 go_enter Tryz.func240, Tryz.ntmps240
 go_wp2_with fail
 refine h1.mono ?_
 intro e w1 hpost
 clear h1
 cases r with
 | inl q =>
  obtain ⟨hG, hF⟩ := hpost.no
  unfold GUp at hG
  subst hG
  have HF : Hid _ := (Fx.below HAB.out).trans hF
  clear hpost hF
  go_wp2
  exact ⟨rfl, rfl, HF.out⟩
 | inr q =>
  obtain ⟨x, j⟩ := q
  obtain ⟨⟨⟨s1, c1, rfl, hx⟩, hr1⟩, hF⟩ := hpost.ok
  dsimp only at hx hr1
  have HFin : Hid _ := PPost.put (w := w) (c := c1) (NdF.keep (by simp) (fun _ _ _ => rfl) hx) hr1 ((Fx.below HAB.out).trans hF) hlt
  have hz := HZ.out.fx hF hne
  obtain ⟨z0, z1, z2, z3, z4, f0, f1, f2, f3, f4⟩ := own5 hz (.int .i64 (xk x)) (.string (bsA (xt x))) (.int .i64 (xn x)) (.int .i64 (xa x)) (.slice s1 (xl x) c1)
  obtain ⟨d0, d1, d2, d3, d4, g0, g1, g2, g3, g4⟩ := hz
  clear hpost hF hx hr1 HAB HZ
  unfold xV nV
  go_wp2
  refine bodyPost_ret (v := .agg #[.int .i64 (xk x), .string (bsA (xt x)), .int .i64 (xn x), .int .i64 (xa x), .slice s1 (xl x) c1]) (by unfold set5 at z0 z1 z2 z3 z4; simp [results, Tryz.results240, go_sem, z0, z1, z2, z3, z4]) rfl ?_
  exact HFin.out
end Go.Proofs.YtgdndahhledikaaGreatDoor
namespace Go.Proofs.YtgdndahhledikaaGreatDoor
open Go.ChangeShapes Go.WideShapes Go.ChangeAt Go.RowKit
set_option linter.unusedSimpArgs false
set_option maxRecDepth 20000
set_option maxHeartbeats 4000000
def NPost (rb : Nat) (ta : Option Addr) (cap : Nat) (T : List Tt) (op : Nat) (w : World) (r : Sum Er (Tt × Nat)) (e : Ending) (w' : World) : Prop :=
 (match r with
  | .inl q => GUp q.1 q.2 e
  | .inr q => e = .returned (ttV q.1) ∧ Rdr w' rb ta cap T q.2 op) ∧ Fx rb w w'
theorem NPost.no {rb : Nat} {ta : Option Addr} {cap : Nat} {T : List Tt} {op : Nat} {w w' : World} {q : Er} {e : Ending} (h : NPost rb ta cap T op w (.inl q) e w') : GUp q.1 q.2 e ∧ Fx rb w w' := h
theorem NPost.ok {rb : Nat} {ta : Option Addr} {cap : Nat} {T : List Tt} {op : Nat} {w w' : World} {q : Tt × Nat} {e : Ending} (h : NPost rb ta cap T op w (.inr q) e w') : (e = .returned (ttV q.1) ∧ Rdr w' rb ta cap T q.2 op) ∧ Fx rb w w' := h
theorem need_any (rb : Nat) (ta : Option Addr) (cap : Nat) (T : List Tt) (i op : Nat) (k : Int) (t : List UInt8) (hk : k ≠ 0) (w : World) (hr : Rdr w rb ta cap T i op) : ∃ r, needP T k t i = some r ∧ Calls Tryz.prog 233 #[ptr rb, .int .i64 k, .string (bsA t)] w (NPost rb ta cap T op w r) := by
 unfold needP
 cases hb : isT (tkI T i) k [t] with
 | false =>
  refine ⟨.inl (i, 70), rfl, (need_no rb ta cap T i op k t w hr hb).mono ?_⟩
  rintro e w' ⟨h1, h2⟩
  exact ⟨h1, Fx.below h2⟩
 | true =>
  refine ⟨.inr (tkI T i, i + 1), rfl, (need_ok rb ta cap T i op k t w hr hk hb).mono ?_⟩
  rintro e w' ⟨h1, h2, h3⟩
  exact ⟨⟨h1, h2⟩, h3⟩
theorem bnd_some {α β : Type} {a : Rz α} {f : α → Nat → Rz β} {r : Sum Er (β × Nat)} (h : bnd a f = some r) : ∃ r1, a = some r1 ∧ bnd (some r1) f = some r := by
 cases a with
 | none => cases h
 | some r1 => exact ⟨r1, rfl, h⟩
end Go.Proofs.YtgdndahhledikaaGreatDoor
