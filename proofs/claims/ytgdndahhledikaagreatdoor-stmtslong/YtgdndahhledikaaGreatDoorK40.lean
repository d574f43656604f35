/- YLex, Src. -/
import Derived.Test.YtgdndahhledikaaGreatDoorK39
import Derived.Test.YtgdndahhledikaaGreatDoorK32
import Derived.Test.YtgdndahhledikaaGreatDoorK26
namespace Go.Proofs.YtgdndahhledikaaGreatDoor
open Go.ChangeShapes Go.WideShapes Go.ChangeAt Go.RowKit
set_option maxRecDepth 20000 in
set_option maxHeartbeats 4000000 in
theorem Lex_any (s : List UInt8) (w : World) (hR : Rdv w) (hl : s.length ≤ 104857600) : Calls Tryz.prog 12 #[.string (bsA s)] w fun e w' => LexPost w.heap.size (lx s 0) e w' ∧ Below w.heap.size w w' := by
 obtain ⟨i0, hi, hz0⟩ := Option.map_eq_some_iff.1 info37
 simp only [Prod.mk.injEq] at hz0
 obtain ⟨hz, hs, hb3⟩ := hz0
 have hzs := bsA_size s
 have HX : Hid (lx s 0 = cmb [] (lx (s.drop 0) ((0 : Nat) : Int))) := lx_cmb s 0
 generalize lx s 0 = D at HX ⊢
 go_enter Tryz.func12, Tryz.ntmps12
 go_wp2
 go_loopw [5, 6] (fun x y wr => ∃ (m : Nat) (acc : List Tt) (v1 : Value), x = v1 ∧ y = .int .i64 m ∧ m ≤ s.length ∧ acc.length ≤ m ∧ D = cmb acc (lx (s.drop m) m) ∧ wr.ownsRow w.heap.size 26 4 v1 acc.length (rtC acc) ∧ Bel w.heap.size w wr) (fun _ y _ => s.length - (intOf y).toNat)
 case atStart => exact ⟨0, [], _, rfl, rfl, Nat.zero_le _, Nat.le_refl _, HX.out, World.ownsRow_nil _ _ _ _, Bel.refl _⟩
 case round =>
  obtain ⟨m, acc, v1, hy1, rfl, hm, hac, hD, hO, HB⟩ := hrel
  have hy2 := hy1.symm
  clear hy1
  subst hy2
  have HD : Hid _ := hD
  have HO : Hid (wr.ownsRow w.heap.size 26 4 v1 acc.length (rtC acc)) := hO
  have hW := HB.out
  have hRr := hR.below hW
  have h1 := nextL_any s m wr hRr hm hl
  have hP1 := nx_err (s := s) (m := m)
  have hP2 := nx_end (s := s) (m := m)
  have hP3 := nx_tok (s := s) (m := m)
  clear hD hO HX hRr
  generalize nxP s m = q at h1 hP1 hP2 hP3
  obtain ⟨⟨q1, q2, q3⟩, at_, en, er⟩ := q
  unfold tkV at h1
  dsimp only at h1 hP1 hP2 hP3
  by_cases he : er = 0
  ·
   subst he
   have hP1' := hP1
   clear hP1
   by_cases hk : q1 = 0
   ·
    have HN : Hid (D = (acc, 0, 0)) := by show D = _; rw [HD.out, hP2 rfl hk]; simp [cmb]
    subst hk
    obtain ⟨a, cap, rfl, hra, hga, hcap⟩ := tks_of_owns HO.out
    have HGA : Hid _ := hga
    have HRA : Hid _ := hra
    clear HD HO hP2 hP3 hra hga hP1'
    go_wp2_with fail
    refine h1.mono ?_
    rintro e w1 ⟨rfl, hb1⟩
    clear h1
    go_wp2
    refine bodyPost_ret (v := .tuple #[.slice a acc.length cap, .int .i64 0, .int .i64 0]) (by simp [results, Tryz.results12, go_sem]) rfl ⟨?_, below_new (hW.trans (hb1.mono hW.size)) _⟩
    rw [HN.out]
    exact ⟨a, cap, rfl, TksAt.alloc (TksAt.below (w := wr) HRA.out hb1) _, HGA.out, hcap⟩
   ·
    obtain ⟨k, rfl, hmk, hks, hlx⟩ := hP3 rfl hk
    have HN : Hid (D = cmb (acc ++ [((q1, q2, q3), at_)]) (lx (s.drop k) k)) := by show D = _; rw [HD.out, hlx, cmb_cons]
    have hk' : ¬ q1 = 0 := hk
    clear HD hP2 hP3 hlx hP1'
    go_wp2_with fail
    refine h1.mono ?_
    rintro e w1 ⟨rfl, hb1⟩
    clear h1
    have hB2 : Below wr.heap.size wr (w1.alloc (Obj.cells #[Value.int IntKind.i64 q1, Value.string (bsA q2), Value.int IntKind.i64 q3, Value.int IntKind.i64 at_] 26)) := below_new hb1 _
    obtain ⟨c0, c1, c2, c3, _, _, _, _⟩ := Box.new w1 (.int .i64 q1) (.string (bsA q2)) (.int .i64 q3) (.int .i64 at_)
    have hrow : Hid (((w1.alloc (Obj.cells #[Value.int IntKind.i64 q1, Value.string (bsA q2), Value.int IntKind.i64 q3, Value.int IntKind.i64 at_] 26)).alloc (Obj.cells #[Value.int IntKind.i64 q1, Value.string (bsA q2), Value.int IntKind.i64 q3, Value.int IntKind.i64 at_] 26)).ownsRow w.heap.size 26 4 v1 acc.length (rtC acc)) := (owns_below HO.out hB2).alloc _
    have hcel : Hid _ := tkCells_new (w1.alloc (Obj.cells #[Value.int IntKind.i64 q1, Value.string (bsA q2), Value.int IntKind.i64 q3, Value.int IntKind.i64 at_] 26)) ((q1, q2, q3), at_)
    have hone : Hid (∀ u ∈ rtC [((q1, q2, q3), at_)], u.oneCell' = true) := rtC_one _
    have hnl : acc.length + 1 ≤ maxLen := by unfold maxLen; omega
    have hby : (acc.length + 1) * 40 ≤ 140737488355328 := by omega
    have hbw : w.heap.size ≤ (w1.alloc (Obj.cells #[Value.int IntKind.i64 q1, Value.string (bsA q2), Value.int IntKind.i64 q3, Value.int IntKind.i64 at_] 26)).heap.size := Nat.le_trans hW.size hB2.size
    have hbw2 : w.heap.size ≤ ((w1.alloc (Obj.cells #[Value.int IntKind.i64 q1, Value.string (bsA q2), Value.int IntKind.i64 q3, Value.int IntKind.i64 at_] 26)).alloc (Obj.cells #[Value.int IntKind.i64 q1, Value.string (bsA q2), Value.int IntKind.i64 q3, Value.int IntKind.i64 at_] 26)).heap.size := by rw [World.size_alloc]; omega
    have hvl : Hid ((rtC [((q1, q2, q3), at_)]).length = 1 * 4) := rtC_len _
    have esz : (w1.alloc (Obj.cells #[Value.int IntKind.i64 q1, Value.string (bsA q2), Value.int IntKind.i64 q3, Value.int IntKind.i64 at_] 26)).heap.size = w1.heap.size + 1 := World.size_alloc _ _
    rw [esz] at hcel
    clear HO
    go_wp2_with (at_builtin; refine wpList_append_own _ rfl _ _ 22 rfl w.heap.size 26 i0 (.agg #[.int .i64 0, .string ⟨#[]⟩, .int .i64 0, .int .i64 0]) 4 40 Tryz.underlying22 hi hz hs hb3 rfl (by decide) _ _ _ rfl hrow.out ⟨w1.heap.size + 1, 0, none⟩ 1 1 (rtC [((q1, q2, q3), at_)]) rfl hvl.out hcel.out hone.out hnl hby hbw2 ?_)
    intro v3 w3 hown3 hgrow3 hi3
    clear hi3
    have HO3 : Hid (w3.ownsRow w.heap.size 26 4 v3 (acc ++ [((q1, q2, q3), at_)]).length (rtC (acc ++ [((q1, q2, q3), at_)]))) := by
     show World.ownsRow _ _ _ _ _ _ _
     rw [rtC_snoc, List.length_append, List.length_singleton]; exact hown3
    have hB3 : Bel w.heap.size w w3 := by
     have h1 : Below w.heap.size w (w1.alloc (Obj.cells #[Value.int IntKind.i64 q1, Value.string (bsA q2), Value.int IntKind.i64 q3, Value.int IntKind.i64 at_] 26)) := hW.trans (hB2.mono hW.size)
     have h2 := (h1.alloc hbw (Obj.cells #[Value.int IntKind.i64 q1, Value.string (bsA q2), Value.int IntKind.i64 q3, Value.int IntKind.i64 at_] 26)).grown hgrow3 hbw2 (fun j hj => (hrow.out.lt j hj).1)
     exact ⟨h2, h2.size⟩
    clear hown3 hgrow3 hrow hcel hone hvl hB2 c0 c1 c2 c3 hb1
    go_wp2
    go_roundw
    case rel => exact ⟨k, acc ++ [((q1, q2, q3), at_)], v3, rfl, rfl, hks, by simp; omega, HN.out, HO3.out, hB3⟩
    case measure => simp [intOf]; omega
  ·
   have HN : Hid (D = ([], at_, er)) := by show D = _; rw [HD.out, hP1 he]; simp [cmb, he]
   have he' : (er != 0) = true := by simpa using he
   clear HD hP1 hP2 hP3 HO
   go_wp2_with fail
   refine h1.mono ?_
   rintro e w1 ⟨rfl, hb1⟩
   clear h1
   have hB2 : Below w.heap.size w (w1.alloc (Obj.cells #[Value.int IntKind.i64 q1, Value.string (bsA q2), Value.int IntKind.i64 q3, Value.int IntKind.i64 at_] 26)) := below_new (hW.trans (hb1.mono hW.size)) _
   have c3 := (Box.new w1 (.int .i64 q1) (.string (bsA q2)) (.int .i64 q3) (.int .i64 at_)).c3
   go_wp2
   generalize w1.alloc (Obj.cells #[Value.int IntKind.i64 q1, Value.string (bsA q2), Value.int IntKind.i64 q3, Value.int IntKind.i64 at_] 26) = W0 at hB2 c3 ⊢
   refine wp_region_held_drew (S := (fun wS => Bel W0.heap.size W0 wS)) (by kernel_rfl) ?_ (fun hHeld => ?_)
   · (try dsimp only); exact (Bel.refl _).drew
   refine wpAnyH_take (i := 0) (oi := { dst := some 20, op := Op.fieldAddr 26 (Operand.tmp 7) 3, type := 0, pos := "lex.go:55", after := #[{ on := 3, ground := Ground.gcOnly Departure.lateStores }], guard := none }) (v := ?_) rfl (by kernel_rfl) (by kernel_rfl) (by kernel_rfl) (fun _ _ _ h => h) (Or.inl ⟨by kernel_rfl, ?_⟩) (by assumption) ?_
   rotate_left
   · intro wS hSw; (try dsimp only at hSw); go_simp; (try with_reducible rfl)
   try simp only [Act.put, List.setIfInBounds_toArray, List.set_cons_zero, List.set_cons_succ]
   refine wpAnyH_take (i := 1) (oi := { dst := some 21, op := Op.load 3 (Operand.tmp 20), type := 3, pos := "lex.go:55", after := #[{ on := 0, ground := Ground.data }, { on := 3, ground := Ground.gcOnly Departure.lateStores }], guard := none }) (v := ?_) rfl (by kernel_rfl) (by kernel_rfl) (by kernel_rfl) (fun _ _ _ h => h) (Or.inl ⟨by kernel_rfl, ?_⟩) (by assumption) ?_
   rotate_left
   · intro wS hSw; (try dsimp only at hSw); have xm := cell_below hSw.out c3; go_simp; (try with_reducible rfl)
   try simp only [Act.put, List.setIfInBounds_toArray, List.set_cons_zero, List.set_cons_succ]
   refine wpAnyH_take (i := 2) (oi := { dst := some 22, op := Op.move (Operand.tmp 9), type := 28, pos := "lex.go:55", after := #[{ on := 4, ground := Ground.gcOnly Departure.lateStores }], guard := none }) (v := ?_) rfl (by kernel_rfl) (by kernel_rfl) (by kernel_rfl) (fun _ _ _ h => h) (Or.inl ⟨by kernel_rfl, ?_⟩) (by assumption) ?_
   rotate_left
   · intro wS hSw; (try dsimp only at hSw); go_simp; (try with_reducible rfl)
   try simp only [Act.put, List.setIfInBounds_toArray, List.set_cons_zero, List.set_cons_succ]
   refine wpAnyH_take (i := 3) (oi := { dst := some 2, op := Op.assign (Operand.const (Value.slice none 0 0)), type := 22, pos := "lex.go:55", after := #[{ on := 0, ground := Ground.textOnly Departure.lateStores }, { on := 1, ground := Ground.textOnly Departure.lateStores }, { on := 2, ground := Ground.textOnly Departure.lateStores }], guard := none }) (v := ?_) rfl (by kernel_rfl) (by kernel_rfl) (by kernel_rfl) (fun _ _ _ h => h) (Or.inl ⟨by kernel_rfl, ?_⟩) (by assumption) ?_
   rotate_left
   · intro wS hSw; (try dsimp only at hSw); go_simp; (try with_reducible rfl)
   try simp only [Act.put, List.setIfInBounds_toArray, List.set_cons_zero, List.set_cons_succ]
   refine wpAnyH_take (i := 4) (oi := { dst := some 3, op := Op.assign (Operand.tmp 21), type := 3, pos := "lex.go:55", after := #[{ on := 1, ground := Ground.data }, { on := 3, ground := Ground.chain }, { on := 0, ground := Ground.phase }, { on := 1, ground := Ground.phase }, { on := 2, ground := Ground.textOnly Departure.lateStores }, { on := 3, ground := Ground.phase }], guard := none }) (v := ?_) rfl (by kernel_rfl) (by kernel_rfl) (by kernel_rfl) (fun _ _ _ h => h) (Or.inl ⟨by kernel_rfl, ?_⟩) (by assumption) ?_
   rotate_left
   · intro wS hSw; (try dsimp only at hSw); go_simp; (try with_reducible rfl)
   try simp only [Act.put, List.setIfInBounds_toArray, List.set_cons_zero, List.set_cons_succ]
   refine wpAnyH_take (i := 5) (oi := { dst := some 4, op := Op.assign (Operand.tmp 22), type := 28, pos := "lex.go:55", after := #[{ on := 2, ground := Ground.data }, { on := 4, ground := Ground.chain }, { on := 0, ground := Ground.phase }, { on := 1, ground := Ground.phase }, { on := 2, ground := Ground.phase }, { on := 3, ground := Ground.phase }, { on := 4, ground := Ground.phase }], guard := none }) (v := ?_) rfl (by kernel_rfl) (by kernel_rfl) (by kernel_rfl) (fun _ _ _ h => h) (Or.inl ⟨by kernel_rfl, ?_⟩) (by assumption) ?_
   rotate_left
   · intro wS hSw; (try dsimp only at hSw); go_simp; (try with_reducible rfl)
   try simp only [Act.put, List.setIfInBounds_toArray, List.set_cons_zero, List.set_cons_succ]
   refine wpAnyH_done (by kernel_rfl) ?_ _
   go_wp2
   refine bodyPost_ret (v := .tuple #[.slice none 0 0, .int .i64 at_, .int .i64 er]) (by simp [results, Tryz.results12, go_sem]) rfl ⟨?_, hB2.drew⟩
   rw [HN.out]
   unfold LexPost
   rw [if_pos he]
end Go.Proofs.YtgdndahhledikaaGreatDoor
namespace Go.Proofs.YtgdndahhledikaaGreatDoor
open Go.ChangeShapes Go.WideShapes Go.ChangeAt Go.RowKit
set_option linter.unusedSimpArgs false
set_option maxRecDepth 20000
set_option maxHeartbeats 4000000
def srcQ (T : List Tt) (g : Nat → Nat → Rz X) : Nat → List X → Nat → Option (Sum Er (List X))
 | 0, _, _ => none
 | f + 1, l, p => if p < T.length then (if l.length < 1000000 then (match g p 0 with
   | none => none
   | some (.inl q) => if q.2 = 0 then none else some (.inl q)
   | some (.inr q) => srcQ T g f (l ++ [q.1]) q.2) else none) else some (.inr l)
def RowV (lo : Nat) (w : World) (v : Value) (l : List X) : Prop := (l = [] ∧ v = .slice none 0 0) ∨ ∃ g c n, v = .slice (some ⟨g, 0, none⟩) n c ∧ l.length = n ∧ XsAt lo w g l
def SrcPost (s : List UInt8) (T : List Tt) (w : World) (r : Sum Er (List X)) (e : Ending) (w' : World) : Prop :=
 (match r with
  | .inl q => e = .returned (.tuple #[.slice none 0 0, .int .i64 (if q.1 < T.length then (tkI T q.1).2 else (s.length : Int)), .int .i64 q.2])
  | .inr l => ∃ v, e = .returned (.tuple #[v, .int .i64 0, .int .i64 0]) ∧ RowV w.heap.size w' v l) ∧ Below w.heap.size w w'
theorem Source_any (s : List UInt8) (hsl : s.length ≤ 65536) (T : List Tt) (hlx : lx s 0 = (T, 0, 0)) (hTl : T.length ≤ 1000000) (g : Nat → Nat → Rz X) (hg : ∀ rb ta cap, RdX rb ta cap T 14 g) (F : Nat) (w : World) (hR : Rdv w) (r : Sum Er (List X)) (h : srcQ T g F [] 0 = some r) : Calls Tryz.prog 8 #[.string (bsA s)] w (SrcPost s T w r) := by
 have hz := bsA_size s
 have h1 := Lex_any s w hR (by omega)
 rw [hlx] at h1
 have hi : ((65536 : Int) < ((bsA s).size : Int)) = False := eq_false (by omega)
 have hi2 : ((65536 : Int) < (s.length : Int)) = False := eq_false (by omega)
 have hlt : 0 < w.heap.size := by obtain ⟨m, hm⟩ := hR.mx; exact cell_lt hm
 have HL0 : Hid (srcQ T g F [] 0 = some r) := h
 have HTL : Hid (T.length ≤ 1000000000) := by show _ ≤ _; omega
 clear h hlx hR hsl hTl
 go_enter Tryz.func8, Tryz.ntmps8
 go_wp2_with fail
 refine h1.mono ?_
 rintro e w1 ⟨hpost, hb1⟩
 clear h1 hi hi2
 unfold LexPost at hpost
 rw [if_neg (fun h => h rfl)] at hpost
 obtain ⟨ta, cap, rfl, hT, hta, _⟩ := hpost
 dsimp only at hT
 have HG : Hid (∀ rb, RdX rb ta cap T 14 g) := fun rb => hg rb ta cap
 have HB0 : Hid (Below w.heap.size w w1) := hb1
 have HT0 : Hid (TksAt w1 ta T) := hT
 have HW1 : Hid (w.heap.size ≤ w1.heap.size) := hb1.size
 have hlt1 : 0 < w1.heap.size := by have := hb1.size; omega
 have HTA : Hid (∀ b o, ta = some ⟨b, o, none⟩ → 0 < T.length → b < w1.heap.size) := fun b o e h0 => by obtain ⟨b2, o2, e2, t0, _⟩ := tk_cells hT 0 h0; rw [e] at e2; cases e2; exact cell_lt t0
 clear hb1 hT hg
 obtain ⟨n, hn⟩ : ∃ n, T.length = n := ⟨_, rfl⟩
 have HN : Hid (T.length = n) := hn
 dsimp only
 rw [hn]
 clear hn hta
 go_wp2
 go_loopg [8, 9] F (fun gk v8 v9 wr => ∃ (A : List Xp) (p : Nat), ((A = [] ∧ v8 = .slice none 0 0) ∨ ∃ (g' c : Nat), A ≠ [] ∧ v8 = .slice (some ⟨g', 0, none⟩) A.length c ∧ OwX 0 w1.heap.size wr g' c A) ∧ v9 = .int .i64 p ∧ Below w.heap.size w wr ∧ w1.heap.size ≤ wr.heap.size ∧ TksAt wr ta T ∧ srcQ T g gk (A.map (·.1)) p = some r)
 case atStart => exact ⟨[], 0, Or.inl ⟨rfl, rfl⟩, rfl, HB0.out, Nat.le_refl _, HT0.out, HL0.out⟩
 case round =>
  obtain ⟨A, p, hv, rfl, hB, hZ, hT, hl⟩ := hrel
  obtain ⟨m, rfl⟩ : ∃ m, gk = m + 1 := by
   cases gk with
   | zero => cases hl
   | succ m => exact ⟨m, rfl⟩
  unfold srcQ at hl
  rw [List.length_map] at hl
  have HB : Hid (Below w.heap.size w wr) := hB
  have HT : Hid (TksAt wr ta T) := hT
  have HZ : Hid (w1.heap.size ≤ wr.heap.size) := hZ
  clear hB hT hZ HB0 HT0 HL0
  rcases hv with ⟨rfl, rfl⟩ | ⟨g', c, hne, rfl, hO⟩
  ·
   have HL : Hid ((if p < T.length then (if 0 < 1000000 then (match g p 0 with | none => none | some (.inl q) => if q.2 = 0 then none else some (.inl q) | some (.inr q) => srcQ T g m ([] ++ [q.1]) q.2) else none) else some (.inr [])) = some r) := hl
   clear hl
   rcases Nat.lt_or_ge p T.length with hp | hp
   rotate_left
   ·
    have hpi : ((p : Int) < (n : Int)) = False := eq_false (by have := HN.out; omega)
    have hrr : r = .inr ([]) := by
     have h := HL.out
     rw [if_neg (by omega)] at h
     exact (Option.some.inj h).symm
    have HP : Hid (SrcPost s T w (.inr ([])) (.returned (.tuple #[.slice none 0 0, .int .i64 0, .int .i64 0])) wr) := ⟨⟨_, rfl, Or.inl ⟨rfl, rfl⟩⟩, HB.out⟩
    subst hrr
    clear HL
    go_wp2
    refine bodyPost_ret (v := .tuple #[.slice none 0 0, .int .i64 0, .int .i64 0]) (by simp [results, Tryz.results8, go_sem]) rfl ?_
    exact HP.out
   have hpi : ((p : Int) < (n : Int)) = True := eq_true (by have := HN.out; omega)
   have hl := HL.out
   rw [if_pos hp] at hl
   by_cases hml : (0 : Nat) < 1000000
   rotate_left
   · rw [if_neg hml] at hl; cases hl
   rw [if_pos hml] at hl
   cases hg0 : g p 0 with
   | none => rw [hg0] at hl; cases hl
   | some r1 =>
    rw [hg0] at hl
    have HLq : Hid _ := hl
    have hc := read_any ta cap T g 14 (ent_of (fn := Tryz.f14) rfl (by decide) rfl) HG.out p (by omega) wr HT.out HTL.out (fun b o e => by obtain ⟨b2, o2, e2, t0, _⟩ := tk_cells HT.out p hp; rw [e] at e2; cases e2; exact cell_lt t0) r1 hg0
    rw [HN.out] at hc
    clear hl hg0 HL
    go_wp2_with fail
    refine hc.mono ?_
    intro e w3 hpost
    clear hc hpi
    have hb3 := hpost.2
    have HB3 : Hid (Below w.heap.size w w3) := HB.out.trans (hb3.mono HB.out.size)
    have HT3 : Hid (TksAt w3 ta T) := HT.out.below hb3
    have HZ3 : Hid (w1.heap.size ≤ w3.heap.size) := Nat.le_trans HZ.out hb3.size
    cases r1 with
    | inl q =>
     obtain ⟨q1, q2⟩ := q
     have he : e = .returned (.tuple #[nV 0 [] 0 0 (.slice none 0 0), .int .i64 (q1 : Nat), .int .i64 q2]) := hpost.1
     subst he
     have hl := HLq.out
     dsimp only at hl
     by_cases hq : q2 = 0
     · rw [if_pos hq] at hl; cases hl
     rw [if_neg hq] at hl
     have hrr : r = .inl (q1, q2) := (Option.some.inj hl).symm
     subst hrr
     have g2 : (q2 != 0) = true := by simpa using hq
     have hY : Below w3.heap.size w3 (w3.alloc (nO 0 [] 0 0 (.slice none 0 0))) := (Below.refl _ _).alloc (Nat.le_refl _) _
     have hb := byteOf_any s ta cap T q1 _ (HT3.out.below hY)
     rw [HN.out] at hb
     have HP : Hid (SrcPost s T w (.inl (q1, q2)) (.returned (.tuple #[.slice none 0 0, .int .i64 (if q1 < n then (tkI T q1).2 else (s.length : Int)), .int .i64 q2])) (w3.alloc (nO 0 [] 0 0 (.slice none 0 0)))) := ⟨by rw [HN.out], HB3.out.trans (hY.mono HB3.out.size)⟩
     generalize (if q1 < n then (tkI T q1).2 else (s.length : Int)) = bt at hb HP
     unfold nV
     clear hpost hb3 hl hq HLq hY
     go_wp2_with fail
     refine hb.mono ?_
     rintro e w4 ⟨rfl, rfl⟩
     clear hb
     go_wp2
     refine bodyPost_ret (v := .tuple #[.slice none 0 0, .int .i64 bt, .int .i64 q2]) (by simp [results, Tryz.results8, go_sem]) rfl ?_
     exact HP.out
    | inr q =>
     obtain ⟨y, j3⟩ := q
     obtain ⟨s3, c3, he, hx⟩ : ∃ s c, e = .returned (.tuple #[xV y s c, .int .i64 (j3 : Nat), .int .i64 0]) ∧ XAt wr.heap.size w3 y s := hpost.1
     subst he
     have HL9 : Hid (srcQ T g m ([] ++ [y]) j3 = some r) := HLq.out
     have HX3 : Hid (XAt w1.heap.size w3 y s3) := NdF.keep HZ.out (fun _ _ _ => rfl) hx
     unfold xV nV
     clear hpost hb3 hx HLq
     have hY : Below w3.heap.size w3 (w3.alloc (xO y s3 c3)) := (Below.refl _ _).alloc (Nat.le_refl _) _
     have hY2 : Below (w3.alloc (xO y s3 c3)).heap.size (w3.alloc (xO y s3 c3)) ((w3.alloc (xO y s3 c3)).alloc (xO y s3 c3)) := (Below.refl _ _).alloc (Nat.le_refl _) _
     have hY3 := hY.trans (hY2.mono hY.size)
     obtain ⟨y0, y1, y2, y3, y4, _, _, _, _, _⟩ := Box5.new w3 (.int .i64 (xk y)) (.string (bsA (xt y))) (.int .i64 (xn y)) (.int .i64 (xa y)) (.slice s3 (xl y) c3) 34
     have HX4 : Hid (XAt w1.heap.size ((w3.alloc (xO y s3 c3)).alloc (xO y s3 c3)) y s3) := NdF.keep (Nat.le_refl _) (fun b _ hb => hY3.block b hb) HX3.out
     have HB4 : Hid (Below w.heap.size w ((w3.alloc (xO y s3 c3)).alloc (xO y s3 c3))) := HB3.out.trans (hY3.mono HB3.out.size)
     have HT4 : Hid (TksAt ((w3.alloc (xO y s3 c3)).alloc (xO y s3 c3)) ta T) := HT3.out.below hY3
     have HOW : Hid (((w3.alloc (xO y s3 c3)).alloc (xO y s3 c3)).ownsRow w1.heap.size 34 5 (.slice none 0 0) 0 (xC [])) := ⟨rfl, Or.inl ⟨rfl, rfl⟩⟩
     have HCL : Hid (∀ j u, (xC [(y, s3, c3)])[j]? = some u → ((w3.alloc (xO y s3 c3)).alloc (xO y s3 c3)).cell? ((⟨(w3.alloc (xO y s3 c3)).heap.size, 0, none⟩ : Addr).add j) = some u) := xp_cells (w3.alloc (xO y s3 c3)) y s3 c3
     have hbs : w1.heap.size ≤ ((w3.alloc (xO y s3 c3)).alloc (xO y s3 c3)).heap.size := Nat.le_trans HZ3.out hY3.size
     obtain ⟨i0, hi0, hz0⟩ := Option.map_eq_some_iff.1 info26
     simp only [Prod.mk.injEq] at hz0
     obtain ⟨hz1, hzs, hz3⟩ := hz0
     rw [World.size_alloc] at HCL
     clear hY hY2 hY3 HX3 HB3 HT3
     go_wp2_with (at_builtin; refine wpList_append_lies _ rfl _ _ 27 rfl w1.heap.size 34 i0 (.agg #[.int .i64 0, .string ⟨#[]⟩, .int .i64 0, .int .i64 0, .slice none 0 0]) 5 64 Tryz.underlying27 hi0 hz1 hzs hz3 rfl (by decide) _ 0 (xC []) rfl HOW.out ⟨w3.heap.size + 1, 0, none⟩ 1 1 (xC [(y, s3, c3)]) rfl rfl HCL.out (xC_one _) (by decide) (by unfold maxLen; omega) (by omega) hbs _ rfl ?_)
     intro g2 cap2 w6 hown hgrow hlies hg2
     clear y0 y1 y2 y3 y4
     have hb4 : Below ((w3.alloc (xO y s3 c3)).alloc (xO y s3 c3)).heap.size ((w3.alloc (xO y s3 c3)).alloc (xO y s3 c3)) w6 := (Below.refl _ _).grown hgrow (Nat.le_refl _) (fun _ h => by cases h)
     have HO5 : Hid (OwX 0 w1.heap.size w6 g2 cap2 [(y, s3, c3)]) := OwX.nil (p := (y, s3, c3)) HX4.out hlt1 hown hgrow (by rcases hlies with h | h; cases h; simpa using h)
     have HB6 : Hid (Below w.heap.size w w6) := HB4.out.trans (hb4.mono HB4.out.size)
     have HT6 : Hid (TksAt w6 ta T) := HT4.out.below hb4
     have HZ6 : Hid (w1.heap.size ≤ w6.heap.size) := Nat.le_trans hbs hb4.size
     clear hown hgrow hlies hb4 HOW HCL HX4 HB4 HT4
     go_wp2
     go_roundg m
     case measure => omega
     case rel => exact ⟨[(y, s3, c3)], j3, Or.inr ⟨g2, cap2, by simp, rfl, HO5.out⟩, rfl, HB6.out, HZ6.out, HT6.out, HL9.out⟩
  ·
   have HL : Hid _ := hl
   have HO : Hid (OwX 0 w1.heap.size wr g' c A) := hO
   have HOo : Hid (OwX 0 w1.heap.size wr g' c A) := hO
   clear hl hO hne
   obtain ⟨la, hla⟩ : ∃ la, la = A.length := ⟨_, rfl⟩
   have HLA : Hid (A.length = la) := hla.symm
   rw [← hla]
   clear hla
   rcases Nat.lt_or_ge p T.length with hp | hp
   rotate_left
   ·
    have hpi : ((p : Int) < (n : Int)) = False := eq_false (by have := HN.out; omega)
    have hrr : r = .inr (A.map (·.1)) := by
     have h := HL.out
     rw [if_neg (by omega)] at h
     exact (Option.some.inj h).symm
    have HP : Hid (SrcPost s T w (.inr (A.map (·.1))) (.returned (.tuple #[(.slice (some ⟨g', 0, none⟩) la c), .int .i64 0, .int .i64 0])) wr) := ⟨⟨_, rfl, Or.inr ⟨g', c, la, rfl, by rw [List.length_map]; exact HLA.out, (HO.out.low HW1.out).xs⟩⟩, HB.out⟩
    subst hrr
    clear HL
    go_wp2
    refine bodyPost_ret (v := .tuple #[(.slice (some ⟨g', 0, none⟩) la c), .int .i64 0, .int .i64 0]) (by simp [results, Tryz.results8, go_sem]) rfl ?_
    exact HP.out
   have hpi : ((p : Int) < (n : Int)) = True := eq_true (by have := HN.out; omega)
   have hl := HL.out
   rw [if_pos hp] at hl
   by_cases hml : A.length < 1000000
   rotate_left
   · rw [if_neg hml] at hl; cases hl
   rw [if_pos hml] at hl
   cases hg0 : g p 0 with
   | none => rw [hg0] at hl; cases hl
   | some r1 =>
    rw [hg0] at hl
    have HLq : Hid _ := hl
    have hc := read_any ta cap T g 14 (ent_of (fn := Tryz.f14) rfl (by decide) rfl) HG.out p (by omega) wr HT.out HTL.out (fun b o e => by obtain ⟨b2, o2, e2, t0, _⟩ := tk_cells HT.out p hp; rw [e] at e2; cases e2; exact cell_lt t0) r1 hg0
    rw [HN.out] at hc
    clear hl hg0 HL
    go_wp2_with fail
    refine hc.mono ?_
    intro e w3 hpost
    clear hc hpi
    have hb3 := hpost.2
    have HB3 : Hid (Below w.heap.size w w3) := HB.out.trans (hb3.mono HB.out.size)
    have HT3 : Hid (TksAt w3 ta T) := HT.out.below hb3
    have HZ3 : Hid (w1.heap.size ≤ w3.heap.size) := Nat.le_trans HZ.out hb3.size
    have HO : Hid (OwX 0 w1.heap.size w3 g' c A) := HO.out.below hb3 hlt1
    cases r1 with
    | inl q =>
     obtain ⟨q1, q2⟩ := q
     have he : e = .returned (.tuple #[nV 0 [] 0 0 (.slice none 0 0), .int .i64 (q1 : Nat), .int .i64 q2]) := hpost.1
     subst he
     have hl := HLq.out
     dsimp only at hl
     by_cases hq : q2 = 0
     · rw [if_pos hq] at hl; cases hl
     rw [if_neg hq] at hl
     have hrr : r = .inl (q1, q2) := (Option.some.inj hl).symm
     subst hrr
     have g2 : (q2 != 0) = true := by simpa using hq
     have hY : Below w3.heap.size w3 (w3.alloc (nO 0 [] 0 0 (.slice none 0 0))) := (Below.refl _ _).alloc (Nat.le_refl _) _
     have hb := byteOf_any s ta cap T q1 _ (HT3.out.below hY)
     rw [HN.out] at hb
     have HP : Hid (SrcPost s T w (.inl (q1, q2)) (.returned (.tuple #[.slice none 0 0, .int .i64 (if q1 < n then (tkI T q1).2 else (s.length : Int)), .int .i64 q2])) (w3.alloc (nO 0 [] 0 0 (.slice none 0 0)))) := ⟨by rw [HN.out], HB3.out.trans (hY.mono HB3.out.size)⟩
     generalize (if q1 < n then (tkI T q1).2 else (s.length : Int)) = bt at hb HP
     unfold nV
     clear hpost hb3 hl hq HLq hY
     go_wp2_with fail
     refine hb.mono ?_
     rintro e w4 ⟨rfl, rfl⟩
     clear hb
     go_wp2
     refine bodyPost_ret (v := .tuple #[.slice none 0 0, .int .i64 bt, .int .i64 q2]) (by simp [results, Tryz.results8, go_sem]) rfl ?_
     exact HP.out
    | inr q =>
     obtain ⟨y, j3⟩ := q
     obtain ⟨s3, c3, he, hx⟩ : ∃ s c, e = .returned (.tuple #[xV y s c, .int .i64 (j3 : Nat), .int .i64 0]) ∧ XAt wr.heap.size w3 y s := hpost.1
     subst he
     have HL9 : Hid (srcQ T g m (A.map (·.1) ++ [y]) j3 = some r) := HLq.out
     have HX3 : Hid (XAt w1.heap.size w3 y s3) := NdF.keep HZ.out (fun _ _ _ => rfl) hx
     have HKX : Hid (XSt 0 g' w1.heap.size w3 y s3) := XSt.new hx (by have := HZ.out; omega) HZ.out (HOo.out.lt.2)
     unfold xV nV
     clear hpost hb3 hx HLq
     have hY : Below w3.heap.size w3 (w3.alloc (xO y s3 c3)) := (Below.refl _ _).alloc (Nat.le_refl _) _
     have hY2 : Below (w3.alloc (xO y s3 c3)).heap.size (w3.alloc (xO y s3 c3)) ((w3.alloc (xO y s3 c3)).alloc (xO y s3 c3)) := (Below.refl _ _).alloc (Nat.le_refl _) _
     have hY3 := hY.trans (hY2.mono hY.size)
     obtain ⟨y0, y1, y2, y3, y4, _, _, _, _, _⟩ := Box5.new w3 (.int .i64 (xk y)) (.string (bsA (xt y))) (.int .i64 (xn y)) (.int .i64 (xa y)) (.slice s3 (xl y) c3) 34
     have HX4 : Hid (XAt w1.heap.size ((w3.alloc (xO y s3 c3)).alloc (xO y s3 c3)) y s3) := NdF.keep (Nat.le_refl _) (fun b _ hb => hY3.block b hb) HX3.out
     have HB4 : Hid (Below w.heap.size w ((w3.alloc (xO y s3 c3)).alloc (xO y s3 c3))) := HB3.out.trans (hY3.mono HB3.out.size)
     have HT4 : Hid (TksAt ((w3.alloc (xO y s3 c3)).alloc (xO y s3 c3)) ta T) := HT3.out.below hY3
     have HO : Hid (OwX 0 w1.heap.size ((w3.alloc (xO y s3 c3)).alloc (xO y s3 c3)) g' c A) := HO.out.below hY3 hlt1
     have hlb : la < 1000000 := by have h := HLA.out; omega
     have HKY : Hid (∀ p ∈ [(y, s3, c3)], XSt 0 g' w1.heap.size ((w3.alloc (xO y s3 c3)).alloc (xO y s3 c3)) p.1 p.2.1) := fun p hp => by rw [List.mem_singleton.1 hp]; exact HKX.out.below hY3
     have HOW : Hid (((w3.alloc (xO y s3 c3)).alloc (xO y s3 c3)).ownsRow w1.heap.size 34 5 (.slice (some ⟨g', 0, none⟩) la c) la (xC A)) := by have h := HO.out.own; rw [HLA.out] at h; exact h
     have HCL : Hid (∀ j u, (xC [(y, s3, c3)])[j]? = some u → ((w3.alloc (xO y s3 c3)).alloc (xO y s3 c3)).cell? ((⟨(w3.alloc (xO y s3 c3)).heap.size, 0, none⟩ : Addr).add j) = some u) := xp_cells (w3.alloc (xO y s3 c3)) y s3 c3
     have hbs : w1.heap.size ≤ ((w3.alloc (xO y s3 c3)).alloc (xO y s3 c3)).heap.size := Nat.le_trans HZ3.out hY3.size
     obtain ⟨i0, hi0, hz0⟩ := Option.map_eq_some_iff.1 info26
     simp only [Prod.mk.injEq] at hz0
     obtain ⟨hz1, hzs, hz3⟩ := hz0
     rw [World.size_alloc] at HCL
     clear hY hY2 hY3 HX3 HB3 HT3
     go_wp2_with (at_builtin; refine wpList_append_lies _ rfl _ _ 27 rfl w1.heap.size 34 i0 (.agg #[.int .i64 0, .string ⟨#[]⟩, .int .i64 0, .int .i64 0, .slice none 0 0]) 5 64 Tryz.underlying27 hi0 hz1 hzs hz3 rfl (by decide) _ la (xC A) rfl HOW.out ⟨w3.heap.size + 1, 0, none⟩ 1 1 (xC [(y, s3, c3)]) rfl rfl HCL.out (xC_one _) (by decide) (by unfold maxLen; omega) (by omega) hbs _ rfl ?_)
     intro g2 cap2 w6 hown hgrow hlies hg2
     clear y0 y1 y2 y3 y4
     have hgl := HO.out.lt
     have HO5 : Hid (OwX 0 w1.heap.size w6 g2 cap2 (A ++ [(y, s3, c3)])) := HO.out.grown HKY.out (by rw [HLA.out]; exact hown) hgrow (by simpa [Value.ownBlock] using hlies)
     have HB6 : Hid (Below w.heap.size w w6) := HB4.out.grown hgrow HB4.out.size (fun g hg => by simp [Value.ownBlock] at hg; have := HW1.out; omega)
     have HT6 : Hid (TksAt w6 ta T) := by
      rcases HT4.out with h0 | ⟨b, off, rfl, hc⟩
      · exact Or.inl h0
      ·
       have hbr := HTA.out b off rfl
       have e := hgrow.block b (by first | exact Nat.lt_of_lt_of_le hbr hbs | (simp at hbs ⊢; omega)) (by simp [Value.ownBlock]; omega)
       exact Or.inr ⟨b, off, rfl, fun i t hi => ⟨cell_same (hc i t hi).1 e, cell_same (hc i t hi).2.1 e, cell_same (hc i t hi).2.2.1 e, cell_same (hc i t hi).2.2.2 e⟩⟩
     have HZ6 : Hid (w1.heap.size ≤ w6.heap.size) := Nat.le_trans hbs ((Below.refl 0 _).grown hgrow (Nat.zero_le _) (fun _ _ => Nat.zero_le _)).size
     have HLn : Hid ((A ++ [(y, s3, c3)]).length = la + 1) := by show _ = _; rw [List.length_append, HLA.out]; rfl
     have HLm : Hid ((A ++ [(y, s3, c3)]).map (·.1) = A.map (·.1) ++ [y]) := by show _ = _; rw [List.map_append]; rfl
     clear hown hgrow hlies HOW HCL HB4 HT4 HKY HO hgl
     go_wp2
     go_roundg m
     case measure => omega
     case rel => exact ⟨A ++ [(y, s3, c3)], j3, Or.inr ⟨g2, cap2, by simp, by rw [HLn.out], HO5.out⟩, rfl, HB6.out, HZ6.out, HT6.out, by rw [HLm.out]; exact HL9.out⟩
end Go.Proofs.YtgdndahhledikaaGreatDoor
