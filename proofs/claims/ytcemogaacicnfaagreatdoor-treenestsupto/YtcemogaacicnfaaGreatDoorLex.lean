/- The tokens of a source (Lex). -/
import Derived.Test.YtcemogaacicnfaaGreatDoorTm
namespace Go.Proofs.YtcemogaacicnfaaGreatDoor
open Go.ChangeShapes Go.WideShapes Go.ChangeAt Go.RowKit

/-- What Lex tells. -/
def LexPost (base : Nat) (q : List Tt × Int × Int) (e : Ending) (w' : World) : Prop :=
  if q.2.2 ≠ 0 then e = .returned (.tuple #[.slice none 0 0, .int .i64 q.2.1, .int .i64 q.2.2])
  else ∃ a cap, e = .returned (.tuple #[.slice a q.1.length cap, .int .i64 0, .int .i64 0]) ∧ TksAt w' a q.1 ∧ (∀ g o, a = some ⟨g, o, none⟩ → base ≤ g) ∧ q.1.length ≤ cap
set_option maxRecDepth 20000 in
set_option maxHeartbeats 4000000 in
theorem Lex_any (s : List UInt8) (w : World) (hR : Rdy w) (hl : s.length ≤ 104857600) : Calls Tryz.prog 121 #[.string (bsA s)] w fun e w' => LexPost w.heap.size (lx s 0) e w' ∧ Below w.heap.size w w' := by
  obtain ⟨i0, hi, hz0⟩ := Option.map_eq_some_iff.1 info37
  simp only [Prod.mk.injEq] at hz0
  obtain ⟨hz, hs, hb3⟩ := hz0
  have hzs := bsA_size s
  have HX : Hid (lx s 0 = cmb [] (lx (s.drop 0) ((0 : Nat) : Int))) := lx_cmb s 0
  generalize lx s 0 = D at HX ⊢
  go_enter Tryz.func121, Tryz.ntmps121
  go_wp2
  go_loopw [5, 6] (fun x y wr => ∃ (m : Nat) (acc : List Tt) (v1 : Value), x = v1 ∧ y = .int .i64 m ∧ m ≤ s.length ∧ acc.length ≤ m ∧ D = cmb acc (lx (s.drop m) m) ∧ wr.ownsRow w.heap.size 78 4 v1 acc.length (rtC acc) ∧ Bel w.heap.size w wr) (fun _ y _ => s.length - (intOf y).toNat)
  case atStart => exact ⟨0, [], _, rfl, rfl, Nat.zero_le _, Nat.le_refl _, HX.out, World.ownsRow_nil _ _ _ _, Bel.refl _⟩
  case round =>
    obtain ⟨m, acc, v1, hy1, rfl, hm, hac, hD, hO, HB⟩ := hrel
    have hy2 := hy1.symm
    clear hy1
    subst hy2
    have HD : Hid _ := hD
    have HO : Hid (wr.ownsRow w.heap.size 78 4 v1 acc.length (rtC acc)) := hO
    have hW := HB.out
    have hRr := hR.below hW
    have h1 := next_any s m wr hRr hm hl
    have hP1 := nx_err (s := s) (m := m)
    have hP2 := nx_end (s := s) (m := m)
    have hP3 := nx_tok (s := s) (m := m)
    clear hD hO HX hRr
    generalize nxP s m = q at h1 hP1 hP2 hP3
    obtain ⟨⟨q1, q2, q3⟩, at_, en, er⟩ := q
    unfold tkV at h1
    dsimp only at h1 hP1 hP2 hP3
    by_cases he : er = 0
    · subst he
      have hP1' := hP1
      clear hP1
      by_cases hk : q1 = 0
      · have HN : Hid (D = (acc, 0, 0)) := by show D = _; rw [HD.out, hP2 rfl hk]; simp [cmb]
        subst hk
        obtain ⟨a, cap, rfl, hra, hga, hcap⟩ := tks_of_owns HO.out
        have HGA : Hid _ := hga
        have HRA : Hid _ := hra
        clear HD HO hP2 hP3 hra hga hP1'
        go_wp2_with fail
        refine h1.mono ?_
        rintro e w1 ⟨rfl, hb1⟩
        clear h1
        go_wp2
        refine bodyPost_ret (v := .tuple #[.slice a acc.length cap, .int .i64 0, .int .i64 0]) (by simp [results, Tryz.results121, go_sem]) rfl ⟨?_, below_new (hW.trans (hb1.mono hW.size)) _⟩
        rw [HN.out]
        exact ⟨a, cap, rfl, TksAt.alloc (TksAt.below (w := wr) HRA.out hb1) _, HGA.out, hcap⟩
      · obtain ⟨k, rfl, hmk, hks, hlx⟩ := hP3 rfl hk
        have HN : Hid (D = cmb (acc ++ [((q1, q2, q3), at_)]) (lx (s.drop k) k)) := by show D = _; rw [HD.out, hlx, cmb_cons]
        have hk' : ¬ q1 = 0 := hk
        clear HD hP2 hP3 hlx hP1'
        go_wp2_with fail
        refine h1.mono ?_
        rintro e w1 ⟨rfl, hb1⟩
        clear h1
        have hB2 : Below wr.heap.size wr (w1.alloc (Obj.cells #[Value.int IntKind.i64 q1, Value.string (bsA q2), Value.int IntKind.i64 q3, Value.int IntKind.i64 at_] 78)) := below_new hb1 _
        obtain ⟨c0, c1, c2, c3, _, _, _, _⟩ := Box.new w1 (.int .i64 q1) (.string (bsA q2)) (.int .i64 q3) (.int .i64 at_)
        have hrow : Hid (((w1.alloc (Obj.cells #[Value.int IntKind.i64 q1, Value.string (bsA q2), Value.int IntKind.i64 q3, Value.int IntKind.i64 at_] 78)).alloc (Obj.cells #[Value.int IntKind.i64 q1, Value.string (bsA q2), Value.int IntKind.i64 q3, Value.int IntKind.i64 at_] 78)).ownsRow w.heap.size 78 4 v1 acc.length (rtC acc)) := (owns_below HO.out hB2).alloc _
        have hcel : Hid _ := tkCells_new (w1.alloc (Obj.cells #[Value.int IntKind.i64 q1, Value.string (bsA q2), Value.int IntKind.i64 q3, Value.int IntKind.i64 at_] 78)) ((q1, q2, q3), at_)
        have hone : Hid (∀ u ∈ rtC [((q1, q2, q3), at_)], u.oneCell' = true) := rtC_one _
        have hnl : acc.length + 1 ≤ maxLen := by unfold maxLen; omega
        have hby : (acc.length + 1) * 40 ≤ 140737488355328 := by omega
        have hbw : w.heap.size ≤ (w1.alloc (Obj.cells #[Value.int IntKind.i64 q1, Value.string (bsA q2), Value.int IntKind.i64 q3, Value.int IntKind.i64 at_] 78)).heap.size := Nat.le_trans hW.size hB2.size
        have hbw2 : w.heap.size ≤ ((w1.alloc (Obj.cells #[Value.int IntKind.i64 q1, Value.string (bsA q2), Value.int IntKind.i64 q3, Value.int IntKind.i64 at_] 78)).alloc (Obj.cells #[Value.int IntKind.i64 q1, Value.string (bsA q2), Value.int IntKind.i64 q3, Value.int IntKind.i64 at_] 78)).heap.size := by rw [World.size_alloc]; omega
        have hvl : Hid ((rtC [((q1, q2, q3), at_)]).length = 1 * 4) := rtC_len _
        have esz : (w1.alloc (Obj.cells #[Value.int IntKind.i64 q1, Value.string (bsA q2), Value.int IntKind.i64 q3, Value.int IntKind.i64 at_] 78)).heap.size = w1.heap.size + 1 := World.size_alloc _ _
        rw [esz] at hcel
        clear HO
        go_wp2_with (at_builtin; refine wpList_append_own _ rfl _ _ 74 rfl w.heap.size 78 i0 (.agg #[.int .i64 0, .string ⟨#[]⟩, .int .i64 0, .int .i64 0]) 4 40 Tryz.underlying74 hi hz hs hb3 rfl (by decide) _ _ _ rfl hrow.out ⟨w1.heap.size + 1, 0, none⟩ 1 1 (rtC [((q1, q2, q3), at_)]) rfl hvl.out hcel.out hone.out hnl hby hbw2 ?_)
        intro v3 w3 hown3 hgrow3 hi3
        clear hi3
        have HO3 : Hid (w3.ownsRow w.heap.size 78 4 v3 (acc ++ [((q1, q2, q3), at_)]).length (rtC (acc ++ [((q1, q2, q3), at_)]))) := by
          show World.ownsRow _ _ _ _ _ _ _
          rw [rtC_snoc, List.length_append, List.length_singleton]; exact hown3
        have hB3 : Bel w.heap.size w w3 := by
          have h1 : Below w.heap.size w (w1.alloc (Obj.cells #[Value.int IntKind.i64 q1, Value.string (bsA q2), Value.int IntKind.i64 q3, Value.int IntKind.i64 at_] 78)) := hW.trans (hB2.mono hW.size)
          have h2 := (h1.alloc hbw (Obj.cells #[Value.int IntKind.i64 q1, Value.string (bsA q2), Value.int IntKind.i64 q3, Value.int IntKind.i64 at_] 78)).grown hgrow3 hbw2 (fun j hj => (hrow.out.lt j hj).1)
          exact ⟨h2, h2.size⟩
        clear hown3 hgrow3 hrow hcel hone hvl hB2 c0 c1 c2 c3 hb1
        go_wp2
        go_roundw
        case rel => exact ⟨k, acc ++ [((q1, q2, q3), at_)], v3, rfl, rfl, hks, by simp; omega, HN.out, HO3.out, hB3⟩
        case measure => simp [intOf]; omega
    · have HN : Hid (D = ([], at_, er)) := by show D = _; rw [HD.out, hP1 he]; simp [cmb, he]
      have he' : (er != 0) = true := by simpa using he
      clear HD hP1 hP2 hP3 HO
      go_wp2_with fail
      refine h1.mono ?_
      rintro e w1 ⟨rfl, hb1⟩
      clear h1
      have hB2 : Below w.heap.size w (w1.alloc (Obj.cells #[Value.int IntKind.i64 q1, Value.string (bsA q2), Value.int IntKind.i64 q3, Value.int IntKind.i64 at_] 78)) := below_new (hW.trans (hb1.mono hW.size)) _
      have c3 := (Box.new w1 (.int .i64 q1) (.string (bsA q2)) (.int .i64 q3) (.int .i64 at_)).c3
      go_wp2
      generalize w1.alloc (Obj.cells #[Value.int IntKind.i64 q1, Value.string (bsA q2), Value.int IntKind.i64 q3, Value.int IntKind.i64 at_] 78) = W0 at hB2 c3 ⊢
      refine wp_region_held_drew (S := (fun wS => Bel W0.heap.size W0 wS)) (by kernel_rfl) ?_ (fun hHeld => ?_)
      · (try dsimp only); exact (Bel.refl _).drew
      refine wpAnyH_take (i := 0) (oi := { dst := some 20, op := Op.fieldAddr 78 (Operand.tmp 7) 3, type := 0, pos := "lex.go:55", after := #[{ on := 3, ground := Ground.gcOnly Departure.lateStores }], guard := none }) (v := ?_) rfl (by kernel_rfl) (by kernel_rfl) (by kernel_rfl) (fun _ _ _ h => h) (Or.inl ⟨by kernel_rfl, ?_⟩) (by assumption) ?_
      rotate_left
      · intro wS hSw; (try dsimp only at hSw); go_simp; (try with_reducible rfl)
      try simp only [Act.put, List.setIfInBounds_toArray, List.set_cons_zero, List.set_cons_succ]
      refine wpAnyH_take (i := 1) (oi := { dst := some 21, op := Op.load 3 (Operand.tmp 20), type := 3, pos := "lex.go:55", after := #[{ on := 0, ground := Ground.data }, { on := 3, ground := Ground.gcOnly Departure.lateStores }], guard := none }) (v := ?_) rfl (by kernel_rfl) (by kernel_rfl) (by kernel_rfl) (fun _ _ _ h => h) (Or.inl ⟨by kernel_rfl, ?_⟩) (by assumption) ?_
      rotate_left
      · intro wS hSw; (try dsimp only at hSw); have xm := cell_below hSw.out c3; go_simp; (try with_reducible rfl)
      try simp only [Act.put, List.setIfInBounds_toArray, List.set_cons_zero, List.set_cons_succ]
      refine wpAnyH_take (i := 2) (oi := { dst := some 22, op := Op.move (Operand.tmp 9), type := 65, pos := "lex.go:55", after := #[{ on := 4, ground := Ground.gcOnly Departure.lateStores }], guard := none }) (v := ?_) rfl (by kernel_rfl) (by kernel_rfl) (by kernel_rfl) (fun _ _ _ h => h) (Or.inl ⟨by kernel_rfl, ?_⟩) (by assumption) ?_
      rotate_left
      · intro wS hSw; (try dsimp only at hSw); go_simp; (try with_reducible rfl)
      try simp only [Act.put, List.setIfInBounds_toArray, List.set_cons_zero, List.set_cons_succ]
      refine wpAnyH_take (i := 3) (oi := { dst := some 2, op := Op.assign (Operand.const (Value.slice none 0 0)), type := 74, pos := "lex.go:55", after := #[{ on := 0, ground := Ground.textOnly Departure.lateStores }, { on := 1, ground := Ground.textOnly Departure.lateStores }, { on := 2, ground := Ground.textOnly Departure.lateStores }], guard := none }) (v := ?_) rfl (by kernel_rfl) (by kernel_rfl) (by kernel_rfl) (fun _ _ _ h => h) (Or.inl ⟨by kernel_rfl, ?_⟩) (by assumption) ?_
      rotate_left
      · intro wS hSw; (try dsimp only at hSw); go_simp; (try with_reducible rfl)
      try simp only [Act.put, List.setIfInBounds_toArray, List.set_cons_zero, List.set_cons_succ]
      refine wpAnyH_take (i := 4) (oi := { dst := some 3, op := Op.assign (Operand.tmp 21), type := 3, pos := "lex.go:55", after := #[{ on := 1, ground := Ground.data }, { on := 3, ground := Ground.chain }, { on := 0, ground := Ground.phase }, { on := 1, ground := Ground.phase }, { on := 2, ground := Ground.textOnly Departure.lateStores }, { on := 3, ground := Ground.phase }], guard := none }) (v := ?_) rfl (by kernel_rfl) (by kernel_rfl) (by kernel_rfl) (fun _ _ _ h => h) (Or.inl ⟨by kernel_rfl, ?_⟩) (by assumption) ?_
      rotate_left
      · intro wS hSw; (try dsimp only at hSw); go_simp; (try with_reducible rfl)
      try simp only [Act.put, List.setIfInBounds_toArray, List.set_cons_zero, List.set_cons_succ]
      refine wpAnyH_take (i := 5) (oi := { dst := some 4, op := Op.assign (Operand.tmp 22), type := 65, pos := "lex.go:55", after := #[{ on := 2, ground := Ground.data }, { on := 4, ground := Ground.chain }, { on := 0, ground := Ground.phase }, { on := 1, ground := Ground.phase }, { on := 2, ground := Ground.phase }, { on := 3, ground := Ground.phase }, { on := 4, ground := Ground.phase }], guard := none }) (v := ?_) rfl (by kernel_rfl) (by kernel_rfl) (by kernel_rfl) (fun _ _ _ h => h) (Or.inl ⟨by kernel_rfl, ?_⟩) (by assumption) ?_
      rotate_left
      · intro wS hSw; (try dsimp only at hSw); go_simp; (try with_reducible rfl)
      try simp only [Act.put, List.setIfInBounds_toArray, List.set_cons_zero, List.set_cons_succ]
      refine wpAnyH_done (by kernel_rfl) ?_ _
      go_wp2
      refine bodyPost_ret (v := .tuple #[.slice none 0 0, .int .i64 at_, .int .i64 er]) (by simp [results, Tryz.results121, go_sem]) rfl ⟨?_, hB2.drew⟩
      rw [HN.out]
      unfold LexPost
      rw [if_pos he]
end Go.Proofs.YtcemogaacicnfaaGreatDoor
