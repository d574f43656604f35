/- The document's answer: the tokens of a source (Lex). -/
import Derived.Test.YthhbeejfnpcbhaaGreatDoorRTo
import Derived.Test.YthhbeejfnpcbhaaGreatDoorRSk
import Derived.Test.YthhbeejfnpcbhaaGreatDoorLex
namespace Go.Proofs.YthhbeejfnpcbhaaGreatDoor
open Go.ChangeShapes Go.WideShapes Go.ChangeAt Go.RowKit

theorem skR_nat (s : List UInt8) (m : Nat) (hm : m ≤ s.length) : ∃ nx : Nat, (skR s m).1 = nx ∧ m ≤ nx ∧ nx ≤ s.length ∧ (sk (s.drop m)).1 = nx - m := by
  have h := sk_le (s.drop m)
  rw [List.length_drop] at h
  exact ⟨m + (sk (s.drop m)).1, by unfold skR; simp, by omega, by omega, by omega⟩
theorem rl_bad {s : List UInt8} {m : Nat} (h : (skR s m).2 = false) : lx (s.drop m) m = ([], (skR s m).1, 50) := lx_bad h
theorem rl_end {s : List UInt8} {m nx : Nat} (h : (skR s m).2 = true) (hk : (sk (s.drop m)).1 = nx - m) (h1 : m ≤ nx) (hn : s.length ≤ nx) : lx (s.drop m) m = ([], 0, 0) :=
  lx_end h (by rw [List.drop_drop]; exact List.drop_eq_nil_of_le (by omega))
theorem rl_err {s : List UInt8} {m nx : Nat} (h : (skR s m).2 = true) (hk : (sk (s.drop m)).1 = nx - m) (h1 : m ≤ nx) (hn : nx < s.length) (he : (tokP (s.drop nx)).2.2 ≠ 0) : lx (s.drop m) m = ([], (nx : Int), (tokP (s.drop nx)).2.2) := by
  have e : (s.drop m).drop (sk (s.drop m)).1 = s.drop nx := by rw [List.drop_drop]; congr 1; omega
  have hne : s.drop nx ≠ [] := fun h => by have := List.drop_eq_nil_iff.1 h; omega
  rw [lx_err h (by rw [e]; exact hne) (by rw [e]; exact he), e, hk]
  congr 2; omega
theorem rl_go {s : List UInt8} {m nx : Nat} (h : (skR s m).2 = true) (hk : (sk (s.drop m)).1 = nx - m) (h1 : m ≤ nx) (hn : nx < s.length) (he : (tokP (s.drop nx)).2.2 = 0) : ∃ k : Nat, (nx : Int) + (tokP (s.drop nx)).2.1 = k ∧ m < k ∧ k ≤ s.length ∧ lx (s.drop m) m = if (lx (s.drop k) k).2.2 ≠ 0 then lx (s.drop k) k else (((tokP (s.drop nx)).1, (nx : Int)) :: (lx (s.drop k) k).1, 0, 0) := by
  have e : (s.drop m).drop (sk (s.drop m)).1 = s.drop nx := by rw [List.drop_drop]; congr 1; omega
  have hne : s.drop nx ≠ [] := fun h => by have := List.drop_eq_nil_iff.1 h; omega
  have ht := tok_ok hne he
  have hl : (s.drop nx).length = s.length - nx := List.length_drop ..
  refine ⟨nx + (tokP (s.drop nx)).2.1.toNat, by omega, by omega, by omega, ?_⟩
  rw [lx_go h (by rw [e]; exact hne) (by rw [e]; exact he), e, hk]
  have e1 : (s.drop m).drop (nx - m + (tokP (s.drop nx)).2.1.toNat) = s.drop (nx + (tokP (s.drop nx)).2.1.toNat) := by rw [List.drop_drop]; congr 1; omega
  have e2 : (m : Int) + ((nx - m : Nat) : Int) = (nx : Int) := by omega
  have e3 : ((nx + (tokP (s.drop nx)).2.1.toNat : Nat) : Int) = (nx : Int) + (tokP (s.drop nx)).2.1 := by omega
  rw [e1, e2, e3]
set_option maxRecDepth 20000 in
set_option maxHeartbeats 4000000 in
theorem RLex_any (s : List UInt8) (w : World) (hl : s.length ≤ 104857600) : Calls Tryz.prog 10 #[.string (bsA s)] w fun e w' => LexPost w.heap.size (lx s 0) e w' ∧ Below w.heap.size w w' := by
  obtain ⟨i0, hi, hz0⟩ := Option.map_eq_some_iff.1 info37
  simp only [Prod.mk.injEq] at hz0
  obtain ⟨hz, hs, hb3⟩ := hz0
  have hzs := bsA_size s
  have HX : Hid (lx s 0 = cmb [] (lx (s.drop 0) ((0 : Nat) : Int))) := lx_cmb s 0
  generalize lx s 0 = D at HX ⊢
  go_enter Tryz.func10, Tryz.ntmps10
  go_wp2
  go_loopw [5, 6] (fun x y wr => ∃ (m : Nat) (acc : List Tt) (v1 : Value), x = v1 ∧ y = .int .i64 m ∧ m ≤ s.length ∧ acc.length ≤ m ∧ D = cmb acc (lx (s.drop m) m) ∧ wr.ownsRow w.heap.size 37 4 v1 acc.length (rtC acc) ∧ Bel w.heap.size w wr) (fun _ y _ => s.length - (intOf y).toNat)
  case atStart => exact ⟨0, [], _, rfl, rfl, Nat.zero_le _, Nat.le_refl _, HX.out, World.ownsRow_nil _ _ _ _, Bel.refl _⟩
  case round =>
    obtain ⟨m, acc, v1, hy1, rfl, hm, hac, hD, hO, HB⟩ := hrel
    have hy2 := hy1.symm
    clear hy1
    subst hy2
    have HD : Hid _ := hD
    have HO : Hid (wr.ownsRow w.heap.size 37 4 v1 acc.length (rtC acc)) := hO
    have hW := HB.out
    have h1 := skip_any s m wr hm hl
    obtain ⟨nx, hnx, hm1, hm2, hk⟩ := skR_nat s m hm
    have hP0 := rl_bad (s := s) (m := m)
    have hP1 := rl_end (s := s) (m := m) (nx := nx)
    have hP2 := rl_err (s := s) (m := m) (nx := nx)
    have hP3 := rl_go (s := s) (m := m) (nx := nx)
    rw [hnx] at h1 hP0
    clear hD hO HX hnx
    cases hok : (skR s m).2 with
    | false =>
      have HN : Hid (D = ([], (nx : Int), 50)) := by show D = _; rw [HD.out, hP0 hok]; simp [cmb]
      rw [hok] at h1
      clear HD HO hP0 hP1 hP2 hP3 hok
      go_wp2_with fail
      refine h1.mono ?_
      rintro e w0 ⟨rfl, rfl⟩
      clear h1
      go_wp2
      refine bodyPost_ret (v := .tuple #[.slice none 0 0, .int .i64 nx, .int .i64 50]) (by simp [results, Tryz.results10, go_sem]) rfl ⟨?_, hW⟩
      rw [HN.out]
      unfold LexPost
      rw [if_pos (by simp)]
    | true =>
      rw [hok] at h1
      rcases Nat.lt_or_ge nx s.length with hlt | hge
      · have hx : (bsA s).extract nx s.length = bsA (s.drop nx) := ext_drop' s nx
        have h2 := token_r (s.drop nx) wr (fun h => by have := List.drop_eq_nil_iff.1 h; omega) (by rw [List.length_drop]; omega)
        have hP2 := hP2 hok hk hm1 hlt
        have hP3 := hP3 hok hk hm1 hlt
        clear hP0 hP1 hok hk
        generalize tokP (s.drop nx) = q at h2 hP2 hP3
        obtain ⟨⟨q1, q2, q3⟩, n, er⟩ := q
        unfold tkV at h2
        dsimp only at h2 hP2 hP3
        generalize bsA (s.drop nx) = S2 at hx h2
        by_cases he : er = 0
        · subst he
          obtain ⟨k, hkn, hmk, hks, hlx⟩ := hP3 rfl
          have HN : Hid (D = cmb (acc ++ [((q1, q2, q3), (nx : Int))]) (lx (s.drop k) k)) := by show D = _; rw [HD.out, hlx, cmb_cons]
          clear HD hP2 hP3 hlx
          go_wp2_with fail
          refine h1.mono ?_
          rintro e w0 ⟨rfl, rfl⟩
          clear h1
          go_wp2_with fail
          refine h2.mono ?_
          rintro e w1 ⟨rfl, hb1⟩
          clear h2
          have hB2 : Below w0.heap.size w0 (w1.alloc (Obj.cells #[Value.int IntKind.i64 q1, Value.string (bsA q2), Value.int IntKind.i64 q3, Value.int IntKind.i64 (nx : Int)] 37)) := below_new hb1 _
          obtain ⟨c0, c1, c2, c3, _, _, _, _⟩ := Box.new w1 (.int .i64 q1) (.string (bsA q2)) (.int .i64 q3) (.int .i64 nx)
          have hrow : Hid (((w1.alloc (Obj.cells #[Value.int IntKind.i64 q1, Value.string (bsA q2), Value.int IntKind.i64 q3, Value.int IntKind.i64 (nx : Int)] 37)).alloc (Obj.cells #[Value.int IntKind.i64 q1, Value.string (bsA q2), Value.int IntKind.i64 q3, Value.int IntKind.i64 (nx : Int)] 37)).ownsRow w.heap.size 37 4 v1 acc.length (rtC acc)) := (owns_below HO.out hB2).alloc _
          have hcel : Hid _ := tkCells_new (w1.alloc (Obj.cells #[Value.int IntKind.i64 q1, Value.string (bsA q2), Value.int IntKind.i64 q3, Value.int IntKind.i64 (nx : Int)] 37)) ((q1, q2, q3), (nx : Int))
          have hone : Hid (∀ u ∈ rtC [((q1, q2, q3), (nx : Int))], u.oneCell' = true) := rtC_one _
          have hnl : acc.length + 1 ≤ maxLen := by unfold maxLen; omega
          have hby : (acc.length + 1) * 40 ≤ 140737488355328 := by omega
          have hbw : w.heap.size ≤ (w1.alloc (Obj.cells #[Value.int IntKind.i64 q1, Value.string (bsA q2), Value.int IntKind.i64 q3, Value.int IntKind.i64 (nx : Int)] 37)).heap.size := Nat.le_trans hW.size hB2.size
          have hbw2 : w.heap.size ≤ ((w1.alloc (Obj.cells #[Value.int IntKind.i64 q1, Value.string (bsA q2), Value.int IntKind.i64 q3, Value.int IntKind.i64 (nx : Int)] 37)).alloc (Obj.cells #[Value.int IntKind.i64 q1, Value.string (bsA q2), Value.int IntKind.i64 q3, Value.int IntKind.i64 (nx : Int)] 37)).heap.size := by rw [World.size_alloc]; omega
          have hvl : Hid ((rtC [((q1, q2, q3), (nx : Int))]).length = 1 * 4) := rtC_len _
          have esz : (w1.alloc (Obj.cells #[Value.int IntKind.i64 q1, Value.string (bsA q2), Value.int IntKind.i64 q3, Value.int IntKind.i64 (nx : Int)] 37)).heap.size = w1.heap.size + 1 := World.size_alloc _ _
          rw [esz] at hcel
          clear HO
          go_wp2_with (at_builtin; refine wpList_append_own _ rfl _ _ 22 rfl w.heap.size 37 i0 (.agg #[.int .i64 0, .string ⟨#[]⟩, .int .i64 0, .int .i64 0]) 4 40 Tryz.underlying22 hi hz hs hb3 rfl (by decide) _ _ _ rfl hrow.out ⟨w1.heap.size + 1, 0, none⟩ 1 1 (rtC [((q1, q2, q3), (nx : Int))]) rfl hvl.out hcel.out hone.out hnl hby hbw2 ?_)
          intro v3 w3 hown3 hgrow3 hi3
          clear hi3
          have HO3 : Hid (w3.ownsRow w.heap.size 37 4 v3 (acc ++ [((q1, q2, q3), (nx : Int))]).length (rtC (acc ++ [((q1, q2, q3), (nx : Int))]))) := by
            show World.ownsRow _ _ _ _ _ _ _
            rw [rtC_snoc, List.length_append, List.length_singleton]; exact hown3
          have hB3 : Bel w.heap.size w w3 := by
            have h1 : Below w.heap.size w (w1.alloc (Obj.cells #[Value.int IntKind.i64 q1, Value.string (bsA q2), Value.int IntKind.i64 q3, Value.int IntKind.i64 (nx : Int)] 37)) := hW.trans (hB2.mono hW.size)
            have h2 := (h1.alloc hbw (Obj.cells #[Value.int IntKind.i64 q1, Value.string (bsA q2), Value.int IntKind.i64 q3, Value.int IntKind.i64 (nx : Int)] 37)).grown hgrow3 hbw2 (fun j hj => (hrow.out.lt j hj).1)
            exact ⟨h2, h2.size⟩
          clear hown3 hgrow3 hrow hcel hone hvl hB2 c0 c1 c2 c3 hb1
          go_wp2
          go_roundw
          case rel => exact ⟨k, acc ++ [((q1, q2, q3), (nx : Int))], v3, rfl, rfl, hks, by simp; omega, HN.out, HO3.out, hB3⟩
          case measure => simp [intOf]; omega
        · have HN : Hid (D = ([], (nx : Int), er)) := by show D = _; rw [HD.out, hP2 he]; simp [cmb, he]
          have he' : (er != 0) = true := by simpa using he
          clear HD hP2 hP3 HO
          go_wp2_with fail
          refine h1.mono ?_
          rintro e w0 ⟨rfl, rfl⟩
          clear h1
          go_wp2_with fail
          refine h2.mono ?_
          rintro e w1 ⟨rfl, hb1⟩
          clear h2
          have hB2 := below_new (hW.trans (hb1.mono hW.size)) (Obj.cells #[Value.int IntKind.i64 q1, Value.string (bsA q2), Value.int IntKind.i64 q3, Value.int IntKind.i64 0] 37)
          go_wp2
          refine bodyPost_ret (v := .tuple #[.slice none 0 0, .int .i64 nx, .int .i64 er]) (by simp [results, Tryz.results10, go_sem]) rfl ⟨?_, hB2⟩
          rw [HN.out]
          unfold LexPost
          rw [if_pos he]
      · have HN : Hid (D = (acc, 0, 0)) := by show D = _; rw [HD.out, hP1 hok hk hm1 hge]; simp [cmb]
        obtain ⟨a, cap, rfl, hra, hga, hcap⟩ := tks_of_owns HO.out
        have HGA : Hid _ := hga
        have HRA : Hid _ := hra
        clear HD HO hP0 hP1 hP2 hP3 hra hga hok
        go_wp2_with fail
        refine h1.mono ?_
        rintro e w0 ⟨rfl, rfl⟩
        clear h1
        go_wp2
        refine bodyPost_ret (v := .tuple #[.slice a acc.length cap, .int .i64 0, .int .i64 0]) (by simp [results, Tryz.results10, go_sem]) rfl ⟨?_, hW⟩
        rw [HN.out]
        exact ⟨a, cap, rfl, HRA.out, HGA.out, hcap⟩
end Go.Proofs.YthhbeejfnpcbhaaGreatDoor
