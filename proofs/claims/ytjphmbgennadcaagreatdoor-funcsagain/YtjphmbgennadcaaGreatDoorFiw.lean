/- FuncsFit: the walk. -/
import Derived.Test.YtjphmbgennadcaaGreatDoorFip
import Derived.Test.YtjphmbgennadcaaGreatDoorRMay
import Derived.Test.YtjphmbgennadcaaGreatDoorRunes
import Derived.Test.YtjphmbgennadcaaGreatDoorLwc
namespace Go.Proofs.YtjphmbgennadcaaGreatDoor
set_option maxHeartbeats 4000000
set_option maxRecDepth 20000
set_option linter.unusedSimpArgs false
open Go.ChangeShapes Go.WideShapes Go.ChangeAt Go.RowKit


theorem info3' : (Tryz.prog.info? 3).map (fun i => (i.zero, i.size, i.bytes)) = some (some (.int .i64 0), 1, 8) := by kernel_rfl
/-- The kinds of the first m values, as cells. -/
def kdC (r : List Val) (m : Nat) : List Value := (List.range m).map fun i => .int .i64 (kAt r i)
theorem kdC_succ (r : List Val) (m : Nat) : kdC r (m + 1) = kdC r m ++ [.int .i64 (kAt r m)] := by unfold kdC; rw [List.range_succ, List.map_append]; rfl
theorem kdC_at (r : List Val) (m i : Nat) (h : i < m) : (kdC r m)[i]? = some (.int .i64 (kAt r i)) := by simp [kdC, h]
theorem ks_of_owns {w : World} {base : Nat} {vv : Value} {r : List Val} (h : w.ownsRow base 3 1 vv r.length (kdC r r.length)) : ∃ a cap, vv = .slice a (ksL r).length cap ∧ (ksL r).length ≤ cap ∧ KsAt w a (ksL r) := by
  have h' := h
  rw [ksL_len]
  obtain ⟨hlen, ⟨rfl, h0⟩ | ⟨g, cap, cur, rfl, hbg, hg, hcap, hcm, hcs, htake⟩⟩ := h
  · exact ⟨none, 0, by rw [h0], by omega, Or.inl (by rw [ksL_len]; exact h0)⟩
  refine ⟨_, cap, rfl, by omega, Or.inr ⟨g, 0, rfl, fun i hi => ?_⟩⟩
  rw [ksL_len] at hi
  have e := h'.cells (g := g) rfl i _ (kdC_at r _ i hi)
  rw [add_plain] at e
  rw [ksL_at r i hi]; exact e
theorem runes_said : RunesSaid := runes_any
theorem fit_walk (s : ByteArray) (a : Option Addr) (cap : Nat) (r : List Val) (w : World) (H : Arg w a cap r) :
    Calls Tryz.prog 5 #[.string s, .slice a r.length cap] w fun e w' => e = .returned (.bool true) ∧ Below w.heap.size w w' := by
  obtain ⟨i0, hi, hz0⟩ := Option.map_eq_some_iff.1 info3'
  simp only [Prod.mk.injEq] at hz0
  obtain ⟨hz, hs, hb3⟩ := hz0
  have hlen := H.len
  have hR := H.rdy
  have HM : Hid _ := fit_main s r H.int
  have HH : Hid _ := H
  clear H
  go_enter Tryz.func5, Tryz.ntmps5
  go_wp2
  go_loopw [5, 6] (fun y i wr => ∃ (m : Nat) (v1 : Value), m ≤ r.length ∧ y = v1 ∧ i = .int .i64 m ∧ wr.ownsRow w.heap.size 3 1 v1 m (kdC r m) ∧ Bel w.heap.size w wr) (fun _ i _ => r.length - (intOf i).toNat)
  case atStart => exact ⟨0, _, Nat.zero_le _, rfl, rfl, World.ownsRow_nil _ _ _ _, Bel.refl _⟩
  case round =>
    obtain ⟨m, v1, hm, hy1, rfl, hO, HB⟩ := hrel
    have hy2 := hy1.symm
    clear hy1
    subst hy2
    have HO : Hid (wr.ownsRow w.heap.size 3 1 v1 m (kdC r m)) := hO
    have hW := HB.out
    clear hO
    rcases Nat.lt_or_ge m r.length with hlt | hge
    · obtain ⟨b, off, rfl, hc⟩ := row_cells HH.out.row (by omega)
      have c0 := cell_below hW (hc m hlt).1
      have HS : Hid (kdC r (m + 1) = kdC r m ++ [.int .i64 (kAt r m)]) := kdC_succ r m
      generalize kAt r m = k at *
      have hrow : Hid ((wr.alloc (.cells #[.int .i64 k] 3)).ownsRow w.heap.size 3 1 v1 m (kdC r m)) := HO.out.alloc _
      have hcel : Hid (∀ j u, ([.int .i64 k] : List Value)[j]? = some u → (wr.alloc (.cells #[.int .i64 k] 3)).cell? ((⟨wr.heap.size, 0, none⟩ : Addr).add j) = some u) := by
        intro j u hj
        rw [add_plain]
        match j, hj with
        | 0, hj =>
          simp only [List.getElem?_cons_zero, Option.some.injEq] at hj
          subst hj
          simp
        | j + 1, hj => simp at hj
      have hone : Hid (∀ u ∈ ([.int .i64 k] : List Value), u.oneCell' = true) := fun u hu => by simp only [List.mem_singleton] at hu; subst hu; rfl
      have hnl : m + 1 ≤ maxLen := by unfold maxLen; omega
      have hby : (m + 1) * 8 ≤ 140737488355328 := by omega
      have hbw2 : w.heap.size ≤ (wr.alloc (.cells #[.int .i64 k] 3)).heap.size := by rw [World.size_alloc]; have := hW.size; omega
      clear HO hc
      go_wp2_with (at_builtin; refine wpList_append_own _ rfl _ _ 22 rfl w.heap.size 3 i0 (.int .i64 0) 1 8 Tryz.underlying22 hi hz hs hb3 rfl (by decide) _ _ _ rfl hrow.out ⟨wr.heap.size, 0, none⟩ 1 1 [.int .i64 k] rfl rfl hcel.out hone.out hnl hby hbw2 ?_)
      intro v3 w3 hown3 hgrow3 hi3
      clear hi3
      have HO3 : Hid (w3.ownsRow w.heap.size 3 1 v3 (m + 1) (kdC r (m + 1))) := by
        show World.ownsRow _ _ _ _ _ _ _
        rw [HS.out]; exact hown3
      have HB4 : Hid (Bel w.heap.size w w3) := by
        have h2 := (hW.alloc hW.size (.cells #[.int .i64 k] 3)).grown hgrow3 hbw2 (fun j hj => (hrow.out.lt j hj).1)
        exact ⟨h2, h2.size⟩
      clear hown3 hgrow3 hrow hcel hone
      go_wp2
      go_roundw
      case rel => exact ⟨m + 1, v3, by omega, rfl, by go_num, HO3.out, HB4.out⟩
      case measure => simp [intOf]; omega
    · obtain rfl : m = r.length := by omega
      obtain ⟨a1, cap1, rfl, hcp1, hks⟩ := ks_of_owns HO.out
      have hKd := Kind_any s a1 cap1 (ksL r) wr (by rw [ksL_len]; omega) hcp1 hks
      have hCl := fun W (hb : Below w.heap.size w W) => Call_any s a cap r W (HH.out.below hb)
      generalize kinP s (ksL r) = K at *
      generalize calP s r = C at *
      obtain ⟨kk, ke⟩ := K
      obtain ⟨⟨ck, cn, ct⟩, ce⟩ := C
      dsimp only at hKd hCl HM
      clear HO hks hcp1
      go_wp2_with fail
      refine hKd.mono ?_
      rintro e w1 ⟨rfl, hb1⟩
      have hW1 : Below w.heap.size w w1 := hW.trans (hb1.mono hW.size)
      have hCl1 := hCl w1 hW1
      clear hKd hb1 hCl
      go_wp2_with fail
      refine hCl1.mono ?_
      rintro e w2 ⟨rfl, hb2⟩
      have hW2 : Below w.heap.size w w2 := hW1.trans (hb2.mono hW1.size)
      clear hCl1 hb2
      have hS := fun W (hb : Below w.heap.size w W) => sure_any W (hR.below hb)
      by_cases h0 : ke = 0
      · subst h0
        have HF := HM.out.2 rfl
        have hg := hg53
        have hMy := fun W => rMay_any runes_said ck cn ct W
        by_cases h1 : ce = 0
        · subst h1
          obtain ⟨hmay, hkk⟩ := HF.ok rfl
          have hmay' : mayS ck cn ct = true := hmay
          rw [hmay'] at hMy
          clear HM HF hmay hmay'
          have hcs : (ck == 0) = true ∨ ((ck == 0) = false ∧ (ck == kk) = true) := by
            by_cases e : ck = 0
            · exact Or.inl (by simpa using e)
            · refine Or.inr ⟨by simpa using e, ?_⟩
              rcases hkk with h | h
              · exact absurd h e
              · simpa using h
          clear hkk
          rcases hcs with h | ⟨h, h'⟩
          all_goals
            go_wp2_with fail
            refine (hMy _).mono ?_
            rintro e w3 ⟨rfl, hb3⟩
            have hz2 : w2.heap.size < w3.heap.size := by have := hb3.size; simp at this; omega
            have hW3 : Below w.heap.size w w3 := (hW2.alloc hW2.size _).trans (hb3.mono (Nat.le_trans hW2.size (by simp)))
            obtain ⟨hc3, hf3⟩ := bcell hb3
            go_wp2_with fail
            refine (hS _ hW3).mono ?_
            rintro e w9 ⟨rfl, hb9⟩
            go_wp2
            go_ret
            exact ⟨rfl, (Bel.out (by repeat (first | exact Bel.refl _ | assumption | refine Bel.drew ?_ | refine Bel.drewN ?_ _ | refine Bel.alloc ?_ _ | refine Bel.setCell ?_ (by simp <;> omega) _ | refine Bel.step ?_ (by assumption))))⟩
        · have h1' : (ce != 0) = true := by simpa using h1
          have hdv := HF.err h1
          have hv : ck = 0 ∧ cn = 0 ∧ ct = ⟨#[]⟩ := by
            injection hdv with e1 e2
            injection e2 with e2 e3
            exact ⟨e1, e2, e3⟩
          obtain ⟨rfl, rfl, rfl⟩ := hv
          have heq : ∀ wx : World, (binOp .eql 34 (.agg #[.int .i64 0, .int .i64 0, .string ⟨#[]⟩]) (.agg #[.int .i64 0, .int .i64 0, .string ⟨#[]⟩])).run Tryz.prog wx = .ok (.bool true) wx := fun wx => by rw [eq34]; simp
          clear HM HF hdv h1 hMy
          go_wp2_with fail
          refine (hS _ (hW2.alloc hW2.size _)).mono ?_
          rintro e w9 ⟨rfl, hb9⟩
          go_wp2
          go_ret
          exact ⟨rfl, (Bel.out (by repeat (first | exact Bel.refl _ | assumption | refine Bel.drew ?_ | refine Bel.drewN ?_ _ | refine Bel.alloc ?_ _ | refine Bel.setCell ?_ (by simp <;> omega) _ | refine Bel.step ?_ (by assumption))))⟩
      · have h0' : (ke != 0) = true := by simpa using h0
        have hce : ce = ke := HM.out.1 h0
        subst hce
        clear HM h0
        go_wp2_with fail
        refine (hS _ (hW2.alloc hW2.size _)).mono ?_
        rintro e w9 ⟨rfl, hb9⟩
        go_wp2
        go_ret
        exact ⟨rfl, (Bel.out (by repeat (first | exact Bel.refl _ | assumption | refine Bel.drew ?_ | refine Bel.drewN ?_ _ | refine Bel.alloc ?_ _ | refine Bel.setCell ?_ (by simp <;> omega) _ | refine Bel.step ?_ (by assumption))))⟩
end Go.Proofs.YtjphmbgennadcaaGreatDoor
