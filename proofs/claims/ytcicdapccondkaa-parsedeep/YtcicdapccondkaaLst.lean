/- Lists (list). -/
import Derived.Test.YtcicdapccondkaaOwn
namespace Go.Proofs.Ytcicdapccondkaa
open Go.ChangeShapes Go.WideShapes Go.ChangeAt Go.RowKit
set_option linter.unusedSimpArgs false
set_option maxRecDepth 20000
set_option maxHeartbeats 4000000

theorem list_any (rb : Nat) (ta : Option Addr) (cap : Nat) (T : List Tt) (E : Nat → Nat → Rz X) (hp : Reads rb ta cap T 16 E) (hup : Ups E) (f : Nat) : LReads rb ta cap T 86 (fun i op => listE T (fun j => E j op) f i) := by
  intro i op w r hop hr h
  obtain ⟨r1, e1, hl1⟩ := bnd_some (show bnd (E i op) (fun x j => listP T (fun j => E j op) f [x] j) = some r from h)
  have HL1 : Hid (bnd (some r1) (fun x j => listP T (fun j => E j op) f [x] j) = some r) := hl1
  have HP : Hid (Reads rb ta cap T 16 E) := hp
  have HU : Hid (Ups E) := hup
  have hlt := cell_lt hr.c0
  have h1 := hp i op w r1 hop hr e1
  unfold ptr at h1 ⊢
  have HU1 : Hid (∀ q, r1 = .inr q → i ≤ q.2) := fun q hq => hup i op q.1 q.2 (by rw [e1, hq])
  have hlen := hr.len
  clear hr h hp hl1 e1 hup
  go_enter Try.func86, Try.ntmps86
  go_wp2_with fail
  refine h1.mono ?_
  intro e w1 hpost
  clear h1
  cases r1 with
  | inl q =>
    obtain ⟨hG, hF⟩ := hpost.no
    unfold GUp at hG
    subst hG
    have HRR : Hid (r = .inl q) := (Option.some.inj HL1.out).symm
    have HF : Hid _ := hF
    clear hpost hF
    go_wp2
    exact ⟨rfl, by rw [HRR.out]; exact ⟨rfl, HF.out⟩⟩
  | inr q =>
    obtain ⟨x, j⟩ := q
    obtain ⟨⟨⟨s1, c1, rfl, hx⟩, hr1⟩, hF1⟩ := hpost.ok
    dsimp only at hx hr1
    have HL2 : Hid (listP T (fun j => E j op) f [x] j = some r) := HL1.out
    have hY : Below w1.heap.size w1 (w1.alloc (Obj.cells #[Value.int IntKind.i64 (xk x), Value.string (bsA (xt x)), Value.int IntKind.i64 (xn x), Value.int IntKind.i64 (xa x), Value.slice s1 (xl x) c1] 26)) := (Below.refl _ _).alloc (Nat.le_refl _) _
    have HO : Hid (OwX rb w.heap.size (w1.alloc (Obj.cells #[Value.int IntKind.i64 (xk x), Value.string (bsA (xt x)), Value.int IntKind.i64 (xn x), Value.int IntKind.i64 (xa x), Value.slice s1 (xl x) c1] 26)) w1.heap.size 1 [(x, s1, c1)]) := OwX.new w1 [(x, s1, c1)] hF1.size (by simp) (fun p hp => by rw [List.mem_singleton.1 hp]; exact hx) hlt _ rfl
    have HR1 : Hid (Rdr (w1.alloc (Obj.cells #[Value.int IntKind.i64 (xk x), Value.string (bsA (xt x)), Value.int IntKind.i64 (xn x), Value.int IntKind.i64 (xa x), Value.slice s1 (xl x) c1] 26)) rb ta cap T j op) := hr1.below hY
    have HF1 : Hid (Fx rb w (w1.alloc (Obj.cells #[Value.int IntKind.i64 (xk x), Value.string (bsA (xt x)), Value.int IntKind.i64 (xn x), Value.int IntKind.i64 (xa x), Value.slice s1 (xl x) c1] 26))) := hF1.trans (Fx.below hY)
    clear hpost hx hr1 hF1 hY HL1 HU1
    unfold xV nV
    go_wp2
    go_loopg [3] f (fun gk v wr => ∃ (g c : Nat) (A : List Xp) (i' : Nat), v = .slice (some ⟨g, 0, none⟩) A.length c ∧ OwX rb w.heap.size wr g c A ∧ Rdr wr rb ta cap T i' op ∧ Fx rb w wr ∧ A.length ≤ i' + 1 ∧ listP T (fun j => E j op) gk (A.map (·.1)) i' = some r)
    case atStart => exact ⟨_, _, [(x, s1, c1)], j, rfl, HO.out, HR1.out, HF1.out, by simp, HL2.out⟩
    case round =>
      obtain ⟨g, c, A, i', rfl, hO, hr2, hF2, hA, hl⟩ := hrel
      obtain ⟨m, rfl⟩ : ∃ m, gk = m + 1 := by
        cases gk with
        | zero => cases hl
        | succ m => exact ⟨m, rfl⟩
      have HL3 : Hid ((if isT (tkI T i') 6 [[44]] then bnd (E (i' + 1) op) (fun x j => listP T (fun j => E j op) m (A.map (·.1) ++ [x]) j) else okR (A.map (·.1)) i') = some r) := hl
      have HO2 : Hid (OwX rb w.heap.size wr g c A) := hO
      have HF2 : Hid (Fx rb w wr) := hF2
      have hle := hr2.le
      clear hl hO hF2 HL2 HO HR1 HF1
      obtain ⟨la, hla⟩ : ∃ la, la = A.length := ⟨_, rfl⟩
      have HLA : Hid (A.length = la) := hla.symm
      rw [← hla] at hA ⊢
      clear hla
      cases hb : isT (tkI T i') 6 [[44]] with
      | false =>
        have h2 := passes_no rb ta cap T i' op 6 [44] wr hr2 hb
        have HRR : Hid (r = .inr (A.map (·.1), i')) := by
          have h := HL3.out
          rw [hb] at h
          exact (Option.some.inj h).symm
        have HR2 : Hid (Rdr wr rb ta cap T i' op) := hr2
        unfold ptr at h2
        clear hr2 hb HL3
        go_wp2_with fail
        refine h2.mono ?_
        rintro e w2 ⟨rfl, hb2⟩
        clear h2
        have HFin : Hid (LPost rb ta cap T op w (.inr (A.map (·.1), i')) (.returned (.slice (some ⟨g, 0, none⟩) A.length c)) w2) := ⟨⟨⟨g, c, A, rfl, rfl, HO2.out.below hb2 hlt⟩, HR2.out.below hb2⟩, HF2.out.trans (Fx.below hb2)⟩
        clear hb2 HO2 HF2 HR2
        go_wp2
        refine bodyPost_ret (v := .slice (some ⟨g, 0, none⟩) la c) (by simp [results, Try.results86, go_sem]) rfl ?_
        rw [HRR.out, ← HLA.out]
        exact HFin.out
      | true =>
        have h2 := passes_ok rb ta cap T i' op 6 [44] wr hr2 (by decide) hb
        have HL4 : Hid (bnd (E (i' + 1) op) (fun x j => listP T (fun j => E j op) m (A.map (·.1) ++ [x]) j) = some r) := by
          have h := HL3.out
          rw [hb] at h
          exact h
        have hi' := isT_lt (by decide) hb
        unfold ptr at h2
        clear hr2 hb HL3
        go_wp2_with fail
        refine h2.mono ?_
        rintro e w2 ⟨rfl, hr3, hf3⟩
        clear h2
        obtain ⟨r3, e3, hl3⟩ := bnd_some HL4.out
        have HL5 : Hid (bnd (some r3) (fun x j => listP T (fun j => E j op) m (A.map (·.1) ++ [x]) j) = some r) := hl3
        have h3 := HP.out (i' + 1) op w2 r3 hop hr3 e3
        have HU3 : Hid (∀ q, r3 = .inr q → i' + 1 ≤ q.2) := fun q hq => HU.out (i' + 1) op q.1 q.2 (by rw [e3, hq])
        unfold ptr at h3
        have HO3 : Hid (OwX rb w.heap.size w2 g c A) := HO2.out.fx hf3 hlt
        have HF3 : Hid (Fx rb w w2) := HF2.out.trans hf3
        clear hr3 hf3 hl3 e3 HL4 HO2 HF2
        go_wp2_with fail
        refine h3.mono ?_
        intro e w3 hpost
        clear h3
        cases r3 with
        | inl q =>
          obtain ⟨hG, hF⟩ := hpost.no
          unfold GUp at hG
          subst hG
          have HRR : Hid (r = .inl q) := (Option.some.inj HL5.out).symm
          have HF : Hid _ := HF3.out.trans hF
          clear hpost hF
          go_wp2
          exact ⟨rfl, by rw [HRR.out]; exact ⟨rfl, HF.out⟩⟩
        | inr q =>
          obtain ⟨y, j3⟩ := q
          obtain ⟨⟨⟨s3, c3, rfl, hy⟩, hr4⟩, hF4⟩ := hpost.ok
          dsimp only at hy hr4
          have hU := HU3.out _ rfl
          have hj3 := hr4.le
          dsimp only at hU
          have HL6 : Hid (listP T (fun j => E j op) m (A.map (·.1) ++ [y]) j3 = some r) := HL5.out
          have hY : Below w3.heap.size w3 (w3.alloc (Obj.cells #[Value.int IntKind.i64 (xk y), Value.string (bsA (xt y)), Value.int IntKind.i64 (xn y), Value.int IntKind.i64 (xa y), Value.slice s3 (xl y) c3] 26)) := (Below.refl _ _).alloc (Nat.le_refl _) _
          have HO4 : Hid (OwX rb w.heap.size (w3.alloc (Obj.cells #[Value.int IntKind.i64 (xk y), Value.string (bsA (xt y)), Value.int IntKind.i64 (xn y), Value.int IntKind.i64 (xa y), Value.slice s3 (xl y) c3] 26)) g c A) := (HO3.out.fx hF4 hlt).below hY hlt
          have HOW : Hid (((w3.alloc (Obj.cells #[Value.int IntKind.i64 (xk y), Value.string (bsA (xt y)), Value.int IntKind.i64 (xn y), Value.int IntKind.i64 (xa y), Value.slice s3 (xl y) c3] 26))).ownsRow w.heap.size 26 5 (.slice (some ⟨g, 0, none⟩) la c) la (xC A)) := by
            have h := HO4.out.own
            rw [HLA.out] at h
            exact h
          have HKY : Hid (∀ p ∈ [(y, s3, c3)], XSt rb g w.heap.size (w3.alloc (Obj.cells #[Value.int IntKind.i64 (xk y), Value.string (bsA (xt y)), Value.int IntKind.i64 (xn y), Value.int IntKind.i64 (xa y), Value.slice s3 (xl y) c3] 26)) p.1 p.2.1) := fun p hp => by
            rw [List.mem_singleton.1 hp]
            have hs := HF3.out.size
            have hgl := HO3.out.lt
            exact (XSt.new hy (by omega) hs hgl.2).below hY
          have HR4 : Hid (Rdr (w3.alloc (Obj.cells #[Value.int IntKind.i64 (xk y), Value.string (bsA (xt y)), Value.int IntKind.i64 (xn y), Value.int IntKind.i64 (xa y), Value.slice s3 (xl y) c3] 26)) rb ta cap T j3 op) := hr4.below hY
          have HF4 : Hid (Fx rb w (w3.alloc (Obj.cells #[Value.int IntKind.i64 (xk y), Value.string (bsA (xt y)), Value.int IntKind.i64 (xn y), Value.int IntKind.i64 (xa y), Value.slice s3 (xl y) c3] 26))) := HF3.out.trans (hF4.trans (Fx.below hY))
          obtain ⟨i0, hi0, hz0⟩ := Option.map_eq_some_iff.1 info26
          simp only [Prod.mk.injEq] at hz0
          obtain ⟨hz1, hzs, hz3⟩ := hz0
          have hnl : la + 1 ≤ maxLen := by unfold maxLen; omega
          have hby : (la + 1) * 64 ≤ 140737488355328 := by omega
          have hbs : w.heap.size ≤ ((w3.alloc (Obj.cells #[Value.int IntKind.i64 (xk y), Value.string (bsA (xt y)), Value.int IntKind.i64 (xn y), Value.int IntKind.i64 (xa y), Value.slice s3 (xl y) c3] 26))).heap.size := HF4.out.size
          clear hpost hy hr4 hF4 hY HL5 HO3 HF3 HU3
          unfold xV nV
          go_wp2_with (at_builtin; refine wpList_append_lies _ rfl _ _ 24 rfl w.heap.size 26 i0 (.agg #[.int .i64 0, .string ⟨#[]⟩, .int .i64 0, .int .i64 0, .slice none 0 0]) 5 64 Try.underlying24 hi0 hz1 hzs hz3 rfl (by decide) _ la (xC A) rfl HOW.out ⟨w3.heap.size, 0, none⟩ 1 1 (xC [(y, s3, c3)]) rfl rfl (xp_cells w3 y s3 c3) (xC_one _) (by decide) hnl hby hbs _ rfl ?_)
          intro g2 cap2 w4 hown hgrow hlies hg2
          have HO5 : Hid (OwX rb w.heap.size w4 g2 cap2 (A ++ [(y, s3, c3)])) := HO4.out.grown HKY.out (by rw [HLA.out]; exact hown) hgrow (by simpa [Value.ownBlock] using hlies)
          have hgl := HO4.out.lt
          have HR5 : Hid (Rdr w4 rb ta cap T j3 op) := HR4.out.grown (g := g) hgrow (by omega)
          have HF5 : Hid (Fx rb w w4) := HF4.out.grown (g := g) hgrow hgl.1
          have HL7 : Hid ((A ++ [(y, s3, c3)]).length = la + 1) := by show _ = _; rw [List.length_append, HLA.out]; rfl
          have HL8 : Hid ((A ++ [(y, s3, c3)]).map (·.1) = A.map (·.1) ++ [y]) := by show _ = _; rw [List.map_append]; rfl
          clear hown hgrow hlies HOW HKY HO4 HR4 HF4 hgl
          go_wp2
          go_roundg m
          case measure => omega
          case rel => exact ⟨g2, cap2, A ++ [(y, s3, c3)], j3, by rw [HL7.out], HO5.out, HR5.out, HF5.out, by rw [HL7.out]; omega, by rw [HL8.out]; exact HL6.out⟩
end Go.Proofs.Ytcicdapccondkaa
