/- Which aggregates stand in a tree, by the document (its aggs, its Aggs). -/
import Derived.Test.YtcemogaacicnfaaGreatDoorRCp
import Derived.Test.YtcemogaacicnfaaGreatDoorAgw
import Derived.Test.YtcemogaacicnfaaGreatDoorRAl
namespace Go.Proofs.YtcemogaacicnfaaGreatDoor
open Go.ChangeShapes Go.WideShapes Go.ChangeAt Go.RowKit Go.Shelf

/-- All trees of a tree, none below an aggregate. -/
def flF : (n : Nat) → Tr n → List (Tr n)
  | 0, _ => []
  | n + 1, x => x :: (if kd (n + 1) x = 14 then [] else (ks (n + 1) x).flatMap fun y => (flF n y).map (up n))
theorem flF_flat : ∀ (n : Nat) (x : Tr n) (d : Int), (flat (fun k => !decide (k = 14)) n x d).map (·.1) = flF n x
  | 0, _, _ => rfl
  | n + 1, x, d => by
    rw [flat, flF]
    by_cases h : kd (n + 1) x = 14
    · simp [h]
    · have e : ∀ y : Tr n, ((flat (fun k => !decide (k = 14)) n y (d + 1)).map fun p => (up n p.1, p.2)).map (·.1) = (flF n y).map (up n) := fun y => by
        rw [← flF_flat n y (d + 1), List.map_map, List.map_map]
        rfl
      simp only [h, decide_false, Bool.not_false, if_true, if_false, List.map_cons, List.map_flatMap, e]
/-- What the collecting writes: new blocks, and the row that it had. -/
structure AgG (B : Nat) (v : Value) (w : World) (v' : Value) (w' : World) : Prop where
  b0 : Below B w w'
  blk : ∀ b, b < w.heap.size → v.ownBlock ≠ some b → w'.heap[b]? = w.heap[b]?
  own : ∀ b, v'.ownBlock = some b → v.ownBlock = some b ∨ w.heap.size ≤ b
theorem AgG.below {B : Nat} {v : Value} {w w' : World} (hB : B ≤ w.heap.size) (h : Below w.heap.size w w') : AgG B v w v w' := ⟨h.mono hB, fun b hb _ => h.block b hb, fun _ h => Or.inl h⟩
theorem AgG.trans {B : Nat} {v v1 v2 : Value} {w w1 w2 : World} (h : AgG B v w v1 w1) (k : AgG B v1 w1 v2 w2) : AgG B v w v2 w2 := by
  have hs := h.b0.size
  refine ⟨h.b0.trans k.b0, fun b hb hn => (k.blk b (by omega) (fun e => ?_)).trans (h.blk b hb hn), fun b hb => ?_⟩
  · rcases h.own b e with e | e
    · exact hn e
    · omega
  · rcases k.own b hb with e | e
    · exact h.own b e
    · exact Or.inr (by omega)
theorem AgAt.lt {B M : Nat} {W : World} {v : Value} {A : List (Ag M)} (h : AgAt B M W v A) (b : Nat) (hb : v.ownBlock = some b) : B ≤ b ∧ b < W.heap.size := by
  rcases h.1.2 with ⟨h, _⟩ | ⟨g', cap', cur, h, hb', hg', _⟩
  · rw [h] at hb; cases hb
  · rw [h] at hb
    obtain rfl : g' = b := Option.some.inj hb
    exact ⟨hb', heap_lt hg'⟩
def RAggPost (B M : Nat) (v : Value) (A : List (Ag M)) (l : List (Tr M)) (W : World) (e : Ending) (w' : World) : Prop := ∃ (sv : Option Addr) (la cv : Nat) (A' : List (Ag M)), e = .returned (.slice sv la cv) ∧ A'.length = la ∧ AgAt B M w' (.slice sv la cv) A' ∧ A'.map (·.1) = l.foldl (agS M) (A.map (·.1)) ∧ AgG B v W (.slice sv la cv) w'
theorem agS_no {M : Nat} {acc : List (Tr M)} {t : Tr M} (h : (acc.any fun y => samP M y t) = true) : agS M acc t = acc := by
  unfold agS
  rw [if_neg (by rw [h]; simp)]
theorem agS_ne {M : Nat} {acc : List (Tr M)} {t : Tr M} (h : ¬ kd M t = 14) : agS M acc t = acc := by
  unfold agS
  rw [if_neg (fun e => h e.1)]
theorem agS_yes {M : Nat} {acc : List (Tr M)} {t : Tr M} (hk : kd M t = 14) (h : (acc.any fun y => samP M y t) = false) : agS M acc t = acc ++ [t] := by
  unfold agS
  rw [if_pos ⟨hk, h⟩]
set_option linter.unusedSimpArgs false in
set_option maxRecDepth 20000 in
set_option maxHeartbeats 8000000 in
theorem RAgg_14 (M : Nat) (x : Tr M) (hk : kd M x = 14) (hwx : Wid M x) (s sv : Option Addr) (c B la cv : Nat) (A : List (Ag M)) (hla : A.length = la) (w : World) (hx : NdAt w M x s) (hag : AgAt B M w (.slice sv la cv) A) (hB : B ≤ w.heap.size) (hby : (la + 1) * 64 ≤ 140737488355328) :
    Calls Tryz.prog 38 #[ndV M x s c, .slice sv la cv] w (RAggPost B M (.slice sv la cv) A [x] w) := by
  have HKS : Hid (KsAt w M sv (A.map (·.1))) := by
    obtain ⟨a', c', e, h⟩ := hag.slice (by omega)
    cases e
    exact h
  have HLA : Hid (A.length = la) := hla
  have HAG : Hid (AgAt B M w (.slice sv la cv) A) := hag
  have hl63 : la ≤ 9223372036854775807 := by omega
  have hB0 : Below w.heap.size w (w.alloc (Obj.cells #[Value.int IntKind.i64 (kd M x), Value.string (bsA (tx M x)), Value.int IntKind.i64 (nu M x), Value.int IntKind.i64 (pl M x), Value.slice s (ks M x).length c] 24)) := (Below.refl _ w).alloc (Nat.le_refl _) _
  obtain ⟨d0, d1, d2, d3, d4⟩ := box5_new w (.int .i64 (kd M x)) (.string (bsA (tx M x))) (.int .i64 (nu M x)) (.int .i64 (pl M x)) (.slice s (ks M x).length c) 24
  have HX : Hid _ := hx
  have HWX : Hid _ := hwx
  have HK : Hid (kd M x = 14) := hk
  have hk2 : (kd M x == 14) = true := by simp [hk]
  clear hla hag hx hwx hk
  unfold ndV
  go_enter Tryz.func38, Tryz.ntmps38
  go_wp2
  generalize w.alloc (Obj.cells #[Value.int IntKind.i64 (kd M x), Value.string (bsA (tx M x)), Value.int IntKind.i64 (nu M x), Value.int IntKind.i64 (pl M x), Value.slice s (ks M x).length c] 24) = W0 at *
  go_loopw [5] (fun i wr => ∃ k : Nat, k ≤ la ∧ i = .int .i64 k ∧ (((A.map (·.1)).take k).any fun y => samP M y x) = false ∧ Bel W0.heap.size W0 wr) (fun i _ => la - (intOf i).toNat)
  case atStart => exact ⟨0, Nat.zero_le _, rfl, rfl, Bel.refl _⟩
  case round =>
    obtain ⟨i, hi, rfl, hV, HBB⟩ := hrel
    have HV : Hid ((((A.map (·.1)).take i).any fun y => samP M y x) = false) := hV
    clear hV
    have hW := HBB.out
    have hBr : Below w.heap.size w wr := hB0.trans (hW.mono hB0.size)
    have d0 := cell_below hW d0
    have d1 := cell_below hW d1
    have d2 := cell_below hW d2
    have d3 := cell_below hW d3
    have d4 := cell_below hW d4
    rcases Nat.lt_or_ge i la with hlt | hge
    · obtain ⟨y, gy⟩ : ∃ y, (A.map (·.1))[i]? = some y := ⟨_, List.getElem?_eq_getElem (by rw [List.length_map, HLA.out]; exact hlt)⟩
      rcases HKS.out.2 with h | ⟨b, off, rfl, hc⟩
      · rw [h] at gy; simp at gy
      obtain ⟨sy, cy, ⟨c0, c1, c2, c3, c4⟩, hp⟩ := hc i _ gy
      have c0 := cell_below hBr c0
      have c1 := cell_below hBr c1
      have c2 := cell_below hBr c2
      have c3 := cell_below hBr c3
      have c4 := cell_below hBr c4
      have HP : Hid _ := NdAt.below hBr hp
      have HP' : Hid _ := NdAt.below hBr HX.out
      have h1 := fun W (hb : Below wr.heap.size wr W) => RSame_any M y x sy s cy c W (NdAt.below hb HP.out) (NdAt.below hb HP'.out)
      unfold ndV at h1
      have HH : Hid _ := h1
      have HZ : Hid _ := any_snoc (fun z => samP M z x) gy
      have HZ2 : Hid _ := any_yes (fun z => samP M z x) gy
      clear h1 hp hc gy
      cases hxy : samP M y x with
      | true =>
        have HN : Hid (((A.map (·.1)).any fun y => samP M y x) = true) := HZ2.out hxy
        rw [hxy] at HH
        clear HZ HZ2 HV hxy HP HP'
        go_wp2_with fail
        refine wp_region_held_drew (S := (fun wS => Bel wr.heap.size wr wS)) (by kernel_rfl) ?_ (fun hHeld => ?_)
        · (try dsimp only); exact (Bel.refl _).drew
        refine wpAnyH_take (i := 0) (oi := { dst := some 16, op := Op.move (Operand.tmp 1), type := 22, pos := "ref.go:390", after := #[], guard := none }) (v := ?_) rfl (by kernel_rfl) (by kernel_rfl) (by kernel_rfl) (fun _ _ _ h => h) (Or.inl ⟨by kernel_rfl, ?_⟩) (by assumption) ?_
        rotate_left
        · intro wS hSw; (try dsimp only at hSw); go_simp; (try with_reducible rfl)
        try simp only [Act.put, List.setIfInBounds_toArray, List.set_cons_zero, List.set_cons_succ]
        refine wpAnyH_take (i := 1) (oi := { dst := some 17, op := Op.move (Operand.tmp 5), type := 3, pos := "ref.go:390", after := #[], guard := none }) (v := ?_) rfl (by kernel_rfl) (by kernel_rfl) (by kernel_rfl) (fun _ _ _ h => h) (Or.inl ⟨by kernel_rfl, ?_⟩) (by assumption) ?_
        rotate_left
        · intro wS hSw; (try dsimp only at hSw); go_simp; (try with_reducible rfl)
        try simp only [Act.put, List.setIfInBounds_toArray, List.set_cons_zero, List.set_cons_succ]
        refine wpAnyH_take (i := 2) (oi := { dst := some 18, op := Op.indexAddr 22 (Operand.tmp 16) (Operand.tmp 17), type := 0, pos := "ref.go:390", after := #[{ on := 0, ground := Ground.data }, { on := 1, ground := Ground.data }], guard := none }) (v := ?_) rfl (by kernel_rfl) (by kernel_rfl) (by kernel_rfl) (fun _ _ _ h => h) (Or.inl ⟨by kernel_rfl, ?_⟩) (by assumption) ?_
        rotate_left
        · intro wS hSw; (try dsimp only at hSw); go_simp; (try with_reducible rfl)
        try simp only [Act.put, List.setIfInBounds_toArray, List.set_cons_zero, List.set_cons_succ]
        refine wpAnyH_take (i := 3) (oi := { dst := some 19, op := Op.load 24 (Operand.tmp 18), type := 24, pos := "ref.go:390", after := #[{ on := 2, ground := Ground.data }], guard := none }) (v := ?_) rfl (by kernel_rfl) (by kernel_rfl) (by kernel_rfl) (fun _ _ _ h => h) (Or.inl ⟨by kernel_rfl, ?_⟩) (by assumption) ?_
        rotate_left
        · intro wS hSw; (try dsimp only at hSw); have xm0 := cell_below hSw.out c0; have xm1 := cell_below hSw.out c1; have xm2 := cell_below hSw.out c2; have xm3 := cell_below hSw.out c3; have xm4 := cell_below hSw.out c4; go_simp; (try with_reducible rfl)
        try simp only [Act.put, List.setIfInBounds_toArray, List.set_cons_zero, List.set_cons_succ]
        refine wpAnyH_take (i := 4) (oi := { dst := some 20, op := Op.load 24 (Operand.tmp 2), type := 24, pos := "ref.go:390", after := #[], guard := none }) (v := ?_) rfl (by kernel_rfl) (by kernel_rfl) (by kernel_rfl) (fun _ _ _ h => h) (Or.inl ⟨by kernel_rfl, ?_⟩) (by assumption) ?_
        rotate_left
        · intro wS hSw; (try dsimp only at hSw); have ym0 := cell_below hSw.out d0; have ym1 := cell_below hSw.out d1; have ym2 := cell_below hSw.out d2; have ym3 := cell_below hSw.out d3; have ym4 := cell_below hSw.out d4; go_simp; (try with_reducible rfl)
        try simp only [Act.put, List.setIfInBounds_toArray, List.set_cons_zero, List.set_cons_succ]
        refine wpAnyH_ready (rs := [5]) (by kernel_rfl) (by simp) ?_
        refine AllReadyH.cons (o := { dst := some 21, op := Op.call { callee := Callee.value (Operand.func 19), args := #[Operand.tmp 19, Operand.tmp 20], argTypes := #[24, 24] }, type := 4, pos := "ref.go:390", after := #[{ on := 3, ground := Ground.data }, { on := 4, ground := Ground.data }], guard := none }) rfl (fun K hK => ?_) AllReadyH.nil
        go_simp
        go_at_call 19
        refine (HH.out _ (Below.refl wr.heap.size wr).drew).mono ?_
        rintro e w3 ⟨rfl, hb3⟩
        refine hK.out _ _ ?_ (fun hH5 => ?_)
        · (try dsimp only); exact Bel.step (Bel.refl _).drew hb3
        clear hK K
        try simp only [Act.put, List.setIfInBounds_toArray, List.set_cons_zero, List.set_cons_succ]
        refine wpAnyH_done (by kernel_rfl) ?_ _
        have hB3 := hBr.trans ((Bel.step (Bel.refl wr).drew hb3).out.mono hBr.size)
        go_wp2
        go_ret
        exact ⟨some ⟨b, off, none⟩, la, cv, A, rfl, HLA.out, HAG.out.below hB3, by simp only [List.foldl_cons, List.foldl_nil]; exact (agS_no HN.out).symm, AgG.below hB hB3⟩
      | false =>
        have HN : Hid ((((A.map (·.1)).take (i + 1)).any fun y => samP M y x) = false) := by show _ = _; rw [HZ.out, HV.out, hxy]; rfl
        rw [hxy] at HH
        clear HZ HZ2 HV hxy HP HP'
        go_wp2_with fail
        refine wp_region_held_drew (S := (fun wS => Bel wr.heap.size wr wS)) (by kernel_rfl) ?_ (fun hHeld => ?_)
        · (try dsimp only); exact (Bel.refl _).drew
        refine wpAnyH_take (i := 0) (oi := { dst := some 16, op := Op.move (Operand.tmp 1), type := 22, pos := "ref.go:390", after := #[], guard := none }) (v := ?_) rfl (by kernel_rfl) (by kernel_rfl) (by kernel_rfl) (fun _ _ _ h => h) (Or.inl ⟨by kernel_rfl, ?_⟩) (by assumption) ?_
        rotate_left
        · intro wS hSw; (try dsimp only at hSw); go_simp; (try with_reducible rfl)
        try simp only [Act.put, List.setIfInBounds_toArray, List.set_cons_zero, List.set_cons_succ]
        refine wpAnyH_take (i := 1) (oi := { dst := some 17, op := Op.move (Operand.tmp 5), type := 3, pos := "ref.go:390", after := #[], guard := none }) (v := ?_) rfl (by kernel_rfl) (by kernel_rfl) (by kernel_rfl) (fun _ _ _ h => h) (Or.inl ⟨by kernel_rfl, ?_⟩) (by assumption) ?_
        rotate_left
        · intro wS hSw; (try dsimp only at hSw); go_simp; (try with_reducible rfl)
        try simp only [Act.put, List.setIfInBounds_toArray, List.set_cons_zero, List.set_cons_succ]
        refine wpAnyH_take (i := 2) (oi := { dst := some 18, op := Op.indexAddr 22 (Operand.tmp 16) (Operand.tmp 17), type := 0, pos := "ref.go:390", after := #[{ on := 0, ground := Ground.data }, { on := 1, ground := Ground.data }], guard := none }) (v := ?_) rfl (by kernel_rfl) (by kernel_rfl) (by kernel_rfl) (fun _ _ _ h => h) (Or.inl ⟨by kernel_rfl, ?_⟩) (by assumption) ?_
        rotate_left
        · intro wS hSw; (try dsimp only at hSw); go_simp; (try with_reducible rfl)
        try simp only [Act.put, List.setIfInBounds_toArray, List.set_cons_zero, List.set_cons_succ]
        refine wpAnyH_take (i := 3) (oi := { dst := some 19, op := Op.load 24 (Operand.tmp 18), type := 24, pos := "ref.go:390", after := #[{ on := 2, ground := Ground.data }], guard := none }) (v := ?_) rfl (by kernel_rfl) (by kernel_rfl) (by kernel_rfl) (fun _ _ _ h => h) (Or.inl ⟨by kernel_rfl, ?_⟩) (by assumption) ?_
        rotate_left
        · intro wS hSw; (try dsimp only at hSw); have xm0 := cell_below hSw.out c0; have xm1 := cell_below hSw.out c1; have xm2 := cell_below hSw.out c2; have xm3 := cell_below hSw.out c3; have xm4 := cell_below hSw.out c4; go_simp; (try with_reducible rfl)
        try simp only [Act.put, List.setIfInBounds_toArray, List.set_cons_zero, List.set_cons_succ]
        refine wpAnyH_take (i := 4) (oi := { dst := some 20, op := Op.load 24 (Operand.tmp 2), type := 24, pos := "ref.go:390", after := #[], guard := none }) (v := ?_) rfl (by kernel_rfl) (by kernel_rfl) (by kernel_rfl) (fun _ _ _ h => h) (Or.inl ⟨by kernel_rfl, ?_⟩) (by assumption) ?_
        rotate_left
        · intro wS hSw; (try dsimp only at hSw); have ym0 := cell_below hSw.out d0; have ym1 := cell_below hSw.out d1; have ym2 := cell_below hSw.out d2; have ym3 := cell_below hSw.out d3; have ym4 := cell_below hSw.out d4; go_simp; (try with_reducible rfl)
        try simp only [Act.put, List.setIfInBounds_toArray, List.set_cons_zero, List.set_cons_succ]
        refine wpAnyH_ready (rs := [5]) (by kernel_rfl) (by simp) ?_
        refine AllReadyH.cons (o := { dst := some 21, op := Op.call { callee := Callee.value (Operand.func 19), args := #[Operand.tmp 19, Operand.tmp 20], argTypes := #[24, 24] }, type := 4, pos := "ref.go:390", after := #[{ on := 3, ground := Ground.data }, { on := 4, ground := Ground.data }], guard := none }) rfl (fun K hK => ?_) AllReadyH.nil
        go_simp
        go_at_call 19
        refine (HH.out _ (Below.refl wr.heap.size wr).drew).mono ?_
        rintro e w3 ⟨rfl, hb3⟩
        refine hK.out _ _ ?_ (fun hH5 => ?_)
        · (try dsimp only); exact Bel.step (Bel.refl _).drew hb3
        clear hK K
        try simp only [Act.put, List.setIfInBounds_toArray, List.set_cons_zero, List.set_cons_succ]
        refine wpAnyH_done (by kernel_rfl) ?_ _
        have hB3 := hW.trans ((Bel.step (Bel.refl wr).drew hb3).out.mono hW.size)
        go_wp2
        go_roundw
        case rel => exact ⟨_, .int .i64 ((i : Int) + 1), _, _, _, _, _, _, _, _, _, _, _, _, _, ⟨i + 1, by omega, by go_num, HN.out, ⟨hB3, hB3.size⟩⟩, rfl⟩
        case measure => simp [intOf]; omega
    · have HN : Hid (((A.map (·.1)).any fun y => samP M y x) = false) := by
        show _ = _
        rw [← HV.out, List.take_of_length_le (by rw [List.length_map, HLA.out]; exact hge)]
      have HCP := RCopy_any M x HWX.out s c wr (NdAt.below hBr HX.out)
      unfold ndV at HCP
      obtain ⟨i0, hi0, hz0⟩ := Option.map_eq_some_iff.1 info24
      simp only [Prod.mk.injEq] at hz0
      obtain ⟨hz1, hzs, hz3⟩ := hz0
      have HOWN : Hid (w.ownsRow B 24 5 (.slice sv la cv) la (agC M A)) := by
        have h := HAG.out.1
        rw [HLA.out] at h
        exact h
      clear HV HKS
      go_wp2_with fail
      refine HCP.mono ?_
      rintro e w3 ⟨⟨s', c', rfl, hF⟩, hb3⟩
      clear HCP
      have hX3 : Below w.heap.size w w3 := hBr.trans (hb3.mono hBr.size)
      have HF3 : Hid _ := hF
      clear hF
      have hX4 : Below w.heap.size w (w3.alloc (Obj.cells #[Value.int IntKind.i64 (kd M x), Value.string (bsA (tx M x)), Value.int IntKind.i64 (nu M x), Value.int IntKind.i64 (pl M x), Value.slice s' (ks M x).length c'] 24)) := hX3.alloc hX3.size _
      have HOW4 : Hid ((w3.alloc (Obj.cells #[Value.int IntKind.i64 (kd M x), Value.string (bsA (tx M x)), Value.int IntKind.i64 (nu M x), Value.int IntKind.i64 (pl M x), Value.slice s' (ks M x).length c'] 24)).ownsRow B 24 5 (.slice sv la cv) la (agC M A)) := owns_below HOWN.out hX4
      have hone : Hid (∀ u ∈ ndC M (x, s', c'), u.oneCell' = true) := by
        intro u hu
        simp only [ndC, List.mem_cons, List.not_mem_nil, or_false] at hu
        rcases hu with rfl | rfl | rfl | rfl | rfl <;> rfl
      have hnl : la + 1 ≤ maxLen := by unfold maxLen; omega
      have hbs : B ≤ (w3.alloc (Obj.cells #[Value.int IntKind.i64 (kd M x), Value.string (bsA (tx M x)), Value.int IntKind.i64 (nu M x), Value.int IntKind.i64 (pl M x), Value.slice s' (ks M x).length c'] 24)).heap.size := by have := hX3.size; simp; omega
      clear d0 d1 d2 d3 d4
      go_wp2_with (at_builtin; refine wpList_append_lies _ rfl _ _ 22 rfl B 24 i0 (.agg #[.int .i64 0, .string ⟨#[]⟩, .int .i64 0, .int .i64 0, .slice none 0 0]) 5 64 Tryz.underlying22 hi0 hz1 hzs hz3 rfl (by decide) _ la (agC M A) rfl HOW4.out ⟨w3.heap.size, 0, none⟩ 1 1 (ndC M (x, s', c')) rfl rfl (nd_cells w3 M x s' c') hone.out (by decide) hnl hby hbs _ rfl ?_)
      intro g cap w1 hown1 hgrow1 hlies hg1
      obtain ⟨hag9, hbk9⟩ := agg_push M x w (w3.alloc (Obj.cells #[Value.int IntKind.i64 (kd M x), Value.string (bsA (tx M x)), Value.int IntKind.i64 (nu M x), Value.int IntKind.i64 (pl M x), Value.slice s' (ks M x).length c'] 24)) w1 B g cap w.heap.size _ A s' c' HAG.out hX4 (Nat.le_refl _) (NdF.below ((Below.refl _ w3).alloc (Nat.le_refl _) _) (NdF.keep hBr.size (fun _ _ _ => rfl) HF3.out)) (by rw [HLA.out]; exact hown1) hgrow1 (by simpa using hlies) hB
      rw [HLA.out] at hag9
      have HAG9 : Hid (AgAt B M w1 (.slice (some ⟨g, 0, none⟩) (la + 1) cap) (A ++ [(x, s', c')])) := hag9
      have HG9 : Hid (AgG B (.slice sv la cv) w (.slice (some ⟨g, 0, none⟩) (la + 1) cap) w1) := by
        refine ⟨(hX4.mono hB).grown hgrow1 (by have := hX4.size; omega) (fun q hq => ?_), fun b hb hn => (hbk9 b (Nat.lt_of_lt_of_le hb hX4.size) hn).trans (hX4.block b hb), fun b hb => ?_⟩
        · exact (HAG.out.lt q hq).1
        · obtain rfl : g = b := Option.some.inj hb
          rcases hlies with h | h
          · exact Or.inl h
          · exact Or.inr (by have := hX3.size; omega)
      have HM9 : Hid ((A ++ [(x, s', c')]).map (·.1) = [x].foldl (agS M) (A.map (·.1))) := by
        show _ = _
        rw [List.foldl_cons, List.foldl_nil, agS_yes HK.out HN.out, List.map_append]
        rfl
      have HL9 : Hid ((A ++ [(x, s', c')]).length = la + 1) := by show _ = _; rw [List.length_append, HLA.out]; rfl
      clear hag9 hbk9 hown1 hgrow1 hlies
      go_wp2
      go_ret
      exact ⟨_, _, _, A ++ [(x, s', c')], rfl, HL9.out, HAG9.out, HM9.out, HG9.out⟩
theorem agF_len (M : Nat) : ∀ (l acc : List (Tr M)), (l.foldl (agS M) acc).length ≤ acc.length + l.length
  | [], acc => by simp
  | t :: l, acc => by
    have h1 := agF_len M l (agS M acc t)
    have h2 : (agS M acc t).length ≤ acc.length + 1 := by
      unfold agS
      split
      · simp
      · omega
    simp only [List.foldl_cons, List.length_cons]
    omega
/-- A tree as a tree of a greater bound. -/
structure Lft (n M : Nat) (L : Tr n → Tr M) : Prop where
  V : ∀ y s c, ndV M (L y) s c = ndV n y s c
  A : ∀ w y s, NdAt w n y s → NdAt w M (L y) s
  W : ∀ y, Wid n y → Wid M (L y)
theorem Lft.up {n M : Nat} {L : Tr (n + 1) → Tr M} (h : Lft (n + 1) M L) : Lft n M (fun z => L (up n z)) :=
  ⟨fun y s c => (h.V _ _ _).trans (ndV_up n y s c), fun w y s k => h.A w _ _ (ndAt_up n y s k), fun y k => h.W _ (wid_up n y k)⟩
theorem Lft.kd {n M : Nat} {L : Tr n → Tr M} (h : Lft n M L) (x : Tr n) : kd M (L x) = kd n x := by
  have := h.V x none 0
  unfold ndV at this
  simp only [Value.agg.injEq, Array.mk.injEq, List.cons.injEq, Value.int.injEq] at this
  exact this.1.2
def RAggIH (n M : Nat) (L : Tr n → Tr M) (y : Tr n) : Prop := ∀ (s sv : Option Addr) (c B la cv : Nat) (A : List (Ag M)) (w0 w : World), w0.heap.size ≤ B → B ≤ w.heap.size → Below w0.heap.size w0 w → NdAt w0 n y s → A.length = la → AgAt B M w (.slice sv la cv) A → (la + (flF n y).length) * 64 ≤ 140737488355328 →
  Calls Tryz.prog 38 #[ndV n y s c, .slice sv la cv] w (RAggPost B M (.slice sv la cv) A ((flF n y).map L) w)
set_option linter.unusedSimpArgs false in
set_option maxRecDepth 20000 in
set_option maxHeartbeats 8000000 in
theorem RAgg_k (n M : Nat) (L : Tr n → Tr M) (k : Int) (hk : (k == 14) = false) (t : List UInt8) (m a : Int) (l : List (Tr n)) (b off c B la cv : Nat) (sv : Option Addr) (A : List (Ag M)) (w0 w : World) (h63 : l.length ≤ 9223372036854775807) (hw0 : w0.heap.size ≤ B) (hB : B ≤ w.heap.size) (hbw : Below w0.heap.size w0 w) (hc : ∀ i y, l[i]? = some y → ∃ s c, (w0.cell? ⟨b, off + i * 5, none⟩ = some (.int .i64 (kd n y)) ∧ w0.cell? ⟨b, off + i * 5 + 1, none⟩ = some (.string (bsA (tx n y))) ∧ w0.cell? ⟨b, off + i * 5 + 2, none⟩ = some (.int .i64 (nu n y)) ∧ w0.cell? ⟨b, off + i * 5 + 3, none⟩ = some (.int .i64 (pl n y)) ∧ w0.cell? ⟨b, off + i * 5 + 4, none⟩ = some (.slice s (ks n y).length c)) ∧ NdAt w0 n y s) (ih : ∀ y ∈ l, RAggIH n M L y) (hla : A.length = la) (hag : AgAt B M w (.slice sv la cv) A) (hby : (la + (l.flatMap (flF n)).length) * 64 ≤ 140737488355328) :
    Calls Tryz.prog 38 #[.agg #[.int .i64 k, .string (bsA t), .int .i64 m, .int .i64 a, .slice (some ⟨b, off, none⟩) l.length c], .slice sv la cv] w (RAggPost B M (.slice sv la cv) A (l.flatMap fun y => (flF n y).map L) w) := by
  have HIH0 : Hid _ := ih
  have HC : Hid _ := hc
  have HLA : Hid (A.length = la) := hla
  have HAG : Hid (AgAt B M w (.slice sv la cv) A) := hag
  have HBW : Hid _ := hbw
  have HBY : Hid _ := hby
  have HOL : Hid _ := hag.lt
  have hB0 : Below w.heap.size w (w.alloc (Obj.cells #[Value.int IntKind.i64 k, Value.string (bsA t), Value.int IntKind.i64 m, Value.int IntKind.i64 a, Value.slice (some ⟨b, off, none⟩) l.length c] 24)) := (Below.refl _ w).alloc (Nat.le_refl _) _
  have hsz : (w.alloc (Obj.cells #[Value.int IntKind.i64 k, Value.string (bsA t), Value.int IntKind.i64 m, Value.int IntKind.i64 a, Value.slice (some ⟨b, off, none⟩) l.length c] 24)).heap.size = w.heap.size + 1 := by simp
  obtain ⟨d0, -, -, -, d4⟩ := box5_new w (.int .i64 k) (.string (bsA t)) (.int .i64 m) (.int .i64 a) (.slice (some ⟨b, off, none⟩) l.length c) 24
  have HD4 : Hid _ := d4
  have HB0 : Hid _ := hB0
  clear ih hc hla hag hbw hby hB0
  go_enter Tryz.func38, Tryz.ntmps38
  go_wp2
  generalize w.alloc (Obj.cells #[Value.int IntKind.i64 k, Value.string (bsA t), Value.int IntKind.i64 m, Value.int IntKind.i64 a, Value.slice (some ⟨b, off, none⟩) l.length c] 24) = W0 at *
  clear d0 d4
  go_loopw [1, 6] (fun o y wr => ∃ (i : Nat) (sv' : Option Addr) (la' cv' : Nat) (A' : List (Ag M)), i ≤ l.length ∧ y = .int .i64 i ∧ o = .slice sv' la' cv' ∧ A'.length = la' ∧ AgAt B M wr (.slice sv' la' cv') A' ∧ A'.map (·.1) = ((l.take i).flatMap fun y => (flF n y).map L).foldl (agS M) (A.map (·.1)) ∧ AgG B (.slice sv la cv) W0 (.slice sv' la' cv') wr ∧ wr.cell? ⟨w.heap.size, 4, none⟩ = some (.slice (some ⟨b, off, none⟩) l.length c)) (fun _ y _ => l.length - (intOf y).toNat)
  case atStart => exact ⟨0, sv, la, cv, A, Nat.zero_le _, rfl, rfl, HLA.out, HAG.out.below HB0.out, rfl, AgG.below (by omega) (Below.refl _ _), HD4.out⟩
  case round =>
    obtain ⟨i, sv', la', cv', A', hi, rfl, rfl, hla', hag', hmap, hG, x4⟩ := hrel
    have HLA' : Hid (A'.length = la') := hla'
    have HAG' : Hid (AgAt B M wr (.slice sv' la' cv') A') := hag'
    have HMP : Hid _ := hmap
    have HG : Hid _ := hG
    have hws : W0.heap.size ≤ wr.heap.size := hG.b0.size
    clear hla' hag' hmap hG
    rcases Nat.lt_or_ge i l.length with hlt | hge
    · obtain ⟨y, gy⟩ : ∃ y, l[i]? = some y := ⟨_, List.getElem?_eq_getElem hlt⟩
      obtain ⟨sy, cy, ⟨c0, c1, c2, c3, c4⟩, hp⟩ := HC.out i _ gy
      have hBr : Below w0.heap.size w0 wr := HBW.out.trans ((HB0.out.mono (by have := HBW.out.size; omega)).trans (HG.out.b0.mono (by omega)))
      have c0 := cell_below hBr c0
      have c1 := cell_below hBr c1
      have c2 := cell_below hBr c2
      have c3 := cell_below hBr c3
      have c4 := cell_below hBr c4
      have hl' : la' ≤ la + ((l.take i).flatMap (flF n)).length := by
        have h1 := congrArg List.length HMP.out
        have h2 := agF_len M ((l.take i).flatMap fun y => (flF n y).map L) (A.map (·.1))
        rw [← h1, List.length_map, List.length_map, fm_len, HLA'.out, HLA.out] at h2
        exact h2
      have hfl := fm_le (flF n) gy
      have h1 := HIH0.out y (List.mem_of_getElem? gy) sy sv' cy B la' cv' A' w0 wr hw0 (by omega) hBr hp HLA'.out HAG'.out (by have := HBY.out; omega)
      unfold ndV at h1
      have HFS : Hid _ := fm_snoc (fun y => (flF n y).map L) gy
      clear hp gy hl' hfl
      go_wp2_with fail
      refine h1.mono ?_
      rintro e w3 ⟨s3, l3, c3', A3, rfl, hl3, ha3, hm3, hg3⟩
      have hx : (Value.slice sv' la' cv').ownBlock ≠ some w.heap.size := fun e => by
        rcases HG.out.own _ e with e | e
        · have := (HOL.out _ e).2; omega
        · omega
      have x4 := cell_same x4 (hg3.blk w.heap.size (by omega) hx)
      have HM3 : Hid (A3.map (·.1) = ((l.take (i + 1)).flatMap fun y => (flF n y).map L).foldl (agS M) (A.map (·.1))) := by
        show _ = _
        rw [HFS.out, List.foldl_append, ← HMP.out]
        exact hm3
      have HA3 : Hid (AgAt B M w3 (.slice s3 l3 c3') A3) := ha3
      have HL3 : Hid (A3.length = l3) := hl3
      have HG3 : Hid _ := HG.out.trans hg3
      clear h1 hm3 ha3 hl3 hg3 hx
      go_wp2
      go_roundw
      case rel => exact ⟨i + 1, s3, l3, c3', A3, by omega, by go_num, rfl, HL3.out, HA3.out, HM3.out, HG3.out, x4⟩
      case measure => simp [intOf]; omega
    · have HT : Hid (A'.map (·.1) = (l.flatMap fun y => (flF n y).map L).foldl (agS M) (A.map (·.1))) := by
        show _ = _
        rw [HMP.out, List.take_of_length_le hge]
      have HGE : Hid _ := (AgG.below (v := .slice sv la cv) hB HB0.out).trans HG.out
      go_wp2
      go_ret
      exact ⟨sv', la', cv', A', rfl, HLA'.out, HAG'.out, HT.out, HGE.out⟩
set_option linter.unusedSimpArgs false in
set_option maxRecDepth 20000 in
set_option maxHeartbeats 8000000 in
theorem RAgg_0 (M : Nat) (k : Int) (hk : (k == 14) = false) (t : List UInt8) (m a : Int) (s sv : Option Addr) (c B la cv : Nat) (A : List (Ag M)) (w : World) (hB : B ≤ w.heap.size) (hla : A.length = la) (hag : AgAt B M w (.slice sv la cv) A) :
    Calls Tryz.prog 38 #[.agg #[.int .i64 k, .string (bsA t), .int .i64 m, .int .i64 a, .slice s 0 c], .slice sv la cv] w (RAggPost B M (.slice sv la cv) A [] w) := by
  have HLA : Hid (A.length = la) := hla
  have HAG : Hid (AgAt B M w (.slice sv la cv) A) := hag
  have HB0 : Hid (Below w.heap.size w (w.alloc (Obj.cells #[Value.int IntKind.i64 k, Value.string (bsA t), Value.int IntKind.i64 m, Value.int IntKind.i64 a, Value.slice s 0 c] 24))) := (Below.refl _ w).alloc (Nat.le_refl _) _
  clear hla hag
  go_enter Tryz.func38, Tryz.ntmps38
  go_wp2
  refine wp_loop_rounds 1 ?_
  rw [rounds_succ]
  go_wp2
  go_ret
  exact ⟨sv, la, cv, A, rfl, HLA.out, HAG.out.below HB0.out, rfl, AgG.below hB HB0.out⟩
theorem RAgg_any : ∀ (n M : Nat) (L : Tr n → Tr M), Lft n M L → ∀ x : Tr n, Wid n x → RAggIH n M L x
  | 0, _, _, _, x, _ => Empty.elim x
  | n + 1, M, L, hL, x, hwx => by
    intro s sv c B la cv A w0 w hw0 hB hbw hx hla hag hby
    by_cases hk : kd (n + 1) x = 14
    · have e : flF (n + 1) x = [x] := by rw [flF, if_pos hk]
      rw [e] at hby ⊢
      rw [← hL.V]
      exact RAgg_14 M (L x) ((hL.kd x).trans hk) (hL.W x hwx) s sv c B la cv A hla w (hL.A w x s (NdAt.below hbw hx)) hag hB hby
    · have e : flF (n + 1) x = x :: (ks (n + 1) x).flatMap fun y => (flF n y).map (up n) := by rw [flF, if_neg hk]
      have ef : ∀ acc : List (Tr M), ((flF (n + 1) x).map L).foldl (agS M) acc = ((ks (n + 1) x).flatMap fun y => (flF n y).map fun z => L (up n z)).foldl (agS M) acc := fun acc => by
        rw [e, List.map_cons, List.foldl_cons, agS_ne (by rw [hL.kd]; exact hk), List.map_flatMap]
        simp only [List.map_map]
        rfl
      have hk2 : (kd (n + 1) x == 14) = false := by simpa using hk
      have hl : (flF (n + 1) x).length = 1 + ((ks (n + 1) x).flatMap (flF n)).length := by rw [e, List.length_cons, fm_len]; omega
      obtain ⟨h63, hx⟩ := hx
      unfold ndV
      rcases hx with h0 | ⟨b, off, rfl, hc⟩
      · have h1 := RAgg_0 M (kd (n + 1) x) hk2 (tx (n + 1) x) (nu (n + 1) x) (pl (n + 1) x) s sv c B la cv A w hB hla hag
        rw [h0]
        refine h1.mono fun e w' h => ?_
        obtain ⟨v1, v2, v3, A', he, h2, h3, h4, h5⟩ := h
        exact ⟨v1, v2, v3, A', he, h2, h3, by rw [ef, h0]; exact h4, h5⟩
      · have h1 := RAgg_k n M (fun z => L (up n z)) (kd (n + 1) x) hk2 (tx (n + 1) x) (nu (n + 1) x) (pl (n + 1) x) (ks (n + 1) x) b off c B la cv sv A w0 w h63 hw0 hB hbw hc (fun y hy => RAgg_any n M _ hL.up y (hwx.2 y hy)) hla hag (by omega)
        refine h1.mono fun e w' h => ?_
        obtain ⟨v1, v2, v3, A', he, h2, h3, h4, h5⟩ := h
        exact ⟨v1, v2, v3, A', he, h2, h3, by rw [ef]; exact h4, h5⟩
set_option linter.unusedSimpArgs false in
set_option maxRecDepth 20000 in
set_option maxHeartbeats 8000000 in
theorem RAggs_any (M : Nat) (x : Tr M) (s : Option Addr) (c : Nat) (w : World) (hx : NdAt w M x s) (hwx : Wid M x) (hby : (flF M x).length * 64 ≤ 140737488355328) :
    Calls Tryz.prog 22 #[ndV M x s c] w fun e w' => (∃ v A, e = .returned v ∧ AgAt (w.heap.size + 1) M w' v A ∧ A.map (·.1) = agP M (flF M x)) ∧ Below w.heap.size w w' := by
  have hB0 : Below w.heap.size w (w.alloc (Obj.cells #[Value.int IntKind.i64 (kd M x), Value.string (bsA (tx M x)), Value.int IntKind.i64 (nu M x), Value.int IntKind.i64 (pl M x), Value.slice s (ks M x).length c] 24)) := (Below.refl _ w).alloc (Nat.le_refl _) _
  have h1 := RAgg_any M M (fun z => z) ⟨fun _ _ _ => rfl, fun _ _ _ h => h, fun _ h => h⟩ x hwx s none c (w.heap.size + 1) 0 0 [] w (w.alloc (Obj.cells #[Value.int IntKind.i64 (kd M x), Value.string (bsA (tx M x)), Value.int IntKind.i64 (nu M x), Value.int IntKind.i64 (pl M x), Value.slice s (ks M x).length c] 24)) (by omega) (by simp) hB0 hx rfl ⟨World.ownsRow_nil _ _ _ _, fun p hp => by cases hp⟩ (by omega)
  unfold ndV at h1 ⊢
  have HB0 : Hid _ := hB0
  clear hB0
  go_enter Tryz.func22, Tryz.ntmps22
  go_wp2_with fail
  refine h1.mono ?_
  rintro e w3 ⟨s3, l3, c3, A3, rfl, hl3, ha3, hm3, hg3⟩
  have HE : Hid _ := HB0.out.trans (hg3.b0.mono (by omega))
  have HA3 : Hid (AgAt (w.heap.size + 1) M w3 (.slice s3 l3 c3) A3) := ha3
  have HM3 : Hid (A3.map (·.1) = agP M (flF M x)) := by show _ = _; rw [hm3, List.map_id']; rfl
  clear h1 hg3 ha3 hm3
  go_wp2
  go_ret
  exact ⟨⟨_, A3, rfl, HA3.out, HM3.out⟩, HE.out⟩
end Go.Proofs.YtcemogaacicnfaaGreatDoor
