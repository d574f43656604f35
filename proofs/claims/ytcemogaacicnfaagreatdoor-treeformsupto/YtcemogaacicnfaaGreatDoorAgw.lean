/- The aggregates that stand in a tree (Aggs). -/
import Derived.Test.YtcemogaacicnfaaGreatDoorAgf
namespace Go.Proofs.YtcemogaacicnfaaGreatDoor
open Go.ChangeShapes Go.WideShapes Go.ChangeAt Go.RowKit Go.Shelf
attribute [local go_sem] Oper.semAt_some

/-- What the collecting has in its box. -/
def AgI (B Bx M : Nat) (l : List (Tr M)) (W : World) : Prop := (∃ v A, Boxed W Bx 22 v ∧ AgAt B M W v A ∧ A.map (·.1) = agP M l) ∧ B ≤ W.heap.size
theorem AgI.congr {B Bx M : Nat} {l l' : List (Tr M)} {W : World} (h : AgI B Bx M l W) (e : agP M l = agP M l') : AgI B Bx M l' W := by
  obtain ⟨⟨v, A, hv, ha, hA⟩, hB⟩ := h
  exact ⟨⟨v, A, hv, ha, hA.trans e⟩, hB⟩
theorem AgAt.own {B M : Nat} {X Y : World} {v : Value} {A : List (Ag M)} {row : Option Nat} (h : AgAt B M X v A) (hg : X.grownBy Y row) (hrow : ∀ r, row = some r → ∃ o : Obj, X.heap[r]? = some o ∧ o.isCells = false) : AgAt B M Y v A := by
  obtain ⟨hr, hq⟩ := h
  refine ⟨hr.kept hg ?_, fun p hp => NdQ.keep (fun b z hb hz hc => ⟨(grownBy_keeps_cells hg hrow hz hc).trans hz, hb⟩) (hq p hp)⟩
  rcases hr.2 with ⟨rfl, _⟩ | ⟨g, cap, cur, rfl, _, hgb, _⟩
  · exact .inl rfl
  · refine .inr fun e' => ?_
    obtain ⟨o, ho, hc⟩ := hrow g (by simpa [Value.ownBlock] using e'.symm)
    rw [hgb] at ho; cases ho; cases hc
theorem agI_own {β : Type} (B Bx M : Nat) (f : β → List (Tr M)) : Own (fun s W => AgI B Bx M (f s) W) := by
  rintro s X Y row ⟨⟨v, A, hv, ⟨hr, hq⟩, hA⟩, hB⟩ hg hrow
  refine ⟨⟨v, A, hv.kept hg (fun e' => ?_), ⟨hr.kept hg ?_, fun p hp => NdQ.keep (fun b z hb hz hc => ⟨(grownBy_keeps_cells hg hrow hz hc).trans hz, hb⟩) (hq p hp)⟩, hA⟩, Nat.le_trans hB hg.size⟩
  · obtain ⟨o, ho, hc⟩ := hrow Bx e'.symm
    rw [show X.heap[Bx]? = _ from hv] at ho; cases ho; cases hc
  · rcases hr.2 with ⟨rfl, _⟩ | ⟨g, cap, cur, rfl, _, hgb, _⟩
    · exact .inl rfl
    · refine .inr fun e' => ?_
      obtain ⟨o, ho, hc⟩ := hrow g (by simpa [Value.ownBlock] using e'.symm)
      rw [hgb] at ho; cases ho; cases hc
theorem ka_b {n₀ B Bx : Nat} {w : World} (hx : Bx < w.heap.size) (W : World) (l : Nat) (o o' : Obj) (hl : w.heap.size ≤ l) (h : W.heap[l]? = some o) (ho : o.isCells = false) (_ : o.isWalk = false) : Ka n₀ B Bx W (W.putObj l o') := by
  have e : (W.putObj l o').heap[Bx]? = W.heap[Bx]? := by
    rcases Nat.lt_or_ge Bx W.heap.size with hlt | hge
    · exact (grownBy_putObj' W l o').block Bx hlt (fun e => by cases e; omega)
    · have := heap_lt h; omega
  refine ⟨(grownBy_putObj' W l o').size, fun k x _ _ hx hc => ?_, fun b hb => Or.inl (ptr_same e hb)⟩
  rw [← hx]
  refine (grownBy_putObj' W l o').block k (heap_lt hx) ?_
  intro e
  cases e
  rw [h] at hx; cases hx
  rw [ho] at hc; cases hc
theorem AgI.iva {B Bx M : Nat} {l : List (Tr M)} {W : World} (h : AgI B Bx M l W) : Iva B Bx W := by
  obtain ⟨⟨v, A, hv, ⟨hr, _⟩, _⟩, hB⟩ := h
  refine ⟨hB, fun b hb => ?_⟩
  obtain ⟨u, hu, hb⟩ := hb
  rw [hv.cell] at hu
  cases hu
  rcases hr.2 with ⟨rfl, _⟩ | ⟨g, cap, cur, rfl, hg1, hg2, _⟩
  · cases hb
  · cases hb
    exact ⟨hg1, heap_lt hg2⟩
theorem AgI.grown {B Bx M : Nat} {l : List (Tr M)} {W W' : World} (h : AgI B Bx M l W) (hb : Below W.heap.size W W') : AgI B Bx M l W' := by
  obtain ⟨⟨v, A, hv, ⟨hr, hq⟩, hA⟩, hB⟩ := h
  exact ⟨⟨v, A, (hb.block Bx hv.lt).trans hv, ⟨owns_below hr hb, fun p hp => NdQ.keep (fun b z hb' hz _ => ⟨(hb.block b (heap_lt hz)).trans hz, hb'⟩) (hq p hp)⟩, hA⟩, Nat.le_trans hB hb.size⟩
theorem ka_below {n₀ B Bx : Nat} {W W' : World} (h : Below W.heap.size W W') (hx : Bx < W.heap.size) : Ka n₀ B Bx W W' :=
  ⟨h.size, fun b _ _ _ ho _ => (h.block b (heap_lt ho)).trans ho, fun _ hb => Or.inl (ptr_same (h.block Bx hx) hb)⟩
theorem keeps_below {W W' : World} (h : Below W.heap.size W W') : KeepsOthers W W' := ⟨h.size, fun k _ ho _ => (h.block k (heap_lt ho)).trans ho⟩
theorem agS_len (M : Nat) : ∀ (l : List (Tr M)), (agP M l).length ≤ l.length := by
  intro l
  have key : ∀ (l acc : List (Tr M)), (l.foldl (agS M) acc).length ≤ acc.length + l.length := by
    intro l
    induction l with
    | nil => intro acc; simp
    | cons t l ih =>
      intro acc
      have h1 := ih (agS M acc t)
      have h2 : (agS M acc t).length ≤ acc.length + 1 := by
        unfold agS
        split
        · simp
        · omega
      simp only [List.foldl_cons, List.length_cons]
      omega
  have := key l []
  simpa [agP] using this
set_option maxRecDepth 100000 in
set_option maxHeartbeats 4000000 in
theorem Aggs_in (F : Fence) (hd : F.depth = none) (hall : ∀ (m : Nat) (f : FuncId) (args : Array Value) (W : World) (R : Ending → World → Prop), Calls Tryz.prog f args W R → CallsIn F m Tryz.prog f args W R) (n : Nat) (h20 : F.fn 20) (h29 : F.fn 29) (h81 : F.fn 81) (h82 : F.fn 82) (h36 : F.fn 36) (h37 : F.fn 37) (h15 : F.fn 15) (hro : F.round = none) (hn : 3 ≤ n) (M : Nat) (x : Tr M) (s : Option Addr) (c : Nat) (w : World) (hx : NdAt w M x s) (hM : (M : Int) ≤ 8000000000000000000) (hN : (flat (fun k => !decide (k = 14)) M x 1).length * 64 + 64 ≤ 140737488355328) (hwx : Wid M x) :
    CallsIn F n Tryz.prog 20 #[ndV M x s c] w fun e W' => (∃ v A, e = .returned v ∧ AgAt (w.heap.size + 4) M W' v A ∧ A.map (·.1) = agP M ((flat (fun k => !decide (k = 14)) M x 1).map (·.1))) ∧ Below w.heap.size w W' := by
  have h1 : 1 ≤ n := by omega
  have hdd : ∀ k : Nat, (F.depth.isSome = true → 1 ≤ k) := fun k h => by rw [hd] at h; cases h
  unfold ndV
  refine callsIn_of_wp_marks Tryz.func20 rfl h20 ?_ hro
  simp only [Tryz.ntmps20, List.size_toArray, List.length_cons, List.length_nil, Nat.reduceAdd, Nat.reduceSub, Array.replicate_succ, Array.replicate_zero, List.push_toArray, List.append_toArray, List.nil_append, List.cons_append]
  gi_wp2_with ((try refine ⟨hdd _, ?_⟩); gi_at_call 29; refine (trees_in F _ h29 hro _ _ _ _ _ _ _).mono ?_; rintro e w' ⟨rfl, rfl⟩)
  have g1 : Boxed ((w.alloc (Obj.cells #[Value.int IntKind.i64 (kd M x), Value.string (bsA (tx M x)), Value.int IntKind.i64 (nu M x), Value.int IntKind.i64 (pl M x), Value.slice s (ks M x).length c] 24)).alloc (Obj.cells #[Value.slice none 0 0] 22)) (w.heap.size + 1) 22 (.slice none 0 0) := by
    have := Boxed.new (w.alloc (Obj.cells #[Value.int IntKind.i64 (kd M x), Value.string (bsA (tx M x)), Value.int IntKind.i64 (nu M x), Value.int IntKind.i64 (pl M x), Value.slice s (ks M x).length c] 24)) 22 (.slice none 0 0)
    rw [World.size_alloc] at this
    exact this
  obtain ⟨d0, d1, d2, d3, d4⟩ := box5_new ((w.alloc (Obj.cells #[Value.int IntKind.i64 (kd M x), Value.string (bsA (tx M x)), Value.int IntKind.i64 (nu M x), Value.int IntKind.i64 (pl M x), Value.slice s (ks M x).length c] 24)).alloc (Obj.cells #[Value.slice none 0 0] 22)) (.int .i64 (kd M x)) (.string (bsA (tx M x))) (.int .i64 (nu M x)) (.int .i64 (pl M x)) (.slice s (ks M x).length c) 24
  obtain ⟨g3, _⟩ := cell1_new (((w.alloc (Obj.cells #[Value.int IntKind.i64 (kd M x), Value.string (bsA (tx M x)), Value.int IntKind.i64 (nu M x), Value.int IntKind.i64 (pl M x), Value.slice s (ks M x).length c] 24)).alloc (Obj.cells #[Value.slice none 0 0] 22)).alloc (Obj.cells #[Value.int IntKind.i64 (kd M x), Value.string (bsA (tx M x)), Value.int IntKind.i64 (nu M x), Value.int IntKind.i64 (pl M x), Value.slice s (ks M x).length c] 24)) (.func (.func 36) #[] #[]) 30
  have g1 := (g1.alloc (Obj.cells #[Value.int IntKind.i64 (kd M x), Value.string (bsA (tx M x)), Value.int IntKind.i64 (nu M x), Value.int IntKind.i64 (pl M x), Value.slice s (ks M x).length c] 24)).alloc (Obj.cells #[Value.func (.func 36) #[] #[]] 30)
  have hA3 : Below _ _ ((((w.alloc (Obj.cells #[Value.int IntKind.i64 (kd M x), Value.string (bsA (tx M x)), Value.int IntKind.i64 (nu M x), Value.int IntKind.i64 (pl M x), Value.slice s (ks M x).length c] 24)).alloc (Obj.cells #[Value.slice none 0 0] 22)).alloc (Obj.cells #[Value.int IntKind.i64 (kd M x), Value.string (bsA (tx M x)), Value.int IntKind.i64 (nu M x), Value.int IntKind.i64 (pl M x), Value.slice s (ks M x).length c] 24)).alloc (Obj.cells #[Value.func (.func 36) #[] #[]] 30)) := (Below.refl _ (((w.alloc (Obj.cells #[Value.int IntKind.i64 (kd M x), Value.string (bsA (tx M x)), Value.int IntKind.i64 (nu M x), Value.int IntKind.i64 (pl M x), Value.slice s (ks M x).length c] 24)).alloc (Obj.cells #[Value.slice none 0 0] 22)).alloc (Obj.cells #[Value.int IntKind.i64 (kd M x), Value.string (bsA (tx M x)), Value.int IntKind.i64 (nu M x), Value.int IntKind.i64 (pl M x), Value.slice s (ks M x).length c] 24))).alloc (Nat.le_refl _) (Obj.cells #[Value.func (.func 36) #[] #[]] 30)
  have d0 := cell_below hA3 d0
  have d1 := cell_below hA3 d1
  have d2 := cell_below hA3 d2
  have d3 := cell_below hA3 d3
  have d4 := cell_below hA3 d4
  have hB0 : Below w.heap.size w ((((w.alloc (Obj.cells #[Value.int IntKind.i64 (kd M x), Value.string (bsA (tx M x)), Value.int IntKind.i64 (nu M x), Value.int IntKind.i64 (pl M x), Value.slice s (ks M x).length c] 24)).alloc (Obj.cells #[Value.slice none 0 0] 22)).alloc (Obj.cells #[Value.int IntKind.i64 (kd M x), Value.string (bsA (tx M x)), Value.int IntKind.i64 (nu M x), Value.int IntKind.i64 (pl M x), Value.slice s (ks M x).length c] 24)).alloc (Obj.cells #[Value.func (.func 36) #[] #[]] 30)) := ((((Below.refl _ w).alloc (Nat.le_refl _) _).alloc (by simp) _).alloc (by simp <;> omega) _).alloc (by simp <;> omega) _
  have hsz : ((((w.alloc (Obj.cells #[Value.int IntKind.i64 (kd M x), Value.string (bsA (tx M x)), Value.int IntKind.i64 (nu M x), Value.int IntKind.i64 (pl M x), Value.slice s (ks M x).length c] 24)).alloc (Obj.cells #[Value.slice none 0 0] 22)).alloc (Obj.cells #[Value.int IntKind.i64 (kd M x), Value.string (bsA (tx M x)), Value.int IntKind.i64 (nu M x), Value.int IntKind.i64 (pl M x), Value.slice s (ks M x).length c] 24)).alloc (Obj.cells #[Value.func (.func 36) #[] #[]] 30)).heap.size = w.heap.size + 4 := by simp
  simp only [World.size_alloc] at g3 d0 d1 d2 d3 d4
  clear hA3
  generalize (((w.alloc (Obj.cells #[Value.int IntKind.i64 (kd M x), Value.string (bsA (tx M x)), Value.int IntKind.i64 (nu M x), Value.int IntKind.i64 (pl M x), Value.slice s (ks M x).length c] 24)).alloc (Obj.cells #[Value.slice none 0 0] 22)).alloc (Obj.cells #[Value.int IntKind.i64 (kd M x), Value.string (bsA (tx M x)), Value.int IntKind.i64 (nu M x), Value.int IntKind.i64 (pl M x), Value.slice s (ks M x).length c] 24)).alloc (Obj.cells #[Value.func (.func 36) #[] #[]] 30) = W0 at *
  refine wpIn_rangeFunc_ownH hro h1 (gf := 81) (lb := #[.pointer (some ⟨w.heap.size + 1 + 1, 0, none⟩), .pointer (some ⟨w.heap.size + 1 + 1 + 1, 0, none⟩)]) rfl h81 (enters_of Tryz.func81 (by kernel_rfl) rfl)
    (trees36_stops F hd (n - 1) h81 h82 h36 hro M w W0 (Ka.keep w (w.heap.size + 4) (w.heap.size + 1) (by omega) (by omega)) (fun W hW => ⟨by have := hW.size; omega, fun b hb => by
      obtain ⟨v, hv, hb⟩ := ptr_same (hW.block _ (by omega)) hb
      rw [g1.cell] at hv
      cases hv
      cases hb⟩) x s c _ _ hx hwx hB0 hM d0 d1 d2 d3 d4 g3) (fun h k => (Ka.keep w (w.heap.size + 4) (w.heap.size + 1) (by omega) (by omega)).tr _ _ _ h k) (ka_b (by omega)) (Below.refl _ _) ?hps
    (fun pre W => AgI (w.heap.size + 4) (w.heap.size + 1) M (pre.map (·.1.1)) W ∧ Below w.heap.size w W)
    (fun _ _ _ => False)
    (OwnFrom.and (Own.from (agI_own _ _ M (fun pre : List (Nod w M) => pre.map (·.1.1))) _) (ownFrom_below (Nat.le_refl _) (by omega)))
    (fun _ _ _ _ _ hs _ _ => hs)
    ⟨⟨⟨_, [], g1, ⟨World.ownsRow_nil _ _ _ _, fun p hp => by cases hp⟩, rfl⟩, by omega⟩, hB0⟩
    (fun y a' W => ∃ Bt, w.heap.size + 4 ≤ Bt ∧ W.heap[Bt]? = some (.cells #[.int .i64 (kd M y.1.1), .string (bsA (tx M y.1.1)), .int .i64 (nu M y.1.1), .int .i64 (pl M y.1.1), .slice y.1.2.2.1 (ks M y.1.1).length y.1.2.2.2] 24 (0, 0)) ∧ a' = { tmps := #[Value.agg #[.int .i64 (kd M x), .string (bsA (tx M x)), .int .i64 (nu M x), .int .i64 (pl M x), .slice s (ks M x).length c], .pointer (some ⟨w.heap.size, 0, none⟩), .slice none 0 0, .pointer (some ⟨w.heap.size + 1, 0, none⟩), .pointer (some ⟨Bt, 0, none⟩), Value.agg #[.int .i64 (kd M x), .string (bsA (tx M x)), .int .i64 (nu M x), .int .i64 (pl M x), .slice s (ks M x).length c], Value.func (.func 81) #[] #[.pointer (some ⟨w.heap.size + 1 + 1, 0, none⟩), .pointer (some ⟨w.heap.size + 1 + 1 + 1, 0, none⟩)], .agg #[.int .i64 (kd M y.1.1), .string (bsA (tx M y.1.1)), .int .i64 (nu M y.1.1), .int .i64 (pl M y.1.1), .slice y.1.2.2.1 (ks M y.1.1).length y.1.2.2.2], .int .i64 y.1.2.1, undef, undef, undef, undef, undef, undef, undef, undef, undef, undef, undef, undef, undef, undef, undef, undef, undef], defers := [] })
    (fun y a' _ X Y row hs hg hr => by
      obtain ⟨Bt, h1, h2, h3⟩ := hs
      refine ⟨Bt, h1, (hg.block Bt (heap_lt h2) ?_).trans h2, h3⟩
      intro e
      obtain ⟨_, o, ho, hc⟩ := hr Bt e.symm
      rw [h2] at ho; cases ho; cases hc)
    ?assign ?body ?done ?stop
  case hps => exact fun _ => rfl
  case assign =>
    rintro l pre y W K ⟨⟨⟨v, A, hv, hag, hA⟩, hB4⟩, hB⟩ hK
    have hI : AgI (w.heap.size + 4) (w.heap.size + 1) M (pre.map (·.1.1)) W := ⟨⟨v, A, hv, hag, hA⟩, hB4⟩
    have hA1 : Below W.heap.size W (W.alloc (Obj.cells #[.int .i64 (kd M y.1.1), .string (bsA (tx M y.1.1)), .int .i64 (nu M y.1.1), .int .i64 (pl M y.1.1), .slice y.1.2.2.1 (ks M y.1.1).length y.1.2.2.2] 24)) := (Below.refl _ _).alloc (Nat.le_refl _) _
    unfold ndE ndV
    gi_wp2
    exact hK _ _ ((KeepsOthers.alloc _ _).from _) (ka_below hA1 hv.lt) ⟨hI.grown hA1, hB.trans (hA1.mono hB.size)⟩ ⟨W.heap.size, hB4, World.alloc_heap_new _ _, rfl⟩
  case body =>
    rintro l pre y a' W hl ⟨r, hr⟩ ⟨hI, hB⟩ ⟨Bt, hBt, bT, rfl⟩ hlt
    have HI : Hid _ := hI
    obtain ⟨⟨v, A, hv, hag, hA⟩, hB4⟩ := hI
    have hc := hv.cell
    have t0 : W.cell? ⟨Bt, 0, none⟩ = some (.int .i64 (kd M y.1.1)) := by simp [World.cell?, bT]
    have t1 : W.cell? ⟨Bt, 1, none⟩ = some (.string (bsA (tx M y.1.1))) := by simp [World.cell?, bT]
    have t2 : W.cell? ⟨Bt, 2, none⟩ = some (.int .i64 (nu M y.1.1)) := by simp [World.cell?, bT]
    have t3 : W.cell? ⟨Bt, 3, none⟩ = some (.int .i64 (pl M y.1.1)) := by simp [World.cell?, bT]
    have t4 : W.cell? ⟨Bt, 4, none⟩ = some (.slice y.1.2.2.1 (ks M y.1.1).length y.1.2.2.2) := by simp [World.cell?, bT]
    have hAl : A.length ≤ pre.length := by
      have h2 := agS_len M (pre.map (·.1.1))
      rw [← hA, List.length_map, List.length_map] at h2
      exact h2
    have hsn : agP M ((pre ++ [y]).map (·.1.1)) = agS M (A.map (·.1)) y.1.1 := by
      rw [List.map_append, List.map_singleton, agP_snoc, hA]
    obtain ⟨a, cc, rfl, hks⟩ := hag.slice (by omega)
    have hyW : NdAt W M y.1.1 y.1.2.2.1 := NdAt.below hB y.2.1
    have hH := holds_any M (A.map (·.1)) y.1.1 a y.1.2.2.1 cc y.1.2.2.2 W hks hyW
    rw [List.length_map] at hH
    unfold ndV at hH
    have HAG : Hid _ := hag
    have HYW : Hid _ := hyW
    have HSN : Hid _ := hsn
    have HA : Hid _ := hA
    clear hag hyW hsn hA hks hr bT
    by_cases hk : kd M y.1.1 = 14
    · have hk' : (kd M y.1.1 == 14) = true := by simpa using hk
      have HKE : Hid _ := hk
      clear hk
      cases hany : (A.map (·.1)).any fun z => samP M z y.1.1 with
      | true =>
        rw [hany] at hH
        have HN : Hid (agP M ((pre ++ [y]).map (·.1.1)) = agP M (pre.map (·.1.1))) := by
          show _ = _
          rw [HSN.out, ← HA.out]
          unfold agS
          rw [if_neg (by rw [hany]; simp)]
        gi_wp2_with ((try refine ⟨hdd _, ?_⟩); gi_at_call 37; refine (CallsIn.inRound l (hall _ _ _ _ _ hH)).mono ?_; rintro e W2 ⟨rfl, hb2⟩)
        refine ⟨(keeps_below hb2).from _, ka_below hb2 hv.lt, ?_, hB.trans (hb2.mono hB.size)⟩
        exact AgI.congr (AgI.grown HI.out hb2) HN.out.symm
      | false =>
        rw [hany] at hH
        gi_wp2_with ((try refine ⟨hdd _, ?_⟩); gi_at_call 37; refine (CallsIn.inRound l (hall _ _ _ _ _ hH)).mono ?_; rintro e W2 ⟨rfl, hb2⟩)
        have hI2 := AgI.grown HI.out hb2
        have hv2 : Boxed W2 (w.heap.size + 1) 22 (.slice a A.length cc) := (hb2.block _ hv.lt).trans hv
        have hag2 : AgAt (w.heap.size + 4) M W2 (.slice a A.length cc) A := ⟨owns_below HAG.out.1 hb2, fun p hp => NdQ.keep (fun b z hb' hz _ => ⟨(hb2.block b (heap_lt hz)).trans hz, hb'⟩) (HAG.out.2 p hp)⟩
        have hB42 : w.heap.size + 4 ≤ W2.heap.size := Nat.le_trans hB4 hb2.size
        have hCp := fun (W' : World) (hb : Below W2.heap.size W2 W') => Copy_any M y.1.1 y.2.2 y.1.2.2.1 y.1.2.2.2 W' (NdAt.below hb (NdAt.below hb2 HYW.out))
        unfold ndV at hCp
        have HN : Hid (agP M ((pre ++ [y]).map (·.1.1)) = A.map (·.1) ++ [y.1.1]) := by
          show _ = _
          rw [HSN.out]
          unfold agS
          rw [if_pos ⟨HKE.out, hany⟩]
        refine aggR5 F l (n - 1 - 1) M _ y.1.1 W2 (w.heap.size + 4) (w.heap.size + 1) Bt A.length cc (ks M y.1.1).length y.1.2.2.2 a y.1.2.2.1 (kd M y.1.1) (nu M y.1.1) (pl M y.1.1) (tx M y.1.1) (agC M A) _ _ _ _ _ _ _ _ _ _ _ _ _ _ _ _ hdd h15 hall hag2.1 hB42 (by omega) hv2 (by omega) ?_ (cell_below hb2 t0) (cell_below hb2 t1) (cell_below hb2 t2) (cell_below hb2 t3) (cell_below hb2 t4) hCp
        intro act Wf hfin
        obtain ⟨k1, k2, ⟨⟨v', A', hb', hg', hm'⟩, hs'⟩, k4⟩ := agg_fin M y.1.1 W2 Wf w.heap.size (w.heap.size + 4) (w.heap.size + 1) A.length cc (ks M y.1.1).length a (kd M y.1.1) (nu M y.1.1) (pl M y.1.1) (tx M y.1.1) A rfl rfl rfl rfl rfl rfl hv2 hag2 hB42 (by omega) (by omega) hfin
        have hKK := Ka.keep w (w.heap.size + 4) (w.heap.size + 1) (by omega) (by omega)
        exact ⟨((keeps_below hb2).trans k1).from _, hKK.tr _ _ _ (ka_below hb2 hv.lt) k2, ⟨⟨v', A', hb', hg', by rw [hm', HN.out]⟩, hs'⟩, hB.trans ((hb2.mono hB.size).trans k4)⟩
    · have hk' : (kd M y.1.1 == 14) = false := by simpa using hk
      have HN : Hid (agP M ((pre ++ [y]).map (·.1.1)) = agP M (pre.map (·.1.1))) := by
        show _ = _
        rw [HSN.out, ← HA.out]
        unfold agS
        rw [if_neg (fun h => hk h.1)]
      clear hk
      gi_wp2
      refine ⟨(KeepsOthers.refl _).from _, ka_below (Below.refl _ _) hv.lt, ?_, hB⟩
      exact AgI.congr HI.out HN.out.symm
  case done =>
    rintro D ys W hD hys ⟨hI, hB⟩ hK
    obtain ⟨⟨v, A, hv, hag, hA⟩, hB4⟩ := hI
    have hag2 := hag.own (grownBy_putObj' W D (.deferred none)) (fun r e => by cases e; exact ⟨_, hK, rfl⟩)
    have hc := hv.cell
    gi_wp2
    refine ⟨by simp, .inl ⟨_, _, rfl, run_takeDeferred hK, ?_⟩⟩
    refine ⟨_, results_tmp rfl _ _ _, ⟨v, A, rfl, hag2, ?_⟩, hB.trans (belowK_b (w := w) (Nat.le_refl _) W D _ _ (by omega) hK rfl rfl)⟩
    rw [hA, ← hys, List.map_map]
    rfl
  case stop =>
    rintro D c pre W _ _ h _
    exact h.elim
theorem Aggs_any (M : Nat) (x : Tr M) (s : Option Addr) (c : Nat) (w : World) (hx : NdAt w M x s) (hM : (M : Int) ≤ 8000000000000000000) (hN : (flat (fun k => !decide (k = 14)) M x 1).length * 64 + 64 ≤ 140737488355328) (hwx : Wid M x) :
    Calls Tryz.prog 20 #[ndV M x s c] w fun e W' => (∃ v A, e = .returned v ∧ AgAt (w.heap.size + 4) M W' v A ∧ A.map (·.1) = agP M ((flat (fun k => !decide (k = 14)) M x 1).map (·.1))) ∧ Below w.heap.size w W' :=
  callsIn_wide.1 (Aggs_in Fence.wide rfl (fun _ _ _ _ _ h => callsIn_wide.2 h) 3 trivial trivial trivial trivial trivial trivial trivial rfl (Nat.le_refl _) M x s c w hx hM hN hwx)
end Go.Proofs.YtcemogaacicnfaaGreatDoor
