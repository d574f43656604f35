/- The document: when one view turns next. -/
import Derived.Test.YtfjpdflilmcnhaaGreatDoorOne
namespace Go.Proofs.YtfjpdflilmcnhaaGreatDoor
open Go.ChangeShapes Go.WideShapes Go.ChangeAt Go.RowKit

def f3P (n now : Int) (l : List Arv) : Int := l.foldl (fun acc x => lsP acc (x.time + n) now) (-1)
theorem f3_succ {n now : Int} {l : List Arv} {m : Nat} (h : m < l.length) : f3P n now (l.take (m + 1)) = lsP (f3P n now (l.take m)) ((aAt l m).time + n) now := by
  unfold f3P
  rw [List.take_add_one, List.getElem?_eq_getElem h, Option.toList_some, List.foldl_append, aAt_get h]
  rfl
theorem lsP_rng {b t now : Int} (hb : b ≤ 4398046511104) (ht : t ≤ 4398046511104) (h1 : -1 ≤ b) (h2 : -1 ≤ t) : -1 ≤ lsP b t now ∧ lsP b t now ≤ 4398046511104 := by
  unfold lsP; split <;> omega
def stP (t n now : Int) (l : List Arv) (acc A : Int) : Int := if A > now ∧ (flP t n A l).map Arv.seq ≠ (flP t n now l).map Arv.seq then lsP acc A now else acc
def f5P (t n now : Int) (l k : List Arv) : Int := k.foldl (fun acc x => stP t n now l (stP t n now l acc (bgI t n x)) (bgI t n x + n)) (-1)
theorem f5_succ {t n now : Int} {l k : List Arv} {m : Nat} (h : m < k.length) : f5P t n now l (k.take (m + 1)) = stP t n now l (stP t n now l (f5P t n now l (k.take m)) (bgI t n (aAt k m))) (bgI t n (aAt k m) + n) := by
  unfold f5P
  rw [List.take_add_one, List.getElem?_eq_getElem h, Option.toList_some, List.foldl_append, aAt_get h]
  rfl
def inP (t n now : Int) (l : List Arv) (acc B : Int) : Nat → Int
  | 0 => acc
  | 1 => stP t n now l acc B
  | _ => stP t n now l (stP t n now l acc B) (B + n)
theorem inP_succ {t n now : Int} {l : List Arv} {acc B : Int} {c : Nat} (h : c < 2) {A : Int} (hA : A = B + c * n) : inP t n now l acc B (c + 1) = stP t n now l (inP t n now l acc B c) A := by
  subst hA
  match c, h with
  | 0, _ => show stP t n now l acc B = _; simp [inP]
  | 1, _ => show stP t n now l (stP t n now l acc B) (B + n) = _; simp [inP]
theorem stP_rng {t n now b A : Int} {l : List Arv} (hb : b ≤ 4398046511104) (hA : A ≤ 4398046511104) (h1 : -1 ≤ b) (h2 : -1 ≤ A) : -1 ≤ stP t n now l b A ∧ stP t n now l b A ≤ 4398046511104 := by
  unfold stP
  split
  · exact lsP_rng hb hA h1 h2
  · exact ⟨h1, hb⟩
theorem fl_len (t n A : Int) (l : List Arv) : (flP t n A l).length ≤ l.length := List.length_filter_le _ _
def nxD (k n : Int) (l : List Arv) (now : Int) : Int := if k = 3 then f3P n now l else if k = 5 then f5P (aAt l 0).time n now l l else -1
set_option maxRecDepth 20000 in
set_option maxHeartbeats 8000000 in
theorem rnext_some (k n : Int) (a : Option Addr) (cap : Nat) (d : Bool) (zs : List Int) (la : Option Addr) (lc : Nat) (l : List Arv) (now : Int) (w : World) (hzl : zs.length ≤ 9223372036854775807) (hz : NsAt w a zs) (hl : CelsAt w la l) (hp : 0 < l.length) (hll : l.length ≤ 200) (ht : Tms l) (hm : mayB k n zs d ((aAt l 0).row.length : Nat) = true) (hA : (aAt l 0).time ≤ now) (hA2 : now ≤ 1099511627776) :
    Calls Tryz.prog 26 #[.agg #[.int .i64 k, .int .i64 n, .slice a zs.length cap, .bool d], .slice la l.length lc, .int .i64 now] w fun e w' => e = .returned (.int .i64 (nxD k n l now)) ∧ Below w.heap.size w w' := by
  have hn5 : k = 3 ∨ k = 5 → 1 ≤ n ∧ n ≤ 1099511627776 := fun h => mayB_n hm (h.elim (fun h => Or.inl (by rw [h]; decide)) (fun h => Or.inr (by rw [h]; decide)))
  have hck := fun wx (hb : Below w.heap.size w wx) => rCheck_any k n a cap d ((aAt l 0).row.length : Nat) zs wx hzl (hz.below hb)
  have hm2 := hm
  rw [hm] at hck
  have HM : Hid _ := hm2
  have HZ : Hid (NsAt w a zs) := hz
  clear hz hm hm2
  have HL : Hid (CelsAt w la l) := hl
  have HT : Hid (Tms l) := ht
  obtain ⟨b, off, rfl, hc⟩ := hl.opn hp
  have c2' := (hc 0 hp).2.2
  simp only [Nat.zero_mul, Nat.add_zero] at c2'
  generalize hrl : (aAt l 0).row.length = rl at *
  generalize (aAt l 0).a = ra at *
  generalize (aAt l 0).cap = rc at *
  have hl0 : ¬ l.length = 0 := by omega
  have hl1 : (0 < l.length) = True := eq_true hp
  have hl2 : (((l.length : Nat) : Int) == 0) = false := beq_eq_false_iff_ne.2 (by omega)
  clear hc hl ht
  unfold vwV ckE at hck
  go_enter Tryz.func26, Tryz.ntmps26
  go_upto_region 1 with (fail)
  have hb1 : Below w.heap.size w (w.alloc (Obj.cells #[.int .i64 k, .int .i64 n, .slice a zs.length cap, .bool d] 32)) := (Below.refl w.heap.size w).alloc (Nat.le_refl _) _
  have c2 := cell_below hb1 c2'
  have y0 : World.cell? (w.alloc (Obj.cells #[.int .i64 k, .int .i64 n, .slice a zs.length cap, .bool d] 32)) ⟨w.heap.size, 0, none⟩ = some (.int .i64 k) := by go_simp
  have y1 : World.cell? (w.alloc (Obj.cells #[.int .i64 k, .int .i64 n, .slice a zs.length cap, .bool d] 32)) ⟨w.heap.size, 1, none⟩ = some (.int .i64 n) := by go_simp
  have y2 : World.cell? (w.alloc (Obj.cells #[.int .i64 k, .int .i64 n, .slice a zs.length cap, .bool d] 32)) ⟨w.heap.size, 2, none⟩ = some (.slice a zs.length cap) := by go_simp
  have y3 : World.cell? (w.alloc (Obj.cells #[.int .i64 k, .int .i64 n, .slice a zs.length cap, .bool d] 32)) ⟨w.heap.size, 3, none⟩ = some (.bool d) := by go_simp
  have HB1 : Hid _ := hb1
  obtain ⟨X, hX⟩ : ∃ X, w.heap.size = X := ⟨_, rfl⟩
  rw [hX] at y0 y1 y2 y3 ⊢
  clear hX c2' hb1
  generalize (w.alloc (Obj.cells #[.int .i64 k, .int .i64 n, .slice a zs.length cap, .bool d] 32)) = w1 at *
  refine wp_region_held_drew (S := (fun wS => Bel w1.heap.size w1 wS)) (by kernel_rfl) ?_ (fun hHeld => ?_)
  · (try dsimp only); exact (Bel.refl _).drew
  refine wpAnyH_take (i := 0) (oi := { dst := some 15, op := Op.move (Operand.tmp 1), type := 23, pos := "ref.go:183", after := #[], guard := none }) (v := ?_) rfl (by kernel_rfl) (by kernel_rfl) (by kernel_rfl) (fun _ _ _ h => h) (Or.inl ⟨by kernel_rfl, ?_⟩) (by assumption) ?_
  rotate_left
  · intro wS hSw; (try dsimp only at hSw); go_simp; (try with_reducible rfl)
  try simp only [Act.put, List.setIfInBounds_toArray, List.set_cons_zero, List.set_cons_succ]
  refine wpAnyH_take (i := 1) (oi := { dst := some 16, op := Op.call { callee := Callee.builtin Builtin.len, args := #[Operand.tmp 15], argTypes := #[23] }, type := 3, pos := "ref.go:183", after := #[{ on := 0, ground := Ground.data }], guard := none }) (v := ?_) rfl (by kernel_rfl) (by kernel_rfl) (by kernel_rfl) (fun _ _ _ h => h) (Or.inl ⟨by kernel_rfl, ?_⟩) (by assumption) ?_
  rotate_left
  · intro wS hSw; (try dsimp only at hSw); go_simp; (try with_reducible rfl)
  try simp only [Act.put, List.setIfInBounds_toArray, List.set_cons_zero, List.set_cons_succ]
  refine wpAnyH_take (i := 2) (oi := { dst := some 17, op := Op.binOp BinOp.eql 3 (Operand.tmp 16) (Operand.const (Value.int IntKind.i64 0)) 3, type := 4, pos := "ref.go:183", after := #[{ on := 1, ground := Ground.data }], guard := none }) (v := ?_) rfl (by kernel_rfl) (by kernel_rfl) (by kernel_rfl) (fun _ _ _ h => h) (Or.inl ⟨by kernel_rfl, ?_⟩) (by assumption) ?_
  rotate_left
  · intro wS hSw; (try dsimp only at hSw); go_simp; (try with_reducible rfl)
  try simp only [Act.put, List.setIfInBounds_toArray, List.set_cons_zero, List.set_cons_succ]
  refine wpAnyH_take (i := 3) (oi := { dst := some 18, op := Op.move (Operand.tmp 17), type := 4, pos := "ref.go:183", after := #[{ on := 2, ground := Ground.data }], guard := none }) (v := ?_) rfl (by kernel_rfl) (by kernel_rfl) (by kernel_rfl) (fun _ _ _ h => h) (Or.inl ⟨by kernel_rfl, ?_⟩) (by assumption) ?_
  rotate_left
  · intro wS hSw; (try dsimp only at hSw); go_simp; (try with_reducible rfl)
  try simp only [Act.put, List.setIfInBounds_toArray, List.set_cons_zero, List.set_cons_succ]
  refine wpAnyH_take (i := 4) (oi := { dst := some 19, op := Op.load 32 (Operand.tmp 3), type := 32, pos := "ref.go:183", after := #[{ on := 3, ground := Ground.guard }], guard := some (3, false) }) (v := ?_) rfl (by kernel_rfl) (by kernel_rfl) (by kernel_rfl) (fun _ _ _ h => h) (Or.inl ⟨by kernel_rfl, ?_⟩) (by assumption) ?_
  rotate_left
  · intro wS hSw; (try dsimp only at hSw); have e0 := cell_below hSw.out y0; have e1 := cell_below hSw.out y1; have e2 := cell_below hSw.out y2; have e3 := cell_below hSw.out y3; go_simp; (try with_reducible rfl)
  try simp only [Act.put, List.setIfInBounds_toArray, List.set_cons_zero, List.set_cons_succ]
  refine wpAnyH_take (i := 5) (oi := { dst := some 20, op := Op.move (Operand.tmp 1), type := 23, pos := "ref.go:183", after := #[{ on := 3, ground := Ground.guard }], guard := some (3, false) }) (v := ?_) rfl (by kernel_rfl) (by kernel_rfl) (by kernel_rfl) (fun _ _ _ h => h) (Or.inl ⟨by kernel_rfl, ?_⟩) (by assumption) ?_
  rotate_left
  · intro wS hSw; (try dsimp only at hSw); go_simp; (try with_reducible rfl)
  try simp only [Act.put, List.setIfInBounds_toArray, List.set_cons_zero, List.set_cons_succ]
  refine wpAnyH_take (i := 6) (oi := { dst := some 21, op := Op.indexAddr 23 (Operand.tmp 20) (Operand.const (Value.int IntKind.i64 0)), type := 0, pos := "ref.go:183", after := #[{ on := 5, ground := Ground.data }, { on := 3, ground := Ground.guard }], guard := some (3, false) }) (v := ?_) rfl (by kernel_rfl) (by kernel_rfl) (by kernel_rfl) (fun _ _ _ h => h) (Or.inl ⟨by kernel_rfl, ?_⟩) (by assumption) ?_
  rotate_left
  · intro wS hSw; (try dsimp only at hSw); go_simp; (try with_reducible rfl)
  try simp only [Act.put, List.setIfInBounds_toArray, List.set_cons_zero, List.set_cons_succ]
  refine wpAnyH_take (i := 7) (oi := { dst := some 22, op := Op.fieldAddr 39 (Operand.tmp 21) 2, type := 0, pos := "ref.go:183", after := #[{ on := 6, ground := Ground.data }, { on := 3, ground := Ground.guard }], guard := some (3, false) }) (v := ?_) rfl (by kernel_rfl) (by kernel_rfl) (by kernel_rfl) (fun _ _ _ h => h) (Or.inl ⟨by kernel_rfl, ?_⟩) (by assumption) ?_
  rotate_left
  · intro wS hSw; (try dsimp only at hSw); go_simp; (try with_reducible rfl)
  try simp only [Act.put, List.setIfInBounds_toArray, List.set_cons_zero, List.set_cons_succ]
  refine wpAnyH_take (i := 8) (oi := { dst := some 23, op := Op.load 37 (Operand.tmp 22), type := 37, pos := "ref.go:183", after := #[{ on := 7, ground := Ground.data }, { on := 3, ground := Ground.guard }], guard := some (3, false) }) (v := ?_) rfl (by kernel_rfl) (by kernel_rfl) (by kernel_rfl) (fun _ _ _ h => h) (Or.inl ⟨by kernel_rfl, ?_⟩) (by assumption) ?_
  rotate_left
  · intro wS hSw; (try dsimp only at hSw); have e5 := cell_below hSw.out c2; go_simp; (try with_reducible rfl)
  try simp only [Act.put, List.setIfInBounds_toArray, List.set_cons_zero, List.set_cons_succ]
  refine wpAnyH_take (i := 9) (oi := { dst := some 24, op := Op.call { callee := Callee.builtin Builtin.len, args := #[Operand.tmp 23], argTypes := #[37] }, type := 3, pos := "ref.go:183", after := #[{ on := 8, ground := Ground.data }, { on := 3, ground := Ground.guard }], guard := some (3, false) }) (v := ?_) rfl (by kernel_rfl) (by kernel_rfl) (by kernel_rfl) (fun _ _ _ h => h) (Or.inl ⟨by kernel_rfl, ?_⟩) (by assumption) ?_
  rotate_left
  · intro wS hSw; (try dsimp only at hSw); go_simp; (try with_reducible rfl)
  try simp only [Act.put, List.setIfInBounds_toArray, List.set_cons_zero, List.set_cons_succ]
  refine wpAnyH_ready (rs := [10]) (by kernel_rfl) (by simp) ?_
  refine AllReadyH.cons (o := { dst := some 25, op := Op.call { callee := Callee.value (Operand.func 20), args := #[Operand.tmp 19, Operand.tmp 24], argTypes := #[32, 3] }, type := 3, pos := "ref.go:183", after := #[{ on := 4, ground := Ground.data }, { on := 9, ground := Ground.data }, { on := 3, ground := Ground.chain }, { on := 3, ground := Ground.guard }], guard := some (3, false) }) rfl (fun K hK => ?_) AllReadyH.nil
  go_simp
  refine (hck _ (HB1.out.trans ((Below.refl w1.heap.size w1).drew.mono HB1.out.size))).mono ?_
  rintro e w2 ⟨rfl, hb2⟩
  have hB2 : Below w1.heap.size w1 w2 := (Below.refl w1.heap.size w1).drew.trans hb2
  (try dsimp only)
  refine hK.out _ _ ?_ (fun hH10 => ?_)
  · (try dsimp only); exact Bel.of hB2
  clear hK K
  refine wpAnyH_take (i := 11) (oi := { dst := some 26, op := Op.binOp BinOp.neq 3 (Operand.tmp 25) (Operand.const (Value.int IntKind.i64 0)) 3, type := 4, pos := "ref.go:183", after := #[{ on := 10, ground := Ground.data }, { on := 3, ground := Ground.guard }], guard := some (3, false) }) (v := ?_) rfl (by kernel_rfl) (by kernel_rfl) (by kernel_rfl) (fun _ _ _ h => h) (Or.inl ⟨by kernel_rfl, ?_⟩) (by assumption) ?_
  rotate_left
  · intro wS hSw; (try dsimp only at hSw); go_simp; (try with_reducible rfl)
  try simp only [Act.put, List.setIfInBounds_toArray, List.set_cons_zero, List.set_cons_succ]
  refine wpAnyH_take (i := 12) (oi := { dst := some 27, op := Op.pick (Operand.tmp 18) (Operand.const (Value.bool true)) (Operand.tmp 26), type := 4, pos := "ref.go:183", after := #[{ on := 3, ground := Ground.data }, { on := 11, ground := Ground.data }], guard := none }) (v := ?_) rfl (by kernel_rfl) (by kernel_rfl) (by kernel_rfl) (fun _ _ _ h => h) (Or.inl ⟨by kernel_rfl, ?_⟩) (by assumption) ?_
  rotate_left
  · intro wS hSw; (try dsimp only at hSw); go_simp; (try with_reducible rfl)
  try simp only [Act.put, List.setIfInBounds_toArray, List.set_cons_zero, List.set_cons_succ]
  refine wpAnyH_done (by kernel_rfl) ?_ _
  have v0 := cell_below hB2 y0
  have v1 := cell_below hB2 y1
  have v2 := cell_below hB2 y2
  have v3 := cell_below hB2 y3
  have HB2 : Hid (Below w.heap.size w w2) := HB1.out.trans (hB2.mono HB1.out.size)
  clear hck hb2 hB2 hHeld y0 y1 y2 y3 hH10 HB1 c2
  rcases Decidable.em (k = 3) with rfl | h3
  · obtain ⟨hn, hn2⟩ := hn5 (Or.inl rfl)
    clear hn5
    have HR : Hid (nxD 3 n l now = f3P n now l) := by show _ = _; unfold nxD; rw [if_pos rfl]
    go_wp2
    go_loopw [7, 8] (fun x i wr => ∃ m : Nat, m ≤ l.length ∧ x = .int .i64 (f3P n now (l.take m)) ∧ i = .int .i64 m ∧ -1 ≤ f3P n now (l.take m) ∧ f3P n now (l.take m) ≤ 4398046511104 ∧ Bel w2.heap.size w2 wr) (fun _ i _ => l.length - (intOf i).toNat)
    case atStart => exact ⟨0, Nat.zero_le _, rfl, rfl, by simp [f3P], by simp [f3P], Bel.refl _⟩
    case round =>
      obtain ⟨m, hmm, rfl, rfl, hg1, hg2, HB⟩ := hrel
      rcases Nat.lt_or_ge m l.length with hlt | hge
      · have u1 := cell_below HB.out v1
        have hBW : Below w.heap.size w wr := HB2.out.trans (HB.out.mono HB2.out.size)
        obtain ⟨b', off', hbo, hcc⟩ := (HL.out.below hBW).opn hp
        simp only [Option.some.injEq, Addr.mk.injEq, and_true] at hbo
        obtain ⟨rfl, rfl⟩ := hbo
        have c1 := (hcc m hlt).2.1
        obtain ⟨hx1, hx2, hx3⟩ := HT.out (aAt l m) (by rw [aAt_get hlt]; exact List.getElem_mem hlt)
        have HS : Hid _ := f3_succ (n := n) (now := now) hlt
        clear hcc hx3 hBW
        generalize hxe : (aAt l m).time = x at *
        clear hxe
        generalize hac : f3P n now (l.take m) = acc at *
        clear hac
        have HBB : Hid (Bel w2.heap.size w2 wr) := HB
        clear HB
        go_upto_region 8 with (fail)
        refine wp_region_held_drew (S := (fun wS => Bel wr.heap.size wr wS)) (by kernel_rfl) ?_ (fun hHeld => ?_)
        · (try dsimp only); exact (Bel.refl _).drew
        refine wpAnyH_take (i := 0) (oi := { dst := some 37, op := Op.move (Operand.tmp 7), type := 3, pos := "ref.go:189", after := #[], guard := none }) (v := ?_) rfl (by kernel_rfl) (by kernel_rfl) (by kernel_rfl) (fun _ _ _ h => h) (Or.inl ⟨by kernel_rfl, ?_⟩) (by assumption) ?_
        rotate_left
        · intro wS hSw; (try dsimp only at hSw); go_simp; (try with_reducible rfl)
        try simp only [Act.put, List.setIfInBounds_toArray, List.set_cons_zero, List.set_cons_succ]
        refine wpAnyH_take (i := 1) (oi := { dst := some 38, op := Op.move (Operand.tmp 1), type := 23, pos := "ref.go:189", after := #[], guard := none }) (v := ?_) rfl (by kernel_rfl) (by kernel_rfl) (by kernel_rfl) (fun _ _ _ h => h) (Or.inl ⟨by kernel_rfl, ?_⟩) (by assumption) ?_
        rotate_left
        · intro wS hSw; (try dsimp only at hSw); go_simp; (try with_reducible rfl)
        try simp only [Act.put, List.setIfInBounds_toArray, List.set_cons_zero, List.set_cons_succ]
        refine wpAnyH_take (i := 2) (oi := { dst := some 39, op := Op.move (Operand.tmp 8), type := 3, pos := "ref.go:189", after := #[], guard := none }) (v := ?_) rfl (by kernel_rfl) (by kernel_rfl) (by kernel_rfl) (fun _ _ _ h => h) (Or.inl ⟨by kernel_rfl, ?_⟩) (by assumption) ?_
        rotate_left
        · intro wS hSw; (try dsimp only at hSw); go_simp; (try with_reducible rfl)
        try simp only [Act.put, List.setIfInBounds_toArray, List.set_cons_zero, List.set_cons_succ]
        refine wpAnyH_take (i := 3) (oi := { dst := some 40, op := Op.indexAddr 23 (Operand.tmp 38) (Operand.tmp 39), type := 0, pos := "ref.go:189", after := #[{ on := 1, ground := Ground.data }, { on := 2, ground := Ground.data }], guard := none }) (v := ?_) rfl (by kernel_rfl) (by kernel_rfl) (by kernel_rfl) (fun _ _ _ h => h) (Or.inl ⟨by kernel_rfl, ?_⟩) (by assumption) ?_
        rotate_left
        · intro wS hSw; (try dsimp only at hSw); go_simp; (try with_reducible rfl)
        try simp only [Act.put, List.setIfInBounds_toArray, List.set_cons_zero, List.set_cons_succ]
        refine wpAnyH_take (i := 4) (oi := { dst := some 41, op := Op.fieldAddr 39 (Operand.tmp 40) 1, type := 0, pos := "ref.go:189", after := #[{ on := 3, ground := Ground.data }], guard := none }) (v := ?_) rfl (by kernel_rfl) (by kernel_rfl) (by kernel_rfl) (fun _ _ _ h => h) (Or.inl ⟨by kernel_rfl, ?_⟩) (by assumption) ?_
        rotate_left
        · intro wS hSw; (try dsimp only at hSw); go_simp; (try with_reducible rfl)
        try simp only [Act.put, List.setIfInBounds_toArray, List.set_cons_zero, List.set_cons_succ]
        refine wpAnyH_take (i := 5) (oi := { dst := some 42, op := Op.load 3 (Operand.tmp 41), type := 3, pos := "ref.go:189", after := #[{ on := 4, ground := Ground.data }], guard := none }) (v := ?_) rfl (by kernel_rfl) (by kernel_rfl) (by kernel_rfl) (fun _ _ _ h => h) (Or.inl ⟨by kernel_rfl, ?_⟩) (by assumption) ?_
        rotate_left
        · intro wS hSw; (try dsimp only at hSw); have e0 := cell_below hSw.out c1; go_simp; (try with_reducible rfl)
        try simp only [Act.put, List.setIfInBounds_toArray, List.set_cons_zero, List.set_cons_succ]
        refine wpAnyH_take (i := 6) (oi := { dst := some 43, op := Op.fieldAddr 32 (Operand.tmp 3) 1, type := 0, pos := "ref.go:189", after := #[], guard := none }) (v := ?_) rfl (by kernel_rfl) (by kernel_rfl) (by kernel_rfl) (fun _ _ _ h => h) (Or.inl ⟨by kernel_rfl, ?_⟩) (by assumption) ?_
        rotate_left
        · intro wS hSw; (try dsimp only at hSw); go_simp; (try with_reducible rfl)
        try simp only [Act.put, List.setIfInBounds_toArray, List.set_cons_zero, List.set_cons_succ]
        refine wpAnyH_take (i := 7) (oi := { dst := some 44, op := Op.load 3 (Operand.tmp 43), type := 3, pos := "ref.go:189", after := #[{ on := 6, ground := Ground.data }], guard := none }) (v := ?_) rfl (by kernel_rfl) (by kernel_rfl) (by kernel_rfl) (fun _ _ _ h => h) (Or.inl ⟨by kernel_rfl, ?_⟩) (by assumption) ?_
        rotate_left
        · intro wS hSw; (try dsimp only at hSw); have e1 := cell_below hSw.out u1; go_simp; (try with_reducible rfl)
        try simp only [Act.put, List.setIfInBounds_toArray, List.set_cons_zero, List.set_cons_succ]
        refine wpAnyH_take (i := 8) (oi := { dst := some 45, op := Op.binOp BinOp.add 3 (Operand.tmp 42) (Operand.tmp 44) 3, type := 3, pos := "ref.go:189", after := #[{ on := 5, ground := Ground.data }, { on := 7, ground := Ground.data }], guard := none }) (v := ?_) rfl (by kernel_rfl) (by kernel_rfl) (by kernel_rfl) (fun _ _ _ h => h) (Or.inl ⟨by kernel_rfl, ?_⟩) (by assumption) ?_
        rotate_left
        · intro wS hSw; (try dsimp only at hSw); go_simp; (try with_reducible rfl)
        try simp only [Act.put, List.setIfInBounds_toArray, List.set_cons_zero, List.set_cons_succ]
        refine wpAnyH_take (i := 9) (oi := { dst := some 46, op := Op.move (Operand.tmp 2), type := 3, pos := "ref.go:189", after := #[], guard := none }) (v := ?_) rfl (by kernel_rfl) (by kernel_rfl) (by kernel_rfl) (fun _ _ _ h => h) (Or.inl ⟨by kernel_rfl, ?_⟩) (by assumption) ?_
        rotate_left
        · intro wS hSw; (try dsimp only at hSw); go_simp; (try with_reducible rfl)
        try simp only [Act.put, List.setIfInBounds_toArray, List.set_cons_zero, List.set_cons_succ]
        refine wpAnyH_ready (rs := [10]) (by kernel_rfl) (by simp) ?_
        refine AllReadyH.cons (o := { dst := some 47, op := Op.call { callee := Callee.value (Operand.func 27), args := #[Operand.tmp 37, Operand.tmp 45, Operand.tmp 46], argTypes := #[3, 3, 3] }, type := 3, pos := "ref.go:189", after := #[{ on := 0, ground := Ground.data }, { on := 8, ground := Ground.data }, { on := 9, ground := Ground.data }], guard := none }) rfl (fun K hK => ?_) AllReadyH.nil
        go_simp
        refine (rleast_any _ _ _ _).mono ?_
        rintro e w4 ⟨rfl, hb4⟩
        have hB4 : Below wr.heap.size wr w4 := (Below.refl wr.heap.size wr).drew.trans hb4
        (try dsimp only)
        refine hK.out _ _ ?_ (fun hH10 => ?_)
        · (try dsimp only); exact Bel.of hB4
        clear hK K
        try simp only [Act.put, List.setIfInBounds_toArray, List.set_cons_zero, List.set_cons_succ]
        refine wpAnyH_take (i := 11) (oi := { dst := some 7, op := Op.assign (Operand.tmp 47), type := 3, pos := "ref.go:189", after := #[{ on := 10, ground := Ground.data }, { on := 10, ground := Ground.chain }, { on := 0, ground := Ground.phase }, { on := 1, ground := Ground.phase }, { on := 2, ground := Ground.phase }, { on := 3, ground := Ground.phase }, { on := 4, ground := Ground.phase }, { on := 5, ground := Ground.phase }, { on := 6, ground := Ground.phase }, { on := 7, ground := Ground.phase }, { on := 8, ground := Ground.phase }, { on := 9, ground := Ground.phase }, { on := 10, ground := Ground.phase }], guard := none }) (v := ?_) rfl (by kernel_rfl) (by kernel_rfl) (by kernel_rfl) (fun _ _ _ h => h) (Or.inl ⟨by kernel_rfl, ?_⟩) (by assumption) ?_
        rotate_left
        · intro wS hSw; (try dsimp only at hSw); go_simp; (try with_reducible rfl)
        try simp only [Act.put, List.setIfInBounds_toArray, List.set_cons_zero, List.set_cons_succ]
        refine wpAnyH_done (by kernel_rfl) ?_ _
        have HB4 : Hid (Bel w2.heap.size w2 w4) := HBB.out.step hB4
        clear hB4 hb4 hHeld hH10
        go_wp2
        go_roundw
        case rel =>
          have hq := lsP_rng (b := acc) (t := x + n) (now := now) hg2 (by omega) hg1 (by omega)
          refine ⟨m + 1, by omega, ?_, by go_num, ?_, ?_, HB4.out⟩
          · have hw : IntKind.i64.wrap (x + n) = x + n := by rw [IntKind.wrap_i64]; omega
            rw [HS.out, hw]
          · rw [HS.out]; exact hq.1
          · rw [HS.out]; exact hq.2
        case measure => simp [intOf]; omega
      · obtain rfl : m = l.length := by omega
        have HBW : Hid (Below w.heap.size w wr) := HB2.out.trans (HB.out.mono HB2.out.size)
        have u0 := cell_below HB.out v0
        clear HB
        rw [List.take_length] at *
        go_wp2
        go_ret
        exact ⟨ret_int HR.out.symm, HBW.out⟩
  · have h3' : (k == 3) = false := beq_eq_false_iff_ne.2 h3
    rcases Decidable.em (k = 5) with rfl | h5
    · obtain ⟨hn, hn2⟩ := hn5 (Or.inr rfl)
      clear hn5
      have HR : Hid (nxD 5 n l now = f5P (aAt l 0).time n now l l) := by show _ = _; unfold nxD; rw [if_neg (by decide), if_pos rfl]
      obtain ⟨b', off', hbo, hcc⟩ := (HL.out.below HB2.out).opn hp
      simp only [Option.some.injEq, Addr.mk.injEq, and_true] at hbo
      obtain ⟨rfl, rfl⟩ := hbo
      have c1 := (hcc 0 hp).2.1
      simp only [Nat.zero_mul, Nat.add_zero] at c1
      obtain ⟨t1, t2, -⟩ := HT.out (aAt l 0) (by rw [aAt_get hp]; exact List.getElem_mem hp)
      have hone := fun (A : Int) (h1 : (aAt l 0).time ≤ A) (h2 : A ≤ 8796093022208) wx (hb : Below w.heap.size w wx) => rOne_any n a cap d zs (some ⟨b, off, none⟩) lc l A wx hzl (HZ.out.below hb) (HL.out.below hb) hp hll HT.out (by rw [hrl]; exact HM.out) h1 h2
      have HTG : Hid (∀ x ∈ l, 0 ≤ x.time ∧ x.time ≤ 1099511627776 ∧ (aAt l 0).time ≤ x.time) := HT.out
      clear HT hcc
      generalize (aAt l 0).time = t at *
      have HONE : Hid _ := hone
      have ho1 := hone now hA (by omega) w2 HB2.out
      clear hone
      go_wp2_with fail
      refine ho1.mono ?_
      rintro e w3 ⟨⟨na, nc, rfl, hcn⟩, hb3⟩
      have HB3 : Hid (Bel w2.heap.size w2 w3) := Bel.of hb3
      have HCN : Hid (CelsAt w3 na (flP t n now l)) := hcn
      have hfl := Nat.le_trans (fl_len t n now l) hll
      have v0 := cell_below hb3 v0
      have v1 := cell_below hb3 v1
      have v2 := cell_below hb3 v2
      have v3 := cell_below hb3 v3
      clear ho1 hb3 hcn c1
      go_wp2
      go_loopw [7, 11] (fun x i wr => ∃ m : Nat, m ≤ l.length ∧ x = .int .i64 (f5P t n now l (l.take m)) ∧ i = .int .i64 m ∧ -1 ≤ f5P t n now l (l.take m) ∧ f5P t n now l (l.take m) ≤ 4398046511104 ∧ Bel w3.heap.size w3 wr) (fun _ i _ => l.length - (intOf i).toNat)
      case atStart => exact ⟨0, Nat.zero_le _, rfl, rfl, by simp [f5P], by simp [f5P], Bel.refl _⟩
      case round =>
        obtain ⟨m, hmm, rfl, rfl, hg1, hg2, HB⟩ := hrel
        rcases Nat.lt_or_ge m l.length with hlt | hge
        · have u0 := cell_below HB.out v0
          have u1 := cell_below HB.out v1
          have u2 := cell_below HB.out v2
          have u3 := cell_below HB.out v3
          have hBW : Below w.heap.size w wr := HB2.out.trans ((HB3.out.step HB.out).out.mono HB2.out.size)
          obtain ⟨b', off', hbo, hcc⟩ := (HL.out.below hBW).opn hp
          simp only [Option.some.injEq, Addr.mk.injEq, and_true] at hbo
          obtain ⟨rfl, rfl⟩ := hbo
          have c1 := (hcc m hlt).2.1
          obtain ⟨hx1, hx2, hx3⟩ := HTG.out (aAt l m) (by rw [aAt_get hlt]; exact List.getElem_mem hlt)
          have HS : Hid _ := f5_succ (t := t) (n := n) (now := now) (l := l) hlt
          obtain ⟨r1, r2, r3⟩ := bg_rng hx3 hn
          unfold bgI at HS
          clear hcc hBW
          generalize hxe : (aAt l m).time = x at *
          clear hxe
          generalize hac : f5P t n now l (l.take m) = acc at *
          clear hac
          generalize hq : (x - t).tdiv n = q at *
          have hqn : 0 ≤ q * n := Int.mul_nonneg r1 (by omega)
          have hqb : q ≤ 8796093022208 := by
            have h1 : q * 1 ≤ q * n := Int.mul_le_mul_of_nonneg_left hn r1
            omega
          have hP : (q + 1) * n = q * n + n := by rw [Int.add_mul, Int.one_mul]
          have HP2 : Hid ((q + 1 + 1) * n = (q + 1) * n + n) := by show _ = _; rw [Int.add_mul (q + 1) 1, Int.one_mul]
          obtain ⟨pp, hpp⟩ : ∃ pp, q * n = pp := ⟨_, rfl⟩
          rw [hpp] at r2 r3 hqn hP
          clear hpp
          have HPD : Hid ((q + 1) * n = pp + n) := hP
          clear hP
          have hn0 : n ≠ 0 := by omega
          have HBB : Hid (Bel w3.heap.size w3 wr) := HB
          clear HB
          go_upto_region 15 with (fail)
          go_quiet (fail)
          have HBQ : Hid (Bel w3.heap.size w3 (wr.drewN nq)) := HBB.out.drewN nq
          have u0 : (wr.drewN nq).cell? ⟨X, 0, none⟩ = some (.int .i64 5) := by go_simp
          have u1 : (wr.drewN nq).cell? ⟨X, 1, none⟩ = some (.int .i64 n) := by go_simp
          have u2 : (wr.drewN nq).cell? ⟨X, 2, none⟩ = some (.slice a zs.length cap) := by go_simp
          have u3 : (wr.drewN nq).cell? ⟨X, 3, none⟩ = some (.bool d) := by go_simp
          clear HBB c1
          generalize wr.drewN nq = wq at *
          clear hq
          go_wp2
          go_loopw [7, 13] (fun x' j' ws => ∃ (c : Nat) (j : Int), c ≤ 2 ∧ x' = .int .i64 (inP t n now l acc (t + (q + 1) * n) c) ∧ j' = .int .i64 j ∧ j = q + 1 + c ∧ -1 ≤ inP t n now l acc (t + (q + 1) * n) c ∧ inP t n now l acc (t + (q + 1) * n) c ≤ 4398046511104 ∧ Bel wq.heap.size wq ws) (fun _ j' _ => (q + 3 - intOf j').toNat)
          case atStart => exact ⟨0, q + 1, by omega, rfl, rfl, by omega, hg1, hg2, Bel.refl _⟩
          case round =>
            obtain ⟨c, j, hc2, rfl, rfl, hj, hi1, hi2, HC⟩ := hrel
            have HJ : Hid (j = q + 1 + c) := hj
            rcases Nat.lt_or_ge c 2 with hc | hc
            · have hj1 : j ≤ q + 1 + 1 := by omega
              have HJN : Hid (j * n = pp + n + c * n) := by show _ = _; rw [HJ.out, Int.add_mul, HPD.out]
              obtain ⟨jn, hjn⟩ : ∃ jn, j * n = jn := ⟨_, rfl⟩
              have hjn2 : 0 ≤ jn ∧ jn ≤ 4398046511104 ∧ t ≤ t + jn ∧ t + jn ≤ 4398046511104 := by
                have h1 := HJN.out
                rw [hjn] at h1
                have h2 : (c : Int) * n ≤ n := by
                  rcases (show c = 0 ∨ c = 1 by omega) with h | h <;> subst h <;> simp <;> omega
                have h3 : 0 ≤ (c : Int) * n := Int.mul_nonneg (by omega) (by omega)
                omega
              obtain ⟨j1, j2, j3, j4⟩ := hjn2
              have HST : Hid _ := inP_succ (t := t) (n := n) (now := now) (l := l) (acc := acc) (B := t + (q + 1) * n) hc (A := t + jn) (by rw [← hjn, HJ.out, Int.add_mul, Int.add_assoc])
              clear hj hc2
              have y0 := cell_below HC.out u0
              have y1 := cell_below HC.out u1
              have y2 := cell_below HC.out u2
              have y3 := cell_below HC.out u3
              generalize inP t n now l acc (t + (q + 1) * n) c = bb at *
              have HCC : Hid (Bel wq.heap.size wq wr) := HC
              have hBW : Below w.heap.size w wr := HB2.out.trans (((HB3.out.step HBQ.out.out).step HC.out).out.mono HB2.out.size)
              clear HC
              have hjb : 0 ≤ j ∧ j ≤ 8796093022211 := by have := HJ.out; omega
              obtain ⟨jb1, jb2⟩ := hjb
              by_cases hgt : t + jn > now
              · have ho2 := HONE.out (t + jn) j3 (by omega) wr hBW
                have hfl2 := Nat.le_trans (fl_len t n (t + jn) l) hll
                clear hBW
                go_wp2_with fail
                refine ho2.mono ?_
                rintro e w4 ⟨⟨ma, mc, rfl, hcm⟩, hb4⟩
                have HC4 : Hid (Bel wq.heap.size wq w4) := HCC.out.step hb4
                have hs4 := rsame_any ma na mc nc _ _ w4 (by omega) hcm (HCN.out.below ((HBQ.out.step HC4.out.out).out))
                clear ho2 hcm hb4 y0 y1 y2 y3 HCC
                go_wp2_with fail
                refine hs4.mono ?_
                rintro e w5 ⟨rfl, hb5⟩
                have HC5 : Hid (Bel wq.heap.size wq w5) := HC4.out.step hb5
                clear hs4 hb5 HC4
                by_cases hsm : (flP t n (t + jn) l).map Arv.seq = (flP t n now l).map Arv.seq
                · have HE : Hid (stP t n now l bb (t + jn) = bb) := by show _ = _; unfold stP; rw [if_neg (fun h => h.2 hsm)]
                  rw [decide_eq_true hsm]
                  clear hsm
                  go_wp2
                  go_roundw
                  case rel => exact ⟨c + 1, j + 1, by omega, by rw [HST.out, HE.out], by go_num, by rw [HJ.out]; omega, by rw [HST.out, HE.out]; exact hi1, by rw [HST.out, HE.out]; exact hi2, HC5.out⟩
                  case measure => simp [intOf]; omega
                · have HE : Hid (stP t n now l bb (t + jn) = lsP bb (t + jn) now) := by show _ = _; unfold stP; rw [if_pos ⟨hgt, hsm⟩]
                  rw [decide_eq_false hsm]
                  have hq := lsP_rng (b := bb) (t := t + jn) (now := now) hi2 (by omega) hi1 (by omega)
                  clear hsm
                  go_wp2_with fail
                  refine (rleast_any _ _ _ _).mono ?_
                  rintro e w6 ⟨rfl, hb6⟩
                  have HC6 : Hid (Bel wq.heap.size wq w6) := HC5.out.step hb6
                  clear hb6 HC5
                  go_wp2
                  go_roundw
                  case rel => exact ⟨c + 1, j + 1, by omega, by rw [HST.out, HE.out], by go_num, by rw [HJ.out]; omega, by rw [HST.out, HE.out]; exact hq.1, by rw [HST.out, HE.out]; exact hq.2, HC6.out⟩
                  case measure => simp [intOf]; omega
              · have HE : Hid (stP t n now l bb (t + jn) = bb) := by show _ = _; unfold stP; rw [if_neg (fun h => hgt h.1)]
                clear hBW
                go_wp2
                go_roundw
                case rel => exact ⟨c + 1, j + 1, by omega, by rw [HST.out, HE.out], by go_num, by rw [HJ.out]; omega, by rw [HST.out, HE.out]; exact hi1, by rw [HST.out, HE.out]; exact hi2, HCC.out⟩
                case measure => simp [intOf]; omega
            · obtain rfl : c = 2 := by omega
              have hj1 : ¬ j ≤ q + 1 + 1 := by omega
              have hjb : 0 ≤ j ∧ j ≤ 8796093022211 := by omega
              obtain ⟨jb1, jb2⟩ := hjb
              have HCC : Hid (Bel w3.heap.size w3 wr) := HBQ.out.step HC.out
              clear HC hj
              have hE : inP t n now l acc (t + (q + 1) * n) 2 = f5P t n now l (l.take (m + 1)) := HS.out.symm
              rw [hE] at hi1 hi2 ⊢
              clear hE
              go_wp2
              go_roundw
              case rel => exact ⟨m + 1, by omega, rfl, by go_num, hi1, hi2, HCC.out⟩
              case measure => simp [intOf]; omega
        · obtain rfl : m = l.length := by omega
          have HBW : Hid (Below w.heap.size w wr) := HB2.out.trans ((HB3.out.step HB.out).out.mono HB2.out.size)
          clear HB
          rw [List.take_length] at *
          go_wp2
          go_ret
          exact ⟨ret_int HR.out.symm, HBW.out⟩
    · have h5' : (k == 5) = false := beq_eq_false_iff_ne.2 h5
      have HR : Hid (nxD k n l now = -1) := by show _ = _; unfold nxD; rw [if_neg h3, if_neg h5]
      clear hn5
      go_wp2
      go_ret
      exact ⟨ret_int HR.out.symm, HB2.out⟩
end Go.Proofs.YtfjpdflilmcnhaaGreatDoor
/- The document: when one view turns next, whole. -/
namespace Go.Proofs.YtfjpdflilmcnhaaGreatDoor
open Go.ChangeShapes Go.WideShapes Go.ChangeAt Go.RowKit

set_option maxRecDepth 20000 in
set_option maxHeartbeats 8000000 in
theorem rnext_no (k n : Int) (a : Option Addr) (cap : Nat) (d : Bool) (zs : List Int) (la : Option Addr) (lc : Nat) (l : List Arv) (now : Int) (w : World) (hzl : zs.length ≤ 9223372036854775807) (hz : NsAt w a zs) (hl : CelsAt w la l) (hp : 0 < l.length) (hm : mayB k n zs d ((aAt l 0).row.length : Nat) = false) :
    Calls Tryz.prog 26 #[.agg #[.int .i64 k, .int .i64 n, .slice a zs.length cap, .bool d], .slice la l.length lc, .int .i64 now] w fun e w' => e = .returned (.int .i64 (-1)) ∧ Below w.heap.size w w' := by
  have hck := fun wx (hb : Below w.heap.size w wx) => rCheck_any k n a cap d ((aAt l 0).row.length : Nat) zs wx hzl (hz.below hb)
  rw [hm] at hck
  clear hz hm
  obtain ⟨b, off, rfl, hc⟩ := hl.opn hp
  have c2' := (hc 0 hp).2.2
  simp only [Nat.zero_mul, Nat.add_zero] at c2'
  generalize (aAt l 0).row.length = rl at *
  generalize (aAt l 0).a = ra at *
  generalize (aAt l 0).cap = rc at *
  have hl0 : ¬ l.length = 0 := by omega
  have hl1 : (0 < l.length) = True := eq_true hp
  have hl2 : (((l.length : Nat) : Int) == 0) = false := beq_eq_false_iff_ne.2 (by omega)
  clear hc hl
  unfold vwV ckE at hck
  go_enter Tryz.func26, Tryz.ntmps26
  go_upto_region 1 with (fail)
  have hb1 : Below w.heap.size w (w.alloc (Obj.cells #[.int .i64 k, .int .i64 n, .slice a zs.length cap, .bool d] 32)) := (Below.refl w.heap.size w).alloc (Nat.le_refl _) _
  have c2 := cell_below hb1 c2'
  have y0 : World.cell? (w.alloc (Obj.cells #[.int .i64 k, .int .i64 n, .slice a zs.length cap, .bool d] 32)) ⟨w.heap.size, 0, none⟩ = some (.int .i64 k) := by go_simp
  have y1 : World.cell? (w.alloc (Obj.cells #[.int .i64 k, .int .i64 n, .slice a zs.length cap, .bool d] 32)) ⟨w.heap.size, 1, none⟩ = some (.int .i64 n) := by go_simp
  have y2 : World.cell? (w.alloc (Obj.cells #[.int .i64 k, .int .i64 n, .slice a zs.length cap, .bool d] 32)) ⟨w.heap.size, 2, none⟩ = some (.slice a zs.length cap) := by go_simp
  have y3 : World.cell? (w.alloc (Obj.cells #[.int .i64 k, .int .i64 n, .slice a zs.length cap, .bool d] 32)) ⟨w.heap.size, 3, none⟩ = some (.bool d) := by go_simp
  have HB1 : Hid _ := hb1
  obtain ⟨X, hX⟩ : ∃ X, w.heap.size = X := ⟨_, rfl⟩
  rw [hX] at y0 y1 y2 y3 ⊢
  clear hX c2' hb1
  generalize (w.alloc (Obj.cells #[.int .i64 k, .int .i64 n, .slice a zs.length cap, .bool d] 32)) = w1 at *
  refine wp_region_held_drew (S := (fun wS => Bel w1.heap.size w1 wS)) (by kernel_rfl) ?_ (fun hHeld => ?_)
  · (try dsimp only); exact (Bel.refl _).drew
  refine wpAnyH_take (i := 0) (oi := { dst := some 15, op := Op.move (Operand.tmp 1), type := 23, pos := "ref.go:183", after := #[], guard := none }) (v := ?_) rfl (by kernel_rfl) (by kernel_rfl) (by kernel_rfl) (fun _ _ _ h => h) (Or.inl ⟨by kernel_rfl, ?_⟩) (by assumption) ?_
  rotate_left
  · intro wS hSw; (try dsimp only at hSw); go_simp; (try with_reducible rfl)
  try simp only [Act.put, List.setIfInBounds_toArray, List.set_cons_zero, List.set_cons_succ]
  refine wpAnyH_take (i := 1) (oi := { dst := some 16, op := Op.call { callee := Callee.builtin Builtin.len, args := #[Operand.tmp 15], argTypes := #[23] }, type := 3, pos := "ref.go:183", after := #[{ on := 0, ground := Ground.data }], guard := none }) (v := ?_) rfl (by kernel_rfl) (by kernel_rfl) (by kernel_rfl) (fun _ _ _ h => h) (Or.inl ⟨by kernel_rfl, ?_⟩) (by assumption) ?_
  rotate_left
  · intro wS hSw; (try dsimp only at hSw); go_simp; (try with_reducible rfl)
  try simp only [Act.put, List.setIfInBounds_toArray, List.set_cons_zero, List.set_cons_succ]
  refine wpAnyH_take (i := 2) (oi := { dst := some 17, op := Op.binOp BinOp.eql 3 (Operand.tmp 16) (Operand.const (Value.int IntKind.i64 0)) 3, type := 4, pos := "ref.go:183", after := #[{ on := 1, ground := Ground.data }], guard := none }) (v := ?_) rfl (by kernel_rfl) (by kernel_rfl) (by kernel_rfl) (fun _ _ _ h => h) (Or.inl ⟨by kernel_rfl, ?_⟩) (by assumption) ?_
  rotate_left
  · intro wS hSw; (try dsimp only at hSw); go_simp; (try with_reducible rfl)
  try simp only [Act.put, List.setIfInBounds_toArray, List.set_cons_zero, List.set_cons_succ]
  refine wpAnyH_take (i := 3) (oi := { dst := some 18, op := Op.move (Operand.tmp 17), type := 4, pos := "ref.go:183", after := #[{ on := 2, ground := Ground.data }], guard := none }) (v := ?_) rfl (by kernel_rfl) (by kernel_rfl) (by kernel_rfl) (fun _ _ _ h => h) (Or.inl ⟨by kernel_rfl, ?_⟩) (by assumption) ?_
  rotate_left
  · intro wS hSw; (try dsimp only at hSw); go_simp; (try with_reducible rfl)
  try simp only [Act.put, List.setIfInBounds_toArray, List.set_cons_zero, List.set_cons_succ]
  refine wpAnyH_take (i := 4) (oi := { dst := some 19, op := Op.load 32 (Operand.tmp 3), type := 32, pos := "ref.go:183", after := #[{ on := 3, ground := Ground.guard }], guard := some (3, false) }) (v := ?_) rfl (by kernel_rfl) (by kernel_rfl) (by kernel_rfl) (fun _ _ _ h => h) (Or.inl ⟨by kernel_rfl, ?_⟩) (by assumption) ?_
  rotate_left
  · intro wS hSw; (try dsimp only at hSw); have e0 := cell_below hSw.out y0; have e1 := cell_below hSw.out y1; have e2 := cell_below hSw.out y2; have e3 := cell_below hSw.out y3; go_simp; (try with_reducible rfl)
  try simp only [Act.put, List.setIfInBounds_toArray, List.set_cons_zero, List.set_cons_succ]
  refine wpAnyH_take (i := 5) (oi := { dst := some 20, op := Op.move (Operand.tmp 1), type := 23, pos := "ref.go:183", after := #[{ on := 3, ground := Ground.guard }], guard := some (3, false) }) (v := ?_) rfl (by kernel_rfl) (by kernel_rfl) (by kernel_rfl) (fun _ _ _ h => h) (Or.inl ⟨by kernel_rfl, ?_⟩) (by assumption) ?_
  rotate_left
  · intro wS hSw; (try dsimp only at hSw); go_simp; (try with_reducible rfl)
  try simp only [Act.put, List.setIfInBounds_toArray, List.set_cons_zero, List.set_cons_succ]
  refine wpAnyH_take (i := 6) (oi := { dst := some 21, op := Op.indexAddr 23 (Operand.tmp 20) (Operand.const (Value.int IntKind.i64 0)), type := 0, pos := "ref.go:183", after := #[{ on := 5, ground := Ground.data }, { on := 3, ground := Ground.guard }], guard := some (3, false) }) (v := ?_) rfl (by kernel_rfl) (by kernel_rfl) (by kernel_rfl) (fun _ _ _ h => h) (Or.inl ⟨by kernel_rfl, ?_⟩) (by assumption) ?_
  rotate_left
  · intro wS hSw; (try dsimp only at hSw); go_simp; (try with_reducible rfl)
  try simp only [Act.put, List.setIfInBounds_toArray, List.set_cons_zero, List.set_cons_succ]
  refine wpAnyH_take (i := 7) (oi := { dst := some 22, op := Op.fieldAddr 39 (Operand.tmp 21) 2, type := 0, pos := "ref.go:183", after := #[{ on := 6, ground := Ground.data }, { on := 3, ground := Ground.guard }], guard := some (3, false) }) (v := ?_) rfl (by kernel_rfl) (by kernel_rfl) (by kernel_rfl) (fun _ _ _ h => h) (Or.inl ⟨by kernel_rfl, ?_⟩) (by assumption) ?_
  rotate_left
  · intro wS hSw; (try dsimp only at hSw); go_simp; (try with_reducible rfl)
  try simp only [Act.put, List.setIfInBounds_toArray, List.set_cons_zero, List.set_cons_succ]
  refine wpAnyH_take (i := 8) (oi := { dst := some 23, op := Op.load 37 (Operand.tmp 22), type := 37, pos := "ref.go:183", after := #[{ on := 7, ground := Ground.data }, { on := 3, ground := Ground.guard }], guard := some (3, false) }) (v := ?_) rfl (by kernel_rfl) (by kernel_rfl) (by kernel_rfl) (fun _ _ _ h => h) (Or.inl ⟨by kernel_rfl, ?_⟩) (by assumption) ?_
  rotate_left
  · intro wS hSw; (try dsimp only at hSw); have e5 := cell_below hSw.out c2; go_simp; (try with_reducible rfl)
  try simp only [Act.put, List.setIfInBounds_toArray, List.set_cons_zero, List.set_cons_succ]
  refine wpAnyH_take (i := 9) (oi := { dst := some 24, op := Op.call { callee := Callee.builtin Builtin.len, args := #[Operand.tmp 23], argTypes := #[37] }, type := 3, pos := "ref.go:183", after := #[{ on := 8, ground := Ground.data }, { on := 3, ground := Ground.guard }], guard := some (3, false) }) (v := ?_) rfl (by kernel_rfl) (by kernel_rfl) (by kernel_rfl) (fun _ _ _ h => h) (Or.inl ⟨by kernel_rfl, ?_⟩) (by assumption) ?_
  rotate_left
  · intro wS hSw; (try dsimp only at hSw); go_simp; (try with_reducible rfl)
  try simp only [Act.put, List.setIfInBounds_toArray, List.set_cons_zero, List.set_cons_succ]
  refine wpAnyH_ready (rs := [10]) (by kernel_rfl) (by simp) ?_
  refine AllReadyH.cons (o := { dst := some 25, op := Op.call { callee := Callee.value (Operand.func 20), args := #[Operand.tmp 19, Operand.tmp 24], argTypes := #[32, 3] }, type := 3, pos := "ref.go:183", after := #[{ on := 4, ground := Ground.data }, { on := 9, ground := Ground.data }, { on := 3, ground := Ground.chain }, { on := 3, ground := Ground.guard }], guard := some (3, false) }) rfl (fun K hK => ?_) AllReadyH.nil
  go_simp
  refine (hck _ (HB1.out.trans ((Below.refl w1.heap.size w1).drew.mono HB1.out.size))).mono ?_
  rintro e w2 ⟨rfl, hb2⟩
  have hB2 : Below w1.heap.size w1 w2 := (Below.refl w1.heap.size w1).drew.trans hb2
  (try dsimp only)
  refine hK.out _ _ ?_ (fun hH10 => ?_)
  · (try dsimp only); exact Bel.of hB2
  clear hK K
  refine wpAnyH_take (i := 11) (oi := { dst := some 26, op := Op.binOp BinOp.neq 3 (Operand.tmp 25) (Operand.const (Value.int IntKind.i64 0)) 3, type := 4, pos := "ref.go:183", after := #[{ on := 10, ground := Ground.data }, { on := 3, ground := Ground.guard }], guard := some (3, false) }) (v := ?_) rfl (by kernel_rfl) (by kernel_rfl) (by kernel_rfl) (fun _ _ _ h => h) (Or.inl ⟨by kernel_rfl, ?_⟩) (by assumption) ?_
  rotate_left
  · intro wS hSw; (try dsimp only at hSw); go_simp; (try with_reducible rfl)
  try simp only [Act.put, List.setIfInBounds_toArray, List.set_cons_zero, List.set_cons_succ]
  refine wpAnyH_take (i := 12) (oi := { dst := some 27, op := Op.pick (Operand.tmp 18) (Operand.const (Value.bool true)) (Operand.tmp 26), type := 4, pos := "ref.go:183", after := #[{ on := 3, ground := Ground.data }, { on := 11, ground := Ground.data }], guard := none }) (v := ?_) rfl (by kernel_rfl) (by kernel_rfl) (by kernel_rfl) (fun _ _ _ h => h) (Or.inl ⟨by kernel_rfl, ?_⟩) (by assumption) ?_
  rotate_left
  · intro wS hSw; (try dsimp only at hSw); go_simp; (try with_reducible rfl)
  try simp only [Act.put, List.setIfInBounds_toArray, List.set_cons_zero, List.set_cons_succ]
  refine wpAnyH_done (by kernel_rfl) ?_ _
  have HB2 : Hid (Below w.heap.size w w2) := HB1.out.trans (hB2.mono HB1.out.size)
  clear hck hb2 hB2 hHeld y0 y1 y2 y3 hH10 HB1 c2
  go_wp2
  go_ret
  exact ⟨rfl, HB2.out⟩
set_option maxRecDepth 20000 in
set_option maxHeartbeats 8000000 in
theorem rnext_emp (k n : Int) (a : Option Addr) (zl cap : Nat) (d : Bool) (la : Option Addr) (lc : Nat) (now : Int) (w : World) :
    Calls Tryz.prog 26 #[.agg #[.int .i64 k, .int .i64 n, .slice a zl cap, .bool d], .slice la 0 lc, .int .i64 now] w fun e w' => e = .returned (.int .i64 (-1)) ∧ Below w.heap.size w w' := by
  go_enter Tryz.func26, Tryz.ntmps26
  go_upto_region 1 with (fail)
  have hb1 : Below w.heap.size w (w.alloc (Obj.cells #[.int .i64 k, .int .i64 n, .slice a zl cap, .bool d] 32)) := (Below.refl w.heap.size w).alloc (Nat.le_refl _) _
  have HB1 : Hid _ := hb1
  obtain ⟨X, hX⟩ : ∃ X, w.heap.size = X := ⟨_, rfl⟩
  rw [hX]
  clear hX hb1
  generalize (w.alloc (Obj.cells #[.int .i64 k, .int .i64 n, .slice a zl cap, .bool d] 32)) = w1 at *
  refine wp_region_held_drew (S := (fun wS => Bel w1.heap.size w1 wS)) (by kernel_rfl) ?_ (fun hHeld => ?_)
  · (try dsimp only); exact (Bel.refl _).drew
  refine wpAnyH_take (i := 0) (oi := { dst := some 15, op := Op.move (Operand.tmp 1), type := 23, pos := "ref.go:183", after := #[], guard := none }) (v := ?_) rfl (by kernel_rfl) (by kernel_rfl) (by kernel_rfl) (fun _ _ _ h => h) (Or.inl ⟨by kernel_rfl, ?_⟩) (by assumption) ?_
  rotate_left
  · intro wS hSw; (try dsimp only at hSw); go_simp; (try with_reducible rfl)
  try simp only [Act.put, List.setIfInBounds_toArray, List.set_cons_zero, List.set_cons_succ]
  refine wpAnyH_take (i := 1) (oi := { dst := some 16, op := Op.call { callee := Callee.builtin Builtin.len, args := #[Operand.tmp 15], argTypes := #[23] }, type := 3, pos := "ref.go:183", after := #[{ on := 0, ground := Ground.data }], guard := none }) (v := ?_) rfl (by kernel_rfl) (by kernel_rfl) (by kernel_rfl) (fun _ _ _ h => h) (Or.inl ⟨by kernel_rfl, ?_⟩) (by assumption) ?_
  rotate_left
  · intro wS hSw; (try dsimp only at hSw); go_simp; (try with_reducible rfl)
  try simp only [Act.put, List.setIfInBounds_toArray, List.set_cons_zero, List.set_cons_succ]
  refine wpAnyH_take (i := 2) (oi := { dst := some 17, op := Op.binOp BinOp.eql 3 (Operand.tmp 16) (Operand.const (Value.int IntKind.i64 0)) 3, type := 4, pos := "ref.go:183", after := #[{ on := 1, ground := Ground.data }], guard := none }) (v := ?_) rfl (by kernel_rfl) (by kernel_rfl) (by kernel_rfl) (fun _ _ _ h => h) (Or.inl ⟨by kernel_rfl, ?_⟩) (by assumption) ?_
  rotate_left
  · intro wS hSw; (try dsimp only at hSw); go_simp; (try with_reducible rfl)
  try simp only [Act.put, List.setIfInBounds_toArray, List.set_cons_zero, List.set_cons_succ]
  refine wpAnyH_take (i := 3) (oi := { dst := some 18, op := Op.move (Operand.tmp 17), type := 4, pos := "ref.go:183", after := #[{ on := 2, ground := Ground.data }], guard := none }) (v := ?_) rfl (by kernel_rfl) (by kernel_rfl) (by kernel_rfl) (fun _ _ _ h => h) (Or.inl ⟨by kernel_rfl, ?_⟩) (by assumption) ?_
  rotate_left
  · intro wS hSw; (try dsimp only at hSw); go_simp; (try with_reducible rfl)
  try simp only [Act.put, List.setIfInBounds_toArray, List.set_cons_zero, List.set_cons_succ]
  refine wpAnyH_take (i := 4) (oi := { dst := some 19, op := Op.load 32 (Operand.tmp 3), type := 32, pos := "ref.go:183", after := #[{ on := 3, ground := Ground.guard }], guard := some (3, false) }) (v := undef) rfl (by kernel_rfl) (by kernel_rfl) (by kernel_rfl) (fun _ _ _ h => h) (Or.inr ⟨by kernel_rfl, rfl⟩) (by assumption) ?_
  try simp only [Act.put, List.setIfInBounds_toArray, List.set_cons_zero, List.set_cons_succ]
  refine wpAnyH_take (i := 5) (oi := { dst := some 20, op := Op.move (Operand.tmp 1), type := 23, pos := "ref.go:183", after := #[{ on := 3, ground := Ground.guard }], guard := some (3, false) }) (v := undef) rfl (by kernel_rfl) (by kernel_rfl) (by kernel_rfl) (fun _ _ _ h => h) (Or.inr ⟨by kernel_rfl, rfl⟩) (by assumption) ?_
  try simp only [Act.put, List.setIfInBounds_toArray, List.set_cons_zero, List.set_cons_succ]
  refine wpAnyH_take (i := 6) (oi := { dst := some 21, op := Op.indexAddr 23 (Operand.tmp 20) (Operand.const (Value.int IntKind.i64 0)), type := 0, pos := "ref.go:183", after := #[{ on := 5, ground := Ground.data }, { on := 3, ground := Ground.guard }], guard := some (3, false) }) (v := undef) rfl (by kernel_rfl) (by kernel_rfl) (by kernel_rfl) (fun _ _ _ h => h) (Or.inr ⟨by kernel_rfl, rfl⟩) (by assumption) ?_
  try simp only [Act.put, List.setIfInBounds_toArray, List.set_cons_zero, List.set_cons_succ]
  refine wpAnyH_take (i := 7) (oi := { dst := some 22, op := Op.fieldAddr 39 (Operand.tmp 21) 2, type := 0, pos := "ref.go:183", after := #[{ on := 6, ground := Ground.data }, { on := 3, ground := Ground.guard }], guard := some (3, false) }) (v := undef) rfl (by kernel_rfl) (by kernel_rfl) (by kernel_rfl) (fun _ _ _ h => h) (Or.inr ⟨by kernel_rfl, rfl⟩) (by assumption) ?_
  try simp only [Act.put, List.setIfInBounds_toArray, List.set_cons_zero, List.set_cons_succ]
  refine wpAnyH_take (i := 8) (oi := { dst := some 23, op := Op.load 37 (Operand.tmp 22), type := 37, pos := "ref.go:183", after := #[{ on := 7, ground := Ground.data }, { on := 3, ground := Ground.guard }], guard := some (3, false) }) (v := undef) rfl (by kernel_rfl) (by kernel_rfl) (by kernel_rfl) (fun _ _ _ h => h) (Or.inr ⟨by kernel_rfl, rfl⟩) (by assumption) ?_
  try simp only [Act.put, List.setIfInBounds_toArray, List.set_cons_zero, List.set_cons_succ]
  refine wpAnyH_take (i := 9) (oi := { dst := some 24, op := Op.call { callee := Callee.builtin Builtin.len, args := #[Operand.tmp 23], argTypes := #[37] }, type := 3, pos := "ref.go:183", after := #[{ on := 8, ground := Ground.data }, { on := 3, ground := Ground.guard }], guard := some (3, false) }) (v := undef) rfl (by kernel_rfl) (by kernel_rfl) (by kernel_rfl) (fun _ _ _ h => h) (Or.inr ⟨by kernel_rfl, rfl⟩) (by assumption) ?_
  try simp only [Act.put, List.setIfInBounds_toArray, List.set_cons_zero, List.set_cons_succ]
  refine wpAnyH_take (i := 10) (oi := { dst := some 25, op := Op.call { callee := Callee.value (Operand.func 20), args := #[Operand.tmp 19, Operand.tmp 24], argTypes := #[32, 3] }, type := 3, pos := "ref.go:183", after := #[{ on := 4, ground := Ground.data }, { on := 9, ground := Ground.data }, { on := 3, ground := Ground.chain }, { on := 3, ground := Ground.guard }], guard := some (3, false) }) (v := undef) rfl (by kernel_rfl) (by kernel_rfl) (by kernel_rfl) (fun _ _ _ h => h) (Or.inr ⟨by kernel_rfl, rfl⟩) (by assumption) ?_
  try simp only [Act.put, List.setIfInBounds_toArray, List.set_cons_zero, List.set_cons_succ]
  refine wpAnyH_take (i := 11) (oi := { dst := some 26, op := Op.binOp BinOp.neq 3 (Operand.tmp 25) (Operand.const (Value.int IntKind.i64 0)) 3, type := 4, pos := "ref.go:183", after := #[{ on := 10, ground := Ground.data }, { on := 3, ground := Ground.guard }], guard := some (3, false) }) (v := undef) rfl (by kernel_rfl) (by kernel_rfl) (by kernel_rfl) (fun _ _ _ h => h) (Or.inr ⟨by kernel_rfl, rfl⟩) (by assumption) ?_
  try simp only [Act.put, List.setIfInBounds_toArray, List.set_cons_zero, List.set_cons_succ]
  refine wpAnyH_take (i := 12) (oi := { dst := some 27, op := Op.pick (Operand.tmp 18) (Operand.const (Value.bool true)) (Operand.tmp 26), type := 4, pos := "ref.go:183", after := #[{ on := 3, ground := Ground.data }, { on := 11, ground := Ground.data }], guard := none }) (v := ?_) rfl (by kernel_rfl) (by kernel_rfl) (by kernel_rfl) (fun _ _ _ h => h) (Or.inl ⟨by kernel_rfl, ?_⟩) (by assumption) ?_
  rotate_left
  · intro wS hSw; (try dsimp only at hSw); go_simp; (try with_reducible rfl)
  try simp only [Act.put, List.setIfInBounds_toArray, List.set_cons_zero, List.set_cons_succ]
  refine wpAnyH_done (by kernel_rfl) ?_ _
  clear hHeld
  go_wp2
  go_ret
  exact ⟨rfl, HB1.out.trans ((Below.refl w1.heap.size w1).drew.mono HB1.out.size)⟩
/-- When one view turns next, as the document reckons it; less than 0: never. -/
def nxR (k n : Int) (zs : List Int) (d : Bool) (l : List Arv) (now : Int) : Int := if 0 < l.length ∧ mayB k n zs d ((aAt l 0).row.length : Nat) = true then nxD k n l now else -1
theorem rnext_any (k n : Int) (a : Option Addr) (cap : Nat) (d : Bool) (zs : List Int) (la : Option Addr) (lc : Nat) (l : List Arv) (now : Int) (w : World) (hzl : zs.length ≤ 9223372036854775807) (hz : NsAt w a zs) (hl : CelsAt w la l) (hll : l.length ≤ 200) (ht : Tms l) (hA : 0 < l.length → (aAt l 0).time ≤ now) (hA2 : now ≤ 1099511627776) :
    Calls Tryz.prog 26 #[.agg #[.int .i64 k, .int .i64 n, .slice a zs.length cap, .bool d], .slice la l.length lc, .int .i64 now] w fun e w' => e = .returned (.int .i64 (nxR k n zs d l now)) ∧ Below w.heap.size w w' := by
  unfold nxR
  rcases Nat.eq_zero_or_pos l.length with h | h
  · rw [if_neg (by omega), h]
    exact rnext_emp k n a zs.length cap d la lc now w
  · cases hm : mayB k n zs d ((aAt l 0).row.length : Nat)
    · rw [if_neg (by simp)]
      exact rnext_no k n a cap d zs la lc l now w hzl hz hl h hm
    · rw [if_pos ⟨h, rfl⟩]
      exact rnext_some k n a cap d zs la lc l now w hzl hz hl h hll ht hm (hA h) hA2
end Go.Proofs.YtfjpdflilmcnhaaGreatDoor
