/- Bytes laid one behind another (appendNumber, appendValue). -/
import Derived.Test.YtbfodpmlmhkikaaDoorAdd
import Derived.Laws.AppendOwn
import Derived.OwnWalk
import Derived.Maps.AppendAt
import Derived.Deep.AppendSrc
namespace Go.Proofs.YtbfodpmlmhkikaaDoor
open Go.ChangeShapes Go.WideShapes Go.ChangeAt Go.RowKit

theorem info5 : (Tryd.prog.info? 5).map (fun i => (i.zero, i.size, i.bytes)) = some (some (.int .u8 0), 1, 1) := by kernel_rfl
/-- The cells of bytes. -/
def byC (bs : List UInt8) : List Value := bs.map fun b => .int .u8 b.toNat
theorem byC_len (bs : List UInt8) : (byC bs).length = bs.length := by simp [byC]
theorem byC_app (a b : List UInt8) : byC (a ++ b) = byC a ++ byC b := by simp [byC]
/-- A number's lowest bytes, the lowest first. -/
def leB : Nat → Nat → List UInt8
  | 0, _ => []
  | s + 1, n => UInt8.ofNat (n % 256) :: leB s (n / 256)
theorem leB_len (s n : Nat) : (leB s n).length = s := by
  induction s generalizing n with
  | zero => rfl
  | succ s ih => simp [leB, ih]
/-- From a slice and a world to others: nothing else was turned. -/
structure Grew (v : Value) (w : World) (v' : Value) (w' : World) : Prop where
  fr : Fr (fun k => v.ownBlock = some k) w w'
  at_ : ∀ k, v'.ownBlock = some k → v.ownBlock = some k ∨ w.heap.size ≤ k
theorem Grew.refl (v : Value) (w : World) : Grew v w v w := ⟨Fr.refl _ _, fun _ h => Or.inl h⟩
theorem Grew.trans {v v1 v2 : Value} {w w1 w2 : World} (h : Grew v w v1 w1) (k : Grew v1 w1 v2 w2) : Grew v w v2 w2 where
  fr := ⟨k.fr.os.trans h.fr.os, k.fr.tape.trans h.fr.tape, k.fr.output.trans h.fr.output, Nat.le_trans h.fr.size k.fr.size, fun i hi hS => by
    refine (k.fr.block i (Nat.lt_of_lt_of_le hi h.fr.size) (fun e => ?_)).trans (h.fr.block i hi hS)
    rcases h.at_ i e with h1 | h1
    · exact hS h1
    · omega⟩
  at_ := fun i hi => by
    rcases k.at_ i hi with h1 | h1
    · exact h.at_ i h1
    · exact Or.inr (Nat.le_trans h.fr.size h1)
theorem Grew.step {v v' : Value} {w w' : World} {o : Obj} (hg : (w.alloc o).grownBy w' v.ownBlock) (hl : v'.ownBlock = v.ownBlock ∨ v'.ownBlock = some (w.heap.size + 1)) : Grew v w v' w' where
  fr := ⟨hg.os, hg.tape, hg.output, by have := hg.size; simp at this; omega, fun k hk hS => (hg.block k (by simp; omega) (fun e => hS e.symm)).trans (Below.heap_alloc _ _ _ hk)⟩
  at_ := fun k hk => by
    rcases hl with h | h
    · exact Or.inl (h ▸ hk)
    · rw [h] at hk; injection hk with hk; right; omega
/-- A slice of bytes that the call has laid. -/
def OwnB (w : World) (base : Nat) (v : Value) (bs : List UInt8) : Prop := w.ownsRow base 5 1 v bs.length (byC bs)
set_option maxRecDepth 20000 in
set_option maxHeartbeats 4000000 in
theorem appendNumber_any (v : Value) (bs : List UInt8) (n s base : Nat) (w : World) (ho : OwnB w base v bs) (hbase : base ≤ w.heap.size) (hn : n < 18446744073709551616) (hs : s ≤ 8) (hl : bs.length ≤ 4294967296) :
    Calls Tryd.prog 43 #[v, .int .u64 n, .int .i64 s] w fun e w' => ∃ v', e = .returned v' ∧ OwnB w' base v' (bs ++ leB s n) ∧ Below base w w' ∧ Grew v w v' w' := by
  obtain ⟨i0, hi, hz0, hz1, hz2⟩ := info_parts info5
  go_enter Tryd.func43, Tryd.ntmps43
  go_wp2
  go_loopw [0, 1, 8] (fun b x i wr => ∃ (m k : Nat) (v1 : Value) (cs : List UInt8), m ≤ s ∧ b = v1 ∧ x = .int .u64 k ∧ k < 18446744073709551616 ∧ i = .int .i64 m ∧ cs ++ leB (s - m) k = bs ++ leB s n ∧ cs.length = bs.length + m ∧ OwnB wr base v1 cs ∧ Below base w wr ∧ Grew v w v1 wr) (fun _ _ i _ => s - (intOf i).toNat)
  case atStart => exact ⟨0, n, v, bs, Nat.zero_le _, rfl, rfl, hn, rfl, rfl, rfl, ho, Below.refl _ _, Grew.refl _ _⟩
  case round =>
    obtain ⟨m, k, v1, cs, hm, hb1, rfl, hk, rfl, hV, hcl, hO, hB, hG⟩ := hrel
    have HG : Hid _ := hG
    clear hG
    have hb2 := hb1.symm
    clear hb1
    subst hb2
    have HV : Hid (cs ++ leB (s - m) k = bs ++ leB s n) := hV
    have HO : Hid (OwnB wr base v1 cs) := hO
    have hbw : base ≤ wr.heap.size := Nat.le_trans hbase hB.size
    clear hV hO ho
    rcases Nat.lt_or_ge m s with hlt | hge
    · have hnl : cs.length + 1 ≤ maxLen := by unfold maxLen; omega
      have hby : (cs.length + 1) * 1 ≤ 140737488355328 := by omega
      have hone : Hid (∀ u ∈ [Value.int .u8 ((k : Int) % 256)], u.oneCell' = true) := by intro u hu; simp only [List.mem_singleton] at hu; subst hu; rfl
      have hcel : Hid _ := cell_one_new wr (.int .u8 ((k : Int) % 256)) 5
      have hrow : Hid ((wr.alloc (.cells #[.int .u8 ((k : Int) % 256)] 5)).ownsRow base 5 1 v1 cs.length (byC cs)) := HO.out.alloc _
      have hbw2 : base ≤ (wr.alloc (.cells #[.int .u8 ((k : Int) % 256)] 5)).heap.size := by rw [World.size_alloc]; omega
      go_wp2_with (at_builtin; refine wpList_append_own_at _ rfl _ _ 61 rfl base 5 i0 (.int .u8 0) 1 1 Tryd.underlying61 hi hz0 hz1 hz2 rfl (by decide) _ _ _ rfl hrow.out ⟨wr.heap.size, 0, none⟩ 1 1 [.int .u8 ((k : Int) % 256)] rfl rfl hcel.out hone.out hnl hby hbw2 ?_)
      intro v2 w2 hown2 hgrow2 _ hloc2
      have HG2 : Hid (Grew v w v2 w2) := HG.out.trans (Grew.step hgrow2 hloc2)
      clear hloc2
      have HO2 : Hid (OwnB w2 base v2 (cs ++ [UInt8.ofNat (k % 256)])) := by
        show World.ownsRow _ _ _ _ _ _ _
        rw [List.length_append, List.length_singleton, byC_app]
        have e : byC [UInt8.ofNat (k % 256)] = [.int .u8 ((k : Int) % 256)] := by
          simp only [byC, List.map_cons, List.map_nil]
          have : (UInt8.ofNat (k % 256)).toNat = k % 256 := by rw [UInt8.toNat_ofNat']; omega
          rw [this]; simp
        rw [e, hcl]; exact hown2
      have hB2 : Below base w w2 := (hB.alloc hbw _).grown hgrow2 hbw2 (fun j hj => (hrow.out.lt j hj).1)
      have HV2 : Hid ((cs ++ [UInt8.ofNat (k % 256)]) ++ leB (s - (m + 1)) (k / 256) = bs ++ leB s n) := by
        show _ = _
        rw [← HV.out, List.append_assoc, show s - m = (s - (m + 1)) + 1 by omega]
        rfl
      clear hown2 hgrow2 hone hcel hrow HO HV hB
      go_wp2
      go_roundw
      case rel => exact ⟨m + 1, k / 256, v2, _, by omega, rfl, by simp, by omega, by go_num, HV2.out, by simp; omega, HO2.out, hB2, HG2.out⟩
      case measure => simp [intOf]; omega
    · obtain rfl : m = s := by omega
      have HN : Hid (cs = bs ++ leB m n) := by
        show _ = _
        have := HV.out
        rw [Nat.sub_self] at this
        simpa [leB] using this
      go_wp2
      go_ret
      exact ⟨v1, rfl, by rw [← HN.out]; exact HO.out, hB, HG.out⟩
def u64 (n : Int) : Nat := (n % 18446744073709551616).toNat
set_option maxRecDepth 20000 in
set_option maxHeartbeats 4000000 in
theorem appV_0 (v : Value) (bs : List UInt8) (n : Int) (t : ByteArray) (base : Nat) (w : World) (ho : OwnB w base v bs) (hbase : base ≤ w.heap.size) (hl : bs.length ≤ 4294967295) :
    Calls Tryd.prog 26 #[v, .agg #[.int .i64 0, .int .i64 n, .string t]] w fun e w' => ∃ v', e = .returned v' ∧ OwnB w' base v' (bs ++ [0]) ∧ Below base w w' := by
  obtain ⟨i0, hi, hz0, hz1, hz2⟩ := info_parts info5
  have hnl : bs.length + 1 ≤ maxLen := by unfold maxLen; omega
  have hby : (bs.length + 1) * 1 ≤ 140737488355328 := by omega
  have hone : Hid (∀ u ∈ [Value.int .u8 0], u.oneCell' = true) := by intro u hu; simp only [List.mem_singleton] at hu; subst hu; rfl
  have hcel : Hid _ := cell_one_new (w.alloc (.cells #[.int .i64 0, .int .i64 n, .string t] 53)) (.int .u8 0) 5
  rw [World.size_alloc] at hcel
  have hrow : Hid (((w.alloc (.cells #[.int .i64 0, .int .i64 n, .string t] 53)).alloc (.cells #[.int .u8 0] 5)).ownsRow base 5 1 v bs.length (byC bs)) := (ho.alloc _).alloc _
  have hbw2 : base ≤ ((w.alloc (.cells #[.int .i64 0, .int .i64 n, .string t] 53)).alloc (.cells #[.int .u8 0] 5)).heap.size := by simp only [World.size_alloc]; omega
  have q0 : (w.alloc (.cells #[.int .i64 0, .int .i64 n, .string t] 53)).cell? ⟨w.heap.size, 0, none⟩ = some (.int .i64 0) := new3_0 _ _ _ _ _
  have q1 : (w.alloc (.cells #[.int .i64 0, .int .i64 n, .string t] 53)).cell? ⟨w.heap.size, 1, none⟩ = some (.int .i64 n) := new3_1 _ _ _ _ _
  have q2 : (w.alloc (.cells #[.int .i64 0, .int .i64 n, .string t] 53)).cell? ⟨w.heap.size, 2, none⟩ = some (.string t) := new3_2 _ _ _ _ _
  have hnb : ∀ j, v.ownBlock = some j → j ≠ w.heap.size := fun j hj => by have := (ho.lt j hj).2; omega
  have HO : Hid _ := ho
  have HNB : Hid _ := hnb
  clear ho hnb
  go_enter Tryd.func26, Tryd.ntmps26
  go_wp2_with (at_builtin; refine wpList_append_own_at _ rfl _ _ 61 rfl base 5 i0 (.int .u8 0) 1 1 Tryd.underlying61 hi hz0 hz1 hz2 rfl (by decide) _ _ _ rfl hrow.out ⟨w.heap.size + 1, 0, none⟩ 1 1 [.int .u8 0] rfl rfl hcel.out hone.out hnl hby hbw2 ?_)
  intro v2 w2 hown2 hgrow2 _ hloc2
  have HNB2 : Hid (∀ j, v2.ownBlock = some j → j ≠ w.heap.size) := fun j hj => by
    rcases hloc2 with h | h
    · exact HNB.out j (h ▸ hj)
    · rw [h] at hj; injection hj with hj; omega
  clear hloc2
  have HO2 : Hid (OwnB w2 base v2 (bs ++ [0])) := by
    show World.ownsRow _ _ _ _ _ _ _
    rw [List.length_append, List.length_singleton, byC_app]
    exact hown2
  have hB2 : Below base w w2 := (((Below.refl _ _).alloc hbase _).alloc (by rw [World.size_alloc]; omega) _).grown hgrow2 hbw2 (fun j hj => (hrow.out.lt j hj).1)
  have hkeep : w2.heap[w.heap.size]? = ((w.alloc (.cells #[.int .i64 0, .int .i64 n, .string t] 53)).alloc (.cells #[.int .u8 0] 5)).heap[w.heap.size]? := hgrow2.block _ (by simp only [World.size_alloc]; omega) (fun e => HNB.out _ e.symm rfl)
  rw [Below.heap_alloc _ _ _ (by simp)] at hkeep
  have p0 : w2.cell? ⟨w.heap.size, 0, none⟩ = some (.int .i64 0) := (World.cell?_of_block (a := ⟨w.heap.size, 0, none⟩) hkeep).trans q0
  have p1 : w2.cell? ⟨w.heap.size, 1, none⟩ = some (.int .i64 n) := (World.cell?_of_block (a := ⟨w.heap.size, 1, none⟩) hkeep).trans q1
  have p2 : w2.cell? ⟨w.heap.size, 2, none⟩ = some (.string t) := (World.cell?_of_block (a := ⟨w.heap.size, 2, none⟩) hkeep).trans q2
  have hw2 : w.heap.size < w2.heap.size := cell_lt p0
  clear hown2 hgrow2 hone hcel hrow hkeep q0 q1 q2 HO
  go_wp2
  go_ret
  exact ⟨v2, rfl, HO2.out, hB2⟩
set_option maxRecDepth 20000 in
set_option maxHeartbeats 4000000 in
theorem appV_1 (v : Value) (bs : List UInt8) (n : Int) (t : ByteArray) (base : Nat) (w : World) (ho : OwnB w base v bs) (hbase : base ≤ w.heap.size) (hl : bs.length ≤ 4294967295) (_hn1 : -9223372036854775808 ≤ n) (_hn2 : n ≤ 9223372036854775807) :
    Calls Tryd.prog 26 #[v, .agg #[.int .i64 1, .int .i64 n, .string t]] w fun e w' => ∃ v', e = .returned v' ∧ OwnB w' base v' (bs ++ ([1] ++ leB 1 (u64 n))) ∧ Below base w w' := by
  obtain ⟨i0, hi, hz0, hz1, hz2⟩ := info_parts info5
  have hnl : bs.length + 1 ≤ maxLen := by unfold maxLen; omega
  have hby : (bs.length + 1) * 1 ≤ 140737488355328 := by omega
  have hone : Hid (∀ u ∈ [Value.int .u8 1], u.oneCell' = true) := by intro u hu; simp only [List.mem_singleton] at hu; subst hu; rfl
  have hcel : Hid _ := cell_one_new (w.alloc (.cells #[.int .i64 1, .int .i64 n, .string t] 53)) (.int .u8 1) 5
  rw [World.size_alloc] at hcel
  have hrow : Hid (((w.alloc (.cells #[.int .i64 1, .int .i64 n, .string t] 53)).alloc (.cells #[.int .u8 1] 5)).ownsRow base 5 1 v bs.length (byC bs)) := (ho.alloc _).alloc _
  have hbw2 : base ≤ ((w.alloc (.cells #[.int .i64 1, .int .i64 n, .string t] 53)).alloc (.cells #[.int .u8 1] 5)).heap.size := by simp only [World.size_alloc]; omega
  have q0 : (w.alloc (.cells #[.int .i64 1, .int .i64 n, .string t] 53)).cell? ⟨w.heap.size, 0, none⟩ = some (.int .i64 1) := new3_0 _ _ _ _ _
  have q1 : (w.alloc (.cells #[.int .i64 1, .int .i64 n, .string t] 53)).cell? ⟨w.heap.size, 1, none⟩ = some (.int .i64 n) := new3_1 _ _ _ _ _
  have q2 : (w.alloc (.cells #[.int .i64 1, .int .i64 n, .string t] 53)).cell? ⟨w.heap.size, 2, none⟩ = some (.string t) := new3_2 _ _ _ _ _
  have hnb : ∀ j, v.ownBlock = some j → j ≠ w.heap.size := fun j hj => by have := (ho.lt j hj).2; omega
  have HO : Hid _ := ho
  have HNB : Hid _ := hnb
  clear ho hnb
  go_enter Tryd.func26, Tryd.ntmps26
  go_wp2_with (at_builtin; refine wpList_append_own_at _ rfl _ _ 61 rfl base 5 i0 (.int .u8 0) 1 1 Tryd.underlying61 hi hz0 hz1 hz2 rfl (by decide) _ _ _ rfl hrow.out ⟨w.heap.size + 1, 0, none⟩ 1 1 [.int .u8 1] rfl rfl hcel.out hone.out hnl hby hbw2 ?_)
  intro v2 w2 hown2 hgrow2 _ hloc2
  have HNB2 : Hid (∀ j, v2.ownBlock = some j → j ≠ w.heap.size) := fun j hj => by
    rcases hloc2 with h | h
    · exact HNB.out j (h ▸ hj)
    · rw [h] at hj; injection hj with hj; omega
  clear hloc2
  have HO2 : Hid (OwnB w2 base v2 (bs ++ [1])) := by
    show World.ownsRow _ _ _ _ _ _ _
    rw [List.length_append, List.length_singleton, byC_app]
    exact hown2
  have hB2 : Below base w w2 := (((Below.refl _ _).alloc hbase _).alloc (by rw [World.size_alloc]; omega) _).grown hgrow2 hbw2 (fun j hj => (hrow.out.lt j hj).1)
  have hkeep : w2.heap[w.heap.size]? = ((w.alloc (.cells #[.int .i64 1, .int .i64 n, .string t] 53)).alloc (.cells #[.int .u8 1] 5)).heap[w.heap.size]? := hgrow2.block _ (by simp only [World.size_alloc]; omega) (fun e => HNB.out _ e.symm rfl)
  rw [Below.heap_alloc _ _ _ (by simp)] at hkeep
  have p0 : w2.cell? ⟨w.heap.size, 0, none⟩ = some (.int .i64 1) := (World.cell?_of_block (a := ⟨w.heap.size, 0, none⟩) hkeep).trans q0
  have p1 : w2.cell? ⟨w.heap.size, 1, none⟩ = some (.int .i64 n) := (World.cell?_of_block (a := ⟨w.heap.size, 1, none⟩) hkeep).trans q1
  have p2 : w2.cell? ⟨w.heap.size, 2, none⟩ = some (.string t) := (World.cell?_of_block (a := ⟨w.heap.size, 2, none⟩) hkeep).trans q2
  have hw2 : w.heap.size < w2.heap.size := cell_lt p0
  clear hown2 hgrow2 hone hcel hrow hkeep q0 q1 q2 HO
  have hcv : ((u64 n : Nat) : Int) = n % 18446744073709551616 := by unfold u64; omega
  have hcall := appendNumber_any v2 (bs ++ [1]) (u64 n) 1 base w2 HO2.out (by omega) (by unfold u64; omega) (by omega) (by simp; omega)
  rw [hcv] at hcall
  go_wp2_with fail

  refine hcall.mono ?_
  rintro e w3 ⟨v3, rfl, hO3, hB3, hG3⟩
  clear hG3
  have HO3 : Hid _ := hO3
  clear hO3
  go_wp2
  go_ret
  exact ⟨v3, rfl, by have h := HO3.out; rw [List.append_assoc] at h; exact h, hB2.trans hB3⟩
set_option maxRecDepth 20000 in
set_option maxHeartbeats 4000000 in
theorem appV_2 (v : Value) (bs : List UInt8) (n : Int) (t : ByteArray) (base : Nat) (w : World) (ho : OwnB w base v bs) (hbase : base ≤ w.heap.size) (hl : bs.length ≤ 4294967295) (_hn1 : -9223372036854775808 ≤ n) (_hn2 : n ≤ 9223372036854775807) :
    Calls Tryd.prog 26 #[v, .agg #[.int .i64 2, .int .i64 n, .string t]] w fun e w' => ∃ v', e = .returned v' ∧ OwnB w' base v' (bs ++ ([2] ++ leB 8 (u64 n))) ∧ Below base w w' := by
  obtain ⟨i0, hi, hz0, hz1, hz2⟩ := info_parts info5
  have hnl : bs.length + 1 ≤ maxLen := by unfold maxLen; omega
  have hby : (bs.length + 1) * 1 ≤ 140737488355328 := by omega
  have hone : Hid (∀ u ∈ [Value.int .u8 2], u.oneCell' = true) := by intro u hu; simp only [List.mem_singleton] at hu; subst hu; rfl
  have hcel : Hid _ := cell_one_new (w.alloc (.cells #[.int .i64 2, .int .i64 n, .string t] 53)) (.int .u8 2) 5
  rw [World.size_alloc] at hcel
  have hrow : Hid (((w.alloc (.cells #[.int .i64 2, .int .i64 n, .string t] 53)).alloc (.cells #[.int .u8 2] 5)).ownsRow base 5 1 v bs.length (byC bs)) := (ho.alloc _).alloc _
  have hbw2 : base ≤ ((w.alloc (.cells #[.int .i64 2, .int .i64 n, .string t] 53)).alloc (.cells #[.int .u8 2] 5)).heap.size := by simp only [World.size_alloc]; omega
  have q0 : (w.alloc (.cells #[.int .i64 2, .int .i64 n, .string t] 53)).cell? ⟨w.heap.size, 0, none⟩ = some (.int .i64 2) := new3_0 _ _ _ _ _
  have q1 : (w.alloc (.cells #[.int .i64 2, .int .i64 n, .string t] 53)).cell? ⟨w.heap.size, 1, none⟩ = some (.int .i64 n) := new3_1 _ _ _ _ _
  have q2 : (w.alloc (.cells #[.int .i64 2, .int .i64 n, .string t] 53)).cell? ⟨w.heap.size, 2, none⟩ = some (.string t) := new3_2 _ _ _ _ _
  have hnb : ∀ j, v.ownBlock = some j → j ≠ w.heap.size := fun j hj => by have := (ho.lt j hj).2; omega
  have HO : Hid _ := ho
  have HNB : Hid _ := hnb
  clear ho hnb
  go_enter Tryd.func26, Tryd.ntmps26
  go_wp2_with (at_builtin; refine wpList_append_own_at _ rfl _ _ 61 rfl base 5 i0 (.int .u8 0) 1 1 Tryd.underlying61 hi hz0 hz1 hz2 rfl (by decide) _ _ _ rfl hrow.out ⟨w.heap.size + 1, 0, none⟩ 1 1 [.int .u8 2] rfl rfl hcel.out hone.out hnl hby hbw2 ?_)
  intro v2 w2 hown2 hgrow2 _ hloc2
  have HNB2 : Hid (∀ j, v2.ownBlock = some j → j ≠ w.heap.size) := fun j hj => by
    rcases hloc2 with h | h
    · exact HNB.out j (h ▸ hj)
    · rw [h] at hj; injection hj with hj; omega
  clear hloc2
  have HO2 : Hid (OwnB w2 base v2 (bs ++ [2])) := by
    show World.ownsRow _ _ _ _ _ _ _
    rw [List.length_append, List.length_singleton, byC_app]
    exact hown2
  have hB2 : Below base w w2 := (((Below.refl _ _).alloc hbase _).alloc (by rw [World.size_alloc]; omega) _).grown hgrow2 hbw2 (fun j hj => (hrow.out.lt j hj).1)
  have hkeep : w2.heap[w.heap.size]? = ((w.alloc (.cells #[.int .i64 2, .int .i64 n, .string t] 53)).alloc (.cells #[.int .u8 2] 5)).heap[w.heap.size]? := hgrow2.block _ (by simp only [World.size_alloc]; omega) (fun e => HNB.out _ e.symm rfl)
  rw [Below.heap_alloc _ _ _ (by simp)] at hkeep
  have p0 : w2.cell? ⟨w.heap.size, 0, none⟩ = some (.int .i64 2) := (World.cell?_of_block (a := ⟨w.heap.size, 0, none⟩) hkeep).trans q0
  have p1 : w2.cell? ⟨w.heap.size, 1, none⟩ = some (.int .i64 n) := (World.cell?_of_block (a := ⟨w.heap.size, 1, none⟩) hkeep).trans q1
  have p2 : w2.cell? ⟨w.heap.size, 2, none⟩ = some (.string t) := (World.cell?_of_block (a := ⟨w.heap.size, 2, none⟩) hkeep).trans q2
  have hw2 : w.heap.size < w2.heap.size := cell_lt p0
  clear hown2 hgrow2 hone hcel hrow hkeep q0 q1 q2 HO
  have hcv : ((u64 n : Nat) : Int) = n % 18446744073709551616 := by unfold u64; omega
  have hcall := appendNumber_any v2 (bs ++ [2]) (u64 n) 8 base w2 HO2.out (by omega) (by unfold u64; omega) (by omega) (by simp; omega)
  rw [hcv] at hcall
  go_wp2_with fail

  refine hcall.mono ?_
  rintro e w3 ⟨v3, rfl, hO3, hB3, hG3⟩
  clear hG3
  have HO3 : Hid _ := hO3
  clear hO3
  go_wp2
  go_ret
  exact ⟨v3, rfl, by have h := HO3.out; rw [List.append_assoc] at h; exact h, hB2.trans hB3⟩
set_option maxRecDepth 20000 in
set_option maxHeartbeats 4000000 in
theorem appV_3 (v : Value) (bs : List UInt8) (n : Int) (t : ByteArray) (base : Nat) (w : World) (ho : OwnB w base v bs) (hbase : base ≤ w.heap.size) (hl : bs.length ≤ 4294967295) (_hn1 : -9223372036854775808 ≤ n) (_hn2 : n ≤ 9223372036854775807) :
    Calls Tryd.prog 26 #[v, .agg #[.int .i64 3, .int .i64 n, .string t]] w fun e w' => ∃ v', e = .returned v' ∧ OwnB w' base v' (bs ++ ([3] ++ leB 8 (u64 n))) ∧ Below base w w' := by
  obtain ⟨i0, hi, hz0, hz1, hz2⟩ := info_parts info5
  have hnl : bs.length + 1 ≤ maxLen := by unfold maxLen; omega
  have hby : (bs.length + 1) * 1 ≤ 140737488355328 := by omega
  have hone : Hid (∀ u ∈ [Value.int .u8 3], u.oneCell' = true) := by intro u hu; simp only [List.mem_singleton] at hu; subst hu; rfl
  have hcel : Hid _ := cell_one_new (w.alloc (.cells #[.int .i64 3, .int .i64 n, .string t] 53)) (.int .u8 3) 5
  rw [World.size_alloc] at hcel
  have hrow : Hid (((w.alloc (.cells #[.int .i64 3, .int .i64 n, .string t] 53)).alloc (.cells #[.int .u8 3] 5)).ownsRow base 5 1 v bs.length (byC bs)) := (ho.alloc _).alloc _
  have hbw2 : base ≤ ((w.alloc (.cells #[.int .i64 3, .int .i64 n, .string t] 53)).alloc (.cells #[.int .u8 3] 5)).heap.size := by simp only [World.size_alloc]; omega
  have q0 : (w.alloc (.cells #[.int .i64 3, .int .i64 n, .string t] 53)).cell? ⟨w.heap.size, 0, none⟩ = some (.int .i64 3) := new3_0 _ _ _ _ _
  have q1 : (w.alloc (.cells #[.int .i64 3, .int .i64 n, .string t] 53)).cell? ⟨w.heap.size, 1, none⟩ = some (.int .i64 n) := new3_1 _ _ _ _ _
  have q2 : (w.alloc (.cells #[.int .i64 3, .int .i64 n, .string t] 53)).cell? ⟨w.heap.size, 2, none⟩ = some (.string t) := new3_2 _ _ _ _ _
  have hnb : ∀ j, v.ownBlock = some j → j ≠ w.heap.size := fun j hj => by have := (ho.lt j hj).2; omega
  have HO : Hid _ := ho
  have HNB : Hid _ := hnb
  clear ho hnb
  go_enter Tryd.func26, Tryd.ntmps26
  go_wp2_with (at_builtin; refine wpList_append_own_at _ rfl _ _ 61 rfl base 5 i0 (.int .u8 0) 1 1 Tryd.underlying61 hi hz0 hz1 hz2 rfl (by decide) _ _ _ rfl hrow.out ⟨w.heap.size + 1, 0, none⟩ 1 1 [.int .u8 3] rfl rfl hcel.out hone.out hnl hby hbw2 ?_)
  intro v2 w2 hown2 hgrow2 _ hloc2
  have HNB2 : Hid (∀ j, v2.ownBlock = some j → j ≠ w.heap.size) := fun j hj => by
    rcases hloc2 with h | h
    · exact HNB.out j (h ▸ hj)
    · rw [h] at hj; injection hj with hj; omega
  clear hloc2
  have HO2 : Hid (OwnB w2 base v2 (bs ++ [3])) := by
    show World.ownsRow _ _ _ _ _ _ _
    rw [List.length_append, List.length_singleton, byC_app]
    exact hown2
  have hB2 : Below base w w2 := (((Below.refl _ _).alloc hbase _).alloc (by rw [World.size_alloc]; omega) _).grown hgrow2 hbw2 (fun j hj => (hrow.out.lt j hj).1)
  have hkeep : w2.heap[w.heap.size]? = ((w.alloc (.cells #[.int .i64 3, .int .i64 n, .string t] 53)).alloc (.cells #[.int .u8 3] 5)).heap[w.heap.size]? := hgrow2.block _ (by simp only [World.size_alloc]; omega) (fun e => HNB.out _ e.symm rfl)
  rw [Below.heap_alloc _ _ _ (by simp)] at hkeep
  have p0 : w2.cell? ⟨w.heap.size, 0, none⟩ = some (.int .i64 3) := (World.cell?_of_block (a := ⟨w.heap.size, 0, none⟩) hkeep).trans q0
  have p1 : w2.cell? ⟨w.heap.size, 1, none⟩ = some (.int .i64 n) := (World.cell?_of_block (a := ⟨w.heap.size, 1, none⟩) hkeep).trans q1
  have p2 : w2.cell? ⟨w.heap.size, 2, none⟩ = some (.string t) := (World.cell?_of_block (a := ⟨w.heap.size, 2, none⟩) hkeep).trans q2
  have hw2 : w.heap.size < w2.heap.size := cell_lt p0
  clear hown2 hgrow2 hone hcel hrow hkeep q0 q1 q2 HO
  have hcv : ((u64 n : Nat) : Int) = n % 18446744073709551616 := by unfold u64; omega
  have hcall := appendNumber_any v2 (bs ++ [3]) (u64 n) 8 base w2 HO2.out (by omega) (by unfold u64; omega) (by omega) (by simp; omega)
  rw [hcv] at hcall
  go_wp2_with fail

  refine hcall.mono ?_
  rintro e w3 ⟨v3, rfl, hO3, hB3, hG3⟩
  clear hG3
  have HO3 : Hid _ := hO3
  clear hO3
  go_wp2
  go_ret
  exact ⟨v3, rfl, by have h := HO3.out; rw [List.append_assoc] at h; exact h, hB2.trans hB3⟩
theorem appendStr_run (w : World) (base : Nat) (g cap n : Nat) (bs : List UInt8) (t : ByteArray) (hn : n = bs.length) (hown : w.ownsRow base 5 1 (.slice (some ⟨g, 0, none⟩) n cap) n (byC bs)) (hl : n + t.size ≤ 8589934592) (hbase : base ≤ w.heap.size) :
    ∃ v' w', (Builtin.append_ #[61, 9] 61 #[.slice (some ⟨g, 0, none⟩) n cap, .string t]).run Tryd.prog w = .ok v' w' ∧ w'.ownsRow base 5 1 v' (n + t.size) (byC (bs ++ t.data.toList)) ∧ w.grownBy w' (some g) := by
  obtain ⟨i0, hi, hz0, hz1, hz2⟩ := info_parts info5
  have hnews : byC t.data.toList = byteCells t := rfl
  rw [byC_app, hnews]
  have hsl := byteCells_length t
  have hone : ∀ u ∈ byteCells t, u.oneCell' = true := fun u hu => by obtain ⟨_, _, rfl⟩ := List.mem_map.1 hu; rfl
  have hlen : (byC bs ++ byteCells t).length = (n + t.size) * 1 := by rw [List.length_append, byC_len, hsl, hn]; omega
  have hown' := hown
  obtain ⟨h0, ⟨hc, _⟩ | ⟨g', cap', cur, hv, hbg, hg, hnc, hcm, hcs, htake⟩⟩ := hown
  · cases hc
  · injection hv with hv1 hv2 hv3
    injection hv1 with hv1
    injection hv1 with hv4 _ _
    subst hv4 hv3
    by_cases hroom : n + t.size ≤ cap
    · have hst := run_storeCells_at (P := Tryd.prog) g (n * 1) 5 (byteCells t) 0 cur w hg (by rw [hsl, hcs]; omega) hone
      simp only [Nat.add_zero, Nat.mul_one] at hst
      have hf := firstCells_string (P := Tryd.prog) t w
      refine ⟨.slice (some ⟨g, 0, none⟩) (n + t.size) cap, w.setRow g (cur.toList.take n ++ byteCells t ++ cur.toList.drop (n + (byteCells t).length)).toArray, ?_, ⟨hlen, .inr ⟨g, cap, _, rfl, hbg, setRow_heap w g cur _ 5 _ hg, hroom, hcm, ?_, ?_⟩⟩, ⟨rfl, rfl, rfl, by simp, fun k _ hk => setRow_other w g k _ (fun e => hk (by rw [e]))⟩⟩
      · simp [Builtin.append_, run_underlying Tryd.underlying61, run_underlying Tryd.underlying9, sizeOf, typeInfo, hi, hz1, Builtin.lenOf, hroom, hf, Addr.add_lit, hst]
      · simp only [List.size_toArray, List.length_append, List.length_take, List.length_drop, Array.length_toList, hsl]
        omega
      · simp only [Nat.mul_one] at htake ⊢
        rw [htake]
        have : (byC bs ++ byteCells t).length = n + t.size := by rw [hlen, Nat.mul_one]
        rw [← this]
        exact List.take_left
    · have holds : ∀ j u, (byC bs)[j]? = some u → w.cell? ((⟨g, 0, none⟩ : Addr).add j) = some u := hown'.cells (g := g) rfl
      have hold := run_firstCells_some (P := Tryd.prog) w.drew i0.size n ⟨g, 0, none⟩ n cap (byC bs) (by rw [byC_len, hz1, hn]; omega) holds
      have hr := run_append_grow_src (P := Tryd.prog) w 61 9 61 5 i0 (.int .u8 0) Tryd.underlying61 hi hz0 (some ⟨g, 0, none⟩) n cap (byC bs) hold (.string t) t.size (byteCells t) (by rw [hz1]; exact Src.ofString w Tryd.underlying9 t) (by omega) (by omega) (growslice_fits (by omega) (by rw [hz2]; omega))
      have hge := grownCap_ge w (n + t.size) cap 5
      have hcm2 : grownCap w (n + t.size) cap 5 ≤ maxLen := grownCap_le_maxLen w (n + t.size) cap 5 (by unfold maxLen; omega)
      refine ⟨_, _, hr, ⟨hlen, .inr ⟨w.heap.size, _, _, rfl, hbase, heap_alloc_new w.drew _, hge, hcm2, ?_, ?_⟩⟩, ⟨rfl, rfl, rfl, by simp, fun k hk _ => heap_alloc_old w.drew _ hk⟩⟩
      · simp only [Array.size_append, List.size_toArray, size_zeroCells, hlen, Value.cells]
        simp; omega
      · simp only [Array.toList_append, Nat.mul_one]
        have : (byC bs ++ byteCells t).length = n + t.size := by rw [hlen, Nat.mul_one]
        rw [← this]
        exact List.take_left
theorem wpList_run_append {ops : Array Oper} {rest : List Oper} {o : Oper} {a : Act} {Q : Exit → Act → World → Prop} {w w' : World} (hgd : o.guard = none) (s x : Operand) (ts : Array TypeId)
    (ho : o.op = .call { callee := .builtin .append, args := #[s, x], argTypes := ts }) (v u v' : Value) (hs : a.eval s = v) (hx : a.eval x = u) (hr : (Builtin.append_ ts o.type #[v, u]).run Tryd.prog w = .ok v' w') (h : wpList Tryd.prog ops Q rest (a.put o.dst v') w') : wpList Tryd.prog ops Q (o :: rest) a w :=
  wpList_plain hgd fun K hK => by
    unfold Oper.wp execOp
    simp only [ho, resolve, invoke, builtin, Sem.run_bind, Sem.run_pure, Result.andThen_ok, List.map_toArray, List.map_cons, List.map_nil, hs, hx, hr]
    exact hK _ _ h
theorem own_some {w : World} {base : Nat} {v : Value} {bs : List UInt8} (h : OwnB w base v bs) (hb : bs ≠ []) : ∃ g cap, v = .slice (some ⟨g, 0, none⟩) bs.length cap ∧ base ≤ g ∧ g < w.heap.size := by
  obtain ⟨_, ⟨_, h0⟩ | ⟨g, cap, cur, hv, hbg, hg, _⟩⟩ := h
  · exact absurd (List.length_eq_zero_iff.1 h0) hb
  · exact ⟨g, cap, hv, hbg, heap_lt hg⟩
set_option maxRecDepth 20000 in
set_option maxHeartbeats 4000000 in
theorem appV_4 (v : Value) (bs : List UInt8) (n : Int) (t : ByteArray) (base : Nat) (w : World) (ho : OwnB w base v bs) (hbase : base ≤ w.heap.size) (hl : bs.length ≤ 4294967295) (ht : t.size ≤ 1024) :
    Calls Tryd.prog 26 #[v, .agg #[.int .i64 4, .int .i64 n, .string t]] w fun e w' => ∃ v', e = .returned v' ∧ OwnB w' base v' (bs ++ ([4] ++ leB 2 t.size ++ t.data.toList)) ∧ Below base w w' := by
  obtain ⟨i0, hi, hz0, hz1, hz2⟩ := info_parts info5
  have hnl : bs.length + 1 ≤ maxLen := by unfold maxLen; omega
  have hby : (bs.length + 1) * 1 ≤ 140737488355328 := by omega
  have hone : Hid (∀ u ∈ [Value.int .u8 4], u.oneCell' = true) := by intro u hu; simp only [List.mem_singleton] at hu; subst hu; rfl
  have hcel : Hid _ := cell_one_new (w.alloc (.cells #[.int .i64 4, .int .i64 n, .string t] 53)) (.int .u8 4) 5
  rw [World.size_alloc] at hcel
  have hrow : Hid (((w.alloc (.cells #[.int .i64 4, .int .i64 n, .string t] 53)).alloc (.cells #[.int .u8 4] 5)).ownsRow base 5 1 v bs.length (byC bs)) := (ho.alloc _).alloc _
  have hbw2 : base ≤ ((w.alloc (.cells #[.int .i64 4, .int .i64 n, .string t] 53)).alloc (.cells #[.int .u8 4] 5)).heap.size := by simp only [World.size_alloc]; omega
  have q0 : (w.alloc (.cells #[.int .i64 4, .int .i64 n, .string t] 53)).cell? ⟨w.heap.size, 0, none⟩ = some (.int .i64 4) := new3_0 _ _ _ _ _
  have q1 : (w.alloc (.cells #[.int .i64 4, .int .i64 n, .string t] 53)).cell? ⟨w.heap.size, 1, none⟩ = some (.int .i64 n) := new3_1 _ _ _ _ _
  have q2 : (w.alloc (.cells #[.int .i64 4, .int .i64 n, .string t] 53)).cell? ⟨w.heap.size, 2, none⟩ = some (.string t) := new3_2 _ _ _ _ _
  have hnb : ∀ j, v.ownBlock = some j → j ≠ w.heap.size := fun j hj => by have := (ho.lt j hj).2; omega
  have HO : Hid _ := ho
  have HNB : Hid _ := hnb
  clear ho hnb
  go_enter Tryd.func26, Tryd.ntmps26
  go_wp2_with (at_builtin; refine wpList_append_own_at _ rfl _ _ 61 rfl base 5 i0 (.int .u8 0) 1 1 Tryd.underlying61 hi hz0 hz1 hz2 rfl (by decide) _ _ _ rfl hrow.out ⟨w.heap.size + 1, 0, none⟩ 1 1 [.int .u8 4] rfl rfl hcel.out hone.out hnl hby hbw2 ?_)
  intro v2 w2 hown2 hgrow2 _ hloc2
  have HNB2 : Hid (∀ j, v2.ownBlock = some j → j ≠ w.heap.size) := fun j hj => by
    rcases hloc2 with h | h
    · exact HNB.out j (h ▸ hj)
    · rw [h] at hj; injection hj with hj; omega
  clear hloc2
  have HO2 : Hid (OwnB w2 base v2 (bs ++ [4])) := by
    show World.ownsRow _ _ _ _ _ _ _
    rw [List.length_append, List.length_singleton, byC_app]
    exact hown2
  have hB2 : Below base w w2 := (((Below.refl _ _).alloc hbase _).alloc (by rw [World.size_alloc]; omega) _).grown hgrow2 hbw2 (fun j hj => (hrow.out.lt j hj).1)
  have hkeep : w2.heap[w.heap.size]? = ((w.alloc (.cells #[.int .i64 4, .int .i64 n, .string t] 53)).alloc (.cells #[.int .u8 4] 5)).heap[w.heap.size]? := hgrow2.block _ (by simp only [World.size_alloc]; omega) (fun e => HNB.out _ e.symm rfl)
  rw [Below.heap_alloc _ _ _ (by simp)] at hkeep
  have p0 : w2.cell? ⟨w.heap.size, 0, none⟩ = some (.int .i64 4) := (World.cell?_of_block (a := ⟨w.heap.size, 0, none⟩) hkeep).trans q0
  have p1 : w2.cell? ⟨w.heap.size, 1, none⟩ = some (.int .i64 n) := (World.cell?_of_block (a := ⟨w.heap.size, 1, none⟩) hkeep).trans q1
  have p2 : w2.cell? ⟨w.heap.size, 2, none⟩ = some (.string t) := (World.cell?_of_block (a := ⟨w.heap.size, 2, none⟩) hkeep).trans q2
  have hw2 : w.heap.size < w2.heap.size := cell_lt p0
  clear hown2 hgrow2 hone hcel hrow hkeep q0 q1 q2 HO
  have hcall := appendNumber_any v2 (bs ++ [4]) t.size 2 base w2 HO2.out (by omega) (by omega) (by omega) (by simp; omega)
  go_wp2_with fail
  refine hcall.mono ?_
  rintro e w3 ⟨v3, rfl, hO3, hB3, hG3⟩
  have r2 := hG3.fr.cell (fun e => HNB2.out _ e rfl) p2
  obtain ⟨g3, cap3, rfl, hb3, hg3⟩ := own_some hO3 (by simp)
  have hbl : ((bs ++ [4]) ++ leB 2 t.size).length ≤ 4294967300 := by simp [leB_len]; omega
  obtain ⟨v4, w4, hrun, hown4, hg4⟩ := appendStr_run w3 base g3 cap3 _ ((bs ++ [4]) ++ leB 2 t.size) t rfl hO3 (by omega) (by have := hB3.size; omega)
  have HO4 : Hid (OwnB w4 base v4 (bs ++ ([4] ++ leB 2 t.size ++ t.data.toList))) := by
    show World.ownsRow _ _ _ _ _ _ _
    have e : bs ++ ([4] ++ leB 2 t.size ++ t.data.toList) = (bs ++ [4]) ++ leB 2 t.size ++ t.data.toList := by simp
    have e2 : (((bs ++ [4]) ++ leB 2 t.size) ++ t.data.toList).length = ((bs ++ [4]) ++ leB 2 t.size).length + t.size := by rw [List.length_append, Array.length_toList]; rfl
    rw [e, e2]
    exact hown4
  have hB4 : Below base w w4 := (hB2.trans hB3).grown hg4 (by have := hB3.size; omega) (fun j hj => by injection hj with hj; omega)
  clear hown4 hg4 hO3 hG3 HO2
  generalize ((bs ++ [4]) ++ leB 2 t.size).length = ln at hrun ⊢
  have HRN : Hid _ := hrun
  clear hrun
  go_wp2_with (at_builtin; refine wpList_run_append rfl _ _ #[61, 9] rfl _ _ _ rfl rfl HRN.out ?_)
  go_ret
  exact ⟨v4, rfl, HO4.out, hB4⟩
end Go.Proofs.YtbfodpmlmhkikaaDoor
