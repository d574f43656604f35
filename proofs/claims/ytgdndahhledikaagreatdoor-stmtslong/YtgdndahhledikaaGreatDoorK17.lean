/- Srb. -/
import Derived.Test.YtgdndahhledikaaGreatDoorK15
namespace Go.Proofs.YtgdndahhledikaaGreatDoor
open Go.ChangeShapes Go.WideShapes Go.ChangeAt Go.RowKit
set_option linter.unusedSimpArgs false
set_option maxRecDepth 20000
set_option maxHeartbeats 4000000
theorem passes_s (rb : Nat) (ta : Option Addr) (cap : Nat) (T : List Tt) (k : Int) (hk : k ≠ 0) (t : List UInt8) : Rds VB rb ta cap T 112 #[ptr rb, .int .i64 k, .string (bsA t)] (fun i _ => if isT (tkI T i) k [t] then okR true (i + 1) else okR false i) := by
 intro i op w r hop hr h
 dsimp only at h
 have h1 := see_any rb ta cap T i op k t w hr
 have HR : Hid _ := hr
 cases hb : isT (tkI T i) k [t] with
 | false =>
  rw [hb] at h1 h
  have HRR : Hid (r = .inr (false, i)) := okR_eq h
  unfold ptr at h1 ⊢
  clear hr h hb
  go_enter Tryz.func112, Tryz.ntmps112
  go_wp2_with fail
  refine h1.mono ?_
  rintro e w1 ⟨rfl, hb1⟩
  clear h1
  have HP : Hid (SPost VB rb ta cap T op w (.inr (false, i)) (.returned (.bool false)) w1) := ⟨⟨⟨_, rfl, rfl⟩, HR.out.below hb1⟩, Fx.below hb1⟩
  clear hb1
  go_wp2
  go_ret
  rw [HRR.out]
  exact HP.out
 | true =>
  have hi := isT_tk hb hk
  rw [hb] at h1 h
  have HRR : Hid (r = .inr (true, i + 1)) := okR_eq h
  unfold ptr at h1 ⊢
  clear hr h hb
  go_enter Tryz.func112, Tryz.ntmps112
  go_wp2_with fail
  refine h1.mono ?_
  rintro e w1 ⟨rfl, hb1⟩
  clear h1
  have h2 := take_s rb ta cap T i op w1 (HR.out.below hb1) hi
  unfold ptr ttV at h2
  have HB : Hid _ := hb1
  clear hb1
  go_wp2_with fail
  refine h2.mono ?_
  rintro e w2 ⟨rfl, hr2, hf2⟩
  clear h2
  have HP : Hid (SPost VB rb ta cap T op w (.inr (true, i + 1)) (.returned (.bool true)) w2) := ⟨⟨⟨_, rfl, rfl⟩, hr2⟩, (Fx.below HB.out).trans hf2⟩
  clear hr2 hf2
  go_wp2
  go_ret
  rw [HRR.out]
  exact HP.out
theorem passesWord_s (rb : Nat) (ta : Option Addr) (cap : Nat) (T : List Tt) (t : List UInt8) : Rds VB rb ta cap T 71 #[ptr rb, .string (bsA t)] (fun i _ => if isT (tkI T i) 2 [t] then okR true (i + 1) else okR false i) := by
 intro i op w r hop hr h
 have h1 := passes_s rb ta cap T 2 (by decide) t i op w r hop hr h
 have HO : Hid (∃ b j, r = .inr (b, j)) := by
  dsimp only at h
  cases hb : isT (tkI T i) 2 [t] <;> rw [hb] at h
  · exact ⟨false, i, okR_eq h⟩
  · exact ⟨true, i + 1, okR_eq h⟩
 unfold ptr at h1 ⊢
 clear hr h
 go_enter Tryz.func71, Tryz.ntmps71
 go_wp2_with fail
 refine h1.mono ?_
 intro e w1 hp
 obtain ⟨b, j, rfl⟩ := HO.out
 obtain ⟨⟨⟨v, rfl, rfl⟩, hr1⟩, hf1⟩ := hp.ok
 have HP : Hid (SPost VB rb ta cap T op w (.inr (b, j)) (.returned (.bool b)) w1) := hp
 clear h1 hp hr1 hf1
 go_wp2
 go_ret
 exact HP.out
theorem passesSign_s (rb : Nat) (ta : Option Addr) (cap : Nat) (T : List Tt) (t : List UInt8) : Rds VB rb ta cap T 159 #[ptr rb, .string (bsA t)] (fun i _ => if isT (tkI T i) 6 [t] then okR true (i + 1) else okR false i) := by
 intro i op w r hop hr h
 have h1 := passes_s rb ta cap T 6 (by decide) t i op w r hop hr h
 have HO : Hid (∃ b j, r = .inr (b, j)) := by
  dsimp only at h
  cases hb : isT (tkI T i) 6 [t] <;> rw [hb] at h
  · exact ⟨false, i, okR_eq h⟩
  · exact ⟨true, i + 1, okR_eq h⟩
 unfold ptr at h1 ⊢
 clear hr h
 go_enter Tryz.func159, Tryz.ntmps159
 go_wp2_with fail
 refine h1.mono ?_
 intro e w1 hp
 obtain ⟨b, j, rfl⟩ := HO.out
 obtain ⟨⟨⟨v, rfl, rfl⟩, hr1⟩, hf1⟩ := hp.ok
 have HP : Hid (SPost VB rb ta cap T op w (.inr (b, j)) (.returned (.bool b)) w1) := hp
 clear h1 hp hr1 hf1
 go_wp2
 go_ret
 exact HP.out
theorem needWord_s (rb : Nat) (ta : Option Addr) (cap : Nat) (T : List Tt) (t : List UInt8) : Rds VT rb ta cap T 74 #[ptr rb, .string (bsA t)] (fun i _ => needP T 2 t i) := by
 intro i op w r hop hr h
 dsimp only at h
 unfold needP at h
 have HS : Hid (St rb ta cap T w [] [] i op w) := St.start hr
 have hlt := cell_lt hr.c0
 cases hb : isT (tkI T i) 2 [t] with
 | false =>
  rw [hb] at h
  have HL : Hid (noR i 70 = some r) := h
  have HB : Hid _ := hb
  clear hr h hb
  unfold ptr
  go_enter Tryz.func74, Tryz.ntmps74
  have HS : Hid (St rb ta cap T w [(w.heap.size, [.int .i64 0, .string ⟨#[]⟩, .int .i64 0, .int .i64 0])] [] i op (w.alloc (Obj.cells #[.int .i64 0, .string ⟨#[]⟩, .int .i64 0, .int .i64 0] 26))) := (by have h := HS.out.new #[.int .i64 0, .string ⟨#[]⟩, .int .i64 0, .int .i64 0] 26 [.int .i64 0, .string ⟨#[]⟩, .int .i64 0, .int .i64 0]; (try simp only [World.size_alloc] at h); exact h)
  have hc := seesWord_any rb ta cap T i op t _ HS.out.rdr
  rw [HB.out] at hc
  unfold ptr at hc
  go_wp2_with fail
  refine hc.mono ?_
  rintro e w1 ⟨rfl, hb⟩
  have HS : Hid (St rb ta cap T w [(w.heap.size, [.int .i64 0, .string ⟨#[]⟩, .int .i64 0, .int .i64 0])] [] i op w1) := HS.out.below hb
  clear hc hb HB
  have hc := must_no rb ta cap T i op _ HS.out.rdr
  unfold ptr at hc
  go_wp2_with fail
  refine hc.mono ?_
  rintro e wN ⟨hG, rfl⟩
  have HP : Hid _ := HS.out.err (V := VT) (op' := op) (q := (i, 70)) (Fx.refl _) hG
  have HRR : Hid _ := noR_eq HL.out
  unfold GUs at hG
  subst hG
  clear hc
  go_wp2
  exact ⟨rfl, by rw [HRR.out]; exact HP.out⟩
 | true =>
  rw [hb] at h
  have HIT : Hid (i < T.length) := isT_tk hb (by decide)
  have HL : Hid (okR (tkI T i) (i + 1) = some r) := h
  have HB : Hid _ := hb
  clear hr h hb
  unfold ptr
  go_enter Tryz.func74, Tryz.ntmps74
  have HS : Hid (St rb ta cap T w [(w.heap.size, [.int .i64 0, .string ⟨#[]⟩, .int .i64 0, .int .i64 0])] [] i op (w.alloc (Obj.cells #[.int .i64 0, .string ⟨#[]⟩, .int .i64 0, .int .i64 0] 26))) := (by have h := HS.out.new #[.int .i64 0, .string ⟨#[]⟩, .int .i64 0, .int .i64 0] 26 [.int .i64 0, .string ⟨#[]⟩, .int .i64 0, .int .i64 0]; (try simp only [World.size_alloc] at h); exact h)
  have hc := seesWord_any rb ta cap T i op t _ HS.out.rdr
  rw [HB.out] at hc
  unfold ptr at hc
  go_wp2_with fail
  refine hc.mono ?_
  rintro e w1 ⟨rfl, hb⟩
  have HS : Hid (St rb ta cap T w [(w.heap.size, [.int .i64 0, .string ⟨#[]⟩, .int .i64 0, .int .i64 0])] [] i op w1) := HS.out.below hb
  clear hc hb HB
  have hc := must_ok rb w1
  unfold ptr at hc
  go_wp2_with fail
  refine hc.mono ?_
  rintro e wN ⟨rfl, rfl⟩
  clear hc
  obtain ⟨q, hq⟩ : ∃ q, tkI T i = q := ⟨_, rfl⟩
  obtain ⟨⟨q1, q2, q3⟩, q4⟩ := q
  have HQ : Hid _ := hq
  have hl := HL.out
  rw [hq] at hl
  have HL : Hid _ := hl
  clear hl hq
  have hc := take_s rb ta cap T i op _ HS.out.rdr HIT.out
  rw [HQ.out] at hc
  unfold ptr ttV at hc
  dsimp only at hc
  go_wp2_with fail
  refine hc.mono ?_
  rintro e w2 ⟨rfl, hr, hf⟩
  have HS : Hid (St rb ta cap T w [(w.heap.size, [.int .i64 0, .string ⟨#[]⟩, .int .i64 0, .int .i64 0])] [] (i + 1) op w2) := HS.out.call hf hr
  clear hc hr hf
  have HRR : Hid _ := okR_eq HL.out
  have y3 := HS.out.get List.mem_cons_self 0 (v := .int .i64 0) rfl
  have y4 := HS.out.fr List.mem_cons_self 0
  have y5 := HS.out.get List.mem_cons_self 1 (v := .string ⟨#[]⟩) rfl
  have y6 := HS.out.fr List.mem_cons_self 1
  have y7 := HS.out.get List.mem_cons_self 2 (v := .int .i64 0) rfl
  have y8 := HS.out.fr List.mem_cons_self 2
  have y9 := HS.out.get List.mem_cons_self 3 (v := .int .i64 0) rfl
  have y10 := HS.out.fr List.mem_cons_self 3
  have HS : Hid (St rb ta cap T w [(w.heap.size, [.int .i64 q1, .string ⟨#[]⟩, .int .i64 0, .int .i64 0])] [] (i + 1) op (w2.setCell ⟨w.heap.size, 0, none⟩ (.int .i64 q1))) := St.put [] HS.out 0 (.int .i64 q1)
  have HS : Hid (St rb ta cap T w [(w.heap.size, [.int .i64 q1, .string (bsA q2), .int .i64 0, .int .i64 0])] [] (i + 1) op ((w2.setCell ⟨w.heap.size, 0, none⟩ (.int .i64 q1)).setCell ⟨w.heap.size, 1, none⟩ (.string (bsA q2)))) := St.put [] HS.out 1 (.string (bsA q2))
  have HS : Hid (St rb ta cap T w [(w.heap.size, [.int .i64 q1, .string (bsA q2), .int .i64 q3, .int .i64 0])] [] (i + 1) op (((w2.setCell ⟨w.heap.size, 0, none⟩ (.int .i64 q1)).setCell ⟨w.heap.size, 1, none⟩ (.string (bsA q2))).setCell ⟨w.heap.size, 2, none⟩ (.int .i64 q3))) := St.put [] HS.out 2 (.int .i64 q3)
  have HS : Hid (St rb ta cap T w [(w.heap.size, [.int .i64 q1, .string (bsA q2), .int .i64 q3, .int .i64 q4])] [] (i + 1) op ((((w2.setCell ⟨w.heap.size, 0, none⟩ (.int .i64 q1)).setCell ⟨w.heap.size, 1, none⟩ (.string (bsA q2))).setCell ⟨w.heap.size, 2, none⟩ (.int .i64 q3)).setCell ⟨w.heap.size, 3, none⟩ (.int .i64 q4))) := St.put [] HS.out 3 (.int .i64 q4)
  have z0 := HS.out.get List.mem_cons_self 0 (v := .int .i64 q1) rfl
  have z1 := HS.out.get List.mem_cons_self 1 (v := .string (bsA q2)) rfl
  have z2 := HS.out.get List.mem_cons_self 2 (v := .int .i64 q3) rfl
  have z3 := HS.out.get List.mem_cons_self 3 (v := .int .i64 q4) rfl
  have HP : Hid _ := HS.out.giv (V := VT) (x := ((q1, q2, q3), q4)) (v := .agg #[.int .i64 q1, .string (bsA q2), .int .i64 q3, .int .i64 q4]) rfl
  clear HS HL
  go_wp2
  refine bodyPost_ret (v := .agg #[.int .i64 q1, .string (bsA q2), .int .i64 q3, .int .i64 q4]) (by simp [results, Tryz.results74, go_sem, z0, z1, z2, z3]) rfl ?_
  rw [HRR.out]
  exact HP.out
theorem needSign_s (rb : Nat) (ta : Option Addr) (cap : Nat) (T : List Tt) (t : List UInt8) : Rds VT rb ta cap T 25 #[ptr rb, .string (bsA t)] (fun i _ => needP T 6 t i) := by
 intro i op w r hop hr h
 dsimp only at h
 unfold needP at h
 have HS : Hid (St rb ta cap T w [] [] i op w) := St.start hr
 have hlt := cell_lt hr.c0
 cases hb : isT (tkI T i) 6 [t] with
 | false =>
  rw [hb] at h
  have HL : Hid (noR i 70 = some r) := h
  have HB : Hid _ := hb
  clear hr h hb
  unfold ptr
  go_enter Tryz.func25, Tryz.ntmps25
  have HS : Hid (St rb ta cap T w [(w.heap.size, [.int .i64 0, .string ⟨#[]⟩, .int .i64 0, .int .i64 0])] [] i op (w.alloc (Obj.cells #[.int .i64 0, .string ⟨#[]⟩, .int .i64 0, .int .i64 0] 26))) := (by have h := HS.out.new #[.int .i64 0, .string ⟨#[]⟩, .int .i64 0, .int .i64 0] 26 [.int .i64 0, .string ⟨#[]⟩, .int .i64 0, .int .i64 0]; (try simp only [World.size_alloc] at h); exact h)
  have hc := seesSign_any rb ta cap T i op t _ HS.out.rdr
  rw [HB.out] at hc
  unfold ptr at hc
  go_wp2_with fail
  refine hc.mono ?_
  rintro e w1 ⟨rfl, hb⟩
  have HS : Hid (St rb ta cap T w [(w.heap.size, [.int .i64 0, .string ⟨#[]⟩, .int .i64 0, .int .i64 0])] [] i op w1) := HS.out.below hb
  clear hc hb HB
  have hc := must_no rb ta cap T i op _ HS.out.rdr
  unfold ptr at hc
  go_wp2_with fail
  refine hc.mono ?_
  rintro e wN ⟨hG, rfl⟩
  have HP : Hid _ := HS.out.err (V := VT) (op' := op) (q := (i, 70)) (Fx.refl _) hG
  have HRR : Hid _ := noR_eq HL.out
  unfold GUs at hG
  subst hG
  clear hc
  go_wp2
  exact ⟨rfl, by rw [HRR.out]; exact HP.out⟩
 | true =>
  rw [hb] at h
  have HIT : Hid (i < T.length) := isT_tk hb (by decide)
  have HL : Hid (okR (tkI T i) (i + 1) = some r) := h
  have HB : Hid _ := hb
  clear hr h hb
  unfold ptr
  go_enter Tryz.func25, Tryz.ntmps25
  have HS : Hid (St rb ta cap T w [(w.heap.size, [.int .i64 0, .string ⟨#[]⟩, .int .i64 0, .int .i64 0])] [] i op (w.alloc (Obj.cells #[.int .i64 0, .string ⟨#[]⟩, .int .i64 0, .int .i64 0] 26))) := (by have h := HS.out.new #[.int .i64 0, .string ⟨#[]⟩, .int .i64 0, .int .i64 0] 26 [.int .i64 0, .string ⟨#[]⟩, .int .i64 0, .int .i64 0]; (try simp only [World.size_alloc] at h); exact h)
  have hc := seesSign_any rb ta cap T i op t _ HS.out.rdr
  rw [HB.out] at hc
  unfold ptr at hc
  go_wp2_with fail
  refine hc.mono ?_
  rintro e w1 ⟨rfl, hb⟩
  have HS : Hid (St rb ta cap T w [(w.heap.size, [.int .i64 0, .string ⟨#[]⟩, .int .i64 0, .int .i64 0])] [] i op w1) := HS.out.below hb
  clear hc hb HB
  have hc := must_ok rb w1
  unfold ptr at hc
  go_wp2_with fail
  refine hc.mono ?_
  rintro e wN ⟨rfl, rfl⟩
  clear hc
  obtain ⟨q, hq⟩ : ∃ q, tkI T i = q := ⟨_, rfl⟩
  obtain ⟨⟨q1, q2, q3⟩, q4⟩ := q
  have HQ : Hid _ := hq
  have hl := HL.out
  rw [hq] at hl
  have HL : Hid _ := hl
  clear hl hq
  have hc := take_s rb ta cap T i op _ HS.out.rdr HIT.out
  rw [HQ.out] at hc
  unfold ptr ttV at hc
  dsimp only at hc
  go_wp2_with fail
  refine hc.mono ?_
  rintro e w2 ⟨rfl, hr, hf⟩
  have HS : Hid (St rb ta cap T w [(w.heap.size, [.int .i64 0, .string ⟨#[]⟩, .int .i64 0, .int .i64 0])] [] (i + 1) op w2) := HS.out.call hf hr
  clear hc hr hf
  have HRR : Hid _ := okR_eq HL.out
  have y3 := HS.out.get List.mem_cons_self 0 (v := .int .i64 0) rfl
  have y4 := HS.out.fr List.mem_cons_self 0
  have y5 := HS.out.get List.mem_cons_self 1 (v := .string ⟨#[]⟩) rfl
  have y6 := HS.out.fr List.mem_cons_self 1
  have y7 := HS.out.get List.mem_cons_self 2 (v := .int .i64 0) rfl
  have y8 := HS.out.fr List.mem_cons_self 2
  have y9 := HS.out.get List.mem_cons_self 3 (v := .int .i64 0) rfl
  have y10 := HS.out.fr List.mem_cons_self 3
  have HS : Hid (St rb ta cap T w [(w.heap.size, [.int .i64 q1, .string ⟨#[]⟩, .int .i64 0, .int .i64 0])] [] (i + 1) op (w2.setCell ⟨w.heap.size, 0, none⟩ (.int .i64 q1))) := St.put [] HS.out 0 (.int .i64 q1)
  have HS : Hid (St rb ta cap T w [(w.heap.size, [.int .i64 q1, .string (bsA q2), .int .i64 0, .int .i64 0])] [] (i + 1) op ((w2.setCell ⟨w.heap.size, 0, none⟩ (.int .i64 q1)).setCell ⟨w.heap.size, 1, none⟩ (.string (bsA q2)))) := St.put [] HS.out 1 (.string (bsA q2))
  have HS : Hid (St rb ta cap T w [(w.heap.size, [.int .i64 q1, .string (bsA q2), .int .i64 q3, .int .i64 0])] [] (i + 1) op (((w2.setCell ⟨w.heap.size, 0, none⟩ (.int .i64 q1)).setCell ⟨w.heap.size, 1, none⟩ (.string (bsA q2))).setCell ⟨w.heap.size, 2, none⟩ (.int .i64 q3))) := St.put [] HS.out 2 (.int .i64 q3)
  have HS : Hid (St rb ta cap T w [(w.heap.size, [.int .i64 q1, .string (bsA q2), .int .i64 q3, .int .i64 q4])] [] (i + 1) op ((((w2.setCell ⟨w.heap.size, 0, none⟩ (.int .i64 q1)).setCell ⟨w.heap.size, 1, none⟩ (.string (bsA q2))).setCell ⟨w.heap.size, 2, none⟩ (.int .i64 q3)).setCell ⟨w.heap.size, 3, none⟩ (.int .i64 q4))) := St.put [] HS.out 3 (.int .i64 q4)
  have z0 := HS.out.get List.mem_cons_self 0 (v := .int .i64 q1) rfl
  have z1 := HS.out.get List.mem_cons_self 1 (v := .string (bsA q2)) rfl
  have z2 := HS.out.get List.mem_cons_self 2 (v := .int .i64 q3) rfl
  have z3 := HS.out.get List.mem_cons_self 3 (v := .int .i64 q4) rfl
  have HP : Hid _ := HS.out.giv (V := VT) (x := ((q1, q2, q3), q4)) (v := .agg #[.int .i64 q1, .string (bsA q2), .int .i64 q3, .int .i64 q4]) rfl
  clear HS HL
  go_wp2
  refine bodyPost_ret (v := .agg #[.int .i64 q1, .string (bsA q2), .int .i64 q3, .int .i64 q4]) (by simp [results, Tryz.results25, go_sem, z0, z1, z2, z3]) rfl ?_
  rw [HRR.out]
  exact HP.out
def idP (T : List Tt) (i : Nat) : Rz Tt := if (tkI T i).1.1 = 1 then okR (tkI T i) (i + 1) else noR i 70
def nbP (T : List Tt) (k lo hi : Int) (i : Nat) : Rz Tt := if (tkI T i).1.1 = k ∧ lo ≤ (tkI T i).1.2.2 ∧ (tkI T i).1.2.2 ≤ hi then okR (tkI T i) (i + 1) else noR i 70
theorem kd_lt {T : List Tt} {i : Nat} (h : (tkI T i).1.1 ≠ 0) : i < T.length := by
 rcases Nat.lt_or_ge i T.length with hl | hl
 · exact hl
 ·
  rw [tkI_end hl] at h
  exact absurd rfl h
theorem field26_0 (k : Int) (t : List UInt8) (m a : Int) (w : World) : (Instr.field 26 (.agg #[.int .i64 k, .string (bsA t), .int .i64 m, .int .i64 a]) 0).run Tryz.prog w = .ok (.int .i64 k) w := by kernel_rfl
theorem id_s (rb : Nat) (ta : Option Addr) (cap : Nat) (T : List Tt) : Rds VT rb ta cap T 72 #[ptr rb] (fun i _ => idP T i) := by
 intro i op w r hop hr h
 dsimp only at h
 unfold idP at h
 have HS : Hid (St rb ta cap T w [] [] i op w) := St.start hr
 have hlt := cell_lt hr.c0
 obtain ⟨q, hq⟩ : ∃ q, tkI T i = q := ⟨_, rfl⟩
 obtain ⟨⟨q1, q2, q3⟩, q4⟩ := q
 have HQ : Hid _ := hq
 rw [hq] at h
 dsimp only at h
 have hfd := field26_0 q1 q2 q3 q4
 by_cases hb : q1 = 1
 ·
  subst hb
  rw [if_pos rfl] at h
  have HIT : Hid (i < T.length) := kd_lt (by rw [hq]; exact (by decide : (1 : Int) ≠ 0))
  have HL : Hid (okR ((1, q2, q3), q4) (i + 1) = some r) := h
  have g1 : ((1 : Int) == 1) = true := rfl
  clear hr h hq
  unfold ptr
  go_enter Tryz.func72, Tryz.ntmps72
  have HS : Hid (St rb ta cap T w [(w.heap.size, [.int .i64 0, .string ⟨#[]⟩, .int .i64 0, .int .i64 0])] [] i op (w.alloc (Obj.cells #[.int .i64 0, .string ⟨#[]⟩, .int .i64 0, .int .i64 0] 26))) := (by have h := HS.out.new #[.int .i64 0, .string ⟨#[]⟩, .int .i64 0, .int .i64 0] 26 [.int .i64 0, .string ⟨#[]⟩, .int .i64 0, .int .i64 0]; (try simp only [World.size_alloc] at h); exact h)
  have hc := next_any rb ta cap T i op _ HS.out.rdr
  rw [HQ.out] at hc
  unfold ptr ttV at hc
  dsimp only at hc
  go_wp2_with fail
  refine hc.mono ?_
  rintro e w1 ⟨rfl, hb⟩
  have HS : Hid (St rb ta cap T w [(w.heap.size, [.int .i64 0, .string ⟨#[]⟩, .int .i64 0, .int .i64 0])] [] i op w1) := HS.out.below hb
  clear hc hb
  have hc := must_ok rb w1
  unfold ptr at hc
  go_wp2_with fail
  refine hc.mono ?_
  rintro e wN ⟨rfl, rfl⟩
  clear hc
  have hc := take_s rb ta cap T i op _ HS.out.rdr HIT.out
  rw [HQ.out] at hc
  unfold ptr ttV at hc
  dsimp only at hc
  go_wp2_with fail
  refine hc.mono ?_
  rintro e w2 ⟨rfl, hr, hf⟩
  have HS : Hid (St rb ta cap T w [(w.heap.size, [.int .i64 0, .string ⟨#[]⟩, .int .i64 0, .int .i64 0])] [] (i + 1) op w2) := HS.out.call hf hr
  clear hc hr hf
  have HRR : Hid _ := okR_eq HL.out
  have y3 := HS.out.get List.mem_cons_self 0 (v := .int .i64 0) rfl
  have y4 := HS.out.fr List.mem_cons_self 0
  have y5 := HS.out.get List.mem_cons_self 1 (v := .string ⟨#[]⟩) rfl
  have y6 := HS.out.fr List.mem_cons_self 1
  have y7 := HS.out.get List.mem_cons_self 2 (v := .int .i64 0) rfl
  have y8 := HS.out.fr List.mem_cons_self 2
  have y9 := HS.out.get List.mem_cons_self 3 (v := .int .i64 0) rfl
  have y10 := HS.out.fr List.mem_cons_self 3
  have HS : Hid (St rb ta cap T w [(w.heap.size, [.int .i64 1, .string ⟨#[]⟩, .int .i64 0, .int .i64 0])] [] (i + 1) op (w2.setCell ⟨w.heap.size, 0, none⟩ (.int .i64 1))) := St.put [] HS.out 0 (.int .i64 1)
  have HS : Hid (St rb ta cap T w [(w.heap.size, [.int .i64 1, .string (bsA q2), .int .i64 0, .int .i64 0])] [] (i + 1) op ((w2.setCell ⟨w.heap.size, 0, none⟩ (.int .i64 1)).setCell ⟨w.heap.size, 1, none⟩ (.string (bsA q2)))) := St.put [] HS.out 1 (.string (bsA q2))
  have HS : Hid (St rb ta cap T w [(w.heap.size, [.int .i64 1, .string (bsA q2), .int .i64 q3, .int .i64 0])] [] (i + 1) op (((w2.setCell ⟨w.heap.size, 0, none⟩ (.int .i64 1)).setCell ⟨w.heap.size, 1, none⟩ (.string (bsA q2))).setCell ⟨w.heap.size, 2, none⟩ (.int .i64 q3))) := St.put [] HS.out 2 (.int .i64 q3)
  have HS : Hid (St rb ta cap T w [(w.heap.size, [.int .i64 1, .string (bsA q2), .int .i64 q3, .int .i64 q4])] [] (i + 1) op ((((w2.setCell ⟨w.heap.size, 0, none⟩ (.int .i64 1)).setCell ⟨w.heap.size, 1, none⟩ (.string (bsA q2))).setCell ⟨w.heap.size, 2, none⟩ (.int .i64 q3)).setCell ⟨w.heap.size, 3, none⟩ (.int .i64 q4))) := St.put [] HS.out 3 (.int .i64 q4)
  have z0 := HS.out.get List.mem_cons_self 0 (v := .int .i64 1) rfl
  have z1 := HS.out.get List.mem_cons_self 1 (v := .string (bsA q2)) rfl
  have z2 := HS.out.get List.mem_cons_self 2 (v := .int .i64 q3) rfl
  have z3 := HS.out.get List.mem_cons_self 3 (v := .int .i64 q4) rfl
  have HP : Hid _ := HS.out.giv (V := VT) (x := ((1, q2, q3), q4)) (v := .agg #[.int .i64 1, .string (bsA q2), .int .i64 q3, .int .i64 q4]) rfl
  clear HS HL
  go_wp2
  refine bodyPost_ret (v := .agg #[.int .i64 1, .string (bsA q2), .int .i64 q3, .int .i64 q4]) (by simp [results, Tryz.results72, go_sem, z0, z1, z2, z3]) rfl ?_
  rw [HRR.out]
  exact HP.out
 ·
  rw [if_neg hb] at h
  have HL : Hid (noR i 70 = some r) := h
  have g1 : (q1 == 1) = false := by simpa using hb
  clear hr h hq hb
  unfold ptr
  go_enter Tryz.func72, Tryz.ntmps72
  have HS : Hid (St rb ta cap T w [(w.heap.size, [.int .i64 0, .string ⟨#[]⟩, .int .i64 0, .int .i64 0])] [] i op (w.alloc (Obj.cells #[.int .i64 0, .string ⟨#[]⟩, .int .i64 0, .int .i64 0] 26))) := (by have h := HS.out.new #[.int .i64 0, .string ⟨#[]⟩, .int .i64 0, .int .i64 0] 26 [.int .i64 0, .string ⟨#[]⟩, .int .i64 0, .int .i64 0]; (try simp only [World.size_alloc] at h); exact h)
  have hc := next_any rb ta cap T i op _ HS.out.rdr
  rw [HQ.out] at hc
  unfold ptr ttV at hc
  dsimp only at hc
  go_wp2_with fail
  refine hc.mono ?_
  rintro e w1 ⟨rfl, hb⟩
  have HS : Hid (St rb ta cap T w [(w.heap.size, [.int .i64 0, .string ⟨#[]⟩, .int .i64 0, .int .i64 0])] [] i op w1) := HS.out.below hb
  clear hc hb
  have hc := must_no rb ta cap T i op _ HS.out.rdr
  unfold ptr at hc
  go_wp2_with fail
  refine hc.mono ?_
  rintro e wN ⟨hG, rfl⟩
  have HP : Hid _ := HS.out.err (V := VT) (op' := op) (q := (i, 70)) (Fx.refl _) hG
  have HRR : Hid _ := noR_eq HL.out
  unfold GUs at hG
  subst hG
  clear hc
  go_wp2
  exact ⟨rfl, by rw [HRR.out]; exact HP.out⟩
theorem number_s (rb : Nat) (ta : Option Addr) (cap : Nat) (T : List Tt) (k lo hi : Int) (hk : k ≠ 0) : Rds VT rb ta cap T 158 #[ptr rb, .int .i64 k, .int .i64 lo, .int .i64 hi] (fun i _ => nbP T k lo hi i) := by
 intro i op w r hop hr h
 dsimp only at h
 unfold nbP at h
 have HS : Hid (St rb ta cap T w [] [] i op w) := St.start hr
 have hlt := cell_lt hr.c0
 obtain ⟨q, hq⟩ : ∃ q, tkI T i = q := ⟨_, rfl⟩
 obtain ⟨⟨q1, q2, q3⟩, q4⟩ := q
 have HQ : Hid _ := hq
 rw [hq] at h
 dsimp only at h
 by_cases h1 : q1 = k
 ·
  by_cases h2 : lo ≤ q3
  ·
   by_cases h3 : q3 ≤ hi
   ·
    have HIT : Hid (i < T.length) := kd_lt (by rw [hq]; dsimp only; rw [h1]; exact hk)
    have HL : Hid (okR ((q1, q2, q3), q4) (i + 1) = some r) := by rw [if_pos ⟨h1, h2, h3⟩] at h; exact h
    have g1 : (q1 == k) = true := by simpa using h1
    have g2 : (lo ≤ q3) = True := eq_true h2
    have g3 : (q3 ≤ hi) = True := eq_true h3
    clear h1 h2 h3
    clear hr h hq
    unfold ptr
    go_enter Tryz.func158, Tryz.ntmps158
    have HS : Hid (St rb ta cap T w [(w.heap.size, [.int .i64 0, .string ⟨#[]⟩, .int .i64 0, .int .i64 0])] [] i op (w.alloc (Obj.cells #[.int .i64 0, .string ⟨#[]⟩, .int .i64 0, .int .i64 0] 26))) := (by have h := HS.out.new #[.int .i64 0, .string ⟨#[]⟩, .int .i64 0, .int .i64 0] 26 [.int .i64 0, .string ⟨#[]⟩, .int .i64 0, .int .i64 0]; (try simp only [World.size_alloc] at h); exact h)
    have hc := next_any rb ta cap T i op _ HS.out.rdr
    rw [HQ.out] at hc
    unfold ptr ttV at hc
    dsimp only at hc
    go_wp2_with fail
    refine hc.mono ?_
    rintro e w1 ⟨rfl, hb⟩
    have HS : Hid (St rb ta cap T w [(w.heap.size, [.int .i64 0, .string ⟨#[]⟩, .int .i64 0, .int .i64 0])] [] i op w1) := HS.out.below hb
    clear hc hb
    have HS : Hid (St rb ta cap T w [(w1.heap.size, [.int .i64 q1, .string (bsA q2), .int .i64 q3, .int .i64 q4]), (w.heap.size, [.int .i64 0, .string ⟨#[]⟩, .int .i64 0, .int .i64 0])] [] i op (w1.alloc (Obj.cells #[.int .i64 q1, .string (bsA q2), .int .i64 q3, .int .i64 q4] 26))) := (by have h := HS.out.new #[.int .i64 q1, .string (bsA q2), .int .i64 q3, .int .i64 q4] 26 [.int .i64 q1, .string (bsA q2), .int .i64 q3, .int .i64 q4]; (try simp only [World.size_alloc] at h); exact h)
    have hc := must_ok rb (w1.alloc (Obj.cells #[.int .i64 q1, .string (bsA q2), .int .i64 q3, .int .i64 q4] 26))
    unfold ptr at hc
    go_wp2_with fail
    refine hc.mono ?_
    rintro e wN ⟨rfl, rfl⟩
    clear hc
    have hc := take_s rb ta cap T i op _ HS.out.rdr HIT.out
    rw [HQ.out] at hc
    unfold ptr ttV at hc
    dsimp only at hc
    go_wp2_with fail
    refine hc.mono ?_
    rintro e w2 ⟨rfl, hr, hf⟩
    have HS : Hid (St rb ta cap T w [(w1.heap.size, [.int .i64 q1, .string (bsA q2), .int .i64 q3, .int .i64 q4]), (w.heap.size, [.int .i64 0, .string ⟨#[]⟩, .int .i64 0, .int .i64 0])] [] (i + 1) op w2) := HS.out.call hf hr
    clear hc hr hf
    have HRR : Hid _ := okR_eq HL.out
    have y3 := HS.out.get (List.mem_cons_of_mem _ List.mem_cons_self) 0 (v := .int .i64 0) rfl
    have y4 := HS.out.fr (List.mem_cons_of_mem _ List.mem_cons_self) 0
    have y5 := HS.out.get (List.mem_cons_of_mem _ List.mem_cons_self) 1 (v := .string ⟨#[]⟩) rfl
    have y6 := HS.out.fr (List.mem_cons_of_mem _ List.mem_cons_self) 1
    have y7 := HS.out.get (List.mem_cons_of_mem _ List.mem_cons_self) 2 (v := .int .i64 0) rfl
    have y8 := HS.out.fr (List.mem_cons_of_mem _ List.mem_cons_self) 2
    have y9 := HS.out.get (List.mem_cons_of_mem _ List.mem_cons_self) 3 (v := .int .i64 0) rfl
    have y10 := HS.out.fr (List.mem_cons_of_mem _ List.mem_cons_self) 3
    have HS : Hid (St rb ta cap T w [(w1.heap.size, [.int .i64 q1, .string (bsA q2), .int .i64 q3, .int .i64 q4]), (w.heap.size, [.int .i64 q1, .string ⟨#[]⟩, .int .i64 0, .int .i64 0])] [] (i + 1) op (w2.setCell ⟨w.heap.size, 0, none⟩ (.int .i64 q1))) := St.put [(w1.heap.size, [.int .i64 q1, .string (bsA q2), .int .i64 q3, .int .i64 q4])] HS.out 0 (.int .i64 q1)
    have HS : Hid (St rb ta cap T w [(w1.heap.size, [.int .i64 q1, .string (bsA q2), .int .i64 q3, .int .i64 q4]), (w.heap.size, [.int .i64 q1, .string (bsA q2), .int .i64 0, .int .i64 0])] [] (i + 1) op ((w2.setCell ⟨w.heap.size, 0, none⟩ (.int .i64 q1)).setCell ⟨w.heap.size, 1, none⟩ (.string (bsA q2)))) := St.put [(w1.heap.size, [.int .i64 q1, .string (bsA q2), .int .i64 q3, .int .i64 q4])] HS.out 1 (.string (bsA q2))
    have HS : Hid (St rb ta cap T w [(w1.heap.size, [.int .i64 q1, .string (bsA q2), .int .i64 q3, .int .i64 q4]), (w.heap.size, [.int .i64 q1, .string (bsA q2), .int .i64 q3, .int .i64 0])] [] (i + 1) op (((w2.setCell ⟨w.heap.size, 0, none⟩ (.int .i64 q1)).setCell ⟨w.heap.size, 1, none⟩ (.string (bsA q2))).setCell ⟨w.heap.size, 2, none⟩ (.int .i64 q3))) := St.put [(w1.heap.size, [.int .i64 q1, .string (bsA q2), .int .i64 q3, .int .i64 q4])] HS.out 2 (.int .i64 q3)
    have HS : Hid (St rb ta cap T w [(w1.heap.size, [.int .i64 q1, .string (bsA q2), .int .i64 q3, .int .i64 q4]), (w.heap.size, [.int .i64 q1, .string (bsA q2), .int .i64 q3, .int .i64 q4])] [] (i + 1) op ((((w2.setCell ⟨w.heap.size, 0, none⟩ (.int .i64 q1)).setCell ⟨w.heap.size, 1, none⟩ (.string (bsA q2))).setCell ⟨w.heap.size, 2, none⟩ (.int .i64 q3)).setCell ⟨w.heap.size, 3, none⟩ (.int .i64 q4))) := St.put [(w1.heap.size, [.int .i64 q1, .string (bsA q2), .int .i64 q3, .int .i64 q4])] HS.out 3 (.int .i64 q4)
    have z0 := HS.out.get (List.mem_cons_of_mem _ List.mem_cons_self) 0 (v := .int .i64 q1) rfl
    have z1 := HS.out.get (List.mem_cons_of_mem _ List.mem_cons_self) 1 (v := .string (bsA q2)) rfl
    have z2 := HS.out.get (List.mem_cons_of_mem _ List.mem_cons_self) 2 (v := .int .i64 q3) rfl
    have z3 := HS.out.get (List.mem_cons_of_mem _ List.mem_cons_self) 3 (v := .int .i64 q4) rfl
    have HP : Hid _ := HS.out.giv (V := VT) (x := ((q1, q2, q3), q4)) (v := .agg #[.int .i64 q1, .string (bsA q2), .int .i64 q3, .int .i64 q4]) rfl
    clear HS HL
    go_wp2
    refine bodyPost_ret (v := .agg #[.int .i64 q1, .string (bsA q2), .int .i64 q3, .int .i64 q4]) (by simp [results, Tryz.results158, go_sem, z0, z1, z2, z3]) rfl ?_
    rw [HRR.out]
    exact HP.out
   ·
    have HL : Hid (noR i 70 = some r) := by rw [if_neg (fun hh => h3 hh.2.2)] at h; exact h
    have g1 : (q1 == k) = true := by simpa using h1
    have g2 : (lo ≤ q3) = True := eq_true h2
    have g3 : (q3 ≤ hi) = False := eq_false h3
    clear h1 h2 h3
    clear hr h hq
    unfold ptr
    go_enter Tryz.func158, Tryz.ntmps158
    have HS : Hid (St rb ta cap T w [(w.heap.size, [.int .i64 0, .string ⟨#[]⟩, .int .i64 0, .int .i64 0])] [] i op (w.alloc (Obj.cells #[.int .i64 0, .string ⟨#[]⟩, .int .i64 0, .int .i64 0] 26))) := (by have h := HS.out.new #[.int .i64 0, .string ⟨#[]⟩, .int .i64 0, .int .i64 0] 26 [.int .i64 0, .string ⟨#[]⟩, .int .i64 0, .int .i64 0]; (try simp only [World.size_alloc] at h); exact h)
    have hc := next_any rb ta cap T i op _ HS.out.rdr
    rw [HQ.out] at hc
    unfold ptr ttV at hc
    dsimp only at hc
    go_wp2_with fail
    refine hc.mono ?_
    rintro e w1 ⟨rfl, hb⟩
    have HS : Hid (St rb ta cap T w [(w.heap.size, [.int .i64 0, .string ⟨#[]⟩, .int .i64 0, .int .i64 0])] [] i op w1) := HS.out.below hb
    clear hc hb
    have HS : Hid (St rb ta cap T w [(w1.heap.size, [.int .i64 q1, .string (bsA q2), .int .i64 q3, .int .i64 q4]), (w.heap.size, [.int .i64 0, .string ⟨#[]⟩, .int .i64 0, .int .i64 0])] [] i op (w1.alloc (Obj.cells #[.int .i64 q1, .string (bsA q2), .int .i64 q3, .int .i64 q4] 26))) := (by have h := HS.out.new #[.int .i64 q1, .string (bsA q2), .int .i64 q3, .int .i64 q4] 26 [.int .i64 q1, .string (bsA q2), .int .i64 q3, .int .i64 q4]; (try simp only [World.size_alloc] at h); exact h)
    have hc := must_no rb ta cap T i op _ HS.out.rdr
    unfold ptr at hc
    go_wp2_with fail
    refine hc.mono ?_
    rintro e wN ⟨hG, rfl⟩
    have HP : Hid _ := HS.out.err (V := VT) (op' := op) (q := (i, 70)) (Fx.refl _) hG
    have HRR : Hid _ := noR_eq HL.out
    unfold GUs at hG
    subst hG
    clear hc
    go_wp2
    exact ⟨rfl, by rw [HRR.out]; exact HP.out⟩
  ·
   have HL : Hid (noR i 70 = some r) := by rw [if_neg (fun hh => h2 hh.2.1)] at h; exact h
   have g1 : (q1 == k) = true := by simpa using h1
   have g2 : (lo ≤ q3) = False := eq_false h2
   clear h1 h2
   clear hr h hq
   unfold ptr
   go_enter Tryz.func158, Tryz.ntmps158
   have HS : Hid (St rb ta cap T w [(w.heap.size, [.int .i64 0, .string ⟨#[]⟩, .int .i64 0, .int .i64 0])] [] i op (w.alloc (Obj.cells #[.int .i64 0, .string ⟨#[]⟩, .int .i64 0, .int .i64 0] 26))) := (by have h := HS.out.new #[.int .i64 0, .string ⟨#[]⟩, .int .i64 0, .int .i64 0] 26 [.int .i64 0, .string ⟨#[]⟩, .int .i64 0, .int .i64 0]; (try simp only [World.size_alloc] at h); exact h)
   have hc := next_any rb ta cap T i op _ HS.out.rdr
   rw [HQ.out] at hc
   unfold ptr ttV at hc
   dsimp only at hc
   go_wp2_with fail
   refine hc.mono ?_
   rintro e w1 ⟨rfl, hb⟩
   have HS : Hid (St rb ta cap T w [(w.heap.size, [.int .i64 0, .string ⟨#[]⟩, .int .i64 0, .int .i64 0])] [] i op w1) := HS.out.below hb
   clear hc hb
   have HS : Hid (St rb ta cap T w [(w1.heap.size, [.int .i64 q1, .string (bsA q2), .int .i64 q3, .int .i64 q4]), (w.heap.size, [.int .i64 0, .string ⟨#[]⟩, .int .i64 0, .int .i64 0])] [] i op (w1.alloc (Obj.cells #[.int .i64 q1, .string (bsA q2), .int .i64 q3, .int .i64 q4] 26))) := (by have h := HS.out.new #[.int .i64 q1, .string (bsA q2), .int .i64 q3, .int .i64 q4] 26 [.int .i64 q1, .string (bsA q2), .int .i64 q3, .int .i64 q4]; (try simp only [World.size_alloc] at h); exact h)
   have hc := must_no rb ta cap T i op _ HS.out.rdr
   unfold ptr at hc
   go_wp2_with fail
   refine hc.mono ?_
   rintro e wN ⟨hG, rfl⟩
   have HP : Hid _ := HS.out.err (V := VT) (op' := op) (q := (i, 70)) (Fx.refl _) hG
   have HRR : Hid _ := noR_eq HL.out
   unfold GUs at hG
   subst hG
   clear hc
   go_wp2
   exact ⟨rfl, by rw [HRR.out]; exact HP.out⟩
 ·
  have HL : Hid (noR i 70 = some r) := by rw [if_neg (fun hh => h1 hh.1)] at h; exact h
  have g1 : (q1 == k) = false := by simpa using h1
  clear h1
  clear hr h hq
  unfold ptr
  go_enter Tryz.func158, Tryz.ntmps158
  have HS : Hid (St rb ta cap T w [(w.heap.size, [.int .i64 0, .string ⟨#[]⟩, .int .i64 0, .int .i64 0])] [] i op (w.alloc (Obj.cells #[.int .i64 0, .string ⟨#[]⟩, .int .i64 0, .int .i64 0] 26))) := (by have h := HS.out.new #[.int .i64 0, .string ⟨#[]⟩, .int .i64 0, .int .i64 0] 26 [.int .i64 0, .string ⟨#[]⟩, .int .i64 0, .int .i64 0]; (try simp only [World.size_alloc] at h); exact h)
  have hc := next_any rb ta cap T i op _ HS.out.rdr
  rw [HQ.out] at hc
  unfold ptr ttV at hc
  dsimp only at hc
  go_wp2_with fail
  refine hc.mono ?_
  rintro e w1 ⟨rfl, hb⟩
  have HS : Hid (St rb ta cap T w [(w.heap.size, [.int .i64 0, .string ⟨#[]⟩, .int .i64 0, .int .i64 0])] [] i op w1) := HS.out.below hb
  clear hc hb
  have HS : Hid (St rb ta cap T w [(w1.heap.size, [.int .i64 q1, .string (bsA q2), .int .i64 q3, .int .i64 q4]), (w.heap.size, [.int .i64 0, .string ⟨#[]⟩, .int .i64 0, .int .i64 0])] [] i op (w1.alloc (Obj.cells #[.int .i64 q1, .string (bsA q2), .int .i64 q3, .int .i64 q4] 26))) := (by have h := HS.out.new #[.int .i64 q1, .string (bsA q2), .int .i64 q3, .int .i64 q4] 26 [.int .i64 q1, .string (bsA q2), .int .i64 q3, .int .i64 q4]; (try simp only [World.size_alloc] at h); exact h)
  have hc := must_no rb ta cap T i op _ HS.out.rdr
  unfold ptr at hc
  go_wp2_with fail
  refine hc.mono ?_
  rintro e wN ⟨hG, rfl⟩
  have HP : Hid _ := HS.out.err (V := VT) (op' := op) (q := (i, 70)) (Fx.refl _) hG
  have HRR : Hid _ := noR_eq HL.out
  unfold GUs at hG
  subst hG
  clear hc
  go_wp2
  exact ⟨rfl, by rw [HRR.out]; exact HP.out⟩
theorem size_s (rb : Nat) (ta : Option Addr) (cap : Nat) (T : List Tt) : Rds VT rb ta cap T 122 #[ptr rb] (fun i _ => nbP T 3 1 65536 i) := by
 intro i op w r hop hr h
 dsimp only at h
 have HS : Hid (St rb ta cap T w [] [] i op w) := St.start hr
 have hlt := cell_lt hr.c0
 have HL : Hid (bnd (nbP T 3 1 65536 i) (fun t j => okR t j) = some r) := by
  show bnd _ _ = _
  rw [h]
  cases r <;> rfl
 clear hr h
 unfold ptr
 go_enter Tryz.func122, Tryz.ntmps122
 have HS : Hid (St rb ta cap T w [(w.heap.size, [.int .i64 0, .string ⟨#[]⟩, .int .i64 0, .int .i64 0])] [] i op (w.alloc (Obj.cells #[.int .i64 0, .string ⟨#[]⟩, .int .i64 0, .int .i64 0] 26))) := (by have h := HS.out.new #[.int .i64 0, .string ⟨#[]⟩, .int .i64 0, .int .i64 0] 26 [.int .i64 0, .string ⟨#[]⟩, .int .i64 0, .int .i64 0]; (try simp only [World.size_alloc] at h); exact h)
 obtain ⟨r1, e1, hl⟩ := bnd_some HL.out
 have HL : Hid _ := hl
 have hc := number_s rb ta cap T 3 1 65536 (by decide) i op _ r1 hop HS.out.rdr e1
 (try unfold ptr at hc)
 clear e1 hl
 go_wp2_with fail
 refine hc.mono ?_
 intro e wN hpost
 clear hc 
 cases r1 with
 | inl q =>
  obtain ⟨hG, hF⟩ := hpost.no
  have HP : Hid _ := HS.out.err (V := VT) (op' := op) hF hG
  have HRR : Hid _ := bnd_no HL.out
  unfold GUs at hG
  subst hG
  clear hpost hF
  go_wp2
  exact ⟨rfl, by rw [HRR.out]; exact HP.out⟩
 | inr q =>
  obtain ⟨x1, j1⟩ := q
  obtain ⟨⟨⟨v, rfl, rfl⟩, hr⟩, hf⟩ := hpost.ok
  dsimp only at hr
  obtain ⟨w2, hw⟩ : ∃ u, u = wN := ⟨_, rfl⟩
  subst hw
  have HS : Hid (St rb ta cap T w [(w.heap.size, [.int .i64 0, .string ⟨#[]⟩, .int .i64 0, .int .i64 0])] [] j1 op w2) := HS.out.call hf hr
  obtain ⟨⟨x1a, x1b, x1c⟩, x1d⟩ := x1
  unfold ttV
  dsimp only
  have hl := HL.out
  rw [bnd_ok] at hl
  (try dsimp only at hl)
  have HL : Hid _ := hl
  clear hl hpost hr hf
  have HRR : Hid _ := okR_eq HL.out
  have y3 := HS.out.get List.mem_cons_self 0 (v := .int .i64 0) rfl
  have y4 := HS.out.fr List.mem_cons_self 0
  have y5 := HS.out.get List.mem_cons_self 1 (v := .string ⟨#[]⟩) rfl
  have y6 := HS.out.fr List.mem_cons_self 1
  have y7 := HS.out.get List.mem_cons_self 2 (v := .int .i64 0) rfl
  have y8 := HS.out.fr List.mem_cons_self 2
  have y9 := HS.out.get List.mem_cons_self 3 (v := .int .i64 0) rfl
  have y10 := HS.out.fr List.mem_cons_self 3
  have HS : Hid (St rb ta cap T w [(w.heap.size, [.int .i64 x1a, .string ⟨#[]⟩, .int .i64 0, .int .i64 0])] [] j1 op (w2.setCell ⟨w.heap.size, 0, none⟩ (.int .i64 x1a))) := St.put [] HS.out 0 (.int .i64 x1a)
  have HS : Hid (St rb ta cap T w [(w.heap.size, [.int .i64 x1a, .string (bsA x1b), .int .i64 0, .int .i64 0])] [] j1 op ((w2.setCell ⟨w.heap.size, 0, none⟩ (.int .i64 x1a)).setCell ⟨w.heap.size, 1, none⟩ (.string (bsA x1b)))) := St.put [] HS.out 1 (.string (bsA x1b))
  have HS : Hid (St rb ta cap T w [(w.heap.size, [.int .i64 x1a, .string (bsA x1b), .int .i64 x1c, .int .i64 0])] [] j1 op (((w2.setCell ⟨w.heap.size, 0, none⟩ (.int .i64 x1a)).setCell ⟨w.heap.size, 1, none⟩ (.string (bsA x1b))).setCell ⟨w.heap.size, 2, none⟩ (.int .i64 x1c))) := St.put [] HS.out 2 (.int .i64 x1c)
  have HS : Hid (St rb ta cap T w [(w.heap.size, [.int .i64 x1a, .string (bsA x1b), .int .i64 x1c, .int .i64 x1d])] [] j1 op ((((w2.setCell ⟨w.heap.size, 0, none⟩ (.int .i64 x1a)).setCell ⟨w.heap.size, 1, none⟩ (.string (bsA x1b))).setCell ⟨w.heap.size, 2, none⟩ (.int .i64 x1c)).setCell ⟨w.heap.size, 3, none⟩ (.int .i64 x1d))) := St.put [] HS.out 3 (.int .i64 x1d)
  have z0 := HS.out.get List.mem_cons_self 0 (v := .int .i64 x1a) rfl
  have z1 := HS.out.get List.mem_cons_self 1 (v := .string (bsA x1b)) rfl
  have z2 := HS.out.get List.mem_cons_self 2 (v := .int .i64 x1c) rfl
  have z3 := HS.out.get List.mem_cons_self 3 (v := .int .i64 x1d) rfl
  have HP : Hid _ := HS.out.giv (V := VT) (x := ((x1a, x1b, x1c), x1d)) (v := .agg #[.int .i64 x1a, .string (bsA x1b), .int .i64 x1c, .int .i64 x1d]) rfl
  clear HS HL
  go_wp2
  refine bodyPost_ret (v := .agg #[.int .i64 x1a, .string (bsA x1b), .int .i64 x1c, .int .i64 x1d]) (by simp [results, Tryz.results122, go_sem, z0, z1, z2, z3]) rfl ?_
  rw [HRR.out]
  exact HP.out
theorem period_s (rb : Nat) (ta : Option Addr) (cap : Nat) (T : List Tt) (lo : Int) : Rds VT rb ta cap T 120 #[ptr rb, .int .i64 lo] (fun i _ => nbP T 7 lo 1099511627776 i) := by
 intro i op w r hop hr h
 dsimp only at h
 have HS : Hid (St rb ta cap T w [] [] i op w) := St.start hr
 have hlt := cell_lt hr.c0
 have HL : Hid (bnd (nbP T 7 lo 1099511627776 i) (fun t j => okR t j) = some r) := by
  show bnd _ _ = _
  rw [h]
  cases r <;> rfl
 clear hr h
 unfold ptr
 go_enter Tryz.func120, Tryz.ntmps120
 have HS : Hid (St rb ta cap T w [(w.heap.size, [.int .i64 0, .string ⟨#[]⟩, .int .i64 0, .int .i64 0])] [] i op (w.alloc (Obj.cells #[.int .i64 0, .string ⟨#[]⟩, .int .i64 0, .int .i64 0] 26))) := (by have h := HS.out.new #[.int .i64 0, .string ⟨#[]⟩, .int .i64 0, .int .i64 0] 26 [.int .i64 0, .string ⟨#[]⟩, .int .i64 0, .int .i64 0]; (try simp only [World.size_alloc] at h); exact h)
 obtain ⟨r1, e1, hl⟩ := bnd_some HL.out
 have HL : Hid _ := hl
 have hc := number_s rb ta cap T 7 lo 1099511627776 (by decide) i op _ r1 hop HS.out.rdr e1
 (try unfold ptr at hc)
 clear e1 hl
 go_wp2_with fail
 refine hc.mono ?_
 intro e wN hpost
 clear hc 
 cases r1 with
 | inl q =>
  obtain ⟨hG, hF⟩ := hpost.no
  have HP : Hid _ := HS.out.err (V := VT) (op' := op) hF hG
  have HRR : Hid _ := bnd_no HL.out
  unfold GUs at hG
  subst hG
  clear hpost hF
  go_wp2
  exact ⟨rfl, by rw [HRR.out]; exact HP.out⟩
 | inr q =>
  obtain ⟨x1, j1⟩ := q
  obtain ⟨⟨⟨v, rfl, rfl⟩, hr⟩, hf⟩ := hpost.ok
  dsimp only at hr
  obtain ⟨w2, hw⟩ : ∃ u, u = wN := ⟨_, rfl⟩
  subst hw
  have HS : Hid (St rb ta cap T w [(w.heap.size, [.int .i64 0, .string ⟨#[]⟩, .int .i64 0, .int .i64 0])] [] j1 op w2) := HS.out.call hf hr
  obtain ⟨⟨x1a, x1b, x1c⟩, x1d⟩ := x1
  unfold ttV
  dsimp only
  have hl := HL.out
  rw [bnd_ok] at hl
  (try dsimp only at hl)
  have HL : Hid _ := hl
  clear hl hpost hr hf
  have HRR : Hid _ := okR_eq HL.out
  have y3 := HS.out.get List.mem_cons_self 0 (v := .int .i64 0) rfl
  have y4 := HS.out.fr List.mem_cons_self 0
  have y5 := HS.out.get List.mem_cons_self 1 (v := .string ⟨#[]⟩) rfl
  have y6 := HS.out.fr List.mem_cons_self 1
  have y7 := HS.out.get List.mem_cons_self 2 (v := .int .i64 0) rfl
  have y8 := HS.out.fr List.mem_cons_self 2
  have y9 := HS.out.get List.mem_cons_self 3 (v := .int .i64 0) rfl
  have y10 := HS.out.fr List.mem_cons_self 3
  have HS : Hid (St rb ta cap T w [(w.heap.size, [.int .i64 x1a, .string ⟨#[]⟩, .int .i64 0, .int .i64 0])] [] j1 op (w2.setCell ⟨w.heap.size, 0, none⟩ (.int .i64 x1a))) := St.put [] HS.out 0 (.int .i64 x1a)
  have HS : Hid (St rb ta cap T w [(w.heap.size, [.int .i64 x1a, .string (bsA x1b), .int .i64 0, .int .i64 0])] [] j1 op ((w2.setCell ⟨w.heap.size, 0, none⟩ (.int .i64 x1a)).setCell ⟨w.heap.size, 1, none⟩ (.string (bsA x1b)))) := St.put [] HS.out 1 (.string (bsA x1b))
  have HS : Hid (St rb ta cap T w [(w.heap.size, [.int .i64 x1a, .string (bsA x1b), .int .i64 x1c, .int .i64 0])] [] j1 op (((w2.setCell ⟨w.heap.size, 0, none⟩ (.int .i64 x1a)).setCell ⟨w.heap.size, 1, none⟩ (.string (bsA x1b))).setCell ⟨w.heap.size, 2, none⟩ (.int .i64 x1c))) := St.put [] HS.out 2 (.int .i64 x1c)
  have HS : Hid (St rb ta cap T w [(w.heap.size, [.int .i64 x1a, .string (bsA x1b), .int .i64 x1c, .int .i64 x1d])] [] j1 op ((((w2.setCell ⟨w.heap.size, 0, none⟩ (.int .i64 x1a)).setCell ⟨w.heap.size, 1, none⟩ (.string (bsA x1b))).setCell ⟨w.heap.size, 2, none⟩ (.int .i64 x1c)).setCell ⟨w.heap.size, 3, none⟩ (.int .i64 x1d))) := St.put [] HS.out 3 (.int .i64 x1d)
  have z0 := HS.out.get List.mem_cons_self 0 (v := .int .i64 x1a) rfl
  have z1 := HS.out.get List.mem_cons_self 1 (v := .string (bsA x1b)) rfl
  have z2 := HS.out.get List.mem_cons_self 2 (v := .int .i64 x1c) rfl
  have z3 := HS.out.get List.mem_cons_self 3 (v := .int .i64 x1d) rfl
  have HP : Hid _ := HS.out.giv (V := VT) (x := ((x1a, x1b, x1c), x1d)) (v := .agg #[.int .i64 x1a, .string (bsA x1b), .int .i64 x1c, .int .i64 x1d]) rfl
  clear HS HL
  go_wp2
  refine bodyPost_ret (v := .agg #[.int .i64 x1a, .string (bsA x1b), .int .i64 x1c, .int .i64 x1d]) (by simp [results, Tryz.results120, go_sem, z0, z1, z2, z3]) rfl ?_
  rw [HRR.out]
  exact HP.out
end Go.Proofs.YtgdndahhledikaaGreatDoor
