/- Rows that are the same (SameRow), lists of arrivals that are the same (Same, SameDelta): nothing is written. -/
import Derived.Test.YtfjpdflilmcnhaaDoorMgB
import Derived.Test.YtfjpdflilmcnhaaDoorMgD
namespace Go.Proofs.YtfjpdflilmcnhaaDoor
open Go.ChangeShapes Go.WideShapes Go.ChangeAt Go.RowKit

theorem drq {w : World} {a b : Nat} {v : Value} {q : Nat} (h : w.cell? ⟨a, b, none⟩ = some v) : (w.drewN q).cell? ⟨a, b, none⟩ = some v := by rw [World.cell?_drewN]; exact h
set_option maxHeartbeats 8000000 in
theorem rRowQ_go (b off b' off' n cap cap' : Nat) (k v : Nat → Int) (t : Nat → ByteArray) (k' v' : Nat → Int) (t' : Nat → ByteArray) (w : World) (hlen : n ≤ 9223372036854775807)
    (hc : ∀ i, i < n → w.cell? ⟨b, off + i * 3, none⟩ = some (.int .i64 (k i)) ∧ w.cell? ⟨b, off + i * 3 + 1, none⟩ = some (.int .i64 (v i)) ∧ w.cell? ⟨b, off + i * 3 + 2, none⟩ = some (.string (t i)))
    (hd : ∀ i, i < n → w.cell? ⟨b', off' + i * 3, none⟩ = some (.int .i64 (k' i)) ∧ w.cell? ⟨b', off' + i * 3 + 1, none⟩ = some (.int .i64 (v' i)) ∧ w.cell? ⟨b', off' + i * 3 + 2, none⟩ = some (.string (t' i))) :
    Calls Tryd.prog 19 #[.slice (some ⟨b, off, none⟩) n cap, .slice (some ⟨b', off', none⟩) n cap'] w fun e w' => e = .returned (.bool (allF (vlP k v t k' v' t') n 0)) ∧ ∃ q, w' = w.drewN q := by
  go_enter Tryd.func19, Tryd.ntmps19
  go_wp2
  go_loopw [5] (fun i wr => ∃ m : Nat, m ≤ n ∧ i = .int .i64 m ∧ allF (vlP k v t k' v' t') n m = allF (vlP k v t k' v' t') n 0 ∧ ∃ q, wr = w.drewN q) (fun i _ => n - (intOf i).toNat)
  case atStart => exact ⟨0, Nat.zero_le _, rfl, rfl, 0, rfl⟩
  case round =>
    obtain ⟨m, hm, rfl, hV, q, rfl⟩ := hrel
    have HV : Hid (allF (vlP k v t k' v' t') n m = allF (vlP k v t k' v' t') n 0) := hV
    clear hV
    rcases Nat.lt_or_ge m n with hlt | hge
    · have c0 := drq (q := q) (hc m hlt).1
      have d0 := drq (q := q) (hd m hlt).1
      have c1 := drq (q := q) (hc m hlt).2.1
      have d1 := drq (q := q) (hd m hlt).2.1
      have c2 := drq (q := q) (hc m hlt).2.2
      have d2 := drq (q := q) (hd m hlt).2.2
      clear hc hd
      have hg := hg46
      generalize hp : (k m == k' m && v m == v' m && (t m).toList == (t' m).toList) = p
      have hq : ∀ wx : World, (binOp .neq 46 (.agg #[.int .i64 (k m), .int .i64 (v m), .string (t m)]) (.agg #[.int .i64 (k' m), .int .i64 (v' m), .string (t' m)])).run Tryd.prog wx = .ok (.bool (!p)) wx := fun wx => by rw [neq46, hp]
      have HW : Hid (∃ q, w.drewN q = w.drewN q) := ⟨0, rfl⟩
      generalize hwq : w.drewN q = wq at *
      cases p
      · have HN : Hid (false = allF (vlP k v t k' v' t') n 0) := by show _ = _; rw [← HV.out]; exact (allF_miss hlt hp).symm
        go_wp2
        go_quiet (fail)
        go_wp2
        go_ret
        refine ⟨ret_bool HN.out, ?_⟩
        subst hwq
        exact ⟨_, World.drewN_drewN _ _ _⟩
      · have HN : Hid (allF (vlP k v t k' v' t') n (m + 1) = allF (vlP k v t k' v' t') n 0) := by show _ = _; rw [← HV.out]; exact (allF_hit hlt hp).symm
        go_wp2
        go_quiet (fail)
        go_wp2
        go_roundw
        case rel =>
          refine ⟨m + 1, by omega, by go_num, HN.out, ?_⟩
          subst hwq
          exact ⟨_, World.drewN_drewN _ _ _⟩
        case measure => simp [intOf]; omega
    · have HN : Hid (true = allF (vlP k v t k' v' t') n 0) := by show _ = _; rw [← HV.out]; exact (allF_end hge).symm
      clear hc hd
      go_wp2
      go_ret
      exact ⟨ret_bool HN.out, q, rfl⟩
set_option maxHeartbeats 4000000 in
theorem rRowQ_0 (a a' : Option Addr) (cap cap' : Nat) (w : World) :
    Calls Tryd.prog 19 #[.slice a 0 cap, .slice a' 0 cap'] w fun e w' => e = .returned (.bool true) ∧ ∃ q, w' = w.drewN q := by
  go_enter Tryd.func19, Tryd.ntmps19
  go_wp2
  refine wp_loop_rounds 1 ?_
  rw [rounds_succ]
  go_wp2
  go_ret
  exact ⟨rfl, 0, rfl⟩
/-- Rows that hold the same are the same. -/
theorem RowEq_any (a a' : Option Addr) (cap cap' : Nat) (r : List Val) (w : World) (hlen : r.length ≤ 9223372036854775807) (hr : RowAt w a r) (hr' : RowAt w a' r) :
    Calls Tryd.prog 19 #[.slice a r.length cap, .slice a' r.length cap'] w fun e w' => e = .returned (.bool true) ∧ ∃ q, w' = w.drewN q := by
  by_cases h0 : r.length = 0
  · rw [h0]; exact rRowQ_0 a a' cap cap' w
  · rcases hr with hc | ⟨b, off, rfl, hc⟩
    · exact absurd hc h0
    rcases hr' with hd | ⟨b', off', rfl, hd⟩
    · exact absurd hd h0
    have e : allF (vlP (kAt r) (nAt r) (tAt r) (kAt r) (nAt r) (tAt r)) r.length 0 = true := by
      rw [allF_iff]
      intro j _ _; simp [vlP]
    have h := rRowQ_go b off b' off' r.length cap cap' _ _ _ _ _ _ w hlen hc hd
    rw [e] at h
    exact h
theorem dqb (w : World) (q : Nat) : Below w.heap.size w (w.drewN q) := ((Bel.refl w).drewN q).out
/-- What stands in arrivals: numbers, times, rows. -/
def kA (x : Arv) : Int × Int × List Val := (x.seq, x.time, x.row)
theorem kA_at {l l' : List Arv} (h : l.map kA = l'.map kA) {i : Nat} (hi : i < l.length) : (aAt l i).seq = (aAt l' i).seq ∧ (aAt l i).time = (aAt l' i).time ∧ (aAt l i).row = (aAt l' i).row := by
  have hl : l.length = l'.length := by simpa using congrArg List.length h
  have h1 := congrArg (fun x => x[i]?) h
  simp only [List.getElem?_map] at h1
  have e1 : l[i]? = some (aAt l i) := by unfold aAt; rw [List.getD_eq_getElem?_getD, List.getElem?_eq_getElem hi]; rfl
  have e2 : l'[i]? = some (aAt l' i) := by unfold aAt; rw [List.getD_eq_getElem?_getD, List.getElem?_eq_getElem (by omega)]; rfl
  rw [e1, e2] at h1
  simp only [Option.map_some, Option.some.injEq, kA, Prod.mk.injEq] at h1
  exact h1
set_option maxRecDepth 20000 in
set_option maxHeartbeats 8000000 in
theorem Same_go (b off b' off' cap cap' : Nat) (l l' : List Arv) (n : Nat) (hn : l.length = n) (w : World) (hlen : n ≤ 9223372036854775807) (hk : l.map kA = l'.map kA) (hr : RowsIn w l) (hr' : RowsIn w l') (hrl : ∀ x ∈ l, x.row.length ≤ 9223372036854775807)
    (hc : ∀ i, i < n → w.cell? ⟨b, off + i * 3, none⟩ = some (.int .i64 (aAt l i).seq) ∧ w.cell? ⟨b, off + i * 3 + 1, none⟩ = some (.int .i64 (aAt l i).time) ∧ w.cell? ⟨b, off + i * 3 + 2, none⟩ = some (.slice (aAt l i).a (aAt l i).row.length (aAt l i).cap))
    (hd : ∀ i, i < n → w.cell? ⟨b', off' + i * 3, none⟩ = some (.int .i64 (aAt l' i).seq) ∧ w.cell? ⟨b', off' + i * 3 + 1, none⟩ = some (.int .i64 (aAt l' i).time) ∧ w.cell? ⟨b', off' + i * 3 + 2, none⟩ = some (.slice (aAt l' i).a (aAt l' i).row.length (aAt l' i).cap)) :
    Calls Tryd.prog 12 #[.slice (some ⟨b, off, none⟩) n cap, .slice (some ⟨b', off', none⟩) n cap'] w fun e w' => e = .returned (.bool true) ∧ ∃ q, w' = w.drewN q := by
  have hn' : l'.length = n := by have := congrArg List.length hk; simp at this; omega
  go_enter Tryd.func12, Tryd.ntmps12
  go_wp2
  go_loopw [5] (fun i wr => ∃ m : Nat, m ≤ n ∧ i = .int .i64 m ∧ ∃ q, wr = w.drewN q) (fun i _ => n - (intOf i).toNat)
  case atStart => exact ⟨0, Nat.zero_le _, rfl, 0, rfl⟩
  case round =>
    obtain ⟨m, hm, rfl, q, rfl⟩ := hrel
    rcases Nat.lt_or_ge m n with hlt | hge
    · have c0 := drq (q := q) (hc m hlt).1
      have d0 := drq (q := q) (hd m hlt).1
      have c1 := drq (q := q) (hc m hlt).2.1
      have d1 := drq (q := q) (hd m hlt).2.1
      have c2 := drq (q := q) (hc m hlt).2.2
      have d2 := drq (q := q) (hd m hlt).2.2
      obtain ⟨e1, e2, e3⟩ := kA_at hk (by omega : m < l.length)
      rw [← e1] at d0
      rw [← e2] at d1
      rw [← e3] at d2
      have hx := aAt_mem (l := l) (i := m) (by omega)
      have h1 := hr _ hx
      have h2 := hr' _ (aAt_mem (l := l') (i := m) (by omega))
      rw [← e3] at h2
      have hcall := fun q' => RowEq_any (aAt l m).a (aAt l' m).a (aAt l m).cap (aAt l' m).cap (aAt l m).row ((w.drewN q).drewN q') (hrl _ hx) ((h1.below (dqb _ _)).below (dqb _ _)) ((h2.below (dqb _ _)).below (dqb _ _))
      clear hc hd h1 h2 e1 e2 e3 hx hr hr' hrl hk
      generalize hwq : w.drewN q = wq at *
      generalize (aAt l m).seq = s at *
      generalize (aAt l m).time = tt at *
      generalize (aAt l m).row.length = rn at *
      generalize (aAt l m).a = ra at *
      generalize (aAt l' m).a = ra' at *
      generalize (aAt l m).cap = rc at *
      generalize (aAt l' m).cap = rc' at *
      go_wp2
      go_quiet (refine Calls.quiet_of (hcall _))
      go_wp2
      go_roundw
      case rel =>
        refine ⟨m + 1, by omega, by go_num, ?_⟩
        subst hwq
        exact ⟨_, World.drewN_drewN _ _ _⟩
      case measure => simp [intOf]; omega
    · clear hc hd
      go_wp2
      go_ret
      exact ⟨rfl, q, rfl⟩
set_option maxHeartbeats 4000000 in
theorem Same_0 (a a' : Option Addr) (cap cap' : Nat) (w : World) :
    Calls Tryd.prog 12 #[.slice a 0 cap, .slice a' 0 cap'] w fun e w' => e = .returned (.bool true) ∧ ∃ q, w' = w.drewN q := by
  go_enter Tryd.func12, Tryd.ntmps12
  go_wp2
  refine wp_loop_rounds 1 ?_
  rw [rounds_succ]
  go_wp2
  go_ret
  exact ⟨rfl, 0, rfl⟩
/-- Lists of arrivals that hold the same are the same. -/
theorem Same_any (a a' : Option Addr) (cap cap' n n' : Nat) (l l' : List Arv) (w : World) (hn : n = l.length) (hn' : n' = l'.length) (hlen : l.length ≤ 9223372036854775807) (hk : l.map kA = l'.map kA) (hrl : ∀ x ∈ l, x.row.length ≤ 9223372036854775807) (h : ArsAt w a l) (h' : ArsAt w a' l') :
    Calls Tryd.prog 12 #[.slice a n cap, .slice a' n' cap'] w fun e w' => e = .returned (.bool true) ∧ ∃ q, w' = w.drewN q := by
  have hll : l.length = l'.length := by simpa using congrArg List.length hk
  subst hn hn'
  by_cases h0 : l.length = 0
  · rw [← hll, h0]; exact Same_0 a a' cap cap' w
  · rcases h.cels with hc | ⟨b, off, rfl, hc⟩
    · exact absurd (by rw [hc]; rfl) h0
    rcases h'.cels with hd | ⟨b', off', rfl, hd⟩
    · exact absurd (by rw [hll, hd]; rfl) h0
    rw [← hll] at hd ⊢
    exact Same_go b off b' off' cap cap' l l' l.length rfl w hlen hk h.rows h'.rows hrl hc hd
set_option maxHeartbeats 4000000 in
/-- Deltas that hold the same are the same. -/
theorem SameDelta_any (a1 a2 b1 b2 : Option Addr) (c1 c2 d1 d2 n1 n2 m1 m2 : Nat) (l1 l2 k1 k2 : List Arv) (w : World) (hn1 : n1 = l1.length) (hn2 : n2 = l2.length) (hm1 : m1 = k1.length) (hm2 : m2 = k2.length)
    (hl1 : l1.length ≤ 9223372036854775807) (hl2 : l2.length ≤ 9223372036854775807) (h1 : l1.map kA = k1.map kA) (h2 : l2.map kA = k2.map kA) (hr1 : ∀ x ∈ l1, x.row.length ≤ 9223372036854775807) (hr2 : ∀ x ∈ l2, x.row.length ≤ 9223372036854775807)
    (hA1 : ArsAt w a1 l1) (hA2 : ArsAt w a2 l2) (hB1 : ArsAt w b1 k1) (hB2 : ArsAt w b2 k2) :
    Calls Tryd.prog 17 #[.agg #[.slice a1 n1 c1, .slice a2 n2 c2], .agg #[.slice b1 m1 d1, .slice b2 m2 d2]] w fun e w' => e = .returned (.bool true) ∧ Below w.heap.size w w' := by
  have hcall1 := fun wx (hb : Below w.heap.size w wx) => Same_any a1 b1 c1 d1 n1 m1 l1 k1 wx hn1 hm1 hl1 h1 hr1 (hA1.below hb) (hB1.below hb)
  have hcall2 := fun wx (hb : Below w.heap.size w wx) => Same_any a2 b2 c2 d2 n2 m2 l2 k2 wx hn2 hm2 hl2 h2 hr2 (hA2.below hb) (hB2.below hb)
  clear hA1 hA2 hB1 hB2 hr1 hr2 h1 h2 hl1 hl2 hn1 hn2 hm1 hm2
  go_enter Tryd.func17, Tryd.ntmps17
  go_wp2_with fail
  refine (hcall1 _ (Bel.out (by repeat (first | exact Bel.refl _ | assumption | refine Bel.drew ?_ | refine Bel.drewN ?_ _ | refine Bel.alloc ?_ _ | refine Bel.setCell ?_ (by simp <;> omega) _ | refine Bel.step ?_ (by assumption))))).mono ?_
  rintro e w1 ⟨rfl, q, rfl⟩
  clear hcall1
  go_wp2_with fail
  refine (hcall2 _ (Bel.out (by repeat (first | exact Bel.refl _ | assumption | refine Bel.drew ?_ | refine Bel.drewN ?_ _ | refine Bel.alloc ?_ _ | refine Bel.setCell ?_ (by simp <;> omega) _ | refine Bel.step ?_ (by assumption))))).mono ?_
  rintro e w2 ⟨rfl, q2, rfl⟩
  go_wp2
  go_ret
  exact ⟨rfl, (Bel.out (by repeat (first | exact Bel.refl _ | assumption | refine Bel.drew ?_ | refine Bel.drewN ?_ _ | refine Bel.alloc ?_ _ | refine Bel.setCell ?_ (by simp <;> omega) _ | refine Bel.step ?_ (by assumption))))⟩
end Go.Proofs.YtfjpdflilmcnhaaDoor
