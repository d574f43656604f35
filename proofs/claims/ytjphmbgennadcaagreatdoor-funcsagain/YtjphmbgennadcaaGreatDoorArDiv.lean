/- bits.Div64: the quotient of 128 bits by 64. -/
import Derived.Test.YtjphmbgennadcaaGreatDoorArNum
import Derived.Test.YtjphmbgennadcaaGreatDoorShelfB
import Derived.Test.YtjphmbgennadcaaGreatDoorArKnuth
import Derived.LoopN
import Derived.Deep.CutRange
import Derived.Deep.CutBlock
import Derived.Deep.QuietTactic
namespace Go.Proofs.YtjphmbgennadcaaGreatDoor.Ar
open Go.ChangeShapes Go.WideShapes Go.ChangeAt Go.RowKit

/-- 'Below', and that the world is no smaller: what a walk's end is put together of. -/
structure Bel (B : Nat) (a w : World) : Prop where
  out : Below B a w
  le : B ≤ w.heap.size
theorem Bel.refl (a : World) : Bel a.heap.size a a := ⟨Below.refl _ _, Nat.le_refl _⟩
theorem Bel.drew {B : Nat} {a w : World} (h : Bel B a w) : Bel B a w.drew := ⟨h.out.drew, h.le⟩
theorem Bel.drewN {B : Nat} {a w : World} (h : Bel B a w) (q : Nat) : Bel B a (w.drewN q) := by
  induction q with
  | zero => exact h
  | succ q ih => exact ih.drew
theorem Bel.alloc {B : Nat} {a w : World} (h : Bel B a w) (o : Obj) : Bel B a (w.alloc o) := ⟨h.out.alloc h.le o, by have := h.le; simp; omega⟩
theorem Bel.setCell {B : Nat} {a w : World} (h : Bel B a w) {p : Addr} (hp : B ≤ p.block) (u : Value) : Bel B a (w.setCell p u) := ⟨h.out.setCell hp u, by have := h.le; simpa [World.setCell] using this⟩
theorem Bel.step {B : Nat} {a w w' : World} (h : Bel B a w) (hb : Below w.heap.size w w') : Bel B a w' := ⟨h.out.trans (hb.mono h.le), Nat.le_trans h.le hb.size⟩

theorem wrapU (a : Nat) (ha : a < 18446744073709551616) : IntKind.u64.wrap (a : Int) = (a : Int) := by rw [IntKind.wrap_u64]; omega

set_option maxHeartbeats 1000000 in
theorem div_zero (lo y : Nat) (hlo : lo < 18446744073709551616) (hy : y < 18446744073709551616) (h0 : 0 < y) (w : World) :
    Calls Tryz.prog 155 #[.int .u64 0, .int .u64 lo, .int .u64 y] w fun e w' => (∃ r : Int, e = .returned (.tuple #[.int .u64 ((lo / y : Nat) : Int), .int .u64 r])) ∧ Below w.heap.size w w' := by
  have hne : ¬ (y : Int) = 0 := by omega
  go_enter Tryz.func155, Tryz.ntmps155
  go_wp2
  go_quiet (fail)
  go_wp2
  go_ret2
  have e : IntKind.u64.wrap ((lo : Int) / (y : Int)) = ((lo / y : Nat) : Int) := by
    have := wrapU (lo / y) (Nat.lt_of_le_of_lt (Nat.div_le_self _ _) hlo)
    simpa using this
  exact ⟨⟨_, by rw [← e]; rfl⟩, ((Bel.refl _).drewN _).out⟩

/-- What the walk calls the pushed numbers. -/
structure Pushed (hi lo y s Y a b X L u v : Nat) : Prop where
  hs : s ≤ 63
  eS : IntKind.u64.wrap (64 - (Lib.bitLen y : Int)) = (s : Int)
  eT : IntKind.u64.wrap (64 - (s : Int)) = ((64 - s : Nat) : Int)
  eY : IntKind.u64.wrap ((y : Int) * 2 ^ min s 64) = (Y : Int)
  eA : (Y : Int) / 4294967296 = (a : Int)
  eB : bits .and .u64 (Y : Int) 4294967295 = (b : Int)
  eH : IntKind.u64.wrap ((hi : Int) * 2 ^ min s 64) = ((hi * 2 ^ s : Nat) : Int)
  eG : (lo : Int) / 2 ^ min (64 - s) 64 = ((lo / 2 ^ (64 - s) : Nat) : Int)
  eX : bits .or .u64 ((hi * 2 ^ s : Nat) : Int) ((lo / 2 ^ (64 - s) : Nat) : Int) = (X : Int)
  eL : IntKind.u64.wrap ((lo : Int) * 2 ^ min s 64) = (L : Int)
  eU : (L : Int) / 4294967296 = (u : Int)
  eV : bits .and .u64 (L : Int) 4294967295 = (v : Int)
  hY : Y = a * 4294967296 + b
  hb : b < 4294967296
  ha : 2147483648 ≤ a
  ha' : a < 4294967296
  hX : X < Y
  hu : u < 4294967296
  hv : v < 4294967296
  hQ : ((X * 4294967296 + u) * 4294967296 + v) / Y = (hi * 18446744073709551616 + lo) / y

theorem andN (a : Nat) (ha : a < 18446744073709551616) : bits .and .u64 (a : Int) 4294967295 = ((a % 4294967296 : Nat) : Int) := by
  have h := bits_and_u64_nat a 4294967295 ha (by omega)
  rw [show a &&& 4294967295 = a % 4294967296 from Nat.and_two_pow_sub_one_eq_mod a 32] at h
  exact h

theorem join2 (X L : Nat) : (X * 4294967296 + L / 4294967296) * 4294967296 + L % 4294967296 = X * 18446744073709551616 + L := by omega

theorem pushed_of (hi lo y : Nat) (hlo : lo < 18446744073709551616) (hy : y < 18446744073709551616) (h1 : hi < y) : ∃ s Y a b X L u v, Pushed hi lo y s Y a b X L u v := by
  obtain ⟨n1, n2, n3, n4⟩ := normed y (by omega) hy
  generalize hs : 64 - Lib.bitLen y = s at n3 n4
  have hs' : s ≤ 63 := by omega
  have hp := Nat.two_pow_pos s
  have hh : hi * 2 ^ s < y * 2 ^ s := Nat.mul_lt_mul_of_pos_right h1 hp
  have hpow : 2 ^ (64 - s) * 2 ^ s = 18446744073709551616 := by rw [← Nat.pow_add, show 64 - s + s = 64 by omega]
  have hg : lo / 2 ^ (64 - s) < 2 ^ s := (Nat.div_lt_iff_lt_mul (Nat.two_pow_pos _)).mpr (by rw [Nat.mul_comm]; omega)
  have hor : hi * 2 ^ s ||| lo / 2 ^ (64 - s) = hi * 2 ^ s + lo / 2 ^ (64 - s) := by
    rw [Nat.mul_comm]; exact (Nat.two_pow_add_eq_or_of_lt hg hi).symm
  have hXY : hi * 2 ^ s + lo / 2 ^ (64 - s) < y * 2 ^ s := by
    have := Nat.mul_le_mul_right (2 ^ s) (show hi + 1 ≤ y from h1)
    rw [Nat.add_mul] at this; omega
  have hL : lo * 2 ^ s % 18446744073709551616 < 18446744073709551616 := Nat.mod_lt _ (by omega)
  have em : min s 64 = s := by omega
  refine ⟨s, y * 2 ^ s, y * 2 ^ s / 4294967296, y * 2 ^ s % 4294967296, hi * 2 ^ s + lo / 2 ^ (64 - s), lo * 2 ^ s % 18446744073709551616, lo * 2 ^ s % 18446744073709551616 / 4294967296, lo * 2 ^ s % 18446744073709551616 % 4294967296, ?_⟩
  refine ⟨hs', ?_, ?_, ?_, ?_, andN _ n4, ?_, ?_, ?_, ?_, ?_, andN _ hL, by omega, by omega, by omega, by omega, hXY, by omega, by omega, ?_⟩
  · rw [IntKind.wrap_u64]; omega
  · rw [IntKind.wrap_u64]; omega
  · rw [em]; have := wrapU _ n4; simpa using this
  · omega
  · rw [em]; have := wrapU (hi * 2 ^ s) (by omega); simpa using this
  · rw [show min (64 - s) 64 = 64 - s by omega]; simp
  · rw [bits_or_u64_nat _ _ (by omega) (by omega), hor]
  · rw [em, IntKind.wrap_u64]; simp
  · omega
  · have e1 := pushed hi lo s (by omega)
    rw [join2, e1, Nat.mul_div_mul_right _ _ hp]
/-- A round's numbers, as the walk calls them. -/
structure Rnd (a b u q r m t q' r' : Nat) : Prop where
  em : IntKind.u64.wrap ((q : Int) * (b : Int)) = (m : Int)
  et : IntKind.u64.wrap (IntKind.u64.wrap (4294967296 * (r : Int)) + (u : Int)) = (t : Int)
  eq : 1 ≤ q → IntKind.u64.wrap ((q : Int) - 1) = (q' : Int)
  er : IntKind.u64.wrap ((r : Int) + (a : Int)) = (r' : Int)
  hm : m = q * b
  ht : t = 4294967296 * r + u
  hq : q' = q - 1
  hr : r' = r + a
theorem Guess.rnd {X y a b u q r : Nat} (g : Guess X y a b u q r) : ∃ m t q' r', Rnd a b u q r m t q' r' := by
  have h1 := g.bound; have h2 := g.hle; have h3 := g.hr; have h4 := g.hu; have h5 := g.ha'
  refine ⟨q * b, 4294967296 * r + u, q - 1, r + a, ?_, ?_, ?_, ?_, rfl, rfl, rfl, rfl⟩
  · rw [show (q : Int) * (b : Int) = ((q * b : Nat) : Int) by simp, wrapU _ h1]
  · simp only [IntKind.wrap_u64]; omega
  · intro h; simp only [IntKind.wrap_u64]; omega
  · simp only [IntKind.wrap_u64]; omega
theorem Rnd.pos {a b u q r m t q' r' : Nat} (n : Rnd a b u q r m t q' r') (h : 4294967296 ≤ q ∨ t < m) : 1 ≤ q := by
  rcases h with h | h
  · omega
  · rcases Nat.eq_zero_or_pos q with h0 | h0
    · have := n.hm; subst h0; simp at this; omega
    · exact h0

/-- The two digits and what is left over behind the first. -/
theorem Pushed.parts {hi lo y s Y a b X L u v : Nat} (p : Pushed hi lo y s Y a b X L u v) : ∃ Q R Z, Hid ((X * 4294967296 + u) / Y = Q) ∧ Hid ((R * 4294967296 + v) / Y = Z) ∧ Hid (X * 4294967296 + u - Q * Y = R) ∧ Hid (Q * Y ≤ X * 4294967296 + u) ∧ R < Y ∧ Hid (Q < 4294967296) ∧ Hid (Z < 4294967296) ∧ (hi * 18446744073709551616 + lo) / y = Q * 4294967296 + Z := by
  have hY : 0 < Y := Nat.lt_of_le_of_lt (Nat.zero_le _) p.hX
  obtain ⟨l1, l2, l3⟩ := left_over (X * 4294967296 + u) hY
  exact ⟨_, _, _, rfl, rfl, l1, l2, l3, quot_lt p.hX p.hu, quot_lt l3 p.hv, p.hQ.symm.trans (two_digits _ v hY)⟩

set_option maxRecDepth 100000 in
set_option maxHeartbeats 4000000 in
theorem div_more (hi lo y : Nat) (hlo : lo < 18446744073709551616) (hy : y < 18446744073709551616) (h0 : 0 < hi) (h1 : hi < y) (w : World) :
    Calls Tryz.prog 155 #[.int .u64 hi, .int .u64 lo, .int .u64 y] w fun e w' => (∃ r : Int, e = .returned (.tuple #[.int .u64 (((hi * 18446744073709551616 + lo) / y : Nat) : Int), .int .u64 r])) ∧ w' = w := by
  have hne : ¬ (y : Int) = 0 := by omega
  have hne' : ¬ (hi : Int) = 0 := by omega
  have hlt : (hi : Int) < y := by omega
  obtain ⟨s, Y, a, b, X, L, u, v, p⟩ := pushed_of hi lo y hlo hy h1
  obtain ⟨Q, R, Z, hQh, hZh, l1, l2, l3, hQ1, hQ2, hall⟩ := p.parts
  rw [hall]
  have g := Guess.start p.hY p.hb p.ha p.ha' p.hX p.hu
  have gg := Guess.start p.hY p.hb p.ha p.ha' l3 p.hv
  go_enter Tryz.func155, Tryz.ntmps155
  go_upto_region 15 with (go_at_call 165; refine (Tryz.bits_LeadingZeros64 _ _ (by omega) (by omega)).mono ?_; rintro e w' ⟨rfl, hw⟩; rw [hw])
  simp only [Int.toNat_natCast, p.eS, p.eT, p.eY, p.eA, p.eB, p.eH, p.eG, p.eX, p.eL, p.eU, p.eV]
  have hXa : (X : Int) / (a : Int) = ((X / a : Nat) : Int) := by simp
  generalize hq : X / a = q at g hXa
  generalize hr : X - q * a = r at g
  have hne2 : ¬ (a : Int) = 0 := by have := p.ha; omega
  have eq0 : IntKind.u64.wrap (q : Int) = (q : Int) := by rw [wrapU]; have := g.hle; omega
  have er0 : IntKind.u64.wrap ((X : Int) - IntKind.u64.wrap ((q : Int) * (a : Int))) = (r : Int) := by
    have e1 : (q : Int) * (a : Int) = ((q * a : Nat) : Int) := by simp
    have h1 := g.hr; have h2 := g.hq
    rw [e1]
    simp only [IntKind.wrap_u64]; omega
  clear hq hr hne hne' hlt hall
  go_upto_block 0 with (fail)
  go_cut [15, 16] from 67 to 85 (fun s1 s2 wd => s1 = .int .u64 (Q : Nat) ∧ (∃ r : Nat, s2 = .int .u64 r) ∧ wd = w)
  case first =>
    go_wp2_with fail
    refine wp_loop_rounds 2 ?_
    obtain ⟨m1, t1, q1, r1, n1⟩ := g.rnd
    have em1 := n1.em; have et1 := n1.et; have er1 := n1.er
    rcases Nat.lt_or_ge q 4294967296 with hb1 | hb1
    · rcases Nat.lt_or_ge t1 m1 with hc1 | hc1
      · have hc : 4294967296 ≤ q ∨ 4294967296 * r + u < q * b := by have := n1.hm; have := n1.ht; omega
        have eq1 := n1.eq (n1.pos (by omega))
        have hbi1 : (4294967296 ≤ (q : Int)) = False := by simp; omega
        have hci1 : ((t1 : Int) < (m1 : Int)) = True := by simp; omega
        clear hb1 hc1
        rcases Nat.lt_or_ge r1 4294967296 with hk | hk
        · have g2 := g.next hc (by have := n1.hr; omega)
          rw [← n1.hq, ← n1.hr] at g2
          have hr2 : Hid (a ≤ r1) := by have h := n1.hr; exact (by omega : a ≤ r1)
          have hki : (4294967296 ≤ (r1 : Int)) = False := by simp; omega
          clear hc hk
          rw [rounds_succ]
          go_wp2
          obtain ⟨m2, t2, q2, r2, n2⟩ := g2.rnd
          have em2 := n2.em; have et2 := n2.et; have er2 := n2.er
          rcases Nat.lt_or_ge q1 4294967296 with hb2 | hb2
          · rcases Nat.lt_or_ge t2 m2 with hc2 | hc2
            · have hc : 4294967296 ≤ q1 ∨ 4294967296 * r1 + u < q1 * b := by have := n2.hm; have := n2.ht; omega
              have eq2 := n2.eq (n2.pos (by omega))
              have hbi2 : (4294967296 ≤ (q1 : Int)) = False := by simp; omega
              have hci2 : ((t2 : Int) < (m2 : Int)) = True := by simp; omega
              clear hb2 hc2
              have hk : 4294967296 ≤ r2 := by have := n2.hr; have := g2.ha; have := hr2.out; omega
              have hd : Hid _ := g2.last hc (by have := n2.hr; omega)
              have hki : (4294967296 ≤ (r2 : Int)) = True := by simp; omega
              clear hc hk
              rw [rounds_succ]
              go_wp2
              go_meet
              case rel => exact ⟨by rw [← hQh.out, ← hd.out, ← n2.hq], ⟨_, rfl⟩, rfl⟩
            · have hd : Hid _ := g2.done (by have := n2.hm; have := n2.ht; omega)
              have hbi : (4294967296 ≤ (q1 : Int)) = False := by simp; omega
              have hci : ((t2 : Int) < (m2 : Int)) = False := by simp; omega
              clear hb2 hc2
              rw [rounds_succ]
              go_wp2
              go_meet
              case rel => exact ⟨by rw [← hQh.out, ← hd.out], ⟨_, rfl⟩, rfl⟩
          · have hc : 4294967296 ≤ q1 ∨ 4294967296 * r1 + u < q1 * b := by have := n2.hm; have := n2.ht; omega
            have eq2 := n2.eq (n2.pos (by omega))
            have hbi2 : (4294967296 ≤ (q1 : Int)) = True := by simp; omega
            clear hb2
            have hk : 4294967296 ≤ r2 := by have := n2.hr; have := g2.ha; have := hr2.out; omega
            have hd : Hid _ := g2.last hc (by have := n2.hr; omega)
            have hki : (4294967296 ≤ (r2 : Int)) = True := by simp; omega
            clear hc hk
            rw [rounds_succ]
            go_wp2
            go_meet
            case rel => exact ⟨by rw [← hQh.out, ← hd.out, ← n2.hq], ⟨_, rfl⟩, rfl⟩
        · have hd : Hid _ := g.last hc (by have := n1.hr; omega)
          have hki : (4294967296 ≤ (r1 : Int)) = True := by simp; omega
          clear hc hk
          rw [rounds_succ]
          go_wp2
          go_meet
          case rel => exact ⟨by rw [← hQh.out, ← hd.out, ← n1.hq], ⟨_, rfl⟩, rfl⟩
      · have hd : Hid _ := g.done (by have := n1.hm; have := n1.ht; omega)
        have hbi : (4294967296 ≤ (q : Int)) = False := by simp; omega
        have hci : ((t1 : Int) < (m1 : Int)) = False := by simp; omega
        clear hb1 hc1
        rw [rounds_succ]
        go_wp2
        go_meet
        case rel => exact ⟨by rw [← hQh.out, ← hd.out], ⟨_, rfl⟩, rfl⟩
    · have hc : 4294967296 ≤ q ∨ 4294967296 * r + u < q * b := by have := n1.hm; have := n1.ht; omega
      have eq1 := n1.eq (n1.pos (by omega))
      have hbi1 : (4294967296 ≤ (q : Int)) = True := by simp; omega
      clear hb1
      rcases Nat.lt_or_ge r1 4294967296 with hk | hk
      · have g2 := g.next hc (by have := n1.hr; omega)
        rw [← n1.hq, ← n1.hr] at g2
        have hr2 : Hid (a ≤ r1) := by have h := n1.hr; exact (by omega : a ≤ r1)
        have hki : (4294967296 ≤ (r1 : Int)) = False := by simp; omega
        clear hc hk
        rw [rounds_succ]
        go_wp2
        obtain ⟨m2, t2, q2, r2, n2⟩ := g2.rnd
        have em2 := n2.em; have et2 := n2.et; have er2 := n2.er
        rcases Nat.lt_or_ge q1 4294967296 with hb2 | hb2
        · rcases Nat.lt_or_ge t2 m2 with hc2 | hc2
          · have hc : 4294967296 ≤ q1 ∨ 4294967296 * r1 + u < q1 * b := by have := n2.hm; have := n2.ht; omega
            have eq2 := n2.eq (n2.pos (by omega))
            have hbi2 : (4294967296 ≤ (q1 : Int)) = False := by simp; omega
            have hci2 : ((t2 : Int) < (m2 : Int)) = True := by simp; omega
            clear hb2 hc2
            have hk : 4294967296 ≤ r2 := by have := n2.hr; have := g2.ha; have := hr2.out; omega
            have hd : Hid _ := g2.last hc (by have := n2.hr; omega)
            have hki : (4294967296 ≤ (r2 : Int)) = True := by simp; omega
            clear hc hk
            rw [rounds_succ]
            go_wp2
            go_meet
            case rel => exact ⟨by rw [← hQh.out, ← hd.out, ← n2.hq], ⟨_, rfl⟩, rfl⟩
          · have hd : Hid _ := g2.done (by have := n2.hm; have := n2.ht; omega)
            have hbi : (4294967296 ≤ (q1 : Int)) = False := by simp; omega
            have hci : ((t2 : Int) < (m2 : Int)) = False := by simp; omega
            clear hb2 hc2
            rw [rounds_succ]
            go_wp2
            go_meet
            case rel => exact ⟨by rw [← hQh.out, ← hd.out], ⟨_, rfl⟩, rfl⟩
        · have hc : 4294967296 ≤ q1 ∨ 4294967296 * r1 + u < q1 * b := by have := n2.hm; have := n2.ht; omega
          have eq2 := n2.eq (n2.pos (by omega))
          have hbi2 : (4294967296 ≤ (q1 : Int)) = True := by simp; omega
          clear hb2
          have hk : 4294967296 ≤ r2 := by have := n2.hr; have := g2.ha; have := hr2.out; omega
          have hd : Hid _ := g2.last hc (by have := n2.hr; omega)
          have hki : (4294967296 ≤ (r2 : Int)) = True := by simp; omega
          clear hc hk
          rw [rounds_succ]
          go_wp2
          go_meet
          case rel => exact ⟨by rw [← hQh.out, ← hd.out, ← n2.hq], ⟨_, rfl⟩, rfl⟩
      · have hd : Hid _ := g.last hc (by have := n1.hr; omega)
        have hki : (4294967296 ≤ (r1 : Int)) = True := by simp; omega
        clear hc hk
        rw [rounds_succ]
        go_wp2
        go_meet
        case rel => exact ⟨by rw [← hQh.out, ← hd.out, ← n1.hq], ⟨_, rfl⟩, rfl⟩
  case rest =>
    obtain ⟨rfl, ⟨r2, rfl⟩, rfl⟩ := hcut
    clear g eq0 er0 hXa
    have g := gg
    have hRa : (R : Int) / (a : Int) = ((R / a : Nat) : Int) := by simp
    generalize hq : R / a = q at g hRa
    generalize hr : R - q * a = r at g
    have eq0 : IntKind.u64.wrap (q : Int) = (q : Int) := by rw [wrapU]; have := g.hle; omega
    have er0 : IntKind.u64.wrap ((R : Int) - IntKind.u64.wrap ((q : Int) * (a : Int))) = (r : Int) := by
      have e1 : (q : Int) * (a : Int) = ((q * a : Nat) : Int) := by simp
      have h1 := g.hr; have h2 := g.hq
      rw [e1]
      simp only [IntKind.wrap_u64]; omega
    have eR : IntKind.u64.wrap (IntKind.u64.wrap (IntKind.u64.wrap ((X : Int) * 4294967296) + (u : Int)) - IntKind.u64.wrap ((Q : Int) * (Y : Int))) = (R : Int) := by
      have e1 : (Q : Int) * (Y : Int) = ((Q * Y : Nat) : Int) := by simp
      have hR' : R < 18446744073709551616 := by have := p.hY; have := p.ha'; have := p.hb; omega
      have l1' := l1.out; have l2' := l2.out
      rw [e1]
      simp only [IntKind.wrap_u64]; omega
    clear hq hr
    go_upto_block 2 with (fail)
    go_cut [18, 16] from 102 to 120 (fun s1 s2 wd => s1 = .int .u64 (Z : Nat) ∧ (∃ r : Nat, s2 = .int .u64 r) ∧ wd = wc)
    case first =>
      go_wp2_with fail
      refine wp_loop_rounds 2 ?_
      obtain ⟨m1, t1, q1, r1, n1⟩ := g.rnd
      have em1 := n1.em; have et1 := n1.et; have er1 := n1.er
      rcases Nat.lt_or_ge q 4294967296 with hb1 | hb1
      · rcases Nat.lt_or_ge t1 m1 with hc1 | hc1
        · have hc : 4294967296 ≤ q ∨ 4294967296 * r + v < q * b := by have := n1.hm; have := n1.ht; omega
          have eq1 := n1.eq (n1.pos (by omega))
          have hbi1 : (4294967296 ≤ (q : Int)) = False := by simp; omega
          have hci1 : ((t1 : Int) < (m1 : Int)) = True := by simp; omega
          clear hb1 hc1
          rcases Nat.lt_or_ge r1 4294967296 with hk | hk
          · have g2 := g.next hc (by have := n1.hr; omega)
            rw [← n1.hq, ← n1.hr] at g2
            have hr2 : Hid (a ≤ r1) := by have h := n1.hr; exact (by omega : a ≤ r1)
            have hki : (4294967296 ≤ (r1 : Int)) = False := by simp; omega
            clear hc hk
            rw [rounds_succ]
            go_wp2
            obtain ⟨m2, t2, q2, r2, n2⟩ := g2.rnd
            have em2 := n2.em; have et2 := n2.et; have er2 := n2.er
            rcases Nat.lt_or_ge q1 4294967296 with hb2 | hb2
            · rcases Nat.lt_or_ge t2 m2 with hc2 | hc2
              · have hc : 4294967296 ≤ q1 ∨ 4294967296 * r1 + v < q1 * b := by have := n2.hm; have := n2.ht; omega
                have eq2 := n2.eq (n2.pos (by omega))
                have hbi2 : (4294967296 ≤ (q1 : Int)) = False := by simp; omega
                have hci2 : ((t2 : Int) < (m2 : Int)) = True := by simp; omega
                clear hb2 hc2
                have hk : 4294967296 ≤ r2 := by have := n2.hr; have := g2.ha; have := hr2.out; omega
                have hd : Hid _ := g2.last hc (by have := n2.hr; omega)
                have hki : (4294967296 ≤ (r2 : Int)) = True := by simp; omega
                clear hc hk
                rw [rounds_succ]
                go_wp2
                go_meet
                case rel => exact ⟨by rw [← hZh.out, ← hd.out, ← n2.hq], ⟨_, rfl⟩, rfl⟩
              · have hd : Hid _ := g2.done (by have := n2.hm; have := n2.ht; omega)
                have hbi : (4294967296 ≤ (q1 : Int)) = False := by simp; omega
                have hci : ((t2 : Int) < (m2 : Int)) = False := by simp; omega
                clear hb2 hc2
                rw [rounds_succ]
                go_wp2
                go_meet
                case rel => exact ⟨by rw [← hZh.out, ← hd.out], ⟨_, rfl⟩, rfl⟩
            · have hc : 4294967296 ≤ q1 ∨ 4294967296 * r1 + v < q1 * b := by have := n2.hm; have := n2.ht; omega
              have eq2 := n2.eq (n2.pos (by omega))
              have hbi2 : (4294967296 ≤ (q1 : Int)) = True := by simp; omega
              clear hb2
              have hk : 4294967296 ≤ r2 := by have := n2.hr; have := g2.ha; have := hr2.out; omega
              have hd : Hid _ := g2.last hc (by have := n2.hr; omega)
              have hki : (4294967296 ≤ (r2 : Int)) = True := by simp; omega
              clear hc hk
              rw [rounds_succ]
              go_wp2
              go_meet
              case rel => exact ⟨by rw [← hZh.out, ← hd.out, ← n2.hq], ⟨_, rfl⟩, rfl⟩
          · have hd : Hid _ := g.last hc (by have := n1.hr; omega)
            have hki : (4294967296 ≤ (r1 : Int)) = True := by simp; omega
            clear hc hk
            rw [rounds_succ]
            go_wp2
            go_meet
            case rel => exact ⟨by rw [← hZh.out, ← hd.out, ← n1.hq], ⟨_, rfl⟩, rfl⟩
        · have hd : Hid _ := g.done (by have := n1.hm; have := n1.ht; omega)
          have hbi : (4294967296 ≤ (q : Int)) = False := by simp; omega
          have hci : ((t1 : Int) < (m1 : Int)) = False := by simp; omega
          clear hb1 hc1
          rw [rounds_succ]
          go_wp2
          go_meet
          case rel => exact ⟨by rw [← hZh.out, ← hd.out], ⟨_, rfl⟩, rfl⟩
      · have hc : 4294967296 ≤ q ∨ 4294967296 * r + v < q * b := by have := n1.hm; have := n1.ht; omega
        have eq1 := n1.eq (n1.pos (by omega))
        have hbi1 : (4294967296 ≤ (q : Int)) = True := by simp; omega
        clear hb1
        rcases Nat.lt_or_ge r1 4294967296 with hk | hk
        · have g2 := g.next hc (by have := n1.hr; omega)
          rw [← n1.hq, ← n1.hr] at g2
          have hr2 : Hid (a ≤ r1) := by have h := n1.hr; exact (by omega : a ≤ r1)
          have hki : (4294967296 ≤ (r1 : Int)) = False := by simp; omega
          clear hc hk
          rw [rounds_succ]
          go_wp2
          obtain ⟨m2, t2, q2, r2, n2⟩ := g2.rnd
          have em2 := n2.em; have et2 := n2.et; have er2 := n2.er
          rcases Nat.lt_or_ge q1 4294967296 with hb2 | hb2
          · rcases Nat.lt_or_ge t2 m2 with hc2 | hc2
            · have hc : 4294967296 ≤ q1 ∨ 4294967296 * r1 + v < q1 * b := by have := n2.hm; have := n2.ht; omega
              have eq2 := n2.eq (n2.pos (by omega))
              have hbi2 : (4294967296 ≤ (q1 : Int)) = False := by simp; omega
              have hci2 : ((t2 : Int) < (m2 : Int)) = True := by simp; omega
              clear hb2 hc2
              have hk : 4294967296 ≤ r2 := by have := n2.hr; have := g2.ha; have := hr2.out; omega
              have hd : Hid _ := g2.last hc (by have := n2.hr; omega)
              have hki : (4294967296 ≤ (r2 : Int)) = True := by simp; omega
              clear hc hk
              rw [rounds_succ]
              go_wp2
              go_meet
              case rel => exact ⟨by rw [← hZh.out, ← hd.out, ← n2.hq], ⟨_, rfl⟩, rfl⟩
            · have hd : Hid _ := g2.done (by have := n2.hm; have := n2.ht; omega)
              have hbi : (4294967296 ≤ (q1 : Int)) = False := by simp; omega
              have hci : ((t2 : Int) < (m2 : Int)) = False := by simp; omega
              clear hb2 hc2
              rw [rounds_succ]
              go_wp2
              go_meet
              case rel => exact ⟨by rw [← hZh.out, ← hd.out], ⟨_, rfl⟩, rfl⟩
          · have hc : 4294967296 ≤ q1 ∨ 4294967296 * r1 + v < q1 * b := by have := n2.hm; have := n2.ht; omega
            have eq2 := n2.eq (n2.pos (by omega))
            have hbi2 : (4294967296 ≤ (q1 : Int)) = True := by simp; omega
            clear hb2
            have hk : 4294967296 ≤ r2 := by have := n2.hr; have := g2.ha; have := hr2.out; omega
            have hd : Hid _ := g2.last hc (by have := n2.hr; omega)
            have hki : (4294967296 ≤ (r2 : Int)) = True := by simp; omega
            clear hc hk
            rw [rounds_succ]
            go_wp2
            go_meet
            case rel => exact ⟨by rw [← hZh.out, ← hd.out, ← n2.hq], ⟨_, rfl⟩, rfl⟩
        · have hd : Hid _ := g.last hc (by have := n1.hr; omega)
          have hki : (4294967296 ≤ (r1 : Int)) = True := by simp; omega
          clear hc hk
          rw [rounds_succ]
          go_wp2
          go_meet
          case rel => exact ⟨by rw [← hZh.out, ← hd.out, ← n1.hq], ⟨_, rfl⟩, rfl⟩
    case rest =>
      obtain ⟨rfl, ⟨r3, rfl⟩, rfl⟩ := hcut
      clear eq0 er0 hRa g
      have hF : ((Q * 4294967296 + Z : Nat) : Int) = (Q : Int) * 4294967296 + (Z : Int) := by simp
      have hE : IntKind.u64.wrap (IntKind.u64.wrap ((Q : Int) * 4294967296) + (Z : Int)) = (Q : Int) * 4294967296 + (Z : Int) := by
        have := hQ1.out; have := hQ2.out
        simp only [IntKind.wrap_u64]; omega
      go_wp2
      go_ret2
      exact ⟨⟨_, by rw [hF]; rfl⟩, rfl⟩
end Go.Proofs.YtjphmbgennadcaaGreatDoor.Ar
