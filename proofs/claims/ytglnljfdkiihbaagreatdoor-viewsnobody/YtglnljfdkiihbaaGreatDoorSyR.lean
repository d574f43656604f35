/- A symbolic run of a program: regions whose order is open: memory beside what an operation sees. -/
import Derived.Test.YtglnljfdkiihbaaGreatDoorSyP
namespace Go.Sy

def ov (x g : Nat → Option Ent) : Nat → Option Ent := fun i => match x i with
  | some e => some e
  | none => g i

theorem ov_g {x g : Nat → Option Ent} {i : Nat} (h : x i = none) : ov x g i = g i := by unfold ov; rw [h]
theorem ov_x {x g : Nat → Option Ent} {i : Nat} {e : Ent} (h : x i = some e) : ov x g i = some e := by unfold ov; rw [h]

theorem Post.frame {E E' : Env} {x g g' : Nat → Option Ent} {a b : Nat} {w w' : World} (hs : Sat E (ov x g) w) (hd : ∀ i e, g i = some e → x i = none) (hp : Post E g g' a b w w' E') : Post E (ov x g) (ov x g') a b w w' E' := by
  have hE : ∀ {i e p}, x i = some e → E'.pl i = some p → E.pl i = some p ∧ EntOK E e p w := by
    intro i e p hx hq
    obtain ⟨p0, h0, ok⟩ := hs.ent i e (ov_x hx)
    have := hp.le.pl i p0 h0
    rw [hq] at this; cases this
    exact ⟨h0, ok⟩
  have hg : ∀ {j f}, g j = some f → ov x g j = some f := fun hj => by rw [ov_g (hd _ _ hj)]; exact hj
  have hxg : ∀ {i e j f}, x i = some e → g j = some f → i ≠ j := fun hx hj e' => by rw [e', hd _ _ hj] at hx; cases hx
  refine ⟨hp.le, hp.oq, ⟨fun i e hi => ?_, fun i j e f p q hi hj hij ho hk hp' hq' => ?_⟩, ⟨hp.frm.os, hp.frm.tape, hp.frm.output, hp.frm.size, fun k hk hne => hp.frm.block k hk fun i e p h1 h2 h3 => hne i e p (hg h1) h2 h3⟩, hp.mono, hp.dom, fun i e p hi hk hq => ?_⟩
  · cases hx : x i with
    | some e0 =>
      rw [ov_x hx] at hi; cases hi
      obtain ⟨p, h0, ok⟩ := hs.ent i e (ov_x hx)
      refine ⟨p, hp.le.pl i p h0, ?_⟩
      by_cases h3 : e.kd = 3
      · exact ok.gone h3
      · refine (ok.up hp.le).ext (hp.frm.block p.1 (ok.lt h3) fun j f q h1 h2 h4 h5 => ?_)
        exact hs.sep j i f e q p (hg h1) (ov_x hx) (fun e' => hxg hx h1 e'.symm) h2 h3 h4 h0 h5
    | none =>
      rw [ov_g hx] at hi
      exact hp.sat.ent i e hi
  · cases hx : x i with
    | some e0 =>
      rw [ov_x hx] at hi; cases hi
      obtain ⟨a1, a2⟩ := hE hx hp'
      cases hy : x j with
      | some f0 =>
        rw [ov_x hy] at hj; cases hj
        exact hs.sep i j e f p q (ov_x hx) (ov_x hy) hij ho hk a1 (hE hy hq').1
      | none =>
        rw [ov_g hy] at hj
        rcases hp.src j f q hj hk hq' with h | ⟨j0, f0, q0, b1, b2, b3, b4, b5⟩
        · have := a2.lt (own_ne ho)
          omega
        · have := hs.sep i j0 e f0 p q0 (ov_x hx) (hg b1) (hxg hx b1) ho b2 a1 b4
          omega
    | none =>
      rw [ov_g hx] at hi
      cases hy : x j with
      | some f0 =>
        rw [ov_x hy] at hj; cases hj
        obtain ⟨a1, a2⟩ := hE hy hq'
        rcases hp.src i e p hi (own_ne ho) hp' with h | ⟨j0, f0, q0, b1, b2, b3, b4, b5⟩
        · have := a2.lt hk
          omega
        · have := hs.sep j0 j f0 f q0 q (hg b1) (ov_x hy) (fun e' => hxg hy b1 e'.symm) (b3 ho) hk b4 a1
          omega
      | none =>
        rw [ov_g hy] at hj
        exact hp.sat.sep i j e f p q hi hj hij ho hk hp' hq'
  · cases hx : x i with
    | some e0 =>
      rw [ov_x hx] at hi; cases hi
      exact .inr ⟨i, e, p, ov_x hx, hk, id, (hE hx hq).1, rfl⟩
    | none =>
      rw [ov_g hx] at hi
      rcases hp.src i e p hi hk hq with h | ⟨j0, f0, q0, b1, b2, b3, b4, b5⟩
      · exact .inl h
      · exact .inr ⟨j0, f0, q0, hg b1, b2, b3, b4, b5⟩

theorem Post.then {E E1 E2 : Env} {h h1 h2 : Nat → Option Ent} {n n' a b : Nat} {w w1 w2 : World} (p : Post E h h1 n n' w w1 E1) (q : Post E1 h1 h2 a b w1 w2 E2) (ha : n ≤ a) (hb : b ≤ n') : Post E h h2 n n' w w2 E2 := by
  have p2 : Post E h h1 n n' w w1 E1 := p
  refine ⟨p.le.trans q.le, q.oq.trans p.oq, q.sat, ⟨q.frm.os.trans p.frm.os, q.frm.tape.trans p.frm.tape, q.frm.output.trans p.frm.output, Nat.le_trans p.frm.size q.frm.size, fun k hk hne => ?_⟩, p.mono, fun i hi => ?_, fun i e r x1 x2 x3 => ?_⟩
  · rw [q.frm.block k (Nat.lt_of_lt_of_le hk p.frm.size) ?_, p.frm.block k hk hne]
    intro i e r x y z e'
    rcases p.src i e r x (own_ne y) z with u | ⟨j, f, u, u1, u2, u3, u4, u5⟩
    · omega
    · exact hne j f u u1 (u3 y) u4 (u5.trans e')
  · rcases q.dom i hi with u | ⟨u1, u2⟩
    · exact p.dom i u
    · exact .inr ⟨by omega, by omega⟩
  · rcases q.src i e r x1 x2 x3 with u | ⟨j, f, u, u1, u2, u3, u4, u5⟩
    · exact .inl (Nat.le_trans p.frm.size u)
    · rcases p.src j f u u1 u2 u4 with v | ⟨j', f', v, v1, v2, v3, v4, v5⟩
      · exact .inl (by omega)
      · exact .inr ⟨j', f', v, v1, v2, fun o => v3 (u3 o), v4, v5.trans u5⟩

/-- Which of those that made blocks has the name id. -/
def xs (al : List (Nat × PI)) (nx m k : Nat) (EN : Nat → Option Ent) (id : Nat) : Option (Nat × PI) :=
  al.find? fun p => Nat.testBit m p.1 && Nat.ble k p.2.kx && (EN p.1).isSome && Nat.beq (nx + p.2.rk) id
def xg (al : List (Nat × PI)) (nx m k : Nat) (EN : Nat → Option Ent) : Nat → Option Ent := fun id => match xs al nx m k EN id with
  | some p => EN p.1
  | none => none

theorem insG_get {nx m k : Nat} {EN : Nat → Option Ent} : ∀ {al : List (Nat × PI)} {s : Hp}, (∀ p ∈ al, nx + p.2.rk < 8192) → hget (insG nx m k EN al s) = ov (xg al nx m k EN) (hget s)
  | [], s, _ => by funext id; rfl
  | p :: l, s, hl => by
    have ih := insG_get (nx := nx) (m := m) (k := k) (EN := EN) (al := l) (s := s) (fun q hq => hl q (by simp [hq]))
    funext id
    simp only [insG]
    have hx : ∀ c, (Nat.testBit m p.1 && Nat.ble k p.2.kx && (EN p.1).isSome && Nat.beq (nx + p.2.rk) id) = c → xs (p :: l) nx m k EN id = if c then some p else xs l nx m k EN id := by
      intro c hc
      unfold xs
      rw [List.find?_cons]
      rw [hc]; cases c <;> rfl
    split
    · rename_i hb
      cases he : EN p.1 with
      | none =>
        simp only
        rw [ih]
        have := hx false (by rw [he]; simp)
        unfold ov xg
        rw [this]; rfl
      | some e =>
        simp only
        rw [hget_hset _ _ _ _ (hl p (by simp)), ih]
        by_cases e' : nx + p.2.rk = id
        · have := hx true (by rw [he, hb]; simp [e'])
          rw [if_pos e']
          unfold ov xg
          rw [this]; simp [he]
        · have hne : Nat.beq (nx + p.2.rk) id = false := by
            cases hq : Nat.beq (nx + p.2.rk) id
            · rfl
            · exact (e' (Nat.eq_of_beq_eq_true hq)).elim
          have := hx false (by rw [hne]; simp)
          rw [if_neg e']
          unfold ov xg
          rw [this]; rfl
    · rename_i hb
      rw [ih]
      have := hx false (by rw [hb]; simp)
      unfold ov xg
      rw [this]; rfl
end Go.Sy
