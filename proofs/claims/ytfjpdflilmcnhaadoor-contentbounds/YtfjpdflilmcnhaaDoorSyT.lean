/- A symbolic run of a program: rows of things by number, as tries of a fixed depth, set strictly. -/
import Derived.Test.YtfjpdflilmcnhaaDoorSyA
namespace Go.Sy

section tries
variable {α β : Type}
def bit (i k : Nat) : Bool := Nat.testBit i k
theorem beq_bit (i k p : Nat) (hp : p = 2 ^ k) : Nat.beq (Nat.land i p) 0 = !Nat.testBit i k := by
  subst hp
  show Nat.beq (i &&& 2 ^ k) 0 = _
  cases h : Nat.testBit i k
  · have : i &&& 2 ^ k = 0 := Nat.eq_of_testBit_eq fun m => by
      rw [Nat.testBit_and, Nat.testBit_two_pow, Nat.zero_testBit]
      by_cases e : k = m
      · subst e; simp [h]
      · simp [e]
    rw [this]; rfl
  · have : i &&& 2 ^ k ≠ 0 := fun e => by
      have := congrArg (Nat.testBit · k) e
      simp [Nat.testBit_and, h] at this
    exact Bool.eq_false_iff.2 fun e => this (Nat.eq_of_beq_eq_true e)
abbrev TY0 (α : Type) := α
abbrev TY1 (α : Type) := TY0 α × TY0 α
abbrev TY2 (α : Type) := TY1 α × TY1 α
abbrev TY3 (α : Type) := TY2 α × TY2 α
abbrev TY4 (α : Type) := TY3 α × TY3 α
abbrev TY5 (α : Type) := TY4 α × TY4 α
abbrev TY6 (α : Type) := TY5 α × TY5 α
abbrev TY7 (α : Type) := TY6 α × TY6 α
abbrev TY8 (α : Type) := TY7 α × TY7 α
abbrev TY9 (α : Type) := TY8 α × TY8 α
abbrev TY10 (α : Type) := TY9 α × TY9 α
abbrev TY11 (α : Type) := TY10 α × TY10 α
abbrev TY12 (α : Type) := TY11 α × TY11 α
abbrev TY13 (α : Type) := TY12 α × TY12 α
def em0 (d : α) : TY0 α := d
def g0 (t : TY0 α) (_ : Nat) : α := t
def s0 (_ : TY0 α) (_ : Nat) (v : α) (k : TY0 α → β) : β := k v
def em1 (d : α) : TY1 α := (em0 d, em0 d)
def g1 (t : TY1 α) (i : Nat) : α := @Bool.casesOn (fun _ => α) (Nat.beq (Nat.land i (nat_lit 1)) (nat_lit 0)) (g0 t.2 i) (g0 t.1 i)
def s1 (t : TY1 α) (i : Nat) (v : α) (K : TY1 α → β) : β := @Prod.casesOn _ _ (fun _ => β) t fun l r => @Bool.casesOn (fun _ => β) (Nat.beq (Nat.land i (nat_lit 1)) (nat_lit 0)) (s0 r i v fun r => K (l, r)) (s0 l i v fun l => K (l, r))
theorem gs1 (l r : TY0 α) (i : Nat) : g1 (l, r) i = match bit i 0 with | true => g0 r i | false => g0 l i := by
  unfold g1 bit; rw [beq_bit i 0 1 rfl]; cases Nat.testBit i 0 <;> rfl
theorem ss1 (l r : TY0 α) (i : Nat) (v : α) (K : TY1 α → β) : s1 (l, r) i v K = match bit i 0 with | true => s0 r i v (fun r => K (l, r)) | false => s0 l i v (fun l => K (l, r)) := by
  unfold s1 bit; show @Bool.casesOn (fun _ => β) (Nat.beq (Nat.land i 1) 0) _ _ = _; rw [beq_bit i 0 1 rfl]; cases Nat.testBit i 0 <;> rfl
def em2 (d : α) : TY2 α := (em1 d, em1 d)
def g2 (t : TY2 α) (i : Nat) : α := @Bool.casesOn (fun _ => α) (Nat.beq (Nat.land i (nat_lit 2)) (nat_lit 0)) (g1 t.2 i) (g1 t.1 i)
def s2 (t : TY2 α) (i : Nat) (v : α) (K : TY2 α → β) : β := @Prod.casesOn _ _ (fun _ => β) t fun l r => @Bool.casesOn (fun _ => β) (Nat.beq (Nat.land i (nat_lit 2)) (nat_lit 0)) (s1 r i v fun r => K (l, r)) (s1 l i v fun l => K (l, r))
theorem gs2 (l r : TY1 α) (i : Nat) : g2 (l, r) i = match bit i 1 with | true => g1 r i | false => g1 l i := by
  unfold g2 bit; rw [beq_bit i 1 2 rfl]; cases Nat.testBit i 1 <;> rfl
theorem ss2 (l r : TY1 α) (i : Nat) (v : α) (K : TY2 α → β) : s2 (l, r) i v K = match bit i 1 with | true => s1 r i v (fun r => K (l, r)) | false => s1 l i v (fun l => K (l, r)) := by
  unfold s2 bit; show @Bool.casesOn (fun _ => β) (Nat.beq (Nat.land i 2) 0) _ _ = _; rw [beq_bit i 1 2 rfl]; cases Nat.testBit i 1 <;> rfl
def em3 (d : α) : TY3 α := (em2 d, em2 d)
def g3 (t : TY3 α) (i : Nat) : α := @Bool.casesOn (fun _ => α) (Nat.beq (Nat.land i (nat_lit 4)) (nat_lit 0)) (g2 t.2 i) (g2 t.1 i)
def s3 (t : TY3 α) (i : Nat) (v : α) (K : TY3 α → β) : β := @Prod.casesOn _ _ (fun _ => β) t fun l r => @Bool.casesOn (fun _ => β) (Nat.beq (Nat.land i (nat_lit 4)) (nat_lit 0)) (s2 r i v fun r => K (l, r)) (s2 l i v fun l => K (l, r))
theorem gs3 (l r : TY2 α) (i : Nat) : g3 (l, r) i = match bit i 2 with | true => g2 r i | false => g2 l i := by
  unfold g3 bit; rw [beq_bit i 2 4 rfl]; cases Nat.testBit i 2 <;> rfl
theorem ss3 (l r : TY2 α) (i : Nat) (v : α) (K : TY3 α → β) : s3 (l, r) i v K = match bit i 2 with | true => s2 r i v (fun r => K (l, r)) | false => s2 l i v (fun l => K (l, r)) := by
  unfold s3 bit; show @Bool.casesOn (fun _ => β) (Nat.beq (Nat.land i 4) 0) _ _ = _; rw [beq_bit i 2 4 rfl]; cases Nat.testBit i 2 <;> rfl
def em4 (d : α) : TY4 α := (em3 d, em3 d)
def g4 (t : TY4 α) (i : Nat) : α := @Bool.casesOn (fun _ => α) (Nat.beq (Nat.land i (nat_lit 8)) (nat_lit 0)) (g3 t.2 i) (g3 t.1 i)
def s4 (t : TY4 α) (i : Nat) (v : α) (K : TY4 α → β) : β := @Prod.casesOn _ _ (fun _ => β) t fun l r => @Bool.casesOn (fun _ => β) (Nat.beq (Nat.land i (nat_lit 8)) (nat_lit 0)) (s3 r i v fun r => K (l, r)) (s3 l i v fun l => K (l, r))
theorem gs4 (l r : TY3 α) (i : Nat) : g4 (l, r) i = match bit i 3 with | true => g3 r i | false => g3 l i := by
  unfold g4 bit; rw [beq_bit i 3 8 rfl]; cases Nat.testBit i 3 <;> rfl
theorem ss4 (l r : TY3 α) (i : Nat) (v : α) (K : TY4 α → β) : s4 (l, r) i v K = match bit i 3 with | true => s3 r i v (fun r => K (l, r)) | false => s3 l i v (fun l => K (l, r)) := by
  unfold s4 bit; show @Bool.casesOn (fun _ => β) (Nat.beq (Nat.land i 8) 0) _ _ = _; rw [beq_bit i 3 8 rfl]; cases Nat.testBit i 3 <;> rfl
def em5 (d : α) : TY5 α := (em4 d, em4 d)
def g5 (t : TY5 α) (i : Nat) : α := @Bool.casesOn (fun _ => α) (Nat.beq (Nat.land i (nat_lit 16)) (nat_lit 0)) (g4 t.2 i) (g4 t.1 i)
def s5 (t : TY5 α) (i : Nat) (v : α) (K : TY5 α → β) : β := @Prod.casesOn _ _ (fun _ => β) t fun l r => @Bool.casesOn (fun _ => β) (Nat.beq (Nat.land i (nat_lit 16)) (nat_lit 0)) (s4 r i v fun r => K (l, r)) (s4 l i v fun l => K (l, r))
theorem gs5 (l r : TY4 α) (i : Nat) : g5 (l, r) i = match bit i 4 with | true => g4 r i | false => g4 l i := by
  unfold g5 bit; rw [beq_bit i 4 16 rfl]; cases Nat.testBit i 4 <;> rfl
theorem ss5 (l r : TY4 α) (i : Nat) (v : α) (K : TY5 α → β) : s5 (l, r) i v K = match bit i 4 with | true => s4 r i v (fun r => K (l, r)) | false => s4 l i v (fun l => K (l, r)) := by
  unfold s5 bit; show @Bool.casesOn (fun _ => β) (Nat.beq (Nat.land i 16) 0) _ _ = _; rw [beq_bit i 4 16 rfl]; cases Nat.testBit i 4 <;> rfl
def em6 (d : α) : TY6 α := (em5 d, em5 d)
def g6 (t : TY6 α) (i : Nat) : α := @Bool.casesOn (fun _ => α) (Nat.beq (Nat.land i (nat_lit 32)) (nat_lit 0)) (g5 t.2 i) (g5 t.1 i)
def s6 (t : TY6 α) (i : Nat) (v : α) (K : TY6 α → β) : β := @Prod.casesOn _ _ (fun _ => β) t fun l r => @Bool.casesOn (fun _ => β) (Nat.beq (Nat.land i (nat_lit 32)) (nat_lit 0)) (s5 r i v fun r => K (l, r)) (s5 l i v fun l => K (l, r))
theorem gs6 (l r : TY5 α) (i : Nat) : g6 (l, r) i = match bit i 5 with | true => g5 r i | false => g5 l i := by
  unfold g6 bit; rw [beq_bit i 5 32 rfl]; cases Nat.testBit i 5 <;> rfl
theorem ss6 (l r : TY5 α) (i : Nat) (v : α) (K : TY6 α → β) : s6 (l, r) i v K = match bit i 5 with | true => s5 r i v (fun r => K (l, r)) | false => s5 l i v (fun l => K (l, r)) := by
  unfold s6 bit; show @Bool.casesOn (fun _ => β) (Nat.beq (Nat.land i 32) 0) _ _ = _; rw [beq_bit i 5 32 rfl]; cases Nat.testBit i 5 <;> rfl
def em7 (d : α) : TY7 α := (em6 d, em6 d)
def g7 (t : TY7 α) (i : Nat) : α := @Bool.casesOn (fun _ => α) (Nat.beq (Nat.land i (nat_lit 64)) (nat_lit 0)) (g6 t.2 i) (g6 t.1 i)
def s7 (t : TY7 α) (i : Nat) (v : α) (K : TY7 α → β) : β := @Prod.casesOn _ _ (fun _ => β) t fun l r => @Bool.casesOn (fun _ => β) (Nat.beq (Nat.land i (nat_lit 64)) (nat_lit 0)) (s6 r i v fun r => K (l, r)) (s6 l i v fun l => K (l, r))
theorem gs7 (l r : TY6 α) (i : Nat) : g7 (l, r) i = match bit i 6 with | true => g6 r i | false => g6 l i := by
  unfold g7 bit; rw [beq_bit i 6 64 rfl]; cases Nat.testBit i 6 <;> rfl
theorem ss7 (l r : TY6 α) (i : Nat) (v : α) (K : TY7 α → β) : s7 (l, r) i v K = match bit i 6 with | true => s6 r i v (fun r => K (l, r)) | false => s6 l i v (fun l => K (l, r)) := by
  unfold s7 bit; show @Bool.casesOn (fun _ => β) (Nat.beq (Nat.land i 64) 0) _ _ = _; rw [beq_bit i 6 64 rfl]; cases Nat.testBit i 6 <;> rfl
def em8 (d : α) : TY8 α := (em7 d, em7 d)
def g8 (t : TY8 α) (i : Nat) : α := @Bool.casesOn (fun _ => α) (Nat.beq (Nat.land i (nat_lit 128)) (nat_lit 0)) (g7 t.2 i) (g7 t.1 i)
def s8 (t : TY8 α) (i : Nat) (v : α) (K : TY8 α → β) : β := @Prod.casesOn _ _ (fun _ => β) t fun l r => @Bool.casesOn (fun _ => β) (Nat.beq (Nat.land i (nat_lit 128)) (nat_lit 0)) (s7 r i v fun r => K (l, r)) (s7 l i v fun l => K (l, r))
theorem gs8 (l r : TY7 α) (i : Nat) : g8 (l, r) i = match bit i 7 with | true => g7 r i | false => g7 l i := by
  unfold g8 bit; rw [beq_bit i 7 128 rfl]; cases Nat.testBit i 7 <;> rfl
theorem ss8 (l r : TY7 α) (i : Nat) (v : α) (K : TY8 α → β) : s8 (l, r) i v K = match bit i 7 with | true => s7 r i v (fun r => K (l, r)) | false => s7 l i v (fun l => K (l, r)) := by
  unfold s8 bit; show @Bool.casesOn (fun _ => β) (Nat.beq (Nat.land i 128) 0) _ _ = _; rw [beq_bit i 7 128 rfl]; cases Nat.testBit i 7 <;> rfl
def em9 (d : α) : TY9 α := (em8 d, em8 d)
def g9 (t : TY9 α) (i : Nat) : α := @Bool.casesOn (fun _ => α) (Nat.beq (Nat.land i (nat_lit 256)) (nat_lit 0)) (g8 t.2 i) (g8 t.1 i)
def s9 (t : TY9 α) (i : Nat) (v : α) (K : TY9 α → β) : β := @Prod.casesOn _ _ (fun _ => β) t fun l r => @Bool.casesOn (fun _ => β) (Nat.beq (Nat.land i (nat_lit 256)) (nat_lit 0)) (s8 r i v fun r => K (l, r)) (s8 l i v fun l => K (l, r))
theorem gs9 (l r : TY8 α) (i : Nat) : g9 (l, r) i = match bit i 8 with | true => g8 r i | false => g8 l i := by
  unfold g9 bit; rw [beq_bit i 8 256 rfl]; cases Nat.testBit i 8 <;> rfl
theorem ss9 (l r : TY8 α) (i : Nat) (v : α) (K : TY9 α → β) : s9 (l, r) i v K = match bit i 8 with | true => s8 r i v (fun r => K (l, r)) | false => s8 l i v (fun l => K (l, r)) := by
  unfold s9 bit; show @Bool.casesOn (fun _ => β) (Nat.beq (Nat.land i 256) 0) _ _ = _; rw [beq_bit i 8 256 rfl]; cases Nat.testBit i 8 <;> rfl
def em10 (d : α) : TY10 α := (em9 d, em9 d)
def g10 (t : TY10 α) (i : Nat) : α := @Bool.casesOn (fun _ => α) (Nat.beq (Nat.land i (nat_lit 512)) (nat_lit 0)) (g9 t.2 i) (g9 t.1 i)
def s10 (t : TY10 α) (i : Nat) (v : α) (K : TY10 α → β) : β := @Prod.casesOn _ _ (fun _ => β) t fun l r => @Bool.casesOn (fun _ => β) (Nat.beq (Nat.land i (nat_lit 512)) (nat_lit 0)) (s9 r i v fun r => K (l, r)) (s9 l i v fun l => K (l, r))
theorem gs10 (l r : TY9 α) (i : Nat) : g10 (l, r) i = match bit i 9 with | true => g9 r i | false => g9 l i := by
  unfold g10 bit; rw [beq_bit i 9 512 rfl]; cases Nat.testBit i 9 <;> rfl
theorem ss10 (l r : TY9 α) (i : Nat) (v : α) (K : TY10 α → β) : s10 (l, r) i v K = match bit i 9 with | true => s9 r i v (fun r => K (l, r)) | false => s9 l i v (fun l => K (l, r)) := by
  unfold s10 bit; show @Bool.casesOn (fun _ => β) (Nat.beq (Nat.land i 512) 0) _ _ = _; rw [beq_bit i 9 512 rfl]; cases Nat.testBit i 9 <;> rfl
def em11 (d : α) : TY11 α := (em10 d, em10 d)
def g11 (t : TY11 α) (i : Nat) : α := @Bool.casesOn (fun _ => α) (Nat.beq (Nat.land i (nat_lit 1024)) (nat_lit 0)) (g10 t.2 i) (g10 t.1 i)
def s11 (t : TY11 α) (i : Nat) (v : α) (K : TY11 α → β) : β := @Prod.casesOn _ _ (fun _ => β) t fun l r => @Bool.casesOn (fun _ => β) (Nat.beq (Nat.land i (nat_lit 1024)) (nat_lit 0)) (s10 r i v fun r => K (l, r)) (s10 l i v fun l => K (l, r))
theorem gs11 (l r : TY10 α) (i : Nat) : g11 (l, r) i = match bit i 10 with | true => g10 r i | false => g10 l i := by
  unfold g11 bit; rw [beq_bit i 10 1024 rfl]; cases Nat.testBit i 10 <;> rfl
theorem ss11 (l r : TY10 α) (i : Nat) (v : α) (K : TY11 α → β) : s11 (l, r) i v K = match bit i 10 with | true => s10 r i v (fun r => K (l, r)) | false => s10 l i v (fun l => K (l, r)) := by
  unfold s11 bit; show @Bool.casesOn (fun _ => β) (Nat.beq (Nat.land i 1024) 0) _ _ = _; rw [beq_bit i 10 1024 rfl]; cases Nat.testBit i 10 <;> rfl
def em12 (d : α) : TY12 α := (em11 d, em11 d)
def g12 (t : TY12 α) (i : Nat) : α := @Bool.casesOn (fun _ => α) (Nat.beq (Nat.land i (nat_lit 2048)) (nat_lit 0)) (g11 t.2 i) (g11 t.1 i)
def s12 (t : TY12 α) (i : Nat) (v : α) (K : TY12 α → β) : β := @Prod.casesOn _ _ (fun _ => β) t fun l r => @Bool.casesOn (fun _ => β) (Nat.beq (Nat.land i (nat_lit 2048)) (nat_lit 0)) (s11 r i v fun r => K (l, r)) (s11 l i v fun l => K (l, r))
theorem gs12 (l r : TY11 α) (i : Nat) : g12 (l, r) i = match bit i 11 with | true => g11 r i | false => g11 l i := by
  unfold g12 bit; rw [beq_bit i 11 2048 rfl]; cases Nat.testBit i 11 <;> rfl
theorem ss12 (l r : TY11 α) (i : Nat) (v : α) (K : TY12 α → β) : s12 (l, r) i v K = match bit i 11 with | true => s11 r i v (fun r => K (l, r)) | false => s11 l i v (fun l => K (l, r)) := by
  unfold s12 bit; show @Bool.casesOn (fun _ => β) (Nat.beq (Nat.land i 2048) 0) _ _ = _; rw [beq_bit i 11 2048 rfl]; cases Nat.testBit i 11 <;> rfl
def em13 (d : α) : TY13 α := (em12 d, em12 d)
def g13 (t : TY13 α) (i : Nat) : α := @Bool.casesOn (fun _ => α) (Nat.beq (Nat.land i (nat_lit 4096)) (nat_lit 0)) (g12 t.2 i) (g12 t.1 i)
def s13 (t : TY13 α) (i : Nat) (v : α) (K : TY13 α → β) : β := @Prod.casesOn _ _ (fun _ => β) t fun l r => @Bool.casesOn (fun _ => β) (Nat.beq (Nat.land i (nat_lit 4096)) (nat_lit 0)) (s12 r i v fun r => K (l, r)) (s12 l i v fun l => K (l, r))
theorem gs13 (l r : TY12 α) (i : Nat) : g13 (l, r) i = match bit i 12 with | true => g12 r i | false => g12 l i := by
  unfold g13 bit; rw [beq_bit i 12 4096 rfl]; cases Nat.testBit i 12 <;> rfl
theorem ss13 (l r : TY12 α) (i : Nat) (v : α) (K : TY13 α → β) : s13 (l, r) i v K = match bit i 12 with | true => s12 r i v (fun r => K (l, r)) | false => s12 l i v (fun l => K (l, r)) := by
  unfold s13 bit; show @Bool.casesOn (fun _ => β) (Nat.beq (Nat.land i 4096) 0) _ _ = _; rw [beq_bit i 12 4096 rfl]; cases Nat.testBit i 12 <;> rfl

/-- i and j are the same in their first k digits. -/
def same (k i j : Nat) : Prop := ∀ m, m < k → bit i m = bit j m
theorem bit_eq (i k : Nat) : bit i k = Nat.testBit i k := rfl
theorem same_eq {k i j : Nat} (hi : i < 2 ^ k) (hj : j < 2 ^ k) (h : same k i j) : i = j := by
  apply Nat.eq_of_testBit_eq
  intro m
  by_cases hm : m < k
  · rw [← bit_eq, ← bit_eq]; exact h m hm
  · rw [Nat.testBit_lt_two_pow (Nat.lt_of_lt_of_le hi (Nat.pow_le_pow_right (by omega) (by omega))), Nat.testBit_lt_two_pow (Nat.lt_of_lt_of_le hj (Nat.pow_le_pow_right (by omega) (by omega)))]
theorem same_succ {k i j : Nat} (h : same k i j) (hb : bit i k = bit j k) : same (k + 1) i j := fun m hm => by
  by_cases e : m = k
  · rw [e]; exact hb
  · exact h m (by omega)
/-- What a way of setting and getting keeps: behind it the place has v, all others what they had. -/
structure Ok {τ : Type} (k : Nat) (g : τ → Nat → α) (s : τ → Nat → α → (τ → τ) → τ) : Prop where
  hit : ∀ t i j v, same k i j → g (s t i v id) j = v
  miss : ∀ t i j v, ¬ same k i j → g (s t i v id) j = g t j
theorem s0_k (t : TY0 α) (i : Nat) (v : α) (K : TY0 α → β) : s0 t i v K = K (s0 t i v id) := rfl
theorem ge0 (d : α) (i : Nat) : g0 (em0 d) i = d := rfl
theorem ok0 : Ok (α := α) 0 g0 (s0 (β := TY0 α)) := ⟨fun _ _ _ _ _ => rfl, fun _ _ _ _ h => (h fun m hm => absurd hm (by omega)).elim⟩
theorem s1_k (t : TY1 α) (i : Nat) (v : α) (K : TY1 α → β) : s1 t i v K = K (s1 t i v id) := by
  obtain ⟨l, r⟩ := t
  rw [ss1, ss1]
  cases bit i 0
  · show s0 l i v _ = K (s0 l i v _); exact (s0_k l i v _).trans (congrArg K (s0_k l i v fun l => id (l, r)).symm)
  · show s0 r i v _ = K (s0 r i v _); exact (s0_k r i v _).trans (congrArg K (s0_k r i v fun r => id (l, r)).symm)
theorem ge1 (d : α) (i : Nat) : g1 (em1 d) i = d := by
  rw [show em1 d = (em0 d, em0 d) from rfl, gs1]; cases bit i 0 <;> exact ge0 d i
theorem g1_s (l r : TY0 α) (i j : Nat) (v : α) : g1 (s1 (α := α) (β := TY1 α) (l, r) i v id) j = match bit i 0, bit j 0 with
    | true, true => g0 (s0 r i v id) j
    | true, false => g0 l j
    | false, true => g0 r j
    | false, false => g0 (s0 l i v id) j := by
  rw [ss1]
  cases hi : bit i 0
  · show g1 (s0 l i v fun l => id (l, r)) j = _
    rw [s0_k]; show g1 (s0 l i v id, r) j = _; rw [gs1]; cases bit j 0 <;> rfl
  · show g1 (s0 r i v fun r => id (l, r)) j = _
    rw [s0_k]; show g1 (l, s0 r i v id) j = _; rw [gs1]; cases bit j 0 <;> rfl
theorem ok1 : Ok (α := α) 1 g1 (s1 (β := TY1 α)) := by
  constructor
  · rintro ⟨l, r⟩ i j v h
    rw [g1_s, h 0 (by omega)]
    have h' : same 0 i j := fun m hm => h m (by omega)
    cases bit j 0
    · exact ok0.hit _ _ _ _ h'
    · exact ok0.hit _ _ _ _ h'
  · rintro ⟨l, r⟩ i j v h
    rw [g1_s]
    cases hi : bit i 0 <;> cases hj : bit j 0
    · show g0 _ j = g1 (l, r) j
      rw [ok0.miss _ _ _ _ fun e => h (same_succ e (hi.trans hj.symm))]; rw [gs1, hj]
    · rw [gs1, hj]
    · rw [gs1, hj]
    · show g0 _ j = g1 (l, r) j
      rw [ok0.miss _ _ _ _ fun e => h (same_succ e (hi.trans hj.symm))]; rw [gs1, hj]
theorem s2_k (t : TY2 α) (i : Nat) (v : α) (K : TY2 α → β) : s2 t i v K = K (s2 t i v id) := by
  obtain ⟨l, r⟩ := t
  rw [ss2, ss2]
  cases bit i 1
  · show s1 l i v _ = K (s1 l i v _); exact (s1_k l i v _).trans (congrArg K (s1_k l i v fun l => id (l, r)).symm)
  · show s1 r i v _ = K (s1 r i v _); exact (s1_k r i v _).trans (congrArg K (s1_k r i v fun r => id (l, r)).symm)
theorem ge2 (d : α) (i : Nat) : g2 (em2 d) i = d := by
  rw [show em2 d = (em1 d, em1 d) from rfl, gs2]; cases bit i 1 <;> exact ge1 d i
theorem g2_s (l r : TY1 α) (i j : Nat) (v : α) : g2 (s2 (α := α) (β := TY2 α) (l, r) i v id) j = match bit i 1, bit j 1 with
    | true, true => g1 (s1 r i v id) j
    | true, false => g1 l j
    | false, true => g1 r j
    | false, false => g1 (s1 l i v id) j := by
  rw [ss2]
  cases hi : bit i 1
  · show g2 (s1 l i v fun l => id (l, r)) j = _
    rw [s1_k]; show g2 (s1 l i v id, r) j = _; rw [gs2]; cases bit j 1 <;> rfl
  · show g2 (s1 r i v fun r => id (l, r)) j = _
    rw [s1_k]; show g2 (l, s1 r i v id) j = _; rw [gs2]; cases bit j 1 <;> rfl
theorem ok2 : Ok (α := α) 2 g2 (s2 (β := TY2 α)) := by
  constructor
  · rintro ⟨l, r⟩ i j v h
    rw [g2_s, h 1 (by omega)]
    have h' : same 1 i j := fun m hm => h m (by omega)
    cases bit j 1
    · exact ok1.hit _ _ _ _ h'
    · exact ok1.hit _ _ _ _ h'
  · rintro ⟨l, r⟩ i j v h
    rw [g2_s]
    cases hi : bit i 1 <;> cases hj : bit j 1
    · show g1 _ j = g2 (l, r) j
      rw [ok1.miss _ _ _ _ fun e => h (same_succ e (hi.trans hj.symm))]; rw [gs2, hj]
    · rw [gs2, hj]
    · rw [gs2, hj]
    · show g1 _ j = g2 (l, r) j
      rw [ok1.miss _ _ _ _ fun e => h (same_succ e (hi.trans hj.symm))]; rw [gs2, hj]
theorem s3_k (t : TY3 α) (i : Nat) (v : α) (K : TY3 α → β) : s3 t i v K = K (s3 t i v id) := by
  obtain ⟨l, r⟩ := t
  rw [ss3, ss3]
  cases bit i 2
  · show s2 l i v _ = K (s2 l i v _); exact (s2_k l i v _).trans (congrArg K (s2_k l i v fun l => id (l, r)).symm)
  · show s2 r i v _ = K (s2 r i v _); exact (s2_k r i v _).trans (congrArg K (s2_k r i v fun r => id (l, r)).symm)
theorem ge3 (d : α) (i : Nat) : g3 (em3 d) i = d := by
  rw [show em3 d = (em2 d, em2 d) from rfl, gs3]; cases bit i 2 <;> exact ge2 d i
theorem g3_s (l r : TY2 α) (i j : Nat) (v : α) : g3 (s3 (α := α) (β := TY3 α) (l, r) i v id) j = match bit i 2, bit j 2 with
    | true, true => g2 (s2 r i v id) j
    | true, false => g2 l j
    | false, true => g2 r j
    | false, false => g2 (s2 l i v id) j := by
  rw [ss3]
  cases hi : bit i 2
  · show g3 (s2 l i v fun l => id (l, r)) j = _
    rw [s2_k]; show g3 (s2 l i v id, r) j = _; rw [gs3]; cases bit j 2 <;> rfl
  · show g3 (s2 r i v fun r => id (l, r)) j = _
    rw [s2_k]; show g3 (l, s2 r i v id) j = _; rw [gs3]; cases bit j 2 <;> rfl
theorem ok3 : Ok (α := α) 3 g3 (s3 (β := TY3 α)) := by
  constructor
  · rintro ⟨l, r⟩ i j v h
    rw [g3_s, h 2 (by omega)]
    have h' : same 2 i j := fun m hm => h m (by omega)
    cases bit j 2
    · exact ok2.hit _ _ _ _ h'
    · exact ok2.hit _ _ _ _ h'
  · rintro ⟨l, r⟩ i j v h
    rw [g3_s]
    cases hi : bit i 2 <;> cases hj : bit j 2
    · show g2 _ j = g3 (l, r) j
      rw [ok2.miss _ _ _ _ fun e => h (same_succ e (hi.trans hj.symm))]; rw [gs3, hj]
    · rw [gs3, hj]
    · rw [gs3, hj]
    · show g2 _ j = g3 (l, r) j
      rw [ok2.miss _ _ _ _ fun e => h (same_succ e (hi.trans hj.symm))]; rw [gs3, hj]
theorem s4_k (t : TY4 α) (i : Nat) (v : α) (K : TY4 α → β) : s4 t i v K = K (s4 t i v id) := by
  obtain ⟨l, r⟩ := t
  rw [ss4, ss4]
  cases bit i 3
  · show s3 l i v _ = K (s3 l i v _); exact (s3_k l i v _).trans (congrArg K (s3_k l i v fun l => id (l, r)).symm)
  · show s3 r i v _ = K (s3 r i v _); exact (s3_k r i v _).trans (congrArg K (s3_k r i v fun r => id (l, r)).symm)
theorem ge4 (d : α) (i : Nat) : g4 (em4 d) i = d := by
  rw [show em4 d = (em3 d, em3 d) from rfl, gs4]; cases bit i 3 <;> exact ge3 d i
theorem g4_s (l r : TY3 α) (i j : Nat) (v : α) : g4 (s4 (α := α) (β := TY4 α) (l, r) i v id) j = match bit i 3, bit j 3 with
    | true, true => g3 (s3 r i v id) j
    | true, false => g3 l j
    | false, true => g3 r j
    | false, false => g3 (s3 l i v id) j := by
  rw [ss4]
  cases hi : bit i 3
  · show g4 (s3 l i v fun l => id (l, r)) j = _
    rw [s3_k]; show g4 (s3 l i v id, r) j = _; rw [gs4]; cases bit j 3 <;> rfl
  · show g4 (s3 r i v fun r => id (l, r)) j = _
    rw [s3_k]; show g4 (l, s3 r i v id) j = _; rw [gs4]; cases bit j 3 <;> rfl
theorem ok4 : Ok (α := α) 4 g4 (s4 (β := TY4 α)) := by
  constructor
  · rintro ⟨l, r⟩ i j v h
    rw [g4_s, h 3 (by omega)]
    have h' : same 3 i j := fun m hm => h m (by omega)
    cases bit j 3
    · exact ok3.hit _ _ _ _ h'
    · exact ok3.hit _ _ _ _ h'
  · rintro ⟨l, r⟩ i j v h
    rw [g4_s]
    cases hi : bit i 3 <;> cases hj : bit j 3
    · show g3 _ j = g4 (l, r) j
      rw [ok3.miss _ _ _ _ fun e => h (same_succ e (hi.trans hj.symm))]; rw [gs4, hj]
    · rw [gs4, hj]
    · rw [gs4, hj]
    · show g3 _ j = g4 (l, r) j
      rw [ok3.miss _ _ _ _ fun e => h (same_succ e (hi.trans hj.symm))]; rw [gs4, hj]
theorem s5_k (t : TY5 α) (i : Nat) (v : α) (K : TY5 α → β) : s5 t i v K = K (s5 t i v id) := by
  obtain ⟨l, r⟩ := t
  rw [ss5, ss5]
  cases bit i 4
  · show s4 l i v _ = K (s4 l i v _); exact (s4_k l i v _).trans (congrArg K (s4_k l i v fun l => id (l, r)).symm)
  · show s4 r i v _ = K (s4 r i v _); exact (s4_k r i v _).trans (congrArg K (s4_k r i v fun r => id (l, r)).symm)
theorem ge5 (d : α) (i : Nat) : g5 (em5 d) i = d := by
  rw [show em5 d = (em4 d, em4 d) from rfl, gs5]; cases bit i 4 <;> exact ge4 d i
theorem g5_s (l r : TY4 α) (i j : Nat) (v : α) : g5 (s5 (α := α) (β := TY5 α) (l, r) i v id) j = match bit i 4, bit j 4 with
    | true, true => g4 (s4 r i v id) j
    | true, false => g4 l j
    | false, true => g4 r j
    | false, false => g4 (s4 l i v id) j := by
  rw [ss5]
  cases hi : bit i 4
  · show g5 (s4 l i v fun l => id (l, r)) j = _
    rw [s4_k]; show g5 (s4 l i v id, r) j = _; rw [gs5]; cases bit j 4 <;> rfl
  · show g5 (s4 r i v fun r => id (l, r)) j = _
    rw [s4_k]; show g5 (l, s4 r i v id) j = _; rw [gs5]; cases bit j 4 <;> rfl
theorem ok5 : Ok (α := α) 5 g5 (s5 (β := TY5 α)) := by
  constructor
  · rintro ⟨l, r⟩ i j v h
    rw [g5_s, h 4 (by omega)]
    have h' : same 4 i j := fun m hm => h m (by omega)
    cases bit j 4
    · exact ok4.hit _ _ _ _ h'
    · exact ok4.hit _ _ _ _ h'
  · rintro ⟨l, r⟩ i j v h
    rw [g5_s]
    cases hi : bit i 4 <;> cases hj : bit j 4
    · show g4 _ j = g5 (l, r) j
      rw [ok4.miss _ _ _ _ fun e => h (same_succ e (hi.trans hj.symm))]; rw [gs5, hj]
    · rw [gs5, hj]
    · rw [gs5, hj]
    · show g4 _ j = g5 (l, r) j
      rw [ok4.miss _ _ _ _ fun e => h (same_succ e (hi.trans hj.symm))]; rw [gs5, hj]
theorem s6_k (t : TY6 α) (i : Nat) (v : α) (K : TY6 α → β) : s6 t i v K = K (s6 t i v id) := by
  obtain ⟨l, r⟩ := t
  rw [ss6, ss6]
  cases bit i 5
  · show s5 l i v _ = K (s5 l i v _); exact (s5_k l i v _).trans (congrArg K (s5_k l i v fun l => id (l, r)).symm)
  · show s5 r i v _ = K (s5 r i v _); exact (s5_k r i v _).trans (congrArg K (s5_k r i v fun r => id (l, r)).symm)
theorem ge6 (d : α) (i : Nat) : g6 (em6 d) i = d := by
  rw [show em6 d = (em5 d, em5 d) from rfl, gs6]; cases bit i 5 <;> exact ge5 d i
theorem g6_s (l r : TY5 α) (i j : Nat) (v : α) : g6 (s6 (α := α) (β := TY6 α) (l, r) i v id) j = match bit i 5, bit j 5 with
    | true, true => g5 (s5 r i v id) j
    | true, false => g5 l j
    | false, true => g5 r j
    | false, false => g5 (s5 l i v id) j := by
  rw [ss6]
  cases hi : bit i 5
  · show g6 (s5 l i v fun l => id (l, r)) j = _
    rw [s5_k]; show g6 (s5 l i v id, r) j = _; rw [gs6]; cases bit j 5 <;> rfl
  · show g6 (s5 r i v fun r => id (l, r)) j = _
    rw [s5_k]; show g6 (l, s5 r i v id) j = _; rw [gs6]; cases bit j 5 <;> rfl
theorem ok6 : Ok (α := α) 6 g6 (s6 (β := TY6 α)) := by
  constructor
  · rintro ⟨l, r⟩ i j v h
    rw [g6_s, h 5 (by omega)]
    have h' : same 5 i j := fun m hm => h m (by omega)
    cases bit j 5
    · exact ok5.hit _ _ _ _ h'
    · exact ok5.hit _ _ _ _ h'
  · rintro ⟨l, r⟩ i j v h
    rw [g6_s]
    cases hi : bit i 5 <;> cases hj : bit j 5
    · show g5 _ j = g6 (l, r) j
      rw [ok5.miss _ _ _ _ fun e => h (same_succ e (hi.trans hj.symm))]; rw [gs6, hj]
    · rw [gs6, hj]
    · rw [gs6, hj]
    · show g5 _ j = g6 (l, r) j
      rw [ok5.miss _ _ _ _ fun e => h (same_succ e (hi.trans hj.symm))]; rw [gs6, hj]
theorem s7_k (t : TY7 α) (i : Nat) (v : α) (K : TY7 α → β) : s7 t i v K = K (s7 t i v id) := by
  obtain ⟨l, r⟩ := t
  rw [ss7, ss7]
  cases bit i 6
  · show s6 l i v _ = K (s6 l i v _); exact (s6_k l i v _).trans (congrArg K (s6_k l i v fun l => id (l, r)).symm)
  · show s6 r i v _ = K (s6 r i v _); exact (s6_k r i v _).trans (congrArg K (s6_k r i v fun r => id (l, r)).symm)
theorem ge7 (d : α) (i : Nat) : g7 (em7 d) i = d := by
  rw [show em7 d = (em6 d, em6 d) from rfl, gs7]; cases bit i 6 <;> exact ge6 d i
theorem g7_s (l r : TY6 α) (i j : Nat) (v : α) : g7 (s7 (α := α) (β := TY7 α) (l, r) i v id) j = match bit i 6, bit j 6 with
    | true, true => g6 (s6 r i v id) j
    | true, false => g6 l j
    | false, true => g6 r j
    | false, false => g6 (s6 l i v id) j := by
  rw [ss7]
  cases hi : bit i 6
  · show g7 (s6 l i v fun l => id (l, r)) j = _
    rw [s6_k]; show g7 (s6 l i v id, r) j = _; rw [gs7]; cases bit j 6 <;> rfl
  · show g7 (s6 r i v fun r => id (l, r)) j = _
    rw [s6_k]; show g7 (l, s6 r i v id) j = _; rw [gs7]; cases bit j 6 <;> rfl
theorem ok7 : Ok (α := α) 7 g7 (s7 (β := TY7 α)) := by
  constructor
  · rintro ⟨l, r⟩ i j v h
    rw [g7_s, h 6 (by omega)]
    have h' : same 6 i j := fun m hm => h m (by omega)
    cases bit j 6
    · exact ok6.hit _ _ _ _ h'
    · exact ok6.hit _ _ _ _ h'
  · rintro ⟨l, r⟩ i j v h
    rw [g7_s]
    cases hi : bit i 6 <;> cases hj : bit j 6
    · show g6 _ j = g7 (l, r) j
      rw [ok6.miss _ _ _ _ fun e => h (same_succ e (hi.trans hj.symm))]; rw [gs7, hj]
    · rw [gs7, hj]
    · rw [gs7, hj]
    · show g6 _ j = g7 (l, r) j
      rw [ok6.miss _ _ _ _ fun e => h (same_succ e (hi.trans hj.symm))]; rw [gs7, hj]
theorem s8_k (t : TY8 α) (i : Nat) (v : α) (K : TY8 α → β) : s8 t i v K = K (s8 t i v id) := by
  obtain ⟨l, r⟩ := t
  rw [ss8, ss8]
  cases bit i 7
  · show s7 l i v _ = K (s7 l i v _); exact (s7_k l i v _).trans (congrArg K (s7_k l i v fun l => id (l, r)).symm)
  · show s7 r i v _ = K (s7 r i v _); exact (s7_k r i v _).trans (congrArg K (s7_k r i v fun r => id (l, r)).symm)
theorem ge8 (d : α) (i : Nat) : g8 (em8 d) i = d := by
  rw [show em8 d = (em7 d, em7 d) from rfl, gs8]; cases bit i 7 <;> exact ge7 d i
theorem g8_s (l r : TY7 α) (i j : Nat) (v : α) : g8 (s8 (α := α) (β := TY8 α) (l, r) i v id) j = match bit i 7, bit j 7 with
    | true, true => g7 (s7 r i v id) j
    | true, false => g7 l j
    | false, true => g7 r j
    | false, false => g7 (s7 l i v id) j := by
  rw [ss8]
  cases hi : bit i 7
  · show g8 (s7 l i v fun l => id (l, r)) j = _
    rw [s7_k]; show g8 (s7 l i v id, r) j = _; rw [gs8]; cases bit j 7 <;> rfl
  · show g8 (s7 r i v fun r => id (l, r)) j = _
    rw [s7_k]; show g8 (l, s7 r i v id) j = _; rw [gs8]; cases bit j 7 <;> rfl
theorem ok8 : Ok (α := α) 8 g8 (s8 (β := TY8 α)) := by
  constructor
  · rintro ⟨l, r⟩ i j v h
    rw [g8_s, h 7 (by omega)]
    have h' : same 7 i j := fun m hm => h m (by omega)
    cases bit j 7
    · exact ok7.hit _ _ _ _ h'
    · exact ok7.hit _ _ _ _ h'
  · rintro ⟨l, r⟩ i j v h
    rw [g8_s]
    cases hi : bit i 7 <;> cases hj : bit j 7
    · show g7 _ j = g8 (l, r) j
      rw [ok7.miss _ _ _ _ fun e => h (same_succ e (hi.trans hj.symm))]; rw [gs8, hj]
    · rw [gs8, hj]
    · rw [gs8, hj]
    · show g7 _ j = g8 (l, r) j
      rw [ok7.miss _ _ _ _ fun e => h (same_succ e (hi.trans hj.symm))]; rw [gs8, hj]
theorem s9_k (t : TY9 α) (i : Nat) (v : α) (K : TY9 α → β) : s9 t i v K = K (s9 t i v id) := by
  obtain ⟨l, r⟩ := t
  rw [ss9, ss9]
  cases bit i 8
  · show s8 l i v _ = K (s8 l i v _); exact (s8_k l i v _).trans (congrArg K (s8_k l i v fun l => id (l, r)).symm)
  · show s8 r i v _ = K (s8 r i v _); exact (s8_k r i v _).trans (congrArg K (s8_k r i v fun r => id (l, r)).symm)
theorem ge9 (d : α) (i : Nat) : g9 (em9 d) i = d := by
  rw [show em9 d = (em8 d, em8 d) from rfl, gs9]; cases bit i 8 <;> exact ge8 d i
theorem g9_s (l r : TY8 α) (i j : Nat) (v : α) : g9 (s9 (α := α) (β := TY9 α) (l, r) i v id) j = match bit i 8, bit j 8 with
    | true, true => g8 (s8 r i v id) j
    | true, false => g8 l j
    | false, true => g8 r j
    | false, false => g8 (s8 l i v id) j := by
  rw [ss9]
  cases hi : bit i 8
  · show g9 (s8 l i v fun l => id (l, r)) j = _
    rw [s8_k]; show g9 (s8 l i v id, r) j = _; rw [gs9]; cases bit j 8 <;> rfl
  · show g9 (s8 r i v fun r => id (l, r)) j = _
    rw [s8_k]; show g9 (l, s8 r i v id) j = _; rw [gs9]; cases bit j 8 <;> rfl
theorem ok9 : Ok (α := α) 9 g9 (s9 (β := TY9 α)) := by
  constructor
  · rintro ⟨l, r⟩ i j v h
    rw [g9_s, h 8 (by omega)]
    have h' : same 8 i j := fun m hm => h m (by omega)
    cases bit j 8
    · exact ok8.hit _ _ _ _ h'
    · exact ok8.hit _ _ _ _ h'
  · rintro ⟨l, r⟩ i j v h
    rw [g9_s]
    cases hi : bit i 8 <;> cases hj : bit j 8
    · show g8 _ j = g9 (l, r) j
      rw [ok8.miss _ _ _ _ fun e => h (same_succ e (hi.trans hj.symm))]; rw [gs9, hj]
    · rw [gs9, hj]
    · rw [gs9, hj]
    · show g8 _ j = g9 (l, r) j
      rw [ok8.miss _ _ _ _ fun e => h (same_succ e (hi.trans hj.symm))]; rw [gs9, hj]
theorem s10_k (t : TY10 α) (i : Nat) (v : α) (K : TY10 α → β) : s10 t i v K = K (s10 t i v id) := by
  obtain ⟨l, r⟩ := t
  rw [ss10, ss10]
  cases bit i 9
  · show s9 l i v _ = K (s9 l i v _); exact (s9_k l i v _).trans (congrArg K (s9_k l i v fun l => id (l, r)).symm)
  · show s9 r i v _ = K (s9 r i v _); exact (s9_k r i v _).trans (congrArg K (s9_k r i v fun r => id (l, r)).symm)
theorem ge10 (d : α) (i : Nat) : g10 (em10 d) i = d := by
  rw [show em10 d = (em9 d, em9 d) from rfl, gs10]; cases bit i 9 <;> exact ge9 d i
theorem g10_s (l r : TY9 α) (i j : Nat) (v : α) : g10 (s10 (α := α) (β := TY10 α) (l, r) i v id) j = match bit i 9, bit j 9 with
    | true, true => g9 (s9 r i v id) j
    | true, false => g9 l j
    | false, true => g9 r j
    | false, false => g9 (s9 l i v id) j := by
  rw [ss10]
  cases hi : bit i 9
  · show g10 (s9 l i v fun l => id (l, r)) j = _
    rw [s9_k]; show g10 (s9 l i v id, r) j = _; rw [gs10]; cases bit j 9 <;> rfl
  · show g10 (s9 r i v fun r => id (l, r)) j = _
    rw [s9_k]; show g10 (l, s9 r i v id) j = _; rw [gs10]; cases bit j 9 <;> rfl
theorem ok10 : Ok (α := α) 10 g10 (s10 (β := TY10 α)) := by
  constructor
  · rintro ⟨l, r⟩ i j v h
    rw [g10_s, h 9 (by omega)]
    have h' : same 9 i j := fun m hm => h m (by omega)
    cases bit j 9
    · exact ok9.hit _ _ _ _ h'
    · exact ok9.hit _ _ _ _ h'
  · rintro ⟨l, r⟩ i j v h
    rw [g10_s]
    cases hi : bit i 9 <;> cases hj : bit j 9
    · show g9 _ j = g10 (l, r) j
      rw [ok9.miss _ _ _ _ fun e => h (same_succ e (hi.trans hj.symm))]; rw [gs10, hj]
    · rw [gs10, hj]
    · rw [gs10, hj]
    · show g9 _ j = g10 (l, r) j
      rw [ok9.miss _ _ _ _ fun e => h (same_succ e (hi.trans hj.symm))]; rw [gs10, hj]
theorem s11_k (t : TY11 α) (i : Nat) (v : α) (K : TY11 α → β) : s11 t i v K = K (s11 t i v id) := by
  obtain ⟨l, r⟩ := t
  rw [ss11, ss11]
  cases bit i 10
  · show s10 l i v _ = K (s10 l i v _); exact (s10_k l i v _).trans (congrArg K (s10_k l i v fun l => id (l, r)).symm)
  · show s10 r i v _ = K (s10 r i v _); exact (s10_k r i v _).trans (congrArg K (s10_k r i v fun r => id (l, r)).symm)
theorem ge11 (d : α) (i : Nat) : g11 (em11 d) i = d := by
  rw [show em11 d = (em10 d, em10 d) from rfl, gs11]; cases bit i 10 <;> exact ge10 d i
theorem g11_s (l r : TY10 α) (i j : Nat) (v : α) : g11 (s11 (α := α) (β := TY11 α) (l, r) i v id) j = match bit i 10, bit j 10 with
    | true, true => g10 (s10 r i v id) j
    | true, false => g10 l j
    | false, true => g10 r j
    | false, false => g10 (s10 l i v id) j := by
  rw [ss11]
  cases hi : bit i 10
  · show g11 (s10 l i v fun l => id (l, r)) j = _
    rw [s10_k]; show g11 (s10 l i v id, r) j = _; rw [gs11]; cases bit j 10 <;> rfl
  · show g11 (s10 r i v fun r => id (l, r)) j = _
    rw [s10_k]; show g11 (l, s10 r i v id) j = _; rw [gs11]; cases bit j 10 <;> rfl
theorem ok11 : Ok (α := α) 11 g11 (s11 (β := TY11 α)) := by
  constructor
  · rintro ⟨l, r⟩ i j v h
    rw [g11_s, h 10 (by omega)]
    have h' : same 10 i j := fun m hm => h m (by omega)
    cases bit j 10
    · exact ok10.hit _ _ _ _ h'
    · exact ok10.hit _ _ _ _ h'
  · rintro ⟨l, r⟩ i j v h
    rw [g11_s]
    cases hi : bit i 10 <;> cases hj : bit j 10
    · show g10 _ j = g11 (l, r) j
      rw [ok10.miss _ _ _ _ fun e => h (same_succ e (hi.trans hj.symm))]; rw [gs11, hj]
    · rw [gs11, hj]
    · rw [gs11, hj]
    · show g10 _ j = g11 (l, r) j
      rw [ok10.miss _ _ _ _ fun e => h (same_succ e (hi.trans hj.symm))]; rw [gs11, hj]
theorem s12_k (t : TY12 α) (i : Nat) (v : α) (K : TY12 α → β) : s12 t i v K = K (s12 t i v id) := by
  obtain ⟨l, r⟩ := t
  rw [ss12, ss12]
  cases bit i 11
  · show s11 l i v _ = K (s11 l i v _); exact (s11_k l i v _).trans (congrArg K (s11_k l i v fun l => id (l, r)).symm)
  · show s11 r i v _ = K (s11 r i v _); exact (s11_k r i v _).trans (congrArg K (s11_k r i v fun r => id (l, r)).symm)
theorem ge12 (d : α) (i : Nat) : g12 (em12 d) i = d := by
  rw [show em12 d = (em11 d, em11 d) from rfl, gs12]; cases bit i 11 <;> exact ge11 d i
theorem g12_s (l r : TY11 α) (i j : Nat) (v : α) : g12 (s12 (α := α) (β := TY12 α) (l, r) i v id) j = match bit i 11, bit j 11 with
    | true, true => g11 (s11 r i v id) j
    | true, false => g11 l j
    | false, true => g11 r j
    | false, false => g11 (s11 l i v id) j := by
  rw [ss12]
  cases hi : bit i 11
  · show g12 (s11 l i v fun l => id (l, r)) j = _
    rw [s11_k]; show g12 (s11 l i v id, r) j = _; rw [gs12]; cases bit j 11 <;> rfl
  · show g12 (s11 r i v fun r => id (l, r)) j = _
    rw [s11_k]; show g12 (l, s11 r i v id) j = _; rw [gs12]; cases bit j 11 <;> rfl
theorem ok12 : Ok (α := α) 12 g12 (s12 (β := TY12 α)) := by
  constructor
  · rintro ⟨l, r⟩ i j v h
    rw [g12_s, h 11 (by omega)]
    have h' : same 11 i j := fun m hm => h m (by omega)
    cases bit j 11
    · exact ok11.hit _ _ _ _ h'
    · exact ok11.hit _ _ _ _ h'
  · rintro ⟨l, r⟩ i j v h
    rw [g12_s]
    cases hi : bit i 11 <;> cases hj : bit j 11
    · show g11 _ j = g12 (l, r) j
      rw [ok11.miss _ _ _ _ fun e => h (same_succ e (hi.trans hj.symm))]; rw [gs12, hj]
    · rw [gs12, hj]
    · rw [gs12, hj]
    · show g11 _ j = g12 (l, r) j
      rw [ok11.miss _ _ _ _ fun e => h (same_succ e (hi.trans hj.symm))]; rw [gs12, hj]
theorem s13_k (t : TY13 α) (i : Nat) (v : α) (K : TY13 α → β) : s13 t i v K = K (s13 t i v id) := by
  obtain ⟨l, r⟩ := t
  rw [ss13, ss13]
  cases bit i 12
  · show s12 l i v _ = K (s12 l i v _); exact (s12_k l i v _).trans (congrArg K (s12_k l i v fun l => id (l, r)).symm)
  · show s12 r i v _ = K (s12 r i v _); exact (s12_k r i v _).trans (congrArg K (s12_k r i v fun r => id (l, r)).symm)
theorem ge13 (d : α) (i : Nat) : g13 (em13 d) i = d := by
  rw [show em13 d = (em12 d, em12 d) from rfl, gs13]; cases bit i 12 <;> exact ge12 d i
theorem g13_s (l r : TY12 α) (i j : Nat) (v : α) : g13 (s13 (α := α) (β := TY13 α) (l, r) i v id) j = match bit i 12, bit j 12 with
    | true, true => g12 (s12 r i v id) j
    | true, false => g12 l j
    | false, true => g12 r j
    | false, false => g12 (s12 l i v id) j := by
  rw [ss13]
  cases hi : bit i 12
  · show g13 (s12 l i v fun l => id (l, r)) j = _
    rw [s12_k]; show g13 (s12 l i v id, r) j = _; rw [gs13]; cases bit j 12 <;> rfl
  · show g13 (s12 r i v fun r => id (l, r)) j = _
    rw [s12_k]; show g13 (l, s12 r i v id) j = _; rw [gs13]; cases bit j 12 <;> rfl
theorem ok13 : Ok (α := α) 13 g13 (s13 (β := TY13 α)) := by
  constructor
  · rintro ⟨l, r⟩ i j v h
    rw [g13_s, h 12 (by omega)]
    have h' : same 12 i j := fun m hm => h m (by omega)
    cases bit j 12
    · exact ok12.hit _ _ _ _ h'
    · exact ok12.hit _ _ _ _ h'
  · rintro ⟨l, r⟩ i j v h
    rw [g13_s]
    cases hi : bit i 12 <;> cases hj : bit j 12
    · show g12 _ j = g13 (l, r) j
      rw [ok12.miss _ _ _ _ fun e => h (same_succ e (hi.trans hj.symm))]; rw [gs13, hj]
    · rw [gs13, hj]
    · rw [gs13, hj]
    · show g12 _ j = g13 (l, r) j
      rw [ok12.miss _ _ _ _ fun e => h (same_succ e (hi.trans hj.symm))]; rw [gs13, hj]
theorem g9_set (t : TY9 α) (i j : Nat) (v : α) (hi : i < 512) (hj : j < 512) : g9 (s9 t i v id) j = if i = j then v else g9 t j := by
  by_cases h : i = j
  · subst h; rw [if_pos rfl]; exact ok9.hit _ _ _ _ fun _ _ => rfl
  · rw [if_neg h]; exact ok9.miss _ _ _ _ fun e => h (same_eq (by omega) (by omega) e)
theorem g13_set (t : TY13 α) (i j : Nat) (v : α) (hi : i < 8192) (hj : j < 8192) : g13 (s13 t i v id) j = if i = j then v else g13 t j := by
  by_cases h : i = j
  · subst h; rw [if_pos rfl]; exact ok13.hit _ _ _ _ fun _ _ => rfl
  · rw [if_neg h]; exact ok13.miss _ _ _ _ fun e => h (same_eq (by omega) (by omega) e)
end tries
end Go.Sy
