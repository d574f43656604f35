/- A symbolic run of a program: numbers, texts, tests, conversions. -/
import Derived.Test.YtglnljfdkiihbaaGreatDoorSyU
import Derived.Laws.BitsLemmas
import Derived.Laws.Bits64
namespace Go.Sy

theorem ieq_eq (x y : Int) : ieq x y = (x == y) := by
  rw [Bool.eq_iff_iff]
  cases x <;> cases y <;> simp [ieq] <;> omega
theorem ile_eq (x y : Int) : ile x y = decide (x ≤ y) := by
  rw [Bool.eq_iff_iff]
  cases x with
  | ofNat a => cases y with
    | ofNat b => simp [ile, Nat.ble_eq]
    | negSucc b => simp [ile]; omega
  | negSucc a => cases y with
    | ofNat b => simp [ile]; omega
    | negSucc b => simp [ile, Nat.ble_eq]; omega
theorem ilt_eq (x y : Int) : (!ile y x) = decide (x < y) := by
  rw [ile_eq, Bool.eq_iff_iff]; simp
theorem wrapF_eq (k : IntKind) (n : Int) : wrapF k n = k.wrap n := by
  unfold wrapF
  split
  · rename_i h
    cases k <;> simp only [inK, ile_eq, Bool.and_eq_true, decide_eq_true_eq, Bool.false_eq_true] at h <;> obtain ⟨h1, h2⟩ := h <;> simp only [Int.ofNat_eq_natCast, Int.negSucc_eq] at h1 h2
    · rw [IntKind.wrap_i32]; omega
    · rw [IntKind.wrap_i64]; omega
    · rw [IntKind.wrap_u8]; omega
    · rw [IntKind.wrap_u32]; omega
    · rw [IntKind.wrap_u64]; omega
  · rfl
theorem beqL_eq : ∀ a b : List UInt8, beqL a b = (a == b)
  | [], [] => rfl
  | [], _ :: _ => rfl
  | _ :: _, [] => rfl
  | a :: l, b :: m => by
    unfold beqL
    rw [beqL_eq l m]
    rw [Bool.eq_iff_iff]
    split
    · rename_i h
      have e : a = b := UInt8.toNat_inj.1 (Nat.eq_of_beq_eq_true h)
      subst e; simp
    · rename_i h
      have e : a ≠ b := fun e => by subst e; simp at h
      simp [e]

theorem binInt_ok {P : Program} {op : BinOp} {k : IntKind} {x y : Int} {v : Value} {ty : TypeId} (h : binInt op k x y = some v) (w : World) : (binOp op ty (.int k x) (.int k y)).run P w = .ok v w := by
  cases op <;> simp only [binInt, Option.some.injEq] at h <;> first
    | cases h; done
    | (subst h; simp [binOp, Op.intArith, Op.intCmp, wrapF_eq, ieq_eq, ile_eq]; done)
    | (subst h; simp [binOp, Op.intCmp, ieq_eq, bne]; done)
    | (subst h; simp only [ilt_eq]; simp [binOp, Op.intCmp]; done)
    | (split at h
       · cases h
       · rename_i hz
         simp only [ieq_eq, beq_eq_false_iff_ne, ne_eq] at hz
         simp only [Option.some.injEq] at h; subst h
         simp [binOp, Op.intDiv, hz, wrapF_eq])

theorem eqGuard_int {P : Program} {op : BinOp} {ty : TypeId} {x y : Operand} {k k' : IntKind} {p q : Int} (w : World) : (eqGuard op ty x y (.int k p) (.int k' q)).run P w = .ok () w := by
  unfold eqGuard; split <;> rfl
theorem eqGuard_str {P : Program} {op : BinOp} {ty : TypeId} {x y : Operand} {s u : ByteArray} (w : World) : (eqGuard op ty x y (.string s) (.string u)).run P w = .ok () w := by
  unfold eqGuard; split <;> rfl

theorem binStr_ok {P : Program} {op : BinOp} {s u : ByteArray} {v : Value} {ty : TypeId} (h : binStr op s u = some v) (w : World) : (binOp op ty (.string s) (.string u)).run P w = .ok v w := by
  unfold binStr at h
  split at h
  · simp only [Option.some.injEq] at h; subst h
    simp [binOp, Op.stringOp, ByteArray.toList_eq, beqL_eq]
  · simp only [Option.some.injEq] at h; subst h
    simp [binOp, Op.stringOp, ByteArray.toList_eq, beqL_eq]
  · split at h
    · rename_i hl
      rw [fbytes_eq] at h
      simp only [Option.some.injEq] at h; subst h
      have hl' := Nat.le_of_ble_eq_true hl
      have hs : s.size + u.size ≤ 1048576 := hl'
      have : ¬ ((s.size + u.size : Nat) : Int) > IntKind.i64.max := by
        simp only [IntKind.max, IntKind.signed, IntKind.bits, if_true]; omega
      simp only [binOp, Op.stringOp, this, if_false, Sem.run_pure]
      rfl
    · cases h
  · cases h

theorem eqPtr_ok {op : BinOp} {b : Bool} {v : Value} (h : eqPtr op b = some v) : (op = .eql ∧ v = .bool b) ∨ (op = .neq ∧ v = .bool (!b)) := by
  unfold eqPtr at h
  split at h
  · simp only [Option.some.injEq] at h; exact .inl ⟨rfl, h.symm⟩
  · simp only [Option.some.injEq] at h; exact .inr ⟨rfl, h.symm⟩
  · cases h

theorem equal_of {P : Program} {ty : TypeId} {x y : Value} {b : Bool} {op : BinOp} {v : Value} (w : World) (hop : eqPtr op b = some v) (he : ∀ d, (Op.equalIn (d + 1) ty x y).run P w = .ok b w)
    (hg : ∀ xo yo, (eqGuard op ty xo yo x y).run P w = .ok () w) (hb : binOp .eql ty x y = (do pure (.bool (← Op.equal ty x y)))) (hb' : binOp .neq ty x y = (do pure (.bool (!(← Op.equal ty x y))))) (xo yo : Operand) :
    ((do eqGuard op ty xo yo x y; binOp op ty x y) : Sem Value).run P w = .ok v w := by
  have hq : (Op.equal ty x y).run P w = .ok b w := he 9999
  rcases eqPtr_ok hop with ⟨rfl, rfl⟩ | ⟨rfl, rfl⟩
  · simp [hg, hb, hq]
  · simp [hg, hb', hq]

theorem evEq_ok {P : Program} {E : Env} {op : BinOp} {ty : TypeId} {x y x' y' v : Value} (hx : Rn E x x') (hy : Rn E y y') (h : evEq P op ty x y = some v) (xo yo : Operand) (w : World) :
    ((do eqGuard op ty xo yo x' y'; binOp op ty x' y') : Sem Value).run P w = .ok v w := by
  unfold evEq at h
  split at h
  · rename_i hu; obtain ⟨p, _, rfl⟩ := rn_ptr.1 hx; rw [rn_nil.1 hy]
    exact equal_of w h (fun d => by simp [Op.equalIn, run_underlying hu]) (fun _ _ => by unfold eqGuard; split <;> rfl) rfl rfl xo yo
  · rename_i hu; obtain ⟨p, _, rfl⟩ := rn_ptr.1 hy; rw [rn_nil.1 hx]
    exact equal_of w h (fun d => by simp [Op.equalIn, run_underlying hu]) (fun _ _ => by unfold eqGuard; split <;> rfl) rfl rfl xo yo
  · rename_i hu; obtain ⟨p, _, rfl⟩ := rn_slice.1 hx; rw [rn_snil.1 hy]
    exact equal_of w h (fun d => by simp [Op.equalIn, run_underlying hu]) (fun _ _ => by unfold eqGuard; split <;> rfl) rfl rfl xo yo
  · rename_i hu; obtain ⟨p, _, rfl⟩ := rn_slice.1 hy; rw [rn_snil.1 hx]
    exact equal_of w h (fun d => by simp [Op.equalIn, run_underlying hu]) (fun _ _ => by unfold eqGuard; split <;> rfl) rfl rfl xo yo
  · rename_i hu; obtain ⟨p, _, rfl⟩ := rn_map.1 hx; rw [rn_mnil.1 hy]
    exact equal_of w h (fun d => by simp [Op.equalIn, run_underlying hu]) (fun _ _ => by unfold eqGuard; split <;> rfl) rfl rfl xo yo
  · rename_i hu; obtain ⟨p, _, rfl⟩ := rn_map.1 hy; rw [rn_mnil.1 hx]
    exact equal_of w h (fun d => by simp [Op.equalIn, run_underlying hu]) (fun _ _ => by unfold eqGuard; split <;> rfl) rfl rfl xo yo
  · rename_i hu; obtain ⟨f', c', rfl, _⟩ := rn_func.1 hx; rw [rn_fnil.1 hy]
    exact equal_of w h (fun d => by simp [Op.equalIn, run_underlying hu]) (fun _ _ => by unfold eqGuard; split <;> rfl) rfl rfl xo yo
  · rename_i hu; obtain ⟨f', c', rfl, _⟩ := rn_func.1 hy; rw [rn_fnil.1 hx]
    exact equal_of w h (fun d => by simp [Op.equalIn, run_underlying hu]) (fun _ _ => by unfold eqGuard; split <;> rfl) rfl rfl xo yo
  · rename_i hu; obtain ⟨f', rfl, _⟩ := rn_iface.1 hx; rw [rn_inil.1 hy]
    exact equal_of w h (fun d => by simp [Op.equalIn, run_underlying hu]) (fun _ _ => by unfold eqGuard; split <;> rfl) rfl rfl xo yo
  · rename_i hu; obtain ⟨f', rfl, _⟩ := rn_iface.1 hy; rw [rn_inil.1 hx]
    exact equal_of w h (fun d => by simp [Op.equalIn, run_underlying hu]) (fun _ _ => by unfold eqGuard; split <;> rfl) rfl rfl xo yo
  · cases h

theorem int_case {P : Program} {E : Env} {op : BinOp} {ty : TypeId} {k : IntKind} {p q : Int} {x' y' v : Value} (hx : Rn E (.int k p) x') (hy : Rn E (.int k q) y') (h : binInt op k p q = some v) (xo yo : Operand) (w : World) :
    ((do eqGuard op ty xo yo x' y'; binOp op ty x' y') : Sem Value).run P w = .ok v w := by
  rw [rn_int.1 hx, rn_int.1 hy]; simp [eqGuard_int, binInt_ok h]

theorem binInt_flat {E : Env} {op : BinOp} {k : IntKind} {p q : Int} {v : Value} (h : binInt op k p q = some v) : Rn E v v := by
  cases op <;> simp only [binInt, Option.some.injEq] at h <;> first
    | cases h; done
    | (subst h; exact rn_int.2 rfl)
    | (subst h; exact rn_bool.2 rfl)
    | (split at h
       · cases h
       · simp only [Option.some.injEq] at h; subst h; exact rn_int.2 rfl)
theorem binStr_flat {E : Env} {op : BinOp} {s u : ByteArray} {v : Value} (h : binStr op s u = some v) : Rn E v v := by
  unfold binStr at h
  split at h
  · simp only [Option.some.injEq] at h; subst h; exact rn_bool.2 rfl
  · simp only [Option.some.injEq] at h; subst h; exact rn_bool.2 rfl
  · split at h
    · rw [fbytes_eq] at h; simp only [Option.some.injEq] at h; subst h; exact rn_string.2 rfl
    · cases h
  · cases h
theorem evEq_flat {E : Env} {P : Program} {op : BinOp} {ty : TypeId} {x y v : Value} (h : evEq P op ty x y = some v) : Rn E v v := by
  have : ∃ b, eqPtr op b = some v := by
    unfold evEq at h; split at h <;> first | exact ⟨_, h⟩ | cases h
  obtain ⟨b, hb⟩ := this
  rcases eqPtr_ok hb with ⟨_, rfl⟩ | ⟨_, rfl⟩ <;> exact rn_bool.2 rfl
end Go.Sy
