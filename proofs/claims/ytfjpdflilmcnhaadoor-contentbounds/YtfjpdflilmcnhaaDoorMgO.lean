/- A symbolic run of a program: numbers, texts, tests, conversions. -/
import Derived.Test.YtfjpdflilmcnhaaDoorSyU
import Derived.Laws.BitsLemmas
import Derived.Laws.Bits64
import Derived.Laws.BytesString
import Derived.MapKept
namespace Go.Sy

theorem ieq_eq (x y : Int) : ieq x y = (x == y) := by
  rw [Bool.eq_iff_iff]
  cases x <;> cases y <;> simp [ieq] <;> omega
theorem ile_eq (x y : Int) : ile x y = decide (x ≤ y) := by
  rw [Bool.eq_iff_iff]
  cases x with
  | ofNat a => cases y with
    | ofNat b => simp [ile, Nat.ble_eq]
    | negSucc b => simp [ile]; omega
  | negSucc a => cases y with
    | ofNat b => simp [ile]; omega
    | negSucc b => simp [ile, Nat.ble_eq]; omega
theorem ilt_eq (x y : Int) : (!ile y x) = decide (x < y) := by
  rw [ile_eq, Bool.eq_iff_iff]; simp
theorem wrapF_eq (k : IntKind) (n : Int) : wrapF k n = k.wrap n := by
  unfold wrapF
  split
  · rename_i h
    cases k <;> simp only [inK, ile_eq, Bool.and_eq_true, decide_eq_true_eq, Bool.false_eq_true] at h <;> obtain ⟨h1, h2⟩ := h <;> simp only [Int.ofNat_eq_natCast, Int.negSucc_eq] at h1 h2
    · rw [IntKind.wrap_i32]; omega
    · rw [IntKind.wrap_i64]; omega
    · rw [IntKind.wrap_u8]; omega
    · rw [IntKind.wrap_u32]; omega
    · rw [IntKind.wrap_u64]; omega
  · rfl
theorem beqL_eq : ∀ a b : List UInt8, beqL a b = (a == b)
  | [], [] => rfl
  | [], _ :: _ => rfl
  | _ :: _, [] => rfl
  | a :: l, b :: m => by
    unfold beqL
    rw [beqL_eq l m]
    rw [Bool.eq_iff_iff]
    split
    · rename_i h
      have e : a = b := UInt8.toNat_inj.1 (Nat.eq_of_beq_eq_true h)
      subst e; simp
    · rename_i h
      have e : a ≠ b := fun e => by subst e; simp at h
      simp [e]

theorem binInt_ok {P : Program} {op : BinOp} {k : IntKind} {x y : Int} {v : Value} {ty : TypeId} (h : binInt op k x y = some v) (w : World) : (binOp op ty (.int k x) (.int k y)).run P w = .ok v w := by
  cases op <;> simp only [binInt, Option.some.injEq] at h <;> first
    | cases h; done
    | (subst h; simp [binOp, Op.intArith, Op.intCmp, wrapF_eq, ieq_eq, ile_eq]; done)
    | (subst h; simp [binOp, Op.intCmp, ieq_eq, bne]; done)
    | (subst h; simp only [ilt_eq]; simp [binOp, Op.intCmp]; done)
    | (split at h
       · cases h
       · rename_i hz
         simp only [ieq_eq, beq_eq_false_iff_ne, ne_eq] at hz
         simp only [Option.some.injEq] at h; subst h
         simp [binOp, Op.intDiv, hz, wrapF_eq])

theorem eqGuard_int {P : Program} {op : BinOp} {ty : TypeId} {x y : Operand} {k k' : IntKind} {p q : Int} (w : World) : (eqGuard op ty x y (.int k p) (.int k' q)).run P w = .ok () w := by
  unfold eqGuard; split <;> rfl
theorem eqGuard_str {P : Program} {op : BinOp} {ty : TypeId} {x y : Operand} {s u : ByteArray} (w : World) : (eqGuard op ty x y (.string s) (.string u)).run P w = .ok () w := by
  unfold eqGuard; split <;> rfl

theorem binStr_ok {P : Program} {op : BinOp} {s u : ByteArray} {v : Value} {ty : TypeId} (h : binStr op s u = some v) (w : World) : (binOp op ty (.string s) (.string u)).run P w = .ok v w := by
  unfold binStr at h
  split at h
  · simp only [Option.some.injEq] at h; subst h
    simp [binOp, Op.stringOp, ByteArray.toList_eq, beqL_eq]
  · simp only [Option.some.injEq] at h; subst h
    simp [binOp, Op.stringOp, ByteArray.toList_eq, beqL_eq]
  · split at h
    · rename_i hl
      rw [fbytes_eq] at h
      simp only [Option.some.injEq] at h; subst h
      have hl' := Nat.le_of_ble_eq_true hl
      have hs : s.size + u.size ≤ 1048576 := hl'
      have : ¬ ((s.size + u.size : Nat) : Int) > IntKind.i64.max := by
        simp only [IntKind.max, IntKind.signed, IntKind.bits, if_true]; omega
      simp only [binOp, Op.stringOp, this, if_false, Sem.run_pure]
      rfl
    · cases h
  · cases h

theorem eqPtr_ok {op : BinOp} {b : Bool} {v : Value} (h : eqPtr op b = some v) : (op = .eql ∧ v = .bool b) ∨ (op = .neq ∧ v = .bool (!b)) := by
  unfold eqPtr at h
  split at h
  · simp only [Option.some.injEq] at h; exact .inl ⟨rfl, h.symm⟩
  · simp only [Option.some.injEq] at h; exact .inr ⟨rfl, h.symm⟩
  · cases h

theorem equal_of {P : Program} {ty : TypeId} {x y : Value} {b : Bool} {op : BinOp} {v : Value} (w : World) (hop : eqPtr op b = some v) (he : ∀ d, (Op.equalIn (d + 1) ty x y).run P w = .ok b w)
    (hg : ∀ xo yo, (eqGuard op ty xo yo x y).run P w = .ok () w) (hb : binOp .eql ty x y = (do pure (.bool (← Op.equal ty x y)))) (hb' : binOp .neq ty x y = (do pure (.bool (!(← Op.equal ty x y))))) (xo yo : Operand) :
    ((do eqGuard op ty xo yo x y; binOp op ty x y) : Sem Value).run P w = .ok v w := by
  have hq : (Op.equal ty x y).run P w = .ok b w := he 9999
  rcases eqPtr_ok hop with ⟨rfl, rfl⟩ | ⟨rfl, rfl⟩
  · simp [hg, hb, hq]
  · simp [hg, hb', hq]

theorem evEq_ok {P : Program} {E : Env} {op : BinOp} {ty : TypeId} {x y x' y' v : Value} (hx : Rn E x x') (hy : Rn E y y') (h : evEq P op ty x y = some v) (xo yo : Operand) (w : World) :
    ((do eqGuard op ty xo yo x' y'; binOp op ty x' y') : Sem Value).run P w = .ok v w := by
  unfold evEq at h
  split at h
  · rename_i hu; obtain ⟨p, _, rfl⟩ := rn_ptr.1 hx; rw [rn_nil.1 hy]
    exact equal_of w h (fun d => by simp [Op.equalIn, run_underlying hu]) (fun _ _ => by unfold eqGuard; split <;> rfl) rfl rfl xo yo
  · rename_i hu; obtain ⟨p, _, rfl⟩ := rn_ptr.1 hy; rw [rn_nil.1 hx]
    exact equal_of w h (fun d => by simp [Op.equalIn, run_underlying hu]) (fun _ _ => by unfold eqGuard; split <;> rfl) rfl rfl xo yo
  · rename_i hu; obtain ⟨p, _, rfl⟩ := rn_slice.1 hx; rw [rn_snil.1 hy]
    exact equal_of w h (fun d => by simp [Op.equalIn, run_underlying hu]) (fun _ _ => by unfold eqGuard; split <;> rfl) rfl rfl xo yo
  · rename_i hu; obtain ⟨p, _, rfl⟩ := rn_slice.1 hy; rw [rn_snil.1 hx]
    exact equal_of w h (fun d => by simp [Op.equalIn, run_underlying hu]) (fun _ _ => by unfold eqGuard; split <;> rfl) rfl rfl xo yo
  · rename_i hu; obtain ⟨p, _, rfl⟩ := rn_map.1 hx; rw [rn_mnil.1 hy]
    exact equal_of w h (fun d => by simp [Op.equalIn, run_underlying hu]) (fun _ _ => by unfold eqGuard; split <;> rfl) rfl rfl xo yo
  · rename_i hu; obtain ⟨p, _, rfl⟩ := rn_map.1 hy; rw [rn_mnil.1 hx]
    exact equal_of w h (fun d => by simp [Op.equalIn, run_underlying hu]) (fun _ _ => by unfold eqGuard; split <;> rfl) rfl rfl xo yo
  · rename_i hu; obtain ⟨f', c', rfl, _⟩ := rn_func.1 hx; rw [rn_fnil.1 hy]
    exact equal_of w h (fun d => by simp [Op.equalIn, run_underlying hu]) (fun _ _ => by unfold eqGuard; split <;> rfl) rfl rfl xo yo
  · rename_i hu; obtain ⟨f', c', rfl, _⟩ := rn_func.1 hy; rw [rn_fnil.1 hx]
    exact equal_of w h (fun d => by simp [Op.equalIn, run_underlying hu]) (fun _ _ => by unfold eqGuard; split <;> rfl) rfl rfl xo yo
  · rename_i hu; obtain ⟨f', rfl, _⟩ := rn_iface.1 hx; rw [rn_inil.1 hy]
    exact equal_of w h (fun d => by simp [Op.equalIn, run_underlying hu]) (fun _ _ => by unfold eqGuard; split <;> rfl) rfl rfl xo yo
  · rename_i hu; obtain ⟨f', rfl, _⟩ := rn_iface.1 hy; rw [rn_inil.1 hx]
    exact equal_of w h (fun d => by simp [Op.equalIn, run_underlying hu]) (fun _ _ => by unfold eqGuard; split <;> rfl) rfl rfl xo yo
  · cases h

theorem int_case {P : Program} {E : Env} {op : BinOp} {ty : TypeId} {k : IntKind} {p q : Int} {x' y' v : Value} (hx : Rn E (.int k p) x') (hy : Rn E (.int k q) y') (h : binInt op k p q = some v) (xo yo : Operand) (w : World) :
    ((do eqGuard op ty xo yo x' y'; binOp op ty x' y') : Sem Value).run P w = .ok v w := by
  rw [rn_int.1 hx, rn_int.1 hy]; simp [eqGuard_int, binInt_ok h]

theorem binInt_flat {E : Env} {op : BinOp} {k : IntKind} {p q : Int} {v : Value} (h : binInt op k p q = some v) : Rn E v v := by
  cases op <;> simp only [binInt, Option.some.injEq] at h <;> first
    | cases h; done
    | (subst h; exact rn_int.2 rfl)
    | (subst h; exact rn_bool.2 rfl)
    | (split at h
       · cases h
       · simp only [Option.some.injEq] at h; subst h; exact rn_int.2 rfl)
theorem binStr_flat {E : Env} {op : BinOp} {s u : ByteArray} {v : Value} (h : binStr op s u = some v) : Rn E v v := by
  unfold binStr at h
  split at h
  · simp only [Option.some.injEq] at h; subst h; exact rn_bool.2 rfl
  · simp only [Option.some.injEq] at h; subst h; exact rn_bool.2 rfl
  · split at h
    · rw [fbytes_eq] at h; simp only [Option.some.injEq] at h; subst h; exact rn_string.2 rfl
    · cases h
  · cases h
theorem evEq_flat {E : Env} {P : Program} {op : BinOp} {ty : TypeId} {x y v : Value} (h : evEq P op ty x y = some v) : Rn E v v := by
  have : ∃ b, eqPtr op b = some v := by
    unfold evEq at h; split at h <;> first | exact ⟨_, h⟩ | cases h
  obtain ⟨b, hb⟩ := this
  rcases eqPtr_ok hb with ⟨_, rfl⟩ | ⟨_, rfl⟩ <;> exact rn_bool.2 rfl
end Go.Sy

/- A symbolic run of a program: tests, conversions, slices, made rows. -/
namespace Go.Sy

theorem flatR_ok {o : Option Value} {v : Value} (h : flatR o = some v) : o = some v ∧ flatN 4 v = true := by
  unfold flatR at h
  split at h
  · split at h
    · rename_i hf; simp only [Option.some.injEq] at h; subst h; exact ⟨rfl, hf⟩
    · cases h
  · cases h

theorem bin_ok {P : Program} {E : Env} {nx : Nat} {w : World} {op : BinOp} {ty : TypeId} {xo yo : Operand} {x y x' y' v : Value} (hx : Rn E x x') (hy : Rn E y y') (h : evBin P op ty xo yo x y = some v) :
    FlPost P E nx w (do eqGuard op ty xo yo x' y'; binOp op ty x' y') v none := by
  unfold evBin at h
  split at h
  all_goals first
    | exact ⟨v, int_case hx hy h xo yo w, binInt_flat h⟩
    | (rw [rn_string.1 hx, rn_string.1 hy]; exact ⟨v, by simp [eqGuard_str, binStr_ok h], binStr_flat h⟩)
    | (split at h
       · rename_i hc
         simp only [Bool.and_eq_true] at hc
         rw [flat_eq 4 _ _ hc.1 hx, flat_eq 4 _ _ hc.2 hy]
         obtain ⟨h1, h2⟩ := flatR_ok h
         exact ⟨v, peel_run h1 w, flat_rn 4 v h2⟩
       · exact ⟨v, evEq_ok hx hy h xo yo w, evEq_flat h⟩)

theorem bound_ok {P : Program} {E : Env} {x x' : Value} {y n : Nat} {code : BoundsCode} (hx : Rn E x x') (h : bound x y = some n) {y' : Nat} (hy : y ≤ y') (w : World) : (Instr.sliceBound x' y' code).run P w = .ok n w := by
  unfold bound at h
  split at h
  · rename_i k i
    split at h
    · rename_i hb
      simp only [Option.some.injEq] at h; subst h
      rw [rn_int.1 hx]
      have := Nat.le_of_ble_eq_true hb
      have h0 : (0 : Int) ≤ Int.ofNat i ∧ Int.ofNat i ≤ (y' : Int) := ⟨Int.natCast_nonneg _, Int.ofNat_le.2 (by omega)⟩
      simp only [Instr.sliceBound, asIntOf, Sem.run_bind, Sem.run_pure, Result.andThen_ok, h0, and_self, if_true]
      simp
    · cases h
  · cases h

/-- Two values that may be missing. -/
def RnO (E : Env) : Option Value → Option Value → Prop
  | none, none => True
  | some a, some b => Rn E a b
  | _, _ => False

theorem optOpd_ok {E : Env} {nt : Nat} {t : Tm} {a : Act} (ht : TR E nt t a.tmps) (hg : GE E) {x : Option Operand} {v : Option Value} (h : optOpd nt t x = some v) : RnO E v (x.map a.eval) := by
  cases x with
  | none => simp only [optOpd, Option.some.injEq] at h; subst h; trivial
  | some x =>
    simp only [optOpd] at h
    split at h
    · rename_i u hu
      simp only [Option.some.injEq] at h; subst h
      exact opd_ok ht hg hu
    · cases h

theorem bnds_ok {P : Program} {E : Env} {len cap l h m : Nat} {lo hi mx lo' hi' mx' : Option Value} (hl : RnO E lo lo') (hh : RnO E hi hi') (hm : RnO E mx mx') (hb : bnds len cap lo hi mx = some (l, h, m)) (isS : Bool) (d : Nat) (w : World) :
    (Instr.sliceBounds isS len (cap + d) lo' hi' mx').run P w = .ok (l, h, m + d) w ∧ m = cap := by
  unfold bnds at hb
  split at hb
  · cases hb
  · cases mx' with
    | some _ => exact hm.elim
    | none =>
      split at hb
      · cases hb
      · rename_i hv hhv
        split at hb
        · cases hb
        · rename_i lv hlv
          simp only [Option.some.injEq, Prod.mk.injEq] at hb
          obtain ⟨rfl, rfl, rfl⟩ := hb
          refine ⟨?_, rfl⟩
          cases hi with
          | none => cases hi' with
            | some _ => exact hh.elim
            | none =>
              simp only [Option.some.injEq] at hhv; subst hhv
              cases lo with
              | none => cases lo' with
                | some _ => exact hl.elim
                | none => simp only [Option.some.injEq] at hlv; subst hlv; simp [Instr.sliceBounds]
              | some u => cases lo' with
                | none => exact hl.elim
                | some u' => simp [Instr.sliceBounds, bound_ok (P := P) hl hlv (Nat.le_refl _) w]
          | some q => cases hi' with
            | none => exact hh.elim
            | some q' =>
              have h1 := fun code => bound_ok (P := P) (code := code) hh hhv (y' := cap + d) (by omega) w
              cases lo with
              | none => cases lo' with
                | some _ => exact hl.elim
                | none => simp only [Option.some.injEq] at hlv; subst hlv; simp [Instr.sliceBounds, h1]
              | some u => cases lo' with
                | none => exact hl.elim
                | some u' => simp [Instr.sliceBounds, h1, bound_ok (P := P) hl hlv (Nat.le_refl _) w]

theorem slice_ok {P : Program} {E : Env} {nx : Nat} {w : World} {h : Hp} {ty : TypeId} {x x' v : Value} {lo hi mx lo' hi' mx' : Option Value} {en : Option Ent} (hs : Sat E (hget h) w) (hx : Rn E x x') (hl : RnO E lo lo') (hh : RnO E hi hi') (hm : RnO E mx mx')
    (hv : evSlice P ty h nx x lo hi mx = some (v, en)) : FlPost P E nx w (Instr.sliceAt ty x' lo' hi' mx') v en := by
  unfold evSlice at hv
  split at hv
  · rename_i s hu
    split at hv
    · rename_i l hh' m hb
      rw [fbytes_eq] at hv
      simp only [Option.some.injEq, Prod.mk.injEq] at hv; obtain ⟨rfl, rfl⟩ := hv
      rw [rn_string.1 hx]
      have hmx : mx' = none := by
        unfold bnds at hb; split at hb
        · cases hb
        · cases mx' with | none => rfl | some _ => exact hm.elim
      subst hmx
      have hb' : (Instr.sliceBounds false s.size s.size lo' hi' none).run P w = .ok (l, hh', m) w := (bnds_ok (P := P) hl hh hm hb false 0 w).1
      refine ⟨.string (s.extract l hh'), ?_, ?_⟩
      · simp only [Instr.sliceAt, Sem.run_bind, run_underlying hu, Result.andThen_ok, Instr.slice, Option.isSome_none, Bool.false_eq_true, if_false]
        simp [hb']
      · rw [rn_string]
        congr 1
        apply ByteArray.ext
        apply Array.ext'
        simp [ByteArray.data_extract, Array.toList_extract, List.extract_eq_take_drop]
    · cases hv
  · rename_i elem len cap hu
    split at hv
    · rename_i l hh' m sz hb hz
      simp only [Option.some.injEq, Prod.mk.injEq] at hv; obtain ⟨rfl, rfl⟩ := hv
      rw [rn_snil.1 hx]
      have hb' := (bnds_ok (P := P) hl hh hm hb true 0 w).1
      simp only [Nat.add_zero] at hb'
      refine ⟨.slice none (hh' - l) (m - l), ?_, rn_snil.2 rfl⟩
      simp [Instr.sliceAt, run_underlying hu, Instr.slice, hb', peel_run hz]
    · cases hv
  · rename_i elem b off len cap hu
    split at hv
    · rename_i l hh' m sz e hb hz he
      obtain ⟨p, hp, ok⟩ := hs.ent b e he
      obtain ⟨p', hp', rfl⟩ := rn_slice.1 hx
      rw [hp] at hp'; cases hp'
      obtain ⟨hb', hm'⟩ := bnds_ok (P := P) hl hh hm hb true p.2.2 w
      subst hm'
      have hrun : (Instr.sliceAt ty (.slice (some ⟨p.1, p.2.1 + off, none⟩) len (m + p.2.2)) lo' hi' mx').run P w =
          .ok (.slice (some (if m + p.2.2 = l then ⟨p.1, p.2.1 + off, none⟩ else ⟨p.1, p.2.1 + (off + l * sz), none⟩)) (hh' - l) (m + p.2.2 - l)) w := by
        simp only [Instr.sliceAt, Sem.run_bind, run_underlying hu, Result.andThen_ok, Instr.slice, hb', peel_run hz, Sem.run_pure]
        congr 3
        split <;> simp [add_cell, Nat.add_assoc]
      split at hv
      · split at hv
        · rename_i hml
          simp only [Option.some.injEq, Prod.mk.injEq] at hv; obtain ⟨rfl, rfl⟩ := hv
          have hml' := Nat.eq_of_beq_eq_true hml
          subst hml'
          refine ⟨_, w, ((if m + p.2.2 = m then ⟨p.1, p.2.1 + off, none⟩ else ⟨p.1, p.2.1 + (off + m * sz), none⟩ : Addr).block, (if m + p.2.2 = m then ⟨p.1, p.2.1 + off, none⟩ else ⟨p.1, p.2.1 + (off + m * sz), none⟩ : Addr).off, p.2.2), hrun, Ext.refl _, ?_, ⟨fun h => (h rfl).elim, fun _ h => (h rfl).elim, fun _ => rfl, fun h => by cases h⟩, fun h => (h rfl).elim⟩
          refine rn_slice.2 ⟨_, add_self _ _ _, ?_⟩
          split <;> simp
        · split at hv
          · rename_i hlt
            simp only [Option.some.injEq, Prod.mk.injEq] at hv; obtain ⟨rfl, rfl⟩ := hv
            have hlt' := blt_iff.1 hlt
            refine ⟨_, hrun, rn_slice.2 ⟨p, hp, ?_⟩⟩
            rw [if_neg (by omega), show m + p.2.2 - l = m - l + p.2.2 by omega]
          · cases hv
      · rename_i hk2
        split at hv
        · cases hv
        · rename_i hk3
          have h0 : p.2.2 = 0 := ok.spare (fun e => by rw [e] at hk2; exact absurd hk2 (by decide)) (fun e => by rw [e] at hk3; exact absurd hk3 (by decide))
          split at hv
          · rename_i hml
            simp only [Option.some.injEq, Prod.mk.injEq] at hv; obtain ⟨rfl, rfl⟩ := hv
            have hml' := Nat.eq_of_beq_eq_true hml
            refine ⟨_, hrun, rn_slice.2 ⟨p, hp, ?_⟩⟩
            rw [if_pos (by omega), h0]; rfl
          · rename_i hml
            simp only [Option.some.injEq, Prod.mk.injEq] at hv; obtain ⟨rfl, rfl⟩ := hv
            refine ⟨_, hrun, rn_slice.2 ⟨p, hp, ?_⟩⟩
            rw [if_neg (fun e => by
              have : Nat.beq m l = true := by rw [show m = l by omega]; simp
              rw [this] at hml; cases hml), h0]; rfl
    · cases hv
  · cases hv
end Go.Sy

/- A symbolic run of a program: conversions, lengths, structs and rows that are built. -/
namespace Go.Sy

theorem un_ok {P : Program} {E : Env} {nx : Nat} {w : World} {op : UnOp} {x x' v : Value} {en : Option Ent} (hx : Rn E x x') (hf : flatN 4 x = true) (h : plainV (flatR (peel P (Op.unary op x))) = some (v, en)) : FlPost P E nx w (Op.unary op x') v en := by
  obtain ⟨h1, rfl⟩ := plainV_ok h
  obtain ⟨h2, h3⟩ := flatR_ok h1
  rw [flat_eq 4 _ _ hf hx]
  exact ⟨v, peel_run h2 w, flat_rn 4 v h3⟩

theorem rns_flat {E : Env} {l l' : List Value} (hf : l.all (flatN 1) = true) (r : Rns E l l') : l' = l :=
  rns_eq_of (fun v hv v' hr => flat_eq 1 v v' (List.all_eq_true.1 hf v hv) hr) r

theorem mm_ok {P : Program} {E : Env} {nx : Nat} {w : World} {b : Builtin} {tys : Array TypeId} {ty : TypeId} {l l' : List Value} {v : Value} {en : Option Ent} (hr : Rns E l l') (h : evMM P b tys ty (some l) = some (v, en)) (m : Sem Value)
    (hm : (b = .max ∧ m = Builtin.max_ tys ty ⟨l'⟩) ∨ (b = .min ∧ m = Builtin.min_ tys ty ⟨l'⟩)) : FlPost P E nx w m v en := by
  simp only [evMM] at h
  split at h
  · rename_i hf
    have e := rns_flat hf hr
    subst e
    rcases hm with ⟨rfl, rfl⟩ | ⟨rfl, rfl⟩
    · obtain ⟨h1, rfl⟩ := plainV_ok h
      obtain ⟨h2, h3⟩ := flatR_ok h1
      exact ⟨v, peel_run h2 w, flat_rn 4 v h3⟩
    · obtain ⟨h1, rfl⟩ := plainV_ok h
      obtain ⟨h2, h3⟩ := flatR_ok h1
      exact ⟨v, peel_run h2 w, flat_rn 4 v h3⟩
  · cases h

theorem Mps.len {E : Env} : ∀ {l : List (Value × Value)} {es : List MapEntry}, Mps E l es → l.length = es.length
  | [], [], _ => rfl
  | _ :: _, _ :: _, h => by simp [Mps.len h.2.2]
  | [], _ :: _, h => h.elim
  | _ :: _, [], h => h.elim
theorem len_ok {P : Program} {E : Env} {hp : Hp} {nx : Nat} {w : World} {tys : Array TypeId} {ty : TypeId} {l l' : List Value} {v : Value} {en : Option Ent} (hr : Rns E l l') (hs : Sat E (hget hp) w) (h : evLen P hp tys (some l) = some (v, en)) : FlPost P E nx w (Builtin.len_ tys ty ⟨l'⟩) v en := by
  unfold evLen at h
  have hty : ∀ {d : TypeDesc}, (tys[0]?).bind P.underlying = some d → ∃ t, tys[0]? = some t ∧ P.underlying t = some d := by
    intro d hd
    cases ht : tys[0]? with
    | none => rw [ht] at hd; cases hd
    | some t => rw [ht] at hd; exact ⟨t, rfl, hd⟩
  split at h
  · rename_i k e hu hl
    simp only [Option.some.injEq, Prod.mk.injEq] at h hl; obtain ⟨rfl, rfl⟩ := h
    subst hl
    obtain ⟨t, h0, h1⟩ := hty hu
    obtain ⟨x', m', rfl, hx, hm⟩ := hr.inv_cons
    rw [hm.inv_nil, rn_mnil.1 hx]
    exact ⟨_, by simp [Builtin.len_, h0, run_underlying h1, goInt], rn_int.2 rfl⟩
  · rename_i k e r hu hl
    simp only [Option.some.injEq] at hl
    subst hl
    obtain ⟨t, h0, h1⟩ := hty hu
    obtain ⟨x', m', rfl, hx, hm⟩ := hr.inv_cons
    rw [hm.inv_nil]
    split at h
    · rename_i en0 he
      split at h
      · rename_i h4
        simp only [Option.some.injEq, Prod.mk.injEq] at h; obtain ⟨rfl, rfl⟩ := h
        obtain ⟨p, hp1, rfl⟩ := rn_map.1 hx
        obtain ⟨q, hq, ok⟩ := hs.ent _ _ he
        rw [hp1] at hq; cases hq
        obtain ⟨es, c, a, b⟩ := ok.map (Nat.eq_of_beq_eq_true h4)
        exact ⟨.int .i64 es.size, by simp [Builtin.len_, h0, run_underlying h1, goInt, run_getObj_map (P := P) _ _ _ _ a], rn_int.2 (by rw [Mps.len b]; simp)⟩
      · cases h
    · cases h
  · rename_i s hu hl
    simp only [Option.some.injEq, Prod.mk.injEq] at h hl; obtain ⟨rfl, rfl⟩ := h
    subst hl
    obtain ⟨t, h0, h1⟩ := hty hu
    obtain ⟨x', m', rfl, hx, hm⟩ := hr.inv_cons
    rw [hm.inv_nil, rn_string.1 hx]
    exact ⟨_, by simp [Builtin.len_, h0, run_underlying h1, goInt], rn_int.2 rfl⟩
  · rename_i e a n c hu hl
    simp only [Option.some.injEq, Prod.mk.injEq] at h hl; obtain ⟨rfl, rfl⟩ := h
    subst hl
    obtain ⟨t, h0, h1⟩ := hty hu
    obtain ⟨x', m', rfl, hx, hm⟩ := hr.inv_cons
    rw [hm.inv_nil]
    cases a with
    | none => rw [rn_snil.1 hx]; exact ⟨_, by simp [Builtin.len_, h0, run_underlying h1, goInt], rn_int.2 rfl⟩
    | some a => obtain ⟨p, _, rfl⟩ := rn_slice.1 hx; exact ⟨_, by simp [Builtin.len_, h0, run_underlying h1, goInt], rn_int.2 rfl⟩
  · rename_i n e x hu hl
    simp only [Option.some.injEq, Prod.mk.injEq] at h hl; obtain ⟨rfl, rfl⟩ := h
    subst hl
    obtain ⟨t, h0, h1⟩ := hty hu
    obtain ⟨x', m', rfl, hx, hm⟩ := hr.inv_cons
    rw [hm.inv_nil]
    exact ⟨_, by simp [Builtin.len_, h0, run_underlying h1, goInt], rn_int.2 rfl⟩
  · cases h

/-- Parts, place by place. -/
def RnsP (E : Env) (l l' : List (Nat × Value)) : Prop := l.length = l'.length ∧ ∀ (i : Nat) k v, l[i]? = some (k, v) → ∃ v', l'[i]? = some (k, v') ∧ Rn E v v'
theorem RnsP.inv_nil {E : Env} {l'} (h : RnsP E [] l') : l' = [] := by
  have := h.1; simp at this; exact List.eq_nil_of_length_eq_zero this.symm
theorem RnsP.inv_cons {E : Env} {k v l l'} (h : RnsP E ((k, v) :: l) l') : ∃ v' m, l' = (k, v') :: m ∧ Rn E v v' ∧ RnsP E l m := by
  cases l' with
  | nil => have := h.1; simp at this
  | cons q m =>
    obtain ⟨x, hx, r⟩ := h.2 0 k v rfl
    simp at hx; subst hx
    exact ⟨x, m, rfl, r, by simpa using h.1, fun i k u hu => by simpa using h.2 (i + 1) k u (by simpa using hu)⟩
theorem parts_ok {E : Env} {nt : Nat} {t : Tm} {a : Act} (ht : TR E nt t a.tmps) (hg : GE E) : ∀ {l : List (Nat × Operand)} {vs : List (Nat × Value)}, parts nt t l = some vs → RnsP E vs (l.map fun (i, x) => (i, a.eval x))
  | [], vs, h => by simp only [parts, Option.some.injEq] at h; subst h; exact ⟨rfl, fun i k v h => by simp at h⟩
  | (j, x) :: l, vs, h => by
    simp only [parts] at h
    split at h
    · cases h
    · rename_i v hv
      split at h
      · cases h
      · rename_i us hu
        simp only [Option.some.injEq] at h; subst h
        have ih := parts_ok ht hg hu
        refine ⟨by simp [ih.1], fun i k u hk => ?_⟩
        cases i with
        | zero => simp at hk; obtain ⟨rfl, rfl⟩ := hk; exact ⟨_, rfl, opd_ok ht hg hv⟩
        | succ i => simpa using ih.2 i k u (by simpa using hk)

theorem fold_rel {E : Env} (off : Nat) : ∀ (l l' : List Value) (k : Nat) (cs cs' : Array Value), Rns E l l' → Rns E cs.toList cs'.toList →
    Rns E ((l.zipIdx k).foldl (fun cs (c, j) => cs.setIfInBounds (off + j) c) cs).toList ((l'.zipIdx k).foldl (fun cs (c, j) => cs.setIfInBounds (off + j) c) cs').toList
  | [], l', k, cs, cs', hl, hc => by rw [hl.inv_nil]; exact hc
  | v :: l, l', k, cs, cs', hl, hc => by
    obtain ⟨v', m, rfl, hv, hm⟩ := hl.inv_cons
    simp only [List.zipIdx_cons, List.foldl_cons]
    refine fold_rel off l m (k + 1) _ _ hm ?_
    simp only [Array.toList_setIfInBounds]
    exact hc.set _ hv

theorem fill_rel {E : Env} {place : Nat → Option (Nat × Nat)} : ∀ (l l' : List (Nat × Value)) (cs cs' out : Array Value), RnsP E l l' → l.all (fun p => !isTuple p.2) = true → Rns E cs.toList cs'.toList → Instr.fill place cs l = some out →
    ∃ out', Instr.fill place cs' l' = some out' ∧ Rns E out.toList out'.toList
  | [], l', cs, cs', out, hl, _, hc, h => by
    rw [hl.inv_nil]; simp only [Instr.fill, Option.some.injEq] at h; subst h; exact ⟨cs', rfl, hc⟩
  | (i, v) :: l, l', cs, cs', out, hl, ht, hc, h => by
    obtain ⟨v', m, rfl, hv, hm⟩ := hl.inv_cons
    simp only [List.all_cons, Bool.and_eq_true, Bool.not_eq_true'] at ht
    have hcell := rn_cells (not_tuple ht.1) hv
    have hsz : v.cells.size = v'.cells.size := by simpa using hcell.1
    have hcs : cs.size = cs'.size := by simpa using hc.1
    simp only [Instr.fill] at h ⊢
    cases hp : place i with
    | none => rw [hp] at h; cases h
    | some q =>
      obtain ⟨off, size⟩ := q
      rw [hp] at h
      simp only [hsz, hcs] at h ⊢
      split at h
      · cases h
      · rename_i hq
        rw [if_neg hq]
        refine fill_rel l m _ _ out hm (by simpa using ht.2) ?_ h
        have := fold_rel (E := E) off v.cells.toList v'.cells.toList 0 cs cs' hcell hc
        rw [← Array.foldl_toList, ← Array.foldl_toList, Array.toList_zipIdx, Array.toList_zipIdx]
        exact this

theorem build_ok {P : Program} {E : Env} {nx : Nat} {w : World} {ty : TypeId} {l l' : List (Nat × Value)} {v : Value} {en : Option Ent} (hl : RnsP E l l') (h : evBuild P ty l = some (v, en)) : FlPost P E nx w (Instr.build ty ⟨l'⟩) v en := by
  unfold evBuild at h
  split at h
  · rename_i z hz
    split at h
    · rename_i hc
      simp only [Bool.and_eq_true, Bool.not_eq_true'] at hc
      have hzr : Rns E z.cells.toList z.cells.toList := rn_cells (not_tuple hc.1.2) (flat_rn 4 z hc.1.1)
      split at h
      · rename_i fields hu
        split at h
        · rename_i places hp
          split at h
          · rename_i cells hf
            simp only [Option.some.injEq, Prod.mk.injEq] at h; obtain ⟨rfl, rfl⟩ := h
            obtain ⟨out', h1, h2⟩ := fill_rel l l' _ _ _ hl hc.2 hzr hf
            refine ⟨.agg out', ?_, rn_agg.2 ⟨_, rfl, h2⟩⟩
            unfold placesOf at hp
            simp only [Instr.build, Sem.run_bind, peel_run hz, run_underlying hu, Result.andThen_ok, peel_run hp, h1, Sem.run_pure]
          · cases h
        · cases h
      · rename_i n elem hu
        split at h
        · rename_i sz hp
          split at h
          · rename_i cells hf
            simp only [Option.some.injEq, Prod.mk.injEq] at h; obtain ⟨rfl, rfl⟩ := h
            obtain ⟨out', h1, h2⟩ := fill_rel l l' _ _ _ hl hc.2 hzr hf
            refine ⟨.agg out', ?_, rn_agg.2 ⟨_, rfl, h2⟩⟩
            simp [Instr.build, peel_run hz, run_underlying hu, peel_run hp, h1]
          · cases h
        · cases h
      · cases h
    · cases h
  · cases h
end Go.Sy
