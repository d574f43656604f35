/- A symbolic run of a program: tests, conversions, slices, made rows. -/
import Derived.Test.YtglnljfdkiihbaaGreatDoorSyV
namespace Go.Sy

theorem flatR_ok {o : Option Value} {v : Value} (h : flatR o = some v) : o = some v ∧ flatN 4 v = true := by
  unfold flatR at h
  split at h
  · split at h
    · rename_i hf; simp only [Option.some.injEq] at h; subst h; exact ⟨rfl, hf⟩
    · cases h
  · cases h

theorem bin_ok {P : Program} {E : Env} {nx : Nat} {w : World} {op : BinOp} {ty : TypeId} {xo yo : Operand} {x y x' y' v : Value} (hx : Rn E x x') (hy : Rn E y y') (h : evBin P op ty xo yo x y = some v) :
    FlPost P E nx w (do eqGuard op ty xo yo x' y'; binOp op ty x' y') v none := by
  unfold evBin at h
  split at h
  all_goals first
    | exact ⟨v, int_case hx hy h xo yo w, binInt_flat h⟩
    | (rw [rn_string.1 hx, rn_string.1 hy]; exact ⟨v, by simp [eqGuard_str, binStr_ok h], binStr_flat h⟩)
    | (split at h
       · rename_i hc
         simp only [Bool.and_eq_true] at hc
         rw [flat_eq 4 _ _ hc.1 hx, flat_eq 4 _ _ hc.2 hy]
         obtain ⟨h1, h2⟩ := flatR_ok h
         exact ⟨v, peel_run h1 w, flat_rn 4 v h2⟩
       · exact ⟨v, evEq_ok hx hy h xo yo w, evEq_flat h⟩)

theorem bound_ok {P : Program} {E : Env} {x x' : Value} {y n : Nat} {code : BoundsCode} (hx : Rn E x x') (h : bound x y = some n) {y' : Nat} (hy : y ≤ y') (w : World) : (Instr.sliceBound x' y' code).run P w = .ok n w := by
  unfold bound at h
  split at h
  · rename_i k i
    split at h
    · rename_i hb
      simp only [Option.some.injEq] at h; subst h
      rw [rn_int.1 hx]
      have := Nat.le_of_ble_eq_true hb
      have h0 : (0 : Int) ≤ Int.ofNat i ∧ Int.ofNat i ≤ (y' : Int) := ⟨Int.natCast_nonneg _, Int.ofNat_le.2 (by omega)⟩
      simp only [Instr.sliceBound, asIntOf, Sem.run_bind, Sem.run_pure, Result.andThen_ok, h0, and_self, if_true]
      simp
    · cases h
  · cases h

/-- Two values that may be missing. -/
def RnO (E : Env) : Option Value → Option Value → Prop
  | none, none => True
  | some a, some b => Rn E a b
  | _, _ => False

theorem optOpd_ok {E : Env} {nt : Nat} {t : Tm} {a : Act} (ht : TR E nt t a.tmps) (hg : GE E) {x : Option Operand} {v : Option Value} (h : optOpd nt t x = some v) : RnO E v (x.map a.eval) := by
  cases x with
  | none => simp only [optOpd, Option.some.injEq] at h; subst h; trivial
  | some x =>
    simp only [optOpd] at h
    split at h
    · rename_i u hu
      simp only [Option.some.injEq] at h; subst h
      exact opd_ok ht hg hu
    · cases h

theorem bnds_ok {P : Program} {E : Env} {len cap l h m : Nat} {lo hi mx lo' hi' mx' : Option Value} (hl : RnO E lo lo') (hh : RnO E hi hi') (hm : RnO E mx mx') (hb : bnds len cap lo hi mx = some (l, h, m)) (isS : Bool) (d : Nat) (w : World) :
    (Instr.sliceBounds isS len (cap + d) lo' hi' mx').run P w = .ok (l, h, m + d) w ∧ m = cap := by
  unfold bnds at hb
  split at hb
  · cases hb
  · cases mx' with
    | some _ => exact hm.elim
    | none =>
      split at hb
      · cases hb
      · rename_i hv hhv
        split at hb
        · cases hb
        · rename_i lv hlv
          simp only [Option.some.injEq, Prod.mk.injEq] at hb
          obtain ⟨rfl, rfl, rfl⟩ := hb
          refine ⟨?_, rfl⟩
          cases hi with
          | none => cases hi' with
            | some _ => exact hh.elim
            | none =>
              simp only [Option.some.injEq] at hhv; subst hhv
              cases lo with
              | none => cases lo' with
                | some _ => exact hl.elim
                | none => simp only [Option.some.injEq] at hlv; subst hlv; simp [Instr.sliceBounds]
              | some u => cases lo' with
                | none => exact hl.elim
                | some u' => simp [Instr.sliceBounds, bound_ok (P := P) hl hlv (Nat.le_refl _) w]
          | some q => cases hi' with
            | none => exact hh.elim
            | some q' =>
              have h1 := fun code => bound_ok (P := P) (code := code) hh hhv (y' := cap + d) (by omega) w
              cases lo with
              | none => cases lo' with
                | some _ => exact hl.elim
                | none => simp only [Option.some.injEq] at hlv; subst hlv; simp [Instr.sliceBounds, h1]
              | some u => cases lo' with
                | none => exact hl.elim
                | some u' => simp [Instr.sliceBounds, h1, bound_ok (P := P) hl hlv (Nat.le_refl _) w]

theorem slice_ok {P : Program} {E : Env} {nx : Nat} {w : World} {h : Hp} {ty : TypeId} {x x' v : Value} {lo hi mx lo' hi' mx' : Option Value} {en : Option Ent} (hs : Sat E (hget h) w) (hx : Rn E x x') (hl : RnO E lo lo') (hh : RnO E hi hi') (hm : RnO E mx mx')
    (hv : evSlice P ty h nx x lo hi mx = some (v, en)) : FlPost P E nx w (Instr.sliceAt ty x' lo' hi' mx') v en := by
  unfold evSlice at hv
  split at hv
  · rename_i s hu
    split at hv
    · rename_i l hh' m hb
      rw [fbytes_eq] at hv
      simp only [Option.some.injEq, Prod.mk.injEq] at hv; obtain ⟨rfl, rfl⟩ := hv
      rw [rn_string.1 hx]
      have hmx : mx' = none := by
        unfold bnds at hb; split at hb
        · cases hb
        · cases mx' with | none => rfl | some _ => exact hm.elim
      subst hmx
      have hb' : (Instr.sliceBounds false s.size s.size lo' hi' none).run P w = .ok (l, hh', m) w := (bnds_ok (P := P) hl hh hm hb false 0 w).1
      refine ⟨.string (s.extract l hh'), ?_, ?_⟩
      · simp only [Instr.sliceAt, Sem.run_bind, run_underlying hu, Result.andThen_ok, Instr.slice, Option.isSome_none, Bool.false_eq_true, if_false]
        simp [hb']
      · rw [rn_string]
        congr 1
        apply ByteArray.ext
        apply Array.ext'
        simp [ByteArray.data_extract, Array.toList_extract, List.extract_eq_take_drop]
    · cases hv
  · rename_i elem len cap hu
    split at hv
    · rename_i l hh' m sz hb hz
      simp only [Option.some.injEq, Prod.mk.injEq] at hv; obtain ⟨rfl, rfl⟩ := hv
      rw [rn_snil.1 hx]
      have hb' := (bnds_ok (P := P) hl hh hm hb true 0 w).1
      simp only [Nat.add_zero] at hb'
      refine ⟨.slice none (hh' - l) (m - l), ?_, rn_snil.2 rfl⟩
      simp [Instr.sliceAt, run_underlying hu, Instr.slice, hb', peel_run hz]
    · cases hv
  · rename_i elem b off len cap hu
    split at hv
    · rename_i l hh' m sz e hb hz he
      obtain ⟨p, hp, ok⟩ := hs.ent b e he
      obtain ⟨p', hp', rfl⟩ := rn_slice.1 hx
      rw [hp] at hp'; cases hp'
      obtain ⟨hb', hm'⟩ := bnds_ok (P := P) hl hh hm hb true p.2.2 w
      subst hm'
      have hrun : (Instr.sliceAt ty (.slice (some ⟨p.1, p.2.1 + off, none⟩) len (m + p.2.2)) lo' hi' mx').run P w =
          .ok (.slice (some (if m + p.2.2 = l then ⟨p.1, p.2.1 + off, none⟩ else ⟨p.1, p.2.1 + (off + l * sz), none⟩)) (hh' - l) (m + p.2.2 - l)) w := by
        simp only [Instr.sliceAt, Sem.run_bind, run_underlying hu, Result.andThen_ok, Instr.slice, hb', peel_run hz, Sem.run_pure]
        congr 3
        split <;> simp [add_cell, Nat.add_assoc]
      split at hv
      · split at hv
        · rename_i hml
          simp only [Option.some.injEq, Prod.mk.injEq] at hv; obtain ⟨rfl, rfl⟩ := hv
          have hml' := Nat.eq_of_beq_eq_true hml
          subst hml'
          refine ⟨_, w, ((if m + p.2.2 = m then ⟨p.1, p.2.1 + off, none⟩ else ⟨p.1, p.2.1 + (off + m * sz), none⟩ : Addr).block, (if m + p.2.2 = m then ⟨p.1, p.2.1 + off, none⟩ else ⟨p.1, p.2.1 + (off + m * sz), none⟩ : Addr).off, p.2.2), hrun, Ext.refl _, ?_, ⟨fun h => (h rfl).elim, fun _ h => (h rfl).elim, fun _ => rfl, fun h => by cases h⟩, fun h => (h rfl).elim⟩
          refine rn_slice.2 ⟨_, add_self _ _ _, ?_⟩
          split <;> simp
        · split at hv
          · rename_i hlt
            simp only [Option.some.injEq, Prod.mk.injEq] at hv; obtain ⟨rfl, rfl⟩ := hv
            have hlt' := blt_iff.1 hlt
            refine ⟨_, hrun, rn_slice.2 ⟨p, hp, ?_⟩⟩
            rw [if_neg (by omega), show m + p.2.2 - l = m - l + p.2.2 by omega]
          · cases hv
      · rename_i hk2
        split at hv
        · cases hv
        · rename_i hk3
          have h0 : p.2.2 = 0 := ok.spare (fun e => by rw [e] at hk2; exact absurd hk2 (by decide)) (fun e => by rw [e] at hk3; exact absurd hk3 (by decide))
          split at hv
          · rename_i hml
            simp only [Option.some.injEq, Prod.mk.injEq] at hv; obtain ⟨rfl, rfl⟩ := hv
            have hml' := Nat.eq_of_beq_eq_true hml
            refine ⟨_, hrun, rn_slice.2 ⟨p, hp, ?_⟩⟩
            rw [if_pos (by omega), h0]; rfl
          · rename_i hml
            simp only [Option.some.injEq, Prod.mk.injEq] at hv; obtain ⟨rfl, rfl⟩ := hv
            refine ⟨_, hrun, rn_slice.2 ⟨p, hp, ?_⟩⟩
            rw [if_neg (fun e => by
              have : Nat.beq m l = true := by rw [show m = l by omega]; simp
              rw [this] at hml; cases hml), h0]; rfl
    · cases hv
  · cases hv
end Go.Sy
