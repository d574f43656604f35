/- A symbolic run of a program: every operation that writes nothing old. -/
import Derived.Test.YtglnljfdkiihbaaGreatDoorSyMp
namespace Go.Sy

theorem andThen_assoc {α β γ : Type} (r : Result α) (f : α → World → Result β) (g : β → World → Result γ) : (r.andThen f).andThen g = r.andThen fun a w => (f a w).andThen g := by cases r <;> rfl

theorem args_map {a : Act} (c : Call) : c.args.map a.eval = ⟨c.args.toList.map a.eval⟩ := by
  apply Array.ext'; simp

theorem fl_ok {P : Program} {E : Env} {h : Hp} {nx nt : Nat} {t : Tm} {o : Oper} {a : Act} {w : World} {v : Value} {en : Option Ent} (hn : en.isSome = true → E.pl nx = none) (hs : Sat E (hget h) w) (ht : TR E nt t a.tmps) (hg : GE E) (he : evFl P h nx nt t o = some (v, en)) :
    ∃ m : Sem Value, (execOp a.eval o).run P w = (m.run P w).andThen (fun v w' => .ok (.value v) w') ∧ FlPost P E nx w m v en := by
  unfold evFl at he
  split at he
  · rename_i x ho
    obtain ⟨h1, rfl⟩ := plainV_ok he
    exact ⟨pure (a.eval x), by simp [execOp, ho], _, by simp, opd_ok ht hg h1⟩
  · rename_i x ho
    obtain ⟨h1, rfl⟩ := plainV_ok he
    exact ⟨pure (a.eval x), by simp [execOp, ho], _, by simp, opd_ok ht hg h1⟩
  · rename_i c x y ho
    split at he
    · rename_i q1 q2 q3 h1 h2 h3
      exact ⟨do pure (if ← asBool (a.eval c) then a.eval x else a.eval y), by simp [execOp, ho, andThen_assoc], pick_ok (opd_ok ht hg h1) (opd_ok ht hg h2) (opd_ok ht hg h3) he⟩
    · cases he
  · rename_i e ho
    split at he
    · rename_i z hz
      simp only [Option.some.injEq, Prod.mk.injEq] at he; obtain ⟨rfl, rfl⟩ := he
      exact ⟨Instr.alloc e true (.tuple #[]), by simp [execOp, ho], alloc_ok (hn rfl) hz⟩
    · cases he
  · rename_i e x ho
    split at he
    · rename_i u hu
      exact ⟨Instr.box e (a.eval x), by simp [execOp, ho], box_ok hn (opd_ok ht hg hu) he⟩
    · cases he
  · rename_i ty ps ho
    split at he
    · rename_i l hl
      have hp := parts_ok ht hg hl
      refine ⟨Instr.build ty ⟨ps.toList.map fun (i, x) => (i, a.eval x)⟩, ?_, build_ok hp he⟩
      have : (ps.map fun (i, x) => (i, a.eval x)) = ⟨ps.toList.map fun (i, x) => (i, a.eval x)⟩ := by apply Array.ext'; simp
      simp [execOp, ho, this]
    · cases he
  · rename_i ty len ps ho
    split at he
    · rename_i l hl
      have hp := parts_ok ht hg hl
      refine ⟨Instr.buildSlice ty len ⟨ps.toList.map fun (i, x) => (i, a.eval x)⟩, ?_, buildSlice_ok hn hp he⟩
      have : (ps.map fun (i, x) => (i, a.eval x)) = ⟨ps.toList.map fun (i, x) => (i, a.eval x)⟩ := by apply Array.ext'; simp
      simp [execOp, ho, this]
    · cases he
  · rename_i ty x ho
    split at he
    · rename_i u hu
      exact ⟨Instr.loadAt ty (a.eval x), by simp [execOp, ho], load_ok hs (opd_ok ht hg hu) he⟩
    · cases he
  · rename_i x ho
    split at he
    · rename_i u hu
      have hr := opd_ok ht hg hu
      unfold evNil at he
      split at he
      · simp only [Option.some.injEq, Prod.mk.injEq] at he; obtain ⟨rfl, rfl⟩ := he
        obtain ⟨p, hp, hx⟩ := rn_ptr.1 hr
        exact ⟨pure (a.eval x), by simp [execOp, ho, hx], _, by simp, hr⟩
      · simp only [Option.some.injEq, Prod.mk.injEq] at he; obtain ⟨rfl, rfl⟩ := he
        obtain ⟨f', c', hx, _⟩ := rn_func.1 hr
        exact ⟨pure (a.eval x), by simp [execOp, ho, hx], _, by simp, hr⟩
      · simp only [Option.some.injEq, Prod.mk.injEq] at he; obtain ⟨rfl, rfl⟩ := he
        obtain ⟨f', hx, _⟩ := rn_iface.1 hr
        exact ⟨pure (a.eval x), by simp [execOp, ho, hx], _, by simp, hr⟩
      · cases he
    · cases he
  · rename_i op ty x y yt ho
    split at he
    · rename_i u1 u2 h1 h2
      obtain ⟨h3, rfl⟩ := plainV_ok he
      exact ⟨do eqGuard op ty x y (a.eval x) (a.eval y); binOp op ty (a.eval x) (a.eval y), by simp [execOp, ho, andThen_assoc], bin_ok (opd_ok ht hg h1) (opd_ok ht hg h2) h3⟩
    · cases he
  · rename_i op ty x ho
    split at he
    · rename_i u hu
      split at he
      · rename_i hf
        exact ⟨Op.unary op (a.eval x), by simp [execOp, ho], un_ok (opd_ok ht hg hu) hf he⟩
      · cases he
    · cases he
  · rename_i s d x ho
    split at he
    · rename_i u hu
      exact ⟨convert s d (a.eval x), by simp [execOp, ho], conv_ok hs (opd_ok ht hg hu) he⟩
    · cases he
  · rename_i ty x ho
    split at he
    · rename_i u hu
      exact ⟨Instr.makeInterface ty (a.eval x), by simp [execOp, ho], iface_ok (opd_ok ht hg hu) he⟩
    · cases he
  · rename_i fn first captured ho
    split at he
    · split at he
      · rename_i f c h1 h2
        simp only [Option.some.injEq, Prod.mk.injEq] at he; obtain ⟨rfl, rfl⟩ := he
        refine ⟨Instr.makeFunc fn (first.map a.eval) (captured.map a.eval), by simp [execOp, ho], .func fn (first.map a.eval) (captured.map a.eval), by simp [Instr.makeFunc], rn_func.2 ⟨first.map a.eval, captured.map a.eval, rfl, ?_, ?_⟩⟩
        · simpa using opds_ok ht hg h1
        · simpa using opds_ok ht hg h2
      · cases he
    · cases he
  · rename_i ty l c ho
    split at he
    · rename_i u1 u2 h1 h2
      exact ⟨Instr.makeSlice ty (a.eval l) (a.eval c), by simp [execOp, ho], makeSlice_ok hn (opd_ok ht hg h1) (opd_ok ht hg h2) he⟩
    · cases he
  · rename_i ty x lo hi mx ho
    split at he
    · rename_i u u1 u2 u3 h0 h1 h2 h3
      exact ⟨Instr.sliceAt ty (a.eval x) (lo.map a.eval) (hi.map a.eval) (mx.map a.eval), by simp [execOp, ho], slice_ok hs (opd_ok ht hg h0) (optOpd_ok ht hg h1) (optOpd_ok ht hg h2) (optOpd_ok ht hg h3) he⟩
    · cases he
  · rename_i s x f ho
    split at he
    · rename_i u hu
      exact ⟨Instr.fieldAt s (a.eval x) f, by simp [execOp, ho], fieldAddr_ok (opd_ok ht hg hu) he⟩
    · cases he
  · rename_i s x f ho
    split at he
    · rename_i u hu
      exact ⟨Instr.field s (a.eval x) f, by simp [execOp, ho], field_ok (opd_ok ht hg hu) he⟩
    · cases he
  · rename_i ty x ix ho
    split at he
    · rename_i u1 u2 h1 h2
      exact ⟨Instr.indexAt ty (a.eval x) (a.eval ix), by simp [execOp, ho], indexAddr_ok (opd_ok ht hg h1) (opd_ok ht hg h2) he⟩
    · cases he
  · rename_i ty x ix ho
    split at he
    · rename_i u1 u2 h1 h2
      exact ⟨Instr.index ty (a.eval x) (a.eval ix), by simp [execOp, ho], index_ok (opd_ok ht hg h1) (opd_ok ht hg h2) he⟩
    · cases he
  · rename_i tp ix ho
    split at he
    · rename_i u hu
      exact ⟨Instr.extract (a.eval tp) ix, by simp [execOp, ho], extract_ok (opd_ok ht hg hu) he⟩
    · cases he
  · rename_i ty r ho
    split at he
    · rename_i u hu
      exact ⟨Instr.makeMap ty (r.map a.eval), by simp [execOp, ho], makeMap_ok hn (optOpd_ok ht hg hu) he⟩
    · cases he
  · rename_i ty x k ok ho
    split at he
    · rename_i u1 u2 h1 h2
      exact ⟨Instr.lookup ty (a.eval x) (a.eval k) ok, by simp [execOp, ho], lookup_ok hs (opd_ok ht hg h1) (opd_ok ht hg h2) he⟩
    · cases he
  · rename_i c ho
    have hex : ∀ {b : Builtin}, c.callee = .builtin b → ∀ {m : Sem Value}, (∀ cs, builtin b c.argTypes o.type cs (c.args.map a.eval) = (do pure (.value (← m)))) → (execOp a.eval o).run P w = (m.run P w).andThen (fun v w' => .ok (.value v) w') := by
      intro b hc m hm
      simp [execOp, ho, resolve, hc, invoke, hm]
    have hargs : ∀ {l : List Value}, opds nt t c.args.toList = some l → Rns E l (c.args.map a.eval).toList := fun hl => by simpa using opds_ok ht hg hl
    split at he
    · rename_i hc
      cases hl : opds nt t c.args.toList with
      | none => rw [hl] at he; simp [evLen] at he
      | some l =>
        rw [hl] at he
        exact ⟨_, hex hc (m := Builtin.len_ c.argTypes o.type (c.args.map a.eval)) (fun _ => rfl), len_ok (l' := (c.args.map a.eval).toList) (hargs hl) hs he⟩
    · rename_i hc
      cases hl : opds nt t c.args.toList with
      | none => rw [hl] at he; simp [evMM] at he
      | some l =>
        rw [hl] at he
        exact ⟨_, hex hc (m := Builtin.max_ c.argTypes o.type (c.args.map a.eval)) (fun _ => rfl), mm_ok (l' := (c.args.map a.eval).toList) (hargs hl) he _ (.inl ⟨rfl, rfl⟩)⟩
    · rename_i hc
      cases hl : opds nt t c.args.toList with
      | none => rw [hl] at he; simp [evMM] at he
      | some l =>
        rw [hl] at he
        exact ⟨_, hex hc (m := Builtin.min_ c.argTypes o.type (c.args.map a.eval)) (fun _ => rfl), mm_ok (l' := (c.args.map a.eval).toList) (hargs hl) he _ (.inr ⟨rfl, rfl⟩)⟩
    · cases he
  · cases he
end Go.Sy
