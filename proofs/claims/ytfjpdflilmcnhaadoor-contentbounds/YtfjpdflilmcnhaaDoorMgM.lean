/- Whether a row of values is a new one among those that went these steps (isFresh). -/
import Derived.Test.YtfjpdflilmcnhaaDoorYng
import Derived.Test.YtfjpdflilmcnhaaDoorVat
import Derived.Test.YtfjpdflilmcnhaaDoorMgF
import Derived.Test.YtfjpdflilmcnhaaDoorWit
namespace Go.Proofs.YtfjpdflilmcnhaaDoor
open Go.ChangeShapes Go.WideShapes Go.ChangeAt Go.RowKit

open Go.ChangeMaps (setBlock)
/-- The steps that are known: entries of a place and a value, and where they lead to. -/
abbrev Stps := List (Pce × Int)
/-- Which rows' heads the places stand for. -/
structure Tri (M : Stps) (pre : Nat → List Val) : Prop where
  zero : pre 0 = []
  step : ∀ (f : Nat) (v : Val) (t : Int), lk M ((f : Int), v) = some t → ∃ t' : Nat, t = t' ∧ f ≤ M.length ∧ 1 ≤ t' ∧ t' ≤ M.length ∧ pre t' = pre f ++ [v]
  inj : ∀ i j, i ≤ M.length → j ≤ M.length → pre i = pre j → i = j
  all : ∀ i, 1 ≤ i → i ≤ M.length → ∃ (f : Nat) (v : Val), lk M ((f : Int), v) = some (i : Int)
/-- The heads that are known. -/
def Known (M : Stps) (pre : Nat → List Val) (h : List Val) : Prop := ∃ i, i ≤ M.length ∧ pre i = h
theorem up_len_new {M : Stps} {k : Pce} {v : Int} (h : lk M k = none) : up M k v = M ++ [(k, v)] := by
  induction M with
  | nil => rfl
  | cons x M ih =>
    rw [lk_cons] at h
    by_cases hx : x.1 = k
    · rw [if_pos hx] at h; cases h
    · rw [if_neg hx] at h
      simp only [up, if_neg hx, ih h, List.cons_append]
theorem lk_snoc {M : Stps} {k k' : Pce} {v : Int} (h : lk M k = none) : lk (M ++ [(k, v)]) k' = if k = k' then some v else lk M k' := by
  induction M with
  | nil =>
    rw [List.nil_append, lk_cons]
  | cons x M ih =>
    rw [lk_cons] at h
    by_cases hx : x.1 = k
    · rw [if_pos hx] at h; cases h
    · rw [if_neg hx] at h
      rw [List.cons_append, lk_cons, lk_cons, ih h]
      by_cases h1 : x.1 = k'
      · rw [if_pos h1, if_pos h1, if_neg (fun e => hx (by rw [h1, e]))]
      · rw [if_neg h1, if_neg h1]
/-- A step that is not there yet. -/
theorem Tri.new {M : Stps} {pre : Nat → List Val} (h : Tri M pre) {f : Nat} {v : Val} (hf : f ≤ M.length) (hn : lk M ((f : Int), v) = none) : Tri (M ++ [(((f : Int), v), ((M.length + 1 : Nat) : Int))]) (fun i => if i = M.length + 1 then pre f ++ [v] else pre i) := by
  have hlen : (M ++ [(((f : Int), v), ((M.length + 1 : Nat) : Int))]).length = M.length + 1 := by simp
  have hnk : ∀ i, i ≤ M.length → pre i ≠ pre f ++ [v] := by
    intro i hi he
    rcases Nat.eq_zero_or_pos i with h0 | h0
    · subst h0; rw [h.zero] at he; simp at he
    · obtain ⟨f', v', hl⟩ := h.all i h0 hi
      obtain ⟨t', e1, e2, e3, e4, e5⟩ := h.step f' v' _ hl
      have : i = t' := by omega
      subst this
      rw [e5] at he
      have hx := List.append_inj' he rfl
      have e6 := h.inj f' f e2 hf hx.1
      have e7 : v' = v := by simpa using hx.2
      subst e6; subst e7
      rw [hl] at hn; cases hn
  refine ⟨?_, fun f' v' t ht => ?_, fun i j hi hj he => ?_, fun i h1 h2 => ?_⟩
  · rw [if_neg (by omega)]; exact h.zero
  · rw [lk_snoc hn] at ht
    rw [hlen]
    by_cases hk : (((f : Int), v) : Pce) = ((f' : Int), v')
    · rw [if_pos hk] at ht
      have e1 : f = f' := Int.ofNat.inj (congrArg Prod.fst hk)
      have e2 : v = v' := congrArg Prod.snd hk
      subst e1; subst e2
      refine ⟨M.length + 1, (Option.some.inj ht).symm, by omega, by omega, by omega, ?_⟩
      rw [if_pos rfl, if_neg (by omega)]
    · rw [if_neg hk] at ht
      obtain ⟨t', e1, e2, e3, e4, e5⟩ := h.step f' v' t ht
      refine ⟨t', e1, by omega, e3, by omega, ?_⟩
      rw [if_neg (by omega), if_neg (by omega)]; exact e5
  · rw [hlen] at hi hj
    by_cases hi2 : i = M.length + 1
    · by_cases hj2 : j = M.length + 1
      · omega
      · rw [if_pos hi2, if_neg hj2] at he
        exact (hnk j (by omega) he.symm).elim
    · by_cases hj2 : j = M.length + 1
      · rw [if_neg hi2, if_pos hj2] at he
        exact (hnk i (by omega) he).elim
      · rw [if_neg hi2, if_neg hj2] at he
        exact h.inj i j (by omega) (by omega) he
  · rw [hlen] at h2
    by_cases hi2 : i = M.length + 1
    · subst hi2
      exact ⟨f, v, by rw [lk_snoc hn, if_pos rfl]⟩
    · obtain ⟨f', v', hl⟩ := h.all i h1 (by omega)
      refine ⟨f', v', ?_⟩
      rw [lk_snoc hn]
      by_cases hk : (((f : Int), v) : Pce) = ((f' : Int), v')
      · rw [← hk, hn] at hl; cases hl
      · rw [if_neg hk]; exact hl
theorem Known.new {M : Stps} {pre : Nat → List Val} {f : Nat} {v : Val} {h : List Val} : Known (M ++ [(((f : Int), v), ((M.length + 1 : Nat) : Int))]) (fun i => if i = M.length + 1 then pre f ++ [v] else pre i) h ↔ Known M pre h ∨ h = pre f ++ [v] := by
  unfold Known
  have hlen : (M ++ [(((f : Int), v), ((M.length + 1 : Nat) : Int))]).length = M.length + 1 := by simp
  rw [hlen]
  constructor
  · rintro ⟨i, hi, he⟩
    by_cases hi2 : i = M.length + 1
    · simp only [if_pos hi2] at he; exact Or.inr he.symm
    · simp only [if_neg hi2] at he; exact Or.inl ⟨i, by omega, he⟩
  · rintro (⟨i, hi, he⟩ | he)
    · exact ⟨i, by omega, by simp only [if_neg (show ¬i = M.length + 1 by omega)]; exact he⟩
    · exact ⟨M.length + 1, Nat.le_refl _, by simp only [if_true]; exact he.symm⟩
/-- A step that is there leads to a head that is known; one that is not, not. -/
theorem Tri.look {M : Stps} {pre : Nat → List Val} (h : Tri M pre) {f : Nat} {v : Val} (hf : f ≤ M.length) : (lk M ((f : Int), v)).isSome = true ↔ Known M pre (pre f ++ [v]) := by
  constructor
  · intro hs
    obtain ⟨t, ht⟩ := Option.isSome_iff_exists.1 hs
    obtain ⟨t', e1, e2, e3, e4, e5⟩ := h.step f v t ht
    exact ⟨t', e4, e5⟩
  · rintro ⟨i, hi, he⟩
    rcases Nat.eq_zero_or_pos i with h0 | h0
    · subst h0; rw [h.zero] at he; simp at he
    · obtain ⟨f', v', hl⟩ := h.all i h0 hi
      obtain ⟨t', e1, e2, e3, e4, e5⟩ := h.step f' v' _ hl
      have : i = t' := by omega
      subst this
      rw [e5] at he
      have hx := List.append_inj' he rfl
      have e6 := h.inj f' f e2 hf hx.1
      have e7 : v' = v := by simpa using hx.2
      subst e6; subst e7
      rw [hl]; rfl
end Go.Proofs.YtfjpdflilmcnhaaDoor

/- Whether a row of values is a new one: the walk (isFresh). -/
namespace Go.Proofs.YtfjpdflilmcnhaaDoor
open Go.ChangeShapes Go.WideShapes Go.ChangeAt Go.RowKit

open Go.ChangeMaps (setBlock)
theorem under80 : Tryd.prog.underlying 80 = some (.map 98 3) := by kernel_rfl
theorem zero3 (u : World) : (zeroValue 3).run Tryd.prog u = .ok (.int .i64 0) u := by kernel_rfl
theorem Tri.down {M : Stps} {pre : Nat → List Val} (h : Tri M pre) {x : List Val} {v : Val} (hk : Known M pre (x ++ [v])) : Known M pre x := by
  obtain ⟨i, hi, he⟩ := hk
  rcases Nat.eq_zero_or_pos i with h0 | h0
  · subst h0; rw [h.zero] at he; simp at he
  · obtain ⟨f, v', hl⟩ := h.all i h0 hi
    obtain ⟨t', e1, e2, _, _, e5⟩ := h.step f v' _ hl
    have : i = t' := by omega
    subst this
    rw [e5] at he
    exact ⟨f, e2, (List.append_inj' he rfl).1⟩
/-- The map of steps in memory. -/
def TrM (w : World) (g : Nat) (M : Stps) (pre : Nat → List Val) : Prop := (∃ es clk, MapIs pcE itE w g M es clk) ∧ Tri M pre
theorem TrM.below {w w' : World} {g : Nat} {M : Stps} {pre : Nat → List Val} (h : TrM w g M pre) (hb : Below w.heap.size w w') : TrM w' g M pre :=
  ⟨let ⟨es, clk, h1⟩ := h.1; ⟨es, clk, h1.below hb⟩, h.2⟩
theorem TrM.lt {w : World} {g : Nat} {M : Stps} {pre : Nat → List Val} (h : TrM w g M pre) : g < w.heap.size := by
  obtain ⟨⟨es, clk, h1⟩, _⟩ := h
  exact heap_lt h1.at_
theorem TrM.look {w : World} {g : Nat} {M : Stps} {pre : Nat → List Val} (h : TrM w g M pre) (f : Nat) (v : Val) :
    (Instr.lookup 80 (.map (some g)) (.agg #[.int .i64 f, .int .i64 v.1, .int .i64 v.2.1, .string v.2.2]) true).run Tryd.prog w = .ok (.tuple #[((lk M ((f : Int), v)).map itE).getD (.int .i64 0), .bool (lk M ((f : Int), v)).isSome]) w := by
  obtain ⟨⟨es, clk, h1⟩, _⟩ := h
  exact h1.lookOk under80 keys98 (.int .i64 0) zero3 ((f : Int), v)
theorem TrM.size {w : World} {g : Nat} {M : Stps} {pre : Nat → List Val} (h : TrM w g M pre) : (Builtin.len_ #[80] 3 #[.map (some g)]).run Tryd.prog w = .ok (.int .i64 (M.length : Nat)) w := by
  obtain ⟨⟨es, clk, h1⟩, _⟩ := h
  have hs : es.size = M.length := by
    have := congrArg List.length h1.same
    simpa using this
  simp [Builtin.len_, run_underlying under80, goInt, getM h1.at_, hs]
theorem TrM.put {w : World} {g : Nat} {M : Stps} {pre : Nat → List Val} (h : TrM w g M pre) {f : Nat} {v : Val} (hf : f ≤ M.length) (hn : lk M ((f : Int), v) = none) :
    ∃ es clk, (Instr.mapUpdate 80 (.map (some g)) (.agg #[.int .i64 f, .int .i64 v.1, .int .i64 v.2.1, .string v.2.2]) (.int .i64 (M.length + 1 : Nat))).run Tryd.prog w = .ok () (setBlock w g (.map es clk)) ∧ TrM (setBlock w g (.map es clk)) g (M ++ [(((f : Int), v), ((M.length + 1 : Nat) : Int))]) (fun i => if i = M.length + 1 then pre f ++ [v] else pre i) := by
  have hlt := h.lt
  obtain ⟨⟨es, clk, h1⟩, h2⟩ := h
  obtain ⟨es', clk', h3, h4⟩ := h1.store under80 keys98 ((f : Int), v) ((M.length + 1 : Nat) : Int)
  refine ⟨es', clk', h3, ⟨es', clk', ?_⟩, h2.new hf hn⟩
  have := h4 (setBlock w g (.map es' clk')) (by simp [setBlock, hlt])
  rwa [up_len_new hn] at this
/-- What is known of a row's heads behind m values. -/
structure FrI (M : Stps) (pre : Nat → List Val) (row : List Val) (m : Nat) (M' : Stps) (pre' : Nat → List Val) (f : Nat) (b : Bool) : Prop where
  fl : f ≤ M'.length
  pf : pre' f = row.take m
  len : M'.length ≤ M.length + m
  bt : b = true ↔ ¬ Known M pre (row.take m)
  kn : ∀ h, Known M' pre' h ↔ Known M pre h ∨ ∃ k, k ≤ m ∧ h = row.take k
theorem FrI.begin {M : Stps} {pre : Nat → List Val} {row : List Val} (h : Tri M pre) : FrI M pre row 0 M pre 0 false := by
  have h0 : Known M pre [] := ⟨0, Nat.zero_le _, h.zero⟩
  refine ⟨Nat.zero_le _, by simpa using h.zero, Nat.le_refl _, ?_, fun x => ⟨Or.inl, ?_⟩⟩
  · simp only [List.take_zero]
    exact ⟨fun e => (by cases e), fun e => (e h0).elim⟩
  · rintro (hx | ⟨k, hk, rfl⟩)
    · exact hx
    · obtain rfl : k = 0 := by omega
      simpa using h0
theorem take_snoc {row : List Val} {m : Nat} (hm : m < row.length) : row.take (m + 1) = row.take m ++ [(kAt row m, nAt row m, tAt row m)] := take_at hm
theorem FrI.iff {M M' : Stps} {pre pre' : Nat → List Val} {row : List Val} {m f : Nat} {b : Bool} (h : FrI M pre row m M' pre' f b) (hT : Tri M' pre') (hm : m < row.length) : (lk M' ((f : Int), (kAt row m, nAt row m, tAt row m))).isSome = true ↔ Known M pre (row.take (m + 1)) := by
  rw [hT.look h.fl, h.pf, ← take_snoc hm, h.kn]
  constructor
  · rintro (q | ⟨k, hk, e⟩)
    · exact q
    · have := congrArg List.length e
      simp only [List.length_take] at this
      omega
  · exact Or.inl
theorem FrI.found {M M' : Stps} {pre pre' : Nat → List Val} {row : List Val} {m f : Nat} {b : Bool} (h : FrI M pre row m M' pre' f b) (hT0 : Tri M pre) (hT : Tri M' pre') (hm : m < row.length) {t : Int} (ht : lk M' ((f : Int), (kAt row m, nAt row m, tAt row m)) = some t) : ∃ t' : Nat, t = t' ∧ FrI M pre row (m + 1) M' pre' t' b := by
  obtain ⟨t', e1, _, _, e4, e5⟩ := hT.step f _ t ht
  have hk : Known M pre (row.take (m + 1)) := (h.iff hT hm).1 (by rw [ht]; rfl)
  have hk0 : Known M pre (row.take m) := hT0.down (v := (kAt row m, nAt row m, tAt row m)) (by rw [← take_snoc hm]; exact hk)
  refine ⟨t', e1, e4, by rw [e5, h.pf, ← take_snoc hm], by have := h.len; omega, ?_, fun x => ?_⟩
  · rw [h.bt]
    exact ⟨fun q => (q hk0).elim, fun q => (q hk).elim⟩
  · rw [h.kn]
    constructor
    · rintro (q | ⟨k, hk, e⟩)
      · exact Or.inl q
      · exact Or.inr ⟨k, by omega, e⟩
    · rintro (q | ⟨k, hk2, e⟩)
      · exact Or.inl q
      · by_cases c : k = m + 1
        · subst c; subst e; exact Or.inl hk
        · exact Or.inr ⟨k, by omega, e⟩
theorem FrI.fresh {M M' : Stps} {pre pre' : Nat → List Val} {row : List Val} {m f : Nat} {b : Bool} (h : FrI M pre row m M' pre' f b) (hT : Tri M' pre') (hm : m < row.length) (hn : lk M' ((f : Int), (kAt row m, nAt row m, tAt row m)) = none) : FrI M pre row (m + 1) (M' ++ [(((f : Int), (kAt row m, nAt row m, tAt row m)), ((M'.length + 1 : Nat) : Int))]) (fun i => if i = M'.length + 1 then pre' f ++ [(kAt row m, nAt row m, tAt row m)] else pre' i) (M'.length + 1) true := by
  have hk : ¬ Known M pre (row.take (m + 1)) := fun q => by
    have := (h.iff hT hm).2 q
    rw [hn] at this; cases this
  refine ⟨by simp, ?_, by have := h.len; simp; omega, ⟨fun _ => hk, fun _ => rfl⟩, fun x => ?_⟩
  · simp only [if_true]; rw [h.pf, ← take_snoc hm]
  · rw [Known.new, h.kn, h.pf, ← take_snoc hm]
    constructor
    · rintro ((q | ⟨k, hk, e⟩) | q)
      · exact Or.inl q
      · exact Or.inr ⟨k, by omega, e⟩
      · exact Or.inr ⟨m + 1, Nat.le_refl _, q⟩
    · rintro (q | ⟨k, hk2, e⟩)
      · exact Or.inl (Or.inl q)
      · by_cases c : k = m + 1
        · subst c; exact Or.inr e
        · exact Or.inl (Or.inr ⟨k, by omega, e⟩)
set_option maxRecDepth 20000 in
set_option maxHeartbeats 16000000 in
theorem fresh_any (g : Nat) (a : Option Addr) (cap : Nat) (row : List Val) (M : Stps) (pre : Nat → List Val) (w : World) (hT : TrM w g M pre) (hr : RowAt w a row) (hrg : ∀ g' f, a = some ⟨g', f, none⟩ → g' ≠ g) (hl : row.length ≤ 4398046511104) (hM : M.length ≤ 1000000000000000) :
    Calls Tryd.prog 55 #[.map (some g), .slice a row.length cap] w fun e w' => ∃ b M' pre', e = .returned (.bool b) ∧ TrM w' g M' pre' ∧ M'.length ≤ M.length + row.length ∧ Fr (fun k => k = g) w w' ∧ (b = true ↔ ¬ Known M pre row) ∧ ∀ h, Known M' pre' h ↔ Known M pre h ∨ ∃ k, k ≤ row.length ∧ h = row.take k := by
  have HT : Hid (TrM w g M pre) := hT
  have HR : Hid (RowAt w a row) := hr
  have HRG : Hid (∀ g' f, a = some ⟨g', f, none⟩ → g' ≠ g) := hrg
  have HT0 : Hid (Tri M pre) := hT.2
  clear hT hr hrg
  go_enter Tryd.func55, Tryd.ntmps55
  go_wp2
  go_loopw [5, 6, 13] (fun p q i wr => ∃ (m f : Nat) (b : Bool) (M' : Stps) (pre' : Nat → List Val), m ≤ row.length ∧ p = .int .i64 f ∧ q = .bool b ∧ i = .int .i64 m ∧ TrM wr g M' pre' ∧ FrI M pre row m M' pre' f b ∧ Fr (fun k => k = g) w wr) (fun _ _ i _ => row.length - (intOf i).toNat)
  case atStart => exact ⟨0, 0, false, M, pre, Nat.zero_le _, rfl, rfl, rfl, HT.out, FrI.begin HT0.out, Fr.refl _ _⟩
  case round =>
    obtain ⟨m, f, b, M', pre', hm, rfl, rfl, rfl, hTr, hI, hF⟩ := hrel
    have HTr : Hid (TrM wr g M' pre') := hTr
    have HF : Hid (Fr (fun k => k = g) w wr) := hF
    have HI : Hid (FrI M pre row m M' pre' f b) := hI
    have hMl : M'.length ≤ 1004398046511104 := by have := hI.len; omega
    have hfl : f ≤ M'.length := hI.fl
    clear hTr hI
    rcases Nat.lt_or_ge m row.length with hlt | hge
    · obtain ⟨rb, off, rfl, hc⟩ : ∃ rb off, a = some ⟨rb, off, none⟩ ∧ ∀ i, i < row.length → w.cell? ⟨rb, off + i * 3, none⟩ = some (.int .i64 (kAt row i)) ∧ w.cell? ⟨rb, off + i * 3 + 1, none⟩ = some (.int .i64 (nAt row i)) ∧ w.cell? ⟨rb, off + i * 3 + 2, none⟩ = some (.string (tAt row i)) := by
        rcases HR.out with h | h
        · omega
        · exact h
      have hne : ¬ rb = g := HRG.out rb off rfl
      have c0 := hF.cell hne (hc m hlt).1
      have c1 := hF.cell hne (hc m hlt).2.1
      have c2 := hF.cell hne (hc m hlt).2.2
      clear hc hF
      have hb1 : Below wr.heap.size wr (wr.alloc (Obj.cells #[.int .i64 (kAt row m), .int .i64 (nAt row m), .string (tAt row m)] 46)) := (Below.refl _ _).alloc (Nat.le_refl _) _
      have HB1 : Hid (Below wr.heap.size wr (wr.alloc (Obj.cells #[.int .i64 (kAt row m), .int .i64 (nAt row m), .string (tAt row m)] 46))) := hb1
      have hlk := (HTr.out.below hb1).look f (kAt row m, nAt row m, tAt row m)
      have hrb := cell_lt c0
      cases hcs : lk M' ((f : Int), (kAt row m, nAt row m, tAt row m)) with
      | some t =>
        obtain ⟨t', rfl, hI2⟩ := HI.out.found HT0.out HTr.out.2 hlt hcs
        have HI2 : Hid (FrI M pre row (m + 1) M' pre' t' b) := hI2
        rw [hcs] at hlk
        simp only [Option.map_some, Option.getD_some, Option.isSome_some, itE] at hlk
        clear hcs hI2 hb1
        go_wp2
        go_roundw
        case rel => exact ⟨m + 1, t', b, M', pre', by omega, rfl, rfl, by go_num, HTr.out.below HB1.out, HI2.out, HF.out.step HB1.out⟩
        case measure => simp [intOf]; omega
      | none =>
        have HI2 : Hid _ := HI.out.fresh HTr.out.2 hlt hcs
        rw [hcs] at hlk
        simp only [Option.map_none, Option.getD_none, Option.isSome_none] at hlk
        obtain ⟨es, clk, hp, hTn⟩ := (HTr.out.below hb1).put (f := f) (v := (kAt row m, nAt row m, tAt row m)) hfl hcs
        have hsz := (HTr.out.below hb1).size
        have hcast : ((M'.length + 1 : Nat) : Int) = (M'.length : Int) + 1 := by omega
        rw [hcast] at hp
        clear hcast
        have HTn : Hid _ := hTn
        have HF2 : Hid (Fr (fun k => k = g) w (setBlock (wr.alloc (Obj.cells #[.int .i64 (kAt row m), .int .i64 (nAt row m), .string (tAt row m)] 46)) g (.map es clk))) := (HF.out.step hb1).setBlock rfl _
        clear hcs hTn hb1
        go_wp2
        go_roundw
        case rel => exact ⟨m + 1, M'.length + 1, true, _, _, by omega, by go_num, rfl, by go_num, HTn.out, HI2.out, HF2.out⟩
        case measure => simp [intOf]; omega
    · obtain rfl : m = row.length := by omega
      have HN : Hid (b = true ↔ ¬ Known M pre row) := by
        have := HI.out.bt
        rwa [List.take_of_length_le (Nat.le_refl _)] at this
      go_wp2
      go_ret
      exact ⟨b, M', pre', rfl, HTr.out, HI.out.len, HF.out, HN.out, HI.out.kn⟩
end Go.Proofs.YtfjpdflilmcnhaaDoor

/- A row's values at columns (valuesAt). -/
namespace Go.Proofs.YtfjpdflilmcnhaaDoor
open Go.ChangeShapes Go.WideShapes Go.ChangeAt Go.RowKit

/-- The values of a row at columns. -/
def keyP (r : List Val) (zs : List Int) : List Val := zs.map fun z => vAt r z.toNat
def vT (v : Val) : List Value := [.int .i64 v.1, .int .i64 v.2.1, .string v.2.2]
theorem rwC_flat (l : List Val) : rwC l = l.flatMap vT := by
  have h : ∀ n (l : List Val), l.length = n → rwC l = l.flatMap vT := by
    intro n
    induction n with
    | zero => intro l hl; rw [List.length_eq_zero_iff.1 hl]; rfl
    | succ n ih =>
      intro l hl
      rcases List.eq_nil_or_concat l with h | ⟨l', v, h⟩
      · subst h; rfl
      · rw [List.concat_eq_append] at h
        subst h
        rw [rwC_snoc, ih l' (by simpa using hl), List.flatMap_append]
        simp [vT]
  exact h _ l rfl
theorem rwC_set (l : List Val) (i : Nat) (h : i < l.length) (x : Val) : rwC (l.set i x) = (((rwC l).set (i * 3) (.int .i64 x.1)).set (i * 3 + 1) (.int .i64 x.2.1)).set (i * 3 + 2) (.string x.2.2) := by
  rw [rwC_flat, rwC_flat]
  induction l generalizing i with
  | nil => simp at h
  | cons y l ih =>
    cases i with
    | zero => rw [List.set_cons_zero, List.flatMap_cons, List.flatMap_cons]; rfl
    | succ i =>
      rw [List.set_cons_succ, List.flatMap_cons, List.flatMap_cons, ih i (by simpa using h), show (i + 1) * 3 = i * 3 + 1 + 1 + 1 by omega, show i * 3 + 1 + 1 + 1 + 1 = (i * 3 + 1) + 1 + 1 + 1 by omega, show i * 3 + 1 + 1 + 1 + 2 = (i * 3 + 2) + 1 + 1 + 1 by omega]
      rfl
theorem rwC_made (n : Nat) : (madeCells #[.int .i64 0, .int .i64 0, .string ⟨#[]⟩] (n * 3)).toList = rwC (List.replicate n dv) := by
  rw [rwC_flat]
  induction n with
  | zero => simp [madeCells]
  | succ n ih =>
    rw [List.replicate_succ', List.flatMap_append, ← ih]
    unfold madeCells
    rw [show (n + 1) * 3 = n * 3 + 1 + 1 + 1 by omega]
    simp only [Array.toList_map, Array.toList_range, List.range_succ, List.map_append, List.map_cons, List.map_nil, List.append_assoc]
    congr 1
    have e0 : (n * 3) % (#[Value.int .i64 0, .int .i64 0, .string ⟨#[]⟩] : Array Value).size = 0 := by show n * 3 % 3 = 0; omega
    have e1 : (n * 3 + 1) % (#[Value.int .i64 0, .int .i64 0, .string ⟨#[]⟩] : Array Value).size = 1 := by show (n * 3 + 1) % 3 = 1; omega
    have e2 : (n * 3 + 1 + 1) % (#[Value.int .i64 0, .int .i64 0, .string ⟨#[]⟩] : Array Value).size = 2 := by show (n * 3 + 1 + 1) % 3 = 2; omega
    rw [e0, e1, e2]; rfl
set_option maxRecDepth 20000 in
set_option maxHeartbeats 8000000 in
theorem valuesAt_any (a za : Option Addr) (cap zcap : Nat) (r : List Val) (zs : List Int) (w : World) (hz : NsAt w za zs) (hr : RowAt w a r) (hn : zs.length ≤ 4398046511104) (hz0 : ∀ z ∈ zs, 0 ≤ z ∧ z ≤ 9223372036854775807) :
    Calls Tryd.prog 56 #[.slice a r.length cap, .slice za zs.length zcap] w fun e w' => ∃ a' cap', e = .returned (.slice a' (keyP r zs).length cap') ∧ RowAt w' a' (keyP r zs) ∧ (∀ g o, a' = some ⟨g, o, none⟩ → w.heap.size ≤ g) ∧ Below w.heap.size w w' := by
  obtain ⟨i0, hi, hz1⟩ := Option.map_eq_some_iff.1 info46
  simp only [Prod.mk.injEq] at hz1
  obtain ⟨hzz, hs, hb3⟩ := hz1
  obtain ⟨n, hnn⟩ : ∃ n, zs.length = n := ⟨_, rfl⟩
  have HN : Hid (zs.length = n) := hnn
  rw [hnn] at hn ⊢
  have HR : Hid (RowAt w a r) := hr
  have HZ : Hid (NsAt w za zs) := hz
  have HZ0 : Hid (∀ z ∈ zs, 0 ≤ z ∧ z ≤ 9223372036854775807) := hz0
  clear hr hz hz0 hnn
  go_enter Tryd.func56, Tryd.ntmps56
  go_wp2_with (at_make; refine wpList_make_full _ rfl _ _ 38 rfl w.heap.size 46 i0 (.agg #[.int .i64 0, .int .i64 0, .string ⟨#[]⟩]) 3 Tryd.underlying38 hi hzz hs .i64 .i64 _ _ n rfl rfl rfl rfl (by rw [hb3]; omega) (by unfold maxLen; omega) (Nat.le_refl _) ?_)
  intro w1 hown hgrow
  have HO : Hid (w1.ownsRow w.heap.size 46 3 (.slice (some ⟨w.heap.size, 0, none⟩) n n) n (rwC (List.replicate n dv))) := by
    rw [rwC_made] at hown
    exact hown
  have HB1 : Bel w.heap.size w w1 := by
    have h := (Below.refl w.heap.size w).grown hgrow (Nat.le_refl _) (fun _ h => by cases h)
    exact ⟨h, h.size⟩
  clear hown hgrow hi hzz hs hb3 i0
  go_wp2
  go_loopw [13] (fun i wr => ∃ (m : Nat) (o : List Val), m ≤ n ∧ i = .int .i64 m ∧ o.length = n ∧ o.take m = (keyP r zs).take m ∧ wr.ownsRow w.heap.size 46 3 (.slice (some ⟨w.heap.size, 0, none⟩) n n) n (rwC o) ∧ Bel w.heap.size w wr) (fun i _ => n - (intOf i).toNat)
  case atStart => exact ⟨0, _, Nat.zero_le _, rfl, by simp, by simp, HO.out, HB1⟩
  case round =>
    obtain ⟨m, o, hm, rfl, hol, hok, hO, HB⟩ := hrel
    have HO2 : Hid (wr.ownsRow w.heap.size 46 3 (.slice (some ⟨w.heap.size, 0, none⟩) n n) n (rwC o)) := hO
    have HOK : Hid (o.take m = (keyP r zs).take m) := hok
    have HBH : Hid (Bel w.heap.size w wr) := HB
    clear hok HB1 HO
    rcases Nat.lt_or_ge m n with hlt | hge
    · obtain ⟨zb, zo, rfl, hzc⟩ : ∃ b off, za = some ⟨b, off, none⟩ ∧ ∀ i, i < zs.length → w.cell? ⟨b, off + i, none⟩ = some (.int .i64 (zs[i]?.getD 0)) := by
        rcases HZ.out with h | h
        · rw [h] at HN; have := HN.out; simp at this; omega
        · exact h
      have hml : m < zs.length := by have := HN.out; omega
      have hzm : zs[m]?.getD 0 = zs[m] := by rw [List.getElem?_eq_getElem hml]; rfl
      have z1 := cell_below HB.out (hzc m hml)
      rw [hzm] at z1
      obtain ⟨q0, q1⟩ := HZ0.out _ (List.getElem_mem hml)
      obtain ⟨c, hc⟩ : ∃ c : Nat, zs[m] = c := ⟨zs[m].toNat, by omega⟩
      have hkm : (keyP r zs)[m]? = some (vAt r c) := by
        unfold keyP
        rw [List.getElem?_map, List.getElem?_eq_getElem hml]
        simp [hc]
      have hcall := fun wx (hb : Below w.heap.size w wx) => valueAt_any a cap c r wx (HR.out.below hb) (by omega)
      rw [hc] at z1
      have HKM : Hid ((keyP r zs)[m]? = some (vAt r c)) := hkm
      clear hzc hzm q0 q1 hkm hc hO
      go_wp2_with fail
      refine (hcall _ HB.out).mono ?_
      rintro e w2 ⟨rfl, hb2⟩
      have hO3 := owns_below HO2.out hb2
      obtain ⟨x, hx⟩ : ∃ x, vAt r c = x := ⟨_, rfl⟩
      rw [hx] at HKM ⊢
      have f0 := hO3.frozenAt (m * 3)
      have f1 := hO3.frozenAt (m * 3 + 1)
      have f2 := hO3.frozenAt (m * 3 + 2)
      have hol3 := rwC_len o
      have c0 := hO3.cellAt (m * 3) (by omega)
      have c1 := hO3.cellAt (m * 3 + 1) (by omega)
      have c2 := hO3.cellAt (m * 3 + 2) (by omega)
      rw [List.getElem?_eq_getElem (by omega)] at c0 c1 c2
      have HB2 : Hid (Bel w.heap.size w w2) := HB.step hb2
      have HO4 : Hid (World.ownsRow (((w2.setCell ⟨w.heap.size, m * 3, none⟩ (.int .i64 x.1)).setCell ⟨w.heap.size, m * 3 + 1, none⟩ (.int .i64 x.2.1)).setCell ⟨w.heap.size, m * 3 + 2, none⟩ (.string x.2.2)) w.heap.size 46 3 (.slice (some ⟨w.heap.size, 0, none⟩) n n) n (rwC (o.set m x))) := by
        rw [rwC_set o m (by omega)]
        exact (((hO3.stored (m * 3) (.int .i64 x.1)).1.stored (m * 3 + 1) (.int .i64 x.2.1)).1.stored (m * 3 + 2) (.string x.2.2)).1
      clear hcall hb2 hO3 HO2 hx HB
      obtain ⟨xk, xn, xt⟩ := x
      unfold vlE
      go_wp2
      go_roundw
      case rel => exact ⟨m + 1, o.set m (xk, xn, xt), by omega, by go_num, by simpa using hol, by
        rw [List.take_succ_eq_append_getElem (by simpa using (show m < o.length by omega)), List.take_set_of_le (Nat.le_refl _), HOK.out, List.getElem_set_self]
        have hlk : m < (keyP r zs).length := (List.getElem?_eq_some_iff.1 HKM.out).1
        rw [List.take_succ_eq_append_getElem hlk, (List.getElem?_eq_some_iff.1 HKM.out).2], HO4.out, ((HB2.out.setCell (p := ⟨w.heap.size, m * 3, none⟩) (Nat.le_refl _) _).setCell (p := ⟨w.heap.size, m * 3 + 1, none⟩) (Nat.le_refl _) _).setCell (p := ⟨w.heap.size, m * 3 + 2, none⟩) (Nat.le_refl _) _⟩
      case measure => simp [intOf]; omega
    · obtain rfl : m = n := by omega
      have hkl : (keyP r zs).length = m := by unfold keyP; rw [List.length_map]; exact HN.out
      have hok : o = keyP r zs := by
        have := HOK.out
        rw [List.take_of_length_le (by omega), List.take_of_length_le (by omega)] at this
        exact this
      have hfin := row_of_owns (r := keyP r zs) (vv := .slice (some ⟨w.heap.size, 0, none⟩) m m) (w := wr) (base := w.heap.size) (by rw [hkl, ← hok]; exact HO2.out)
      have HF : Hid _ := hfin
      have HBO : Hid (Below w.heap.size w wr) := HB.out
      clear hfin hkl hok hO HB
      go_wp2
      go_ret
      obtain ⟨a', cap', e, h1, h2⟩ := HF.out
      exact ⟨a', cap', congrArg Ending.returned e, h1, fun g o' hg => (h2 g o' hg).1, HBO.out⟩
end Go.Proofs.YtfjpdflilmcnhaaDoor

/- What came and what went, of the code (Diff). -/
namespace Go.Proofs.YtfjpdflilmcnhaaDoor
open Go.ChangeShapes Go.WideShapes Go.ChangeAt Go.RowKit

def mns (l gone : List Arv) : List Arv := l.filter fun x => !hasS gone x.seq
theorem info49 : (Tryd.prog.info? 49).map (fun i => (i.zero, i.size, i.bytes)) = some (some (.agg #[.slice none 0 0, .slice none 0 0]), 2, 48) := by kernel_rfl
theorem fr_set (w : World) (g j : Nat) (v : Value) : Fr (fun k => k = g) w (w.setCell ⟨g, j, none⟩ v) := (Fr.refl (fun k => k = g) w).setCell (p := ⟨g, j, none⟩) (Or.inl rfl) _
theorem ars_fr {w w' : World} {g B : Nat} {a : Option Addr} {o : List Arv} (h : ArsAt w a o) (hF : Fr (fun k => k = g) w w') (hf : FromA B a o) (hg : g < B) : ArsAt w' a o := by
  refine ⟨?_, fun x hx => hF.vals (h.rows x hx) (fun g' f e => fun e2 => by have := hf.2 x hx g' f e; omega)⟩
  rcases h.cels with h | ⟨b, off, ha, hc⟩
  · exact Or.inl h
  · have hb : ¬ b = g := by have := hf.1 b off ha; omega
    exact Or.inr ⟨b, off, ha, fun i hi => ⟨hF.cell hb (hc i hi).1, hF.cell hb (hc i hi).2.1, hF.cell hb (hc i hi).2.2⟩⟩
set_option maxHeartbeats 8000000 in
theorem Diff_any (a b : Option Addr) (cap bcap : Nat) (l k : List Arv) (w : World) (hn : l.length ≤ 4000000) (hn2 : k.length ≤ 4000000) (hby : ∀ x ∈ l, x.row.length * 32 ≤ 140737488355328) (hby2 : ∀ x ∈ k, x.row.length * 32 ≤ 140737488355328)
    (hl : ArsAt w a l) (hk : ArsAt w b k) :
    Calls Tryd.prog 16 #[.slice a l.length cap, .slice b k.length bcap] w fun e w' => ∃ a' o b' q, e = .returned (.agg #[.slice a' o.length o.length, .slice b' q.length q.length]) ∧ o.map kA = (mns k l).map kA ∧ q.map kA = (mns l k).map kA ∧ ArsAt w' a' o ∧ ArsAt w' b' q ∧ Below w.heap.size w w' := by
  have h1 := fun wx (hb : Below w.heap.size w wx) => without_any b a bcap cap k l wx hn2 hn hby2 (hk.below hb) (hl.below hb).cels
  have h2 := fun wx (hb : Below w.heap.size w wx) => without_any a b cap bcap l k wx hn hn2 hby (hl.below hb) (hk.below hb).cels
  clear hl hk hby hby2
  go_enter Tryd.func16, Tryd.ntmps16
  go_wp2_with fail
  refine (h1 _ (Bel.out (by repeat (first | exact Bel.refl _ | assumption | refine Bel.drew ?_ | refine Bel.drewN ?_ _ | refine Bel.alloc ?_ _ | refine Bel.setCell ?_ (by simp <;> omega) _ | refine Bel.step ?_ (by assumption))))).mono ?_
  rintro e w1 ⟨a', o, rfl, hk1, hA1, hF1, hb1⟩
  have HF1 : Hid (FromA (w.heap.size + 1) a' o) := by have h := hF1; rw [World.size_alloc] at h; exact h
  have HK1 : Hid _ := hk1
  have HA1 : Hid _ := hA1
  have HB1 : Hid (Below w.heap.size w w1) := ((Below.refl w.heap.size w).alloc (Nat.le_refl _) _).trans (hb1.mono (by simp))
  have x0 : w1.cell? ⟨w.heap.size, 0, none⟩ = some (.slice none 0 0) := cell_below hb1 (by go_simp)
  have x1 : w1.cell? ⟨w.heap.size, 1, none⟩ = some (.slice none 0 0) := cell_below hb1 (by go_simp)
  have f0 : w1.frozen? ⟨w.heap.size, 0, none⟩ = false := (hb1.frozen (p := ⟨w.heap.size, 0, none⟩) (by simp)).trans (by go_simp)
  have f1 : w1.frozen? ⟨w.heap.size, 1, none⟩ = false := (hb1.frozen (p := ⟨w.heap.size, 1, none⟩) (by simp)).trans (by go_simp)
  have HGE : Hid (w.heap.size < w1.heap.size) := cell_lt x0
  obtain ⟨g, hg⟩ : ∃ g, w.heap.size = g := ⟨_, rfl⟩
  have HG : Hid (w.heap.size = g) := hg
  clear hk1 hA1 hb1 h1 hF1
  rw [hg] at x0 x1 f0 f1 HF1 HGE ⊢
  clear hg
  go_wp2_with fail
  refine (h2 _ HB1.out).mono ?_
  rintro e w2 ⟨b', q, rfl, hk2, hA2, hF2, hb2⟩
  have HF2 : Hid (FromA w1.heap.size b' q) := hF2
  have HK2 : Hid _ := hk2
  have HA2 : Hid _ := hA2
  have y0 := cell_below hb2 x0
  have y1 := cell_below hb2 x1
  have e0 : w2.frozen? ⟨g, 0, none⟩ = false := (hb2.frozen (p := ⟨g, 0, none⟩) (cell_lt x0)).trans f0
  have e1 : w2.frozen? ⟨g, 1, none⟩ = false := (hb2.frozen (p := ⟨g, 1, none⟩) (cell_lt x1)).trans f1
  have HA1' : Hid (ArsAt w2 a' o) := HA1.out.below hb2
  have HB2 : Hid (Below w.heap.size w w2) := HB1.out.trans (hb2.mono HB1.out.size)
  clear hk2 hA2 hb2 hF2 x0 x1 f0 f1 h2 HA1 HB1
  go_wp2
  have hFr := (fr_set w2 g 0 (Value.slice a' o.length o.length)).trans (fr_set (w2.setCell ⟨g, 0, none⟩ (Value.slice a' o.length o.length)) g 1 (Value.slice b' q.length q.length))
  have t0 : ((w2.setCell ⟨g, 0, none⟩ (Value.slice a' o.length o.length)).setCell ⟨g, 1, none⟩ (Value.slice b' q.length q.length)).cell? ⟨g, 0, none⟩ = some (.slice a' o.length o.length) := by go_simp
  have t1 : ((w2.setCell ⟨g, 0, none⟩ (Value.slice a' o.length o.length)).setCell ⟨g, 1, none⟩ (Value.slice b' q.length q.length)).cell? ⟨g, 1, none⟩ = some (.slice b' q.length q.length) := by go_simp
  refine bodyPost_ret (v := .agg #[.slice a' o.length o.length, .slice b' q.length q.length]) (by simp [results, Tryd.results16, go_sem, t0, t1]) rfl ⟨a', o, b', q, rfl, HK1.out, HK2.out, ars_fr HA1'.out hFr HF1.out (by omega), ars_fr HA2.out hFr HF2.out HGE.out, hFr.below (a := w) (B := w.heap.size) HB2.out.size (fun k hk => by have := HG.out; omega) HB2.out⟩
end Go.Proofs.YtfjpdflilmcnhaaDoor
