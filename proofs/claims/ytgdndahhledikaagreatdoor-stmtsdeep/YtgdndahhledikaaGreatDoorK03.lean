/- Tx, Pr. -/
import Derived.Test.YtgdndahhledikaaGreatDoorK02
namespace Go.Proofs.YtgdndahhledikaaGreatDoor
open Go.ChangeShapes Go.WideShapes Go.ChangeAt Go.RowKit
set_option linter.unusedSimpArgs false
set_option maxRecDepth 20000
set_option maxHeartbeats 4000000
def rbT : (n M : Nat) → n ≤ M → Tr n → Tr M
 | 0, _, _, x => Empty.elim x
 | _ + 1, 0, h, _ => absurd h (by omega)
 | n + 1, M + 1, h, x => (kd (n + 1) x, tx (n + 1) x, nu (n + 1) x, pl (n + 1) x, (ks (n + 1) x).map (rbT n M (Nat.le_of_succ_le_succ h)))
theorem rbT_kd : ∀ (n M : Nat) (h : n ≤ M) (x : Tr n), kd M (rbT n M h x) = kd n x
 | 0, _, _, x => Empty.elim x
 | _ + 1, 0, h, _ => absurd h (by omega)
 | _ + 1, _ + 1, _, _ => rfl
theorem rbT_tx : ∀ (n M : Nat) (h : n ≤ M) (x : Tr n), tx M (rbT n M h x) = tx n x
 | 0, _, _, x => Empty.elim x
 | _ + 1, 0, h, _ => absurd h (by omega)
 | _ + 1, _ + 1, _, _ => rfl
theorem rbT_nu : ∀ (n M : Nat) (h : n ≤ M) (x : Tr n), nu M (rbT n M h x) = nu n x
 | 0, _, _, x => Empty.elim x
 | _ + 1, 0, h, _ => absurd h (by omega)
 | _ + 1, _ + 1, _, _ => rfl
theorem rbT_pl : ∀ (n M : Nat) (h : n ≤ M) (x : Tr n), pl M (rbT n M h x) = pl n x
 | 0, _, _, x => Empty.elim x
 | _ + 1, 0, h, _ => absurd h (by omega)
 | _ + 1, _ + 1, _, _ => rfl
theorem rbT_len : ∀ (n M : Nat) (h : n ≤ M) (x : Tr n), (ks M (rbT n M h x)).length = (ks n x).length
 | 0, _, _, x => Empty.elim x
 | _ + 1, 0, h, _ => absurd h (by omega)
 | n + 1, M + 1, h, x => by
  show ((ks (n + 1) x).map _).length = _
  rw [List.length_map]
theorem rbT_F {lo : Nat} {w : World} : ∀ (n M : Nat) (h : n ≤ M) (x : Tr n) (sl : Option Addr), NdF lo w n x sl → NdF lo w M (rbT n M h x) sl
 | 0, _, _, x, _, _ => Empty.elim x
 | _ + 1, 0, h, _, _, _ => absurd h (by omega)
 | n + 1, M + 1, h, x, sl, hF => by
  obtain ⟨hl, hF⟩ := hF
  have e : ks (M + 1) (rbT (n + 1) (M + 1) h x) = (ks (n + 1) x).map (rbT n M (Nat.le_of_succ_le_succ h)) := rfl
  refine ⟨by rw [e, List.length_map]; exact hl, ?_⟩
  rcases hF with h0 | ⟨b, off, rfl, hb, hc⟩
  · exact Or.inl (by rw [e, h0]; rfl)
  ·
   refine Or.inr ⟨b, off, rfl, hb, fun i y hi => ?_⟩
   rw [e, List.getElem?_map] at hi
   obtain ⟨z, hz, rfl⟩ := Option.map_eq_some_iff.1 hi
   obtain ⟨s, c, hcs, hp⟩ := hc i z hz
   refine ⟨s, c, ?_, rbT_F n M _ z s hp⟩
   rw [rbT_kd, rbT_tx, rbT_nu, rbT_pl, rbT_len]
   exact hcs
abbrev X := (n : Nat) × Tr n
def xk (x : X) : Int := kd x.1 x.2
def xt (x : X) : List UInt8 := tx x.1 x.2
def xn (x : X) : Int := nu x.1 x.2
def xa (x : X) : Int := pl x.1 x.2
def xl (x : X) : Nat := (ks x.1 x.2).length
def mxB (l : List X) : Nat := l.foldr (fun x m => max x.1 m) 0
theorem mxB_le {l : List X} {x : X} (h : x ∈ l) : x.1 ≤ mxB l := by
 induction l with
 | nil => cases h
 | cons y l ih =>
  show _ ≤ max y.1 (mxB l)
  rcases List.mem_cons.1 h with rfl | h
  · omega
  · have := ih h; omega
def rbX (M : Nat) (x : X) : Option (Tr M) := if h : x.1 ≤ M then some (rbT x.1 M h x.2) else none
def mkX (k : Int) (t : List UInt8) (m a : Int) (l : List X) : X := ⟨mxB l + 1, (k, t, m, a, l.filterMap (rbX (mxB l)))⟩
theorem fm_all {α β : Type} (f : α → Option β) : ∀ (l : List α), (∀ x ∈ l, (f x).isSome = true) → (l.filterMap f).length = l.length ∧ ∀ (i : Nat) (x : α), l[i]? = some x → (l.filterMap f)[i]? = f x
 | [], _ => ⟨rfl, fun i x h => by simp at h⟩
 | y :: l, h => by
  obtain ⟨z, hz⟩ := Option.isSome_iff_exists.1 (h y (by simp))
  obtain ⟨h1, h2⟩ := fm_all f l (fun x hx => h x (by simp [hx]))
  rw [List.filterMap_cons_some hz]
  refine ⟨by rw [List.length_cons, List.length_cons, h1], fun i x hi => ?_⟩
  cases i with
  | zero =>
   simp only [List.getElem?_cons_zero, Option.some.injEq] at hi ⊢
   rw [← hi, hz]
  | succ i =>
   simp only [List.getElem?_cons_succ] at hi ⊢
   exact h2 i x hi
theorem rbX_some {l : List X} {x : X} (h : x ∈ l) : rbX (mxB l) x = some (rbT x.1 (mxB l) (mxB_le h) x.2) := by unfold rbX; rw [dif_pos (mxB_le h)]
theorem mkX_all (l : List X) : ∀ x ∈ l, (rbX (mxB l) x).isSome = true := fun x h => by rw [rbX_some h]; rfl
theorem mkX_len (k : Int) (t : List UInt8) (m a : Int) (l : List X) : xl (mkX k t m a l) = l.length := (fm_all _ l (mkX_all l)).1
def xV (x : X) (s : Option Addr) (c : Nat) : Value := nV (xk x) (xt x) (xn x) (xa x) (.slice s (xl x) c)
def XAt (lo : Nat) (w : World) (x : X) (s : Option Addr) : Prop := NdF lo w x.1 x.2 s
theorem XAt.below {lo : Nat} {w w' : World} {x : X} {s : Option Addr} (h : XAt lo w x s) (hb : Below w.heap.size w w') : XAt lo w' x s := NdF.below hb h
theorem XAt.fx {rb : Nat} {w w' : World} {x : X} {s : Option Addr} (h : XAt (rb + 1) w x s) (hf : Fx rb w w') : XAt (rb + 1) w' x s := NdF.keep (Nat.le_refl _) (fun b hb hlt => hf.blk b hlt (by omega)) h
def XsAt (lo : Nat) (w : World) (g : Nat) (l : List X) : Prop := (lo ≤ g ∧ ∀ j, w.frozen? ⟨g, j, none⟩ = false) ∧ ∀ i x, l[i]? = some x → ∃ s c, (w.cell? ⟨g, i * 5, none⟩ = some (.int .i64 (xk x)) ∧ w.cell? ⟨g, i * 5 + 1, none⟩ = some (.string (bsA (xt x))) ∧ w.cell? ⟨g, i * 5 + 2, none⟩ = some (.int .i64 (xn x)) ∧ w.cell? ⟨g, i * 5 + 3, none⟩ = some (.int .i64 (xa x)) ∧ w.cell? ⟨g, i * 5 + 4, none⟩ = some (.slice s (xl x) c)) ∧ XAt lo w x s
theorem mkX_at {lo : Nat} {w : World} {g : Nat} {l : List X} (k : Int) (t : List UInt8) (m a : Int) (h : XsAt lo w g l) (hl : l.length ≤ 9223372036854775807) : XAt lo w (mkX k t m a l) (some ⟨g, 0, none⟩) := by
 obtain ⟨hg, hc⟩ := h
 have hA := fm_all (rbX (mxB l)) l (mkX_all l)
 refine ⟨by show (l.filterMap _).length ≤ _; rw [hA.1]; exact hl, Or.inr ⟨g, 0, rfl, ⟨hg.1, rfl, hg.2⟩, fun i y hi => ?_⟩⟩
 change (l.filterMap (rbX (mxB l)))[i]? = some y at hi
 have hlt : i < l.length := by
  have := (List.getElem?_eq_some_iff.1 hi).1
  rw [hA.1] at this
  exact this
 have hx := List.getElem?_eq_getElem hlt
 rw [hA.2 i _ hx, rbX_some (List.getElem_mem hlt)] at hi
 obtain rfl := Option.some.inj hi
 obtain ⟨s, c, hcs, hp⟩ := hc i _ hx
 refine ⟨s, c, ?_, rbT_F _ _ _ _ s hp⟩
 rw [rbT_kd, rbT_tx, rbT_nu, rbT_pl, rbT_len, Nat.zero_add]
 exact hcs
theorem mkX_at0 {lo : Nat} {w : World} (k : Int) (t : List UInt8) (m a : Int) (s : Option Addr) : XAt lo w (mkX k t m a []) s := ⟨Nat.zero_le _, Or.inl rfl⟩
theorem mkX_V (k : Int) (t : List UInt8) (m a : Int) (l : List X) (s : Option Addr) (c : Nat) : xV (mkX k t m a l) s c = nV k t m a (.slice s l.length c) := by
 unfold xV
 rw [mkX_len]
 rfl
end Go.Proofs.YtgdndahhledikaaGreatDoor
namespace Go.Proofs.YtgdndahhledikaaGreatDoor
set_option linter.unusedSimpArgs false
set_option maxRecDepth 20000
set_option maxHeartbeats 4000000
abbrev Er := Nat × Int
abbrev Rz (α : Type) := Option (Sum Er (α × Nat))
def bnd {α β : Type} (r : Rz α) (f : α → Nat → Rz β) : Rz β :=
 match r with
 | none => none
 | some (.inl e) => some (.inl e)
 | some (.inr (a, j)) => f a j
def okR {α : Type} (a : α) (j : Nat) : Rz α := some (.inr (a, j))
def noR {α : Type} (p : Nat) (e : Int) : Rz α := some (.inl (p, e))
def needP (T : List Tt) (k : Int) (t : List UInt8) (i : Nat) : Rz Tt := if isT (tkI T i) k [t] then okR (tkI T i) (i + 1) else noR i 70
def nd (k : Int) (t : Tt) (l : List X) : X := mkX k [] 0 t.2 l
def tnd (k : Int) (t : Tt) (l : List X) : X := mkX k t.1.2.1 0 t.2 l
def nnd (k : Int) (t : Tt) : X := mkX k [] t.1.2.2 t.2 []
def lineP (T : List Tt) (k : Int) (L : List (List UInt8)) (part : Nat → Rz X) : Nat → X → Nat → Rz X
 | 0, _, _ => none
 | f + 1, n, i => if isT (tkI T i) k L then bnd (part (i + 1)) fun m j => lineP T k L part f (tnd 8 (tkI T i) [n, m]) j else okR n i
def prefP (T : List Tt) (k : Int) (t : List UInt8) (operand : Nat → Nat → Rz X) : Nat → Nat → Nat → Rz X
 | 0, _, _ => none
 | f + 1, i, op => if isT (tkI T i) k [t] then (if op = 100 then noR i 71 else bnd (prefP T k t operand f (i + 1) (op + 1)) fun m j => okR (tnd 7 (tkI T i) [m]) j) else operand i op
end Go.Proofs.YtgdndahhledikaaGreatDoor
