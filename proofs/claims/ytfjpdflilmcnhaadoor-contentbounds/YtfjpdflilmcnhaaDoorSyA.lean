/- A symbolic run of a program: the ground. Values whose blocks are names (numbers of our own), and where a name lies in memory (Env). -/
import Derived.WalkKit
import Derived.Below
namespace Go.Sy
open Go.RowKit (Below)

/-- Where names lie: block, first cell, spare elements behind; and what unknown values are. -/
structure Env where
  pl : Nat → Option (Nat × Nat × Nat)
  oq : Nat → Option Value

/-- The value v' is v with each name at its place. -/
def Rn (E : Env) : Value → Value → Prop
  | .bool b, v => v = .bool b
  | .int k n, v => v = .int k n
  | .float k n, v => v = .float k n
  | .complex _ i _, v => E.oq i = some v ∧ v.oneCell' = true
  | .string s, v => v = .string s
  | .pointer none, v => v = .pointer none
  | .pointer (some a), v => ∃ p, E.pl a.block = some p ∧ v = .pointer (some ⟨p.1, p.2.1 + a.off, a.spot⟩)
  | .slice none l c, v => v = .slice none l c
  | .slice (some a) l c, v => ∃ p, E.pl a.block = some p ∧ v = .slice (some ⟨p.1, p.2.1 + a.off, a.spot⟩) l (c + p.2.2)
  | .map none, v => v = .map none
  | .map (some r), v => ∃ p, E.pl r = some p ∧ v = .map (some p.1)
  | .chan _, _ => False
  | .func fn f c, v => ∃ f' c', v = .func fn f' c' ∧ f.size = f'.size ∧ c.size = c'.size ∧ (∀ i (h : i < f.size) (h' : i < f'.size), Rn E f[i] f'[i]) ∧ (∀ i (h : i < c.size) (h' : i < c'.size), Rn E c[i] c'[i])
  | .nilFunc, v => v = .nilFunc
  | .iface t x, v => ∃ y, v = .iface t y ∧ Rn E x y
  | .nilIface, v => v = .nilIface
  | .agg cs, v => ∃ cs', v = .agg cs' ∧ cs.size = cs'.size ∧ ∀ i (h : i < cs.size) (h' : i < cs'.size), Rn E cs[i] cs'[i]
  | .tuple cs, v => ∃ cs', v = .tuple cs' ∧ cs.size = cs'.size ∧ ∀ i (h : i < cs.size) (h' : i < cs'.size), Rn E cs[i] cs'[i]

/-- Two rows of values, place by place. -/
def Rns (E : Env) (l l' : List Value) : Prop := l.length = l'.length ∧ ∀ (i : Nat) (v : Value), l[i]? = some v → ∃ v', l'[i]? = some v' ∧ Rn E v v'

theorem rns_of_arr {E : Env} {cs cs' : Array Value} (hn : cs.size = cs'.size) (h : ∀ i (h : i < cs.size) (h' : i < cs'.size), Rn E cs[i] cs'[i]) : Rns E cs.toList cs'.toList := by
  refine ⟨by simpa using hn, fun i v hv => ?_⟩
  obtain ⟨hi, rfl⟩ := List.getElem?_eq_some_iff.1 hv
  have hi' : i < cs.size := by simpa using hi
  exact ⟨cs'[i]'(by omega), by simp [hn ▸ hi'], by simpa using h i hi' (by omega)⟩

theorem arr_of_rns {E : Env} {cs cs' : Array Value} (h : Rns E cs.toList cs'.toList) : cs.size = cs'.size ∧ ∀ i (h : i < cs.size) (h' : i < cs'.size), Rn E cs[i] cs'[i] := by
  refine ⟨by simpa using h.1, fun i hi hi' => ?_⟩
  obtain ⟨v', hv', hr⟩ := h.2 i cs[i] (by simp [hi])
  have : v' = cs'[i] := by simpa [hi'] using hv'.symm
  exact this ▸ hr

theorem rn_bool {E : Env} {b v} : Rn E (.bool b) v ↔ v = .bool b := by rw [Rn]
theorem rn_int {E : Env} {k n v} : Rn E (.int k n) v ↔ v = .int k n := by rw [Rn]
theorem rn_float {E : Env} {k n v} : Rn E (.float k n) v ↔ v = .float k n := by rw [Rn]
theorem rn_opq {E : Env} {k i j v} : Rn E (.complex k i j) v ↔ E.oq i = some v ∧ v.oneCell' = true := by rw [Rn]
theorem rn_string {E : Env} {s v} : Rn E (.string s) v ↔ v = .string s := by rw [Rn]
theorem rn_nil {E : Env} {v} : Rn E (.pointer none) v ↔ v = .pointer none := by rw [Rn]
theorem rn_ptr {E : Env} {a v} : Rn E (.pointer (some a)) v ↔ ∃ p, E.pl a.block = some p ∧ v = .pointer (some ⟨p.1, p.2.1 + a.off, a.spot⟩) := by rw [Rn]
theorem rn_snil {E : Env} {l c v} : Rn E (.slice none l c) v ↔ v = .slice none l c := by rw [Rn]
theorem rn_slice {E : Env} {a l c v} : Rn E (.slice (some a) l c) v ↔ ∃ p, E.pl a.block = some p ∧ v = .slice (some ⟨p.1, p.2.1 + a.off, a.spot⟩) l (c + p.2.2) := by rw [Rn]
theorem rn_mnil {E : Env} {v} : Rn E (.map none) v ↔ v = .map none := by rw [Rn]
theorem rn_map {E : Env} {r v} : Rn E (.map (some r)) v ↔ ∃ p, E.pl r = some p ∧ v = .map (some p.1) := by rw [Rn]
theorem rn_fnil {E : Env} {v} : Rn E .nilFunc v ↔ v = .nilFunc := by rw [Rn]
theorem rn_inil {E : Env} {v} : Rn E .nilIface v ↔ v = .nilIface := by rw [Rn]
theorem rn_iface {E : Env} {t x v} : Rn E (.iface t x) v ↔ ∃ y, v = .iface t y ∧ Rn E x y := by rw [Rn]
theorem rn_agg {E : Env} {cs v} : Rn E (.agg cs) v ↔ ∃ cs', v = .agg cs' ∧ Rns E cs.toList cs'.toList := by
  rw [Rn]
  constructor
  · rintro ⟨cs', h, a, b⟩; exact ⟨cs', h, rns_of_arr a b⟩
  · rintro ⟨cs', h, a⟩; exact ⟨cs', h, arr_of_rns a⟩
theorem rn_tuple {E : Env} {cs v} : Rn E (.tuple cs) v ↔ ∃ cs', v = .tuple cs' ∧ Rns E cs.toList cs'.toList := by
  rw [Rn]
  constructor
  · rintro ⟨cs', h, a, b⟩; exact ⟨cs', h, rns_of_arr a b⟩
  · rintro ⟨cs', h, a⟩; exact ⟨cs', h, arr_of_rns a⟩
theorem rn_func {E : Env} {fn f c v} : Rn E (.func fn f c) v ↔ ∃ f' c', v = .func fn f' c' ∧ Rns E f.toList f'.toList ∧ Rns E c.toList c'.toList := by
  rw [Rn]
  constructor
  · rintro ⟨f', c', h, a, b, x, y⟩; exact ⟨f', c', h, rns_of_arr a x, rns_of_arr b y⟩
  · rintro ⟨f', c', h, a, b⟩; exact ⟨f', c', h, (arr_of_rns a).1, (arr_of_rns b).1, (arr_of_rns a).2, (arr_of_rns b).2⟩

/-- More names, all old ones where they were. -/
structure Le (E E' : Env) : Prop where
  pl : ∀ i p, E.pl i = some p → E'.pl i = some p
  oq : ∀ i v, E.oq i = some v → E'.oq i = some v

theorem Le.refl (E : Env) : Le E E := ⟨fun _ _ h => h, fun _ _ h => h⟩
theorem Le.trans {A B C : Env} (h : Le A B) (k : Le B C) : Le A C := ⟨fun i p x => k.pl i p (h.pl i p x), fun i p x => k.oq i p (h.oq i p x)⟩

theorem Rn.up {E E' : Env} (h : Le E E') : ∀ (v : Value) {v' : Value}, Rn E v v' → Rn E' v v'
  | .bool b, v', r => by rw [rn_bool] at *; exact r
  | .int k n, v', r => by rw [rn_int] at *; exact r
  | .float k n, v', r => by rw [rn_float] at *; exact r
  | .complex _ i _, v', r => by rw [rn_opq] at *; exact ⟨h.oq _ _ r.1, r.2⟩
  | .string s, v', r => by rw [rn_string] at *; exact r
  | .pointer none, v', r => by rw [rn_nil] at *; exact r
  | .pointer (some a), v', r => by rw [rn_ptr] at *; obtain ⟨p, x, y⟩ := r; exact ⟨p, h.pl _ _ x, y⟩
  | .slice none l c, v', r => by rw [rn_snil] at *; exact r
  | .slice (some a) l c, v', r => by rw [rn_slice] at *; obtain ⟨p, x, y⟩ := r; exact ⟨p, h.pl _ _ x, y⟩
  | .map none, v', r => by rw [rn_mnil] at *; exact r
  | .map (some _), v', r => by rw [rn_map] at *; obtain ⟨p, x, y⟩ := r; exact ⟨p, h.pl _ _ x, y⟩
  | .chan _, v', r => by rw [Rn] at r; exact r.elim
  | .func fn f c, v', r => by
    rw [Rn] at *
    obtain ⟨f', c', e, a, b, x, y⟩ := r
    exact ⟨f', c', e, a, b, fun i hi hi' => Rn.up h f[i] (x i hi hi'), fun i hi hi' => Rn.up h c[i] (y i hi hi')⟩
  | .nilFunc, v', r => by rw [rn_fnil] at *; exact r
  | .iface t x, v', r => by rw [rn_iface] at *; obtain ⟨y, e, q⟩ := r; exact ⟨y, e, Rn.up h x q⟩
  | .nilIface, v', r => by rw [rn_inil] at *; exact r
  | .agg cs, v', r => by
    rw [Rn] at *
    obtain ⟨cs', e, a, x⟩ := r
    exact ⟨cs', e, a, fun i hi hi' => Rn.up h cs[i] (x i hi hi')⟩
  | .tuple cs, v', r => by
    rw [Rn] at *
    obtain ⟨cs', e, a, x⟩ := r
    exact ⟨cs', e, a, fun i hi hi' => Rn.up h cs[i] (x i hi hi')⟩

theorem Rns.up {E E' : Env} (h : Le E E') {l l' : List Value} (r : Rns E l l') : Rns E' l l' :=
  ⟨r.1, fun i v hv => let ⟨v', a, b⟩ := r.2 i v hv; ⟨v', a, b.up h⟩⟩

theorem Rns.nil {E : Env} : Rns E [] [] := ⟨rfl, fun i v h => by simp at h⟩
theorem Rns.cons {E : Env} {v v' l l'} (h : Rn E v v') (k : Rns E l l') : Rns E (v :: l) (v' :: l') := by
  refine ⟨by simp [k.1], fun i u hu => ?_⟩
  cases i with
  | zero => simp at hu; subst hu; exact ⟨v', rfl, h⟩
  | succ i => simpa using k.2 i u (by simpa using hu)
theorem Rns.inv_nil {E : Env} {l'} (h : Rns E [] l') : l' = [] := by
  have := h.1; simp at this; exact List.eq_nil_of_length_eq_zero this.symm
theorem Rns.inv_cons {E : Env} {v l l'} (h : Rns E (v :: l) l') : ∃ v' m, l' = v' :: m ∧ Rn E v v' ∧ Rns E l m := by
  cases l' with
  | nil => have := h.1; simp at this
  | cons v' m =>
    refine ⟨v', m, rfl, ?_, by simpa using h.1, fun i u hu => ?_⟩
    · obtain ⟨x, hx, r⟩ := h.2 0 v rfl; simp at hx; exact hx ▸ r
    · simpa using h.2 (i + 1) u (by simpa using hu)
theorem Rns.append {E : Env} {a a' b b'} (h : Rns E a a') (k : Rns E b b') : Rns E (a ++ b) (a' ++ b') := by
  induction a generalizing a' with
  | nil => rw [h.inv_nil]; exact k
  | cons v l ih => obtain ⟨v', m, rfl, r, rs⟩ := h.inv_cons; exact .cons r (ih rs)
theorem Rns.drop {E : Env} {a a'} (n : Nat) (h : Rns E a a') : Rns E (a.drop n) (a'.drop n) := by
  refine ⟨by simp [h.1], fun i v hv => ?_⟩
  rw [List.getElem?_drop] at hv ⊢
  exact h.2 _ _ hv
theorem Rns.take {E : Env} {a a'} (n : Nat) (h : Rns E a a') : Rns E (a.take n) (a'.take n) := by
  refine ⟨by simp [h.1], fun i v hv => ?_⟩
  rw [List.getElem?_take] at hv ⊢
  by_cases hi : i < n
  · simp only [hi, if_true] at hv ⊢; exact h.2 _ _ hv
  · simp [hi] at hv
theorem Rns.set {E : Env} {a a'} (n : Nat) {v v'} (h : Rns E a a') (hv : Rn E v v') : Rns E (a.set n v) (a'.set n v') := by
  refine ⟨by simp [h.1], fun i u hu => ?_⟩
  rw [List.getElem?_set] at hu ⊢
  by_cases hi : n = i
  · subst hi
    simp only [if_true] at hu ⊢
    by_cases hl : n < a.length
    · simp only [hl, if_true, Option.some.injEq] at hu; subst hu
      exact ⟨v', by simp [← h.1, hl], hv⟩
    · simp [hl] at hu
  · simp only [hi, if_false] at hu ⊢; exact h.2 _ _ hu

/-- No name in it: the same everywhere. -/
def flatN : Nat → Value → Bool
  | _, .bool _ => true
  | _, .int _ _ => true
  | _, .float _ _ => true
  | _, .string _ => true
  | _, .pointer none => true
  | _, .slice none _ _ => true
  | _, .map none => true
  | _, .nilFunc => true
  | _, .nilIface => true
  | n + 1, .iface _ v => flatN n v
  | n + 1, .agg cs => cs.toList.all (flatN n)
  | n + 1, .tuple cs => cs.toList.all (flatN n)
  | n + 1, .func (.func _) f c => f.toList.all (flatN n) && c.toList.all (flatN n)
  | _, _ => false

theorem rns_refl_of {E : Env} {l : List Value} (h : ∀ v ∈ l, Rn E v v) : Rns E l l :=
  ⟨rfl, fun _ v hv => ⟨v, hv, h v (List.mem_of_getElem? hv)⟩⟩

theorem flat_rn {E : Env} : ∀ (n : Nat) (v : Value), flatN n v = true → Rn E v v := by
  intro n
  induction n with
  | zero =>
    intro v h
    cases v with
    | bool b => exact rn_bool.2 rfl
    | int k n => exact rn_int.2 rfl
    | float k n => exact rn_float.2 rfl
    | string s => exact rn_string.2 rfl
    | pointer a => cases a with | none => exact rn_nil.2 rfl | some a => simp [flatN] at h
    | slice a l c => cases a with | none => exact rn_snil.2 rfl | some a => simp [flatN] at h
    | map a => cases a with | none => exact rn_mnil.2 rfl | some a => simp [flatN] at h
    | nilFunc => exact rn_fnil.2 rfl
    | nilIface => exact rn_inil.2 rfl
    | _ => simp [flatN] at h
  | succ n ih =>
    intro v h
    cases v with
    | bool b => exact rn_bool.2 rfl
    | int k n => exact rn_int.2 rfl
    | float k n => exact rn_float.2 rfl
    | string s => exact rn_string.2 rfl
    | pointer a => cases a with | none => exact rn_nil.2 rfl | some a => simp [flatN] at h
    | slice a l c => cases a with | none => exact rn_snil.2 rfl | some a => simp [flatN] at h
    | map a => cases a with | none => exact rn_mnil.2 rfl | some a => simp [flatN] at h
    | nilFunc => exact rn_fnil.2 rfl
    | nilIface => exact rn_inil.2 rfl
    | iface t v => simp only [flatN] at h; exact rn_iface.2 ⟨v, rfl, ih v h⟩
    | agg cs => simp only [flatN, List.all_eq_true] at h; exact rn_agg.2 ⟨cs, rfl, rns_refl_of fun v hv => ih v (h v hv)⟩
    | tuple cs => simp only [flatN, List.all_eq_true] at h; exact rn_tuple.2 ⟨cs, rfl, rns_refl_of fun v hv => ih v (h v hv)⟩
    | func fn f c =>
      cases fn with
      | func k =>
        simp only [flatN, Bool.and_eq_true, List.all_eq_true] at h
        exact rn_func.2 ⟨f, c, rfl, rns_refl_of fun v hv => ih v (h.1 v hv), rns_refl_of fun v hv => ih v (h.2 v hv)⟩
      | _ => simp [flatN] at h
    | _ => simp [flatN] at h

/-- A value without names stays what it is. -/
theorem rns_eq_of {E : Env} {l l' : List Value} (h : ∀ v ∈ l, ∀ v', Rn E v v' → v' = v) (r : Rns E l l') : l' = l := by
  induction l generalizing l' with
  | nil => exact r.inv_nil
  | cons v l ih =>
    obtain ⟨v', m, rfl, a, b⟩ := r.inv_cons
    rw [h v (by simp) v' a, ih (fun x hx => h x (by simp [hx])) b]

theorem flat_eq {E : Env} : ∀ (n : Nat) (v v' : Value), flatN n v = true → Rn E v v' → v' = v := by
  intro n
  induction n with
  | zero =>
    intro v v' h r
    cases v with
    | bool b => exact rn_bool.1 r
    | int k n => exact rn_int.1 r
    | float k n => exact rn_float.1 r
    | string s => exact rn_string.1 r
    | pointer a => cases a with | none => exact rn_nil.1 r | some a => simp [flatN] at h
    | slice a l c => cases a with | none => exact rn_snil.1 r | some a => simp [flatN] at h
    | map a => cases a with | none => exact rn_mnil.1 r | some a => simp [flatN] at h
    | nilFunc => exact rn_fnil.1 r
    | nilIface => exact rn_inil.1 r
    | _ => simp [flatN] at h
  | succ n ih =>
    intro v v' h r
    cases v with
    | bool b => exact rn_bool.1 r
    | int k n => exact rn_int.1 r
    | float k n => exact rn_float.1 r
    | string s => exact rn_string.1 r
    | pointer a => cases a with | none => exact rn_nil.1 r | some a => simp [flatN] at h
    | slice a l c => cases a with | none => exact rn_snil.1 r | some a => simp [flatN] at h
    | map a => cases a with | none => exact rn_mnil.1 r | some a => simp [flatN] at h
    | nilFunc => exact rn_fnil.1 r
    | nilIface => exact rn_inil.1 r
    | iface t v => simp only [flatN] at h; obtain ⟨y, rfl, q⟩ := rn_iface.1 r; rw [ih v y h q]
    | agg cs =>
      simp only [flatN, List.all_eq_true] at h
      obtain ⟨cs', rfl, q⟩ := rn_agg.1 r
      rw [Array.toList_inj.1 (rns_eq_of (fun v hv v' => ih v v' (h v hv)) q)]
    | tuple cs =>
      simp only [flatN, List.all_eq_true] at h
      obtain ⟨cs', rfl, q⟩ := rn_tuple.1 r
      rw [Array.toList_inj.1 (rns_eq_of (fun v hv v' => ih v v' (h v hv)) q)]
    | func fn f c =>
      cases fn with
      | func k =>
        simp only [flatN, Bool.and_eq_true, List.all_eq_true] at h
        obtain ⟨f', c', rfl, q, q'⟩ := rn_func.1 r
        rw [Array.toList_inj.1 (rns_eq_of (fun v hv v' => ih v v' (h.1 v hv)) q), Array.toList_inj.1 (rns_eq_of (fun v hv v' => ih v v' (h.2 v hv)) q')]
      | _ => simp [flatN] at h
    | _ => simp [flatN] at h

theorem rn_oneCell {E : Env} {v v' : Value} (h : v.oneCell' = true) (r : Rn E v v') : v'.oneCell' = true := by
  cases v with
  | bool b => rw [rn_bool.1 r]; rfl
  | int k n => rw [rn_int.1 r]; rfl
  | float k n => rw [rn_float.1 r]; rfl
  | complex k i j => exact (rn_opq.1 r).2
  | string s => rw [rn_string.1 r]; rfl
  | pointer a =>
    cases a with
    | none => rw [rn_nil.1 r]; rfl
    | some a => obtain ⟨p, _, rfl⟩ := rn_ptr.1 r; rfl
  | slice a l c =>
    cases a with
    | none => rw [rn_snil.1 r]; rfl
    | some a => obtain ⟨p, _, rfl⟩ := rn_slice.1 r; rfl
  | map a =>
    cases a with
    | none => rw [rn_mnil.1 r]; rfl
    | some a => obtain ⟨p, _, rfl⟩ := rn_map.1 r; rfl
  | nilFunc => rw [rn_fnil.1 r]; rfl
  | nilIface => rw [rn_inil.1 r]; rfl
  | chan c => rw [Rn] at r; exact r.elim
  | func fn f c => obtain ⟨f', c', rfl, _⟩ := rn_func.1 r; rfl
  | iface t x => obtain ⟨y, rfl, _⟩ := rn_iface.1 r; rfl
  | agg cs => simp [Value.oneCell'] at h
  | tuple cs => simp [Value.oneCell'] at h

theorem cells_one {v : Value} (h : v.oneCell' = true) : v.cells = #[v] := by cases v <;> first | rfl | simp [Value.oneCell'] at h

/-- The cells of a value, place by place. -/
theorem rn_cells {E : Env} {v v' : Value} (ht : ∀ cs, v ≠ .tuple cs) (r : Rn E v v') : Rns E v.cells.toList v'.cells.toList := by
  by_cases ho : v.oneCell' = true
  · rw [cells_one ho, cells_one (rn_oneCell ho r)]; exact .cons r .nil
  · cases v with
    | agg cs => obtain ⟨cs', rfl, q⟩ := rn_agg.1 r; exact q
    | tuple cs => exact (ht cs rfl).elim
    | _ => exact (ho rfl).elim
end Go.Sy
