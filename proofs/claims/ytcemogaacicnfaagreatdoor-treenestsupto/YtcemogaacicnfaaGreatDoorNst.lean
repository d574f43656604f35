/- A tree as a tree of a greater bound: what it is stays; sizes and depths by the pure functions. -/
import Derived.Test.YtcemogaacicnfaaGreatDoorSt5
import Derived.Test.YtcemogaacicnfaaGreatDoorRSz
import Derived.Test.YtcemogaacicnfaaGreatDoorNsw
import Derived.Test.YtcemogaacicnfaaGreatDoorOpn
namespace Go.Proofs.YtcemogaacicnfaaGreatDoor
section
open Go.ChangeShapes Go.WideShapes Go.ChangeAt Go.RowKit

theorem emp_up (n : Nat) (l : List (Tr n)) : emp (n + 1) (l.map (up n)) = emp n l := by
  unfold emp
  cases l <;> simp
theorem areQ_up (n : Nat) (l : List (Tr n)) (ps : List (Tr (n + 1) → Bool)) : areQ (n + 1) (l.map (up n)) ps = areQ n l (ps.map fun p x => p (up n x)) := by
  unfold areQ
  rw [List.length_map, List.length_map, List.zip_map_left, List.zip_map_right, List.all_map, List.all_map]
  rfl
theorem manyP_up (n : Nat) (l : List (Tr n)) (lo hi : Int) (P : Tr (n + 1) → Bool) : manyP (n + 1) (l.map (up n)) lo hi P = manyP n l lo hi (fun x => P (up n x)) := by
  unfold manyP
  rw [List.length_map, List.all_map]
  rfl
theorem noneF_up (n : Nat) (k : Int) (t : List UInt8) (m : Int) (l : List (Tr n)) : noneF (n + 1) k t m (l.map (up n)) = noneF n k t m l := by
  unfold noneF
  rw [emp_up]
theorem none_up : ∀ (n : Nat) (x : Tr n), noneP (n + 1) (up n x) = noneP n x
  | 0, x => Empty.elim x
  | n + 1, x => noneF_up n (kd (n + 1) x) (tx (n + 1) x) (nu (n + 1) x) (ks (n + 1) x)
theorem nmeF_up (n : Nat) (k : Int) (t : List UInt8) (m : Int) (l : List (Tr n)) : nmeF (n + 1) k t m (l.map (up n)) = nmeF n k t m l := by
  unfold nmeF
  rw [emp_up]
theorem nme_up : ∀ (n : Nat) (x : Tr n), nmeP (n + 1) (up n x) = nmeP n x
  | 0, x => Empty.elim x
  | n + 1, x => nmeF_up n (kd (n + 1) x) (tx (n + 1) x) (nu (n + 1) x) (ks (n + 1) x)
theorem ownF_up (n : Nat) (k : Int) (t : List UInt8) (m : Int) (l : List (Tr n)) : ownF (n + 1) k t m (l.map (up n)) = ownF n k t m l := by
  unfold ownF
  rw [emp_up]
theorem colOfF_up (n : Nat) (k : Int) (t : List UInt8) (m : Int) (l : List (Tr n)) : colOfF (n + 1) k t m (l.map (up n)) = colOfF n k t m l := by
  unfold colOfF
  rw [areQ_up]
  simp only [List.map_cons, List.map_nil, nme_up]
theorem cntF_up (n : Nat) (t : List UInt8) (m : Int) (l : List (Tr n)) : cntF (n + 1) t m (l.map (up n)) = cntF n t m l := by
  unfold cntF
  rw [emp_up]
theorem aggF_up (n : Nat) (t : List UInt8) (m : Int) (l : List (Tr n)) (E' : Tr (n + 1) → Bool) (E : Tr n → Bool) (h : (fun x => E' (up n x)) = E) : aggF (n + 1) t m (l.map (up n)) E' = aggF n t m l E := by
  subst h
  unfold aggF
  rw [areQ_up, cntF_up]
  rfl
theorem exF_up (n : Nat) (k : Int) (t : List UInt8) (m : Int) (l : List (Tr n)) (E' : Tr (n + 1) → Bool) (E : Tr n → Bool) (h : (fun x => E' (up n x)) = E) : exF (n + 1) k t m (l.map (up n)) E' = exF n k t m l E := by
  have ha := aggF_up n t m l E' E h
  subst h
  unfold exF oddF
  simp only [emp_up, areQ_up, manyP_up, ownF_up, colOfF_up, ha, List.length_map, List.map_cons, List.map_nil]
theorem expr_up : ∀ (n : Nat) (x : Tr n), exprP (n + 1) (up n x) = exprP n x
  | 0, x => Empty.elim x
  | n + 1, x => exF_up n (kd (n + 1) x) (tx (n + 1) x) (nu (n + 1) x) (ks (n + 1) x) (exprP (n + 1)) (exprP n) (funext fun y => expr_up n y)
theorem paF_up (n : Nat) (k : Int) (t : List UInt8) (m : Int) (l : List (Tr n)) (P' Q' : Tr (n + 1) → Bool) (P Q : Tr n → Bool) (hP : (fun x => P' (up n x)) = P) (hQ : (fun x => Q' (up n x)) = Q) : paF (n + 1) k t m (l.map (up n)) P' Q' = paF n k t m l P Q := by
  subst hP hQ
  have e1 : (fun x => optP (n + 1) (exprP (n + 1)) (up n x)) = optP n (exprP n) := funext fun x => by unfold optP; rw [expr_up, none_up]
  have e2 : (fun x => optP (n + 1) (nmeP (n + 1)) (up n x)) = optP n (nmeP n) := funext fun x => by unfold optP; rw [nme_up, none_up]
  unfold paF
  simp only [emp_up, areQ_up, List.map_cons, List.map_nil, e1, e2]
  rfl
theorem notF_up (n : Nat) (k : Int) (t : List UInt8) (m : Int) (l : List (Tr n)) (P' : Tr (n + 1) → Bool) (P : Tr n → Bool) (hP : (fun x => P' (up n x)) = P) : notF (n + 1) k t m (l.map (up n)) P' = notF n k t m l P := by
  subst hP
  unfold notF
  rw [areQ_up]
  rfl
theorem pn_up : ∀ (n : Nat) (x : Tr n), pnP (n + 1) (up n x) = pnP n x
  | 0, x => Empty.elim x
  | n + 1, x => Prod.ext
    (paF_up n (kd (n + 1) x) (tx (n + 1) x) (nu (n + 1) x) (ks (n + 1) x) (fun y => (pnP (n + 1) y).1) (fun y => (pnP (n + 1) y).2) (fun y => (pnP n y).1) (fun y => (pnP n y).2) (funext fun y => by rw [pn_up n y]) (funext fun y => by rw [pn_up n y]))
    (notF_up n (kd (n + 1) x) (tx (n + 1) x) (nu (n + 1) x) (ks (n + 1) x) (fun y => (pnP (n + 1) y).1) (fun y => (pnP n y).1) (funext fun y => by rw [pn_up n y]))
theorem pat_up (n : Nat) (x : Tr n) : patP (n + 1) (up n x) = patP n x := by
  unfold patP
  rw [pn_up]
theorem ndG_up {w : World} : ∀ (n : Nat) (x : Tr n) (s : Option Addr) (c : Nat), NdG w n x s c → NdG w (n + 1) (up n x) s c
  | 0, x, _, _, _ => Empty.elim x
  | n + 1, x, s, c, h => by
    obtain ⟨hl, h, hcap⟩ := h
    have e : ks (n + 2) (up (n + 1) x) = (ks (n + 1) x).map (up n) := rfl
    refine ⟨by rw [e, List.length_map]; exact hl, ?_, by rw [e, List.length_map]; exact hcap⟩
    rcases h with h | ⟨b, off, rfl, hc⟩
    · exact Or.inl (by rw [e, h]; rfl)
    · refine Or.inr ⟨b, off, rfl, fun i y hi => ?_⟩
      rw [e, List.getElem?_map] at hi
      obtain ⟨z, hz, rfl⟩ := Option.map_eq_some_iff.1 hi
      obtain ⟨s', c', hcs, hp⟩ := hc i z hz
      refine ⟨s', c', ?_, ndG_up n z s' c' hp⟩
      cases n with
      | zero => exact Empty.elim z
      | succ n =>
        have el : (ks (n + 2) (up (n + 1) z)).length = (ks (n + 1) z).length := by
          show ((ks (n + 1) z).map (up n)).length = _
          rw [List.length_map]
        rw [el]
        exact hcs
/-- Depths: those that the walk counts, and by the pure function. -/
theorem dep_fold : ∀ (n : Nat) (x : Tr n) (d init : Int), ((flat (fun _ => true) n x d).map (·.2)).foldl max init = max init (d - 1 + (dpP n x : Nat))
  | 0, x, _, _ => Empty.elim x
  | n + 1, x, d, init => by
    have e : (flat (fun _ => true) (n + 1) x d).map (·.2) = d :: (ks (n + 1) x).flatMap fun y => (flat (fun _ => true) n y (d + 1)).map (·.2) := by
      rw [flat]
      simp only [if_true, List.map_cons, List.map_flatMap, List.map_map]
      rfl
    have key : ∀ (l : List (Tr n)) (acc : Int) (mk : Nat), d + mk ≤ acc → (∃ a0 : Int, acc = max a0 (d + mk)) → (l.flatMap fun y => (flat (fun _ => true) n y (d + 1)).map (·.2)).foldl max acc = max acc (d + ((l.map (dpP n)).foldl max mk : Nat)) := by
      intro l
      induction l with
      | nil =>
        intro acc mk h _
        simp only [List.flatMap_nil, List.foldl_nil, List.map_nil]
        omega
      | cons y l ih =>
        intro acc mk h hx
        rw [List.flatMap_cons, List.foldl_append, dep_fold n y (d + 1) acc, List.map_cons, List.foldl_cons]
        have h1 := ih (max acc (d + 1 - 1 + (dpP n y : Nat))) (max mk (dpP n y)) (by omega) ⟨acc, by omega⟩
        rw [h1]
        have h2 : ∀ (l : List Nat) (c : Nat), c ≤ l.foldl max c := by
          intro l
          induction l with
          | nil => intro c; exact Nat.le_refl _
          | cons z l ih2 => intro c; exact Nat.le_trans (Nat.le_max_left c z) (ih2 _)
        have h3 := h2 (l.map (dpP n)) (max mk (dpP n y))
        omega
    rw [e, List.foldl_cons, key (ks (n + 1) x) (max init d) 0 (by omega) ⟨init, by omega⟩]
    have e2 : dpP (n + 1) x = ((ks (n + 1) x).map (dpP n)).foldl max 0 + 1 := rfl
    rw [e2]
    have e3 : ((((ks (n + 1) x).map (dpP n)).foldl max 0 + 1 : Nat) : Int) = (((ks (n + 1) x).map (dpP n)).foldl max 0 : Nat) + 1 := by omega
    rw [e3]
    generalize (((ks (n + 1) x).map (dpP n)).foldl max 0 : Nat) = q
    omega
theorem dep_is (n : Nat) (x : Tr n) : dpL ((flat (fun _ => true) n x 1).map (·.2)) = (dpP n x : Nat) := by
  unfold dpL
  rw [dep_fold n x 1 0]
  omega
end
section
open Go.ChangeShapes Go.WideShapes Go.ChangeAt Go.RowKit

theorem exF_k {n : Nat} {k : Int} {t : List UInt8} {m : Int} {l : List (Tr n)} {E : Tr n → Bool} (h : 14 < k) : exF n k t m l E = false := by
  unfold exF
  rw [if_neg (by omega), if_neg (by omega), if_neg (by omega), if_neg (by omega), if_neg (by omega), if_neg (by omega), if_neg (by omega), if_neg (by omega), if_neg (by omega), if_neg (by omega), if_neg (by omega), if_neg (by omega), if_neg (by omega), if_neg (by omega)]
theorem paF_k {n : Nat} {k : Int} {t : List UInt8} {m : Int} {l : List (Tr n)} {P Q : Tr n → Bool} (h : k < 30) : paF n k t m l P Q = false := by
  unfold paF
  rw [if_neg (by omega), if_neg (by omega), if_neg (by omega), if_neg (by omega), if_neg (by omega), if_neg (by omega), if_neg (by omega)]
theorem stmtF_k {n : Nat} {k : Int} {t : List UInt8} {m : Int} {l : List (Tr n)} (h : k < 50) : stmtF n k t m l = false := by
  unfold stmtF
  rw [if_neg (by omega), if_neg (by omega), if_neg (by omega), if_neg (by omega), if_neg (by omega), if_neg (by omega), if_neg (by omega), if_neg (by omega)]
theorem pat_no : ∀ (n : Nat) (x : Tr n), exprP n x = true → patP n x = false
  | 0, x, _ => Empty.elim x
  | n + 1, x, h => by
    have h' : exF n (kd (n + 1) x) (tx (n + 1) x) (nu (n + 1) x) (ks (n + 1) x) (exprP n) = true := h
    show paF n (kd (n + 1) x) (tx (n + 1) x) (nu (n + 1) x) (ks (n + 1) x) (fun y => (pnP n y).1) (fun y => (pnP n y).2) = false
    by_cases hk : 14 < kd (n + 1) x
    · rw [exF_k hk] at h'; cases h'
    · exact paF_k (by omega)
section
variable (M : Nat) (a b : Tr M) (op : List UInt8)
def boN : Tr (M + 1) := (8, [97, 110, 100], 0, 0, [a, b])
def evN : Tr (M + 1) := (31, [], 0, 0, [b])
def thN : Tr (M + 2) := (32, [], 0, 0, [up M a, evN M b])
def noN : Tr (M + 1) := (8, op, 0, 0, [a, b, a])
theorem bo_e : exprP (M + 1) (boN M a b) = (exprP M a && exprP M b) := by
  show exF M 8 [97, 110, 100] 0 [a, b] (exprP M) = _
  simp [exF, infF, infL, areQ]
theorem bo_p : patP (M + 1) (boN M a b) = false := by
  show paF M 8 [97, 110, 100] 0 [a, b] (patP M) (notP M) = false
  exact paF_k (by decide)
theorem bo_s : stmtP (M + 1) (boN M a b) = false := stmtF_k (show (8 : Int) < 50 by decide)
theorem ev_p : patP (M + 1) (evN M b) = patP M b := by
  show paF M 31 [] 0 [b] (patP M) (notP M) = _
  simp [paF, plainF, areQ]
theorem th_e : exprP (M + 2) (thN M a b) = false := exF_k (show (14 : Int) < 32 by decide)
theorem th_p : patP (M + 2) (thN M a b) = (patP M a && patP M b) := by
  show paF (M + 1) 32 [] 0 [up M a, evN M b] (patP (M + 1)) (notP (M + 1)) = _
  rw [← pat_up M a, ← ev_p M b]
  simp [paF, plainF, areQ]
theorem th_s : stmtP (M + 2) (thN M a b) = false := stmtF_k (show (32 : Int) < 50 by decide)
theorem no_e : exprP (M + 1) (noN M a b op) = false := by
  show exF M 8 op 0 [a, b, a] (exprP M) = _
  simp [exF, areQ]
theorem no_p : patP (M + 1) (noN M a b op) = false := by
  show paF M 8 op 0 [a, b, a] (patP M) (notP M) = false
  exact paF_k (by decide)
theorem no_s : stmtP (M + 1) (noN M a b op) = false := stmtF_k (show (8 : Int) < 50 by decide)
variable {M a b op} {w W : World} {sa sb : Option Addr} {ca cb G H : Nat}
theorem bo_at (ha : NdG W M a sa ca) (hb : NdG W M b sb cb) (h : At W G [.int .i64 (kd M a), .string (bsA (tx M a)), .int .i64 (nu M a), .int .i64 (pl M a), .slice sa (ks M a).length ca, .int .i64 (kd M b), .string (bsA (tx M b)), .int .i64 (nu M b), .int .i64 (pl M b), .slice sb (ks M b).length cb]) : NdG W (M + 1) (boN M a b) (some ⟨G, 0, none⟩) 2 := by
  refine ⟨by show 2 ≤ _; omega, Or.inr ⟨G, 0, rfl, fun i y hi => ?_⟩, Nat.le_refl _⟩
  match i, hi with
  | 0, hi => cases hi; exact ⟨sa, ca, ⟨h 0 _ rfl, h 1 _ rfl, h 2 _ rfl, h 3 _ rfl, h 4 _ rfl⟩, ha⟩
  | 1, hi => cases hi; exact ⟨sb, cb, ⟨h 5 _ rfl, h 6 _ rfl, h 7 _ rfl, h 8 _ rfl, h 9 _ rfl⟩, hb⟩
theorem no_at (ha : NdG W M a sa ca) (hb : NdG W M b sb cb) (h : At W G [.int .i64 (kd M a), .string (bsA (tx M a)), .int .i64 (nu M a), .int .i64 (pl M a), .slice sa (ks M a).length ca, .int .i64 (kd M b), .string (bsA (tx M b)), .int .i64 (nu M b), .int .i64 (pl M b), .slice sb (ks M b).length cb, .int .i64 (kd M a), .string (bsA (tx M a)), .int .i64 (nu M a), .int .i64 (pl M a), .slice sa (ks M a).length ca]) : NdG W (M + 1) (noN M a b op) (some ⟨G, 0, none⟩) 3 := by
  refine ⟨by show 3 ≤ _; omega, Or.inr ⟨G, 0, rfl, fun i y hi => ?_⟩, Nat.le_refl _⟩
  match i, hi with
  | 0, hi => cases hi; exact ⟨sa, ca, ⟨h 0 _ rfl, h 1 _ rfl, h 2 _ rfl, h 3 _ rfl, h 4 _ rfl⟩, ha⟩
  | 1, hi => cases hi; exact ⟨sb, cb, ⟨h 5 _ rfl, h 6 _ rfl, h 7 _ rfl, h 8 _ rfl, h 9 _ rfl⟩, hb⟩
  | 2, hi => cases hi; exact ⟨sa, ca, ⟨h 10 _ rfl, h 11 _ rfl, h 12 _ rfl, h 13 _ rfl, h 14 _ rfl⟩, ha⟩
theorem ev_at (hb : NdG W M b sb cb) (h : At W H [.int .i64 (kd M b), .string (bsA (tx M b)), .int .i64 (nu M b), .int .i64 (pl M b), .slice sb (ks M b).length cb]) : NdG W (M + 1) (evN M b) (some ⟨H, 0, none⟩) 1 := by
  refine ⟨by show 1 ≤ _; omega, Or.inr ⟨H, 0, rfl, fun i y hi => ?_⟩, Nat.le_refl _⟩
  match i, hi with
  | 0, hi => cases hi; exact ⟨sb, cb, ⟨h 0 _ rfl, h 1 _ rfl, h 2 _ rfl, h 3 _ rfl, h 4 _ rfl⟩, hb⟩
theorem th_at (ha : NdG W M a sa ca) (hb : NdG W M b sb cb) (h : At W G [.int .i64 (kd M a), .string (bsA (tx M a)), .int .i64 (nu M a), .int .i64 (pl M a), .slice sa (ks M a).length ca, .int .i64 31, .string ⟨#[]⟩, .int .i64 0, .int .i64 0, .slice (some ⟨H, 0, none⟩) 1 1]) (h2 : At W H [.int .i64 (kd M b), .string (bsA (tx M b)), .int .i64 (nu M b), .int .i64 (pl M b), .slice sb (ks M b).length cb]) : NdG W (M + 2) (thN M a b) (some ⟨G, 0, none⟩) 2 := by
  refine ⟨by show 2 ≤ _; omega, Or.inr ⟨G, 0, rfl, fun i y hi => ?_⟩, Nat.le_refl _⟩
  match i, hi with
  | 0, hi =>
    cases hi
    have hv := ndV_up M a sa ca
    unfold ndV at hv
    simp only [Value.agg.injEq, Array.mk.injEq, List.cons.injEq, Value.int.injEq, Value.string.injEq, Value.slice.injEq, true_and, and_true] at hv
    obtain ⟨v0, v1, v2, v3, v4⟩ := hv
    refine ⟨sa, ca, ?_, ndG_up M a sa ca ha⟩
    rw [v0, v1, v2, v3, v4]
    exact ⟨h 0 _ rfl, h 1 _ rfl, h 2 _ rfl, h 3 _ rfl, h 4 _ rfl⟩
  | 1, hi => cases hi; exact ⟨some ⟨H, 0, none⟩, 1, ⟨h 5 _ rfl, h 6 _ rfl, h 7 _ rfl, h 8 _ rfl, h 9 _ rfl⟩, ev_at hb h2⟩
end
theorem formI_1 (E P S : Bool) : (formI E P S == 1) = E := by cases E <;> cases P <;> cases S <;> rfl
theorem formI_2 (E P S : Bool) (h : E = true → P = false) : (formI E P S == 2) = P := by
  cases E <;> cases P <;> cases S <;> first | rfl | (have := h rfl; cases this)
theorem formI_c (E P S : Bool) : ((formI E P S == 1) = true ∧ (formI E P S == 2) = false) ∨ ((formI E P S == 1) = false ∧ (formI E P S == 2) = true) ∨ ((formI E P S == 1) = false ∧ (formI E P S == 2) = false) := by
  cases E <;> cases P <;> cases S <;> decide
theorem treeNests_walk (M : Nat) (a b : Tr M) (sa sb : Option Addr) (ca cb : Nat) (op : List UInt8) (w : World) (hR : Rdy w) (ha : NdG w M a sa ca) (hb : NdG w M b sb cb) (hza : szP M a ≤ 1048576) (hzb : szP M b ≤ 1048576) (hM : M ≤ 1048576) :
    Calls Tryz.prog 6 #[ndV M a sa ca, ndV M b sb cb, .string (bsA op)] w fun e w' => e = .returned (.bool true) ∧ Below w.heap.size w w' := by
  have zb : szP (M + 1) (boN M a b) = 1 + (szP M a + szP M b) := by
    show 1 + ([a, b].map (szP M)).sum = _
    simp
  have db : dpP (M + 1) (boN M a b) = max (dpP M a) (dpP M b) + 1 := by
    show ([a, b].map (dpP M)).foldl max 0 + 1 = _
    simp
  have hwa : Wid M a := wid_of M a (by omega)
  have hwb : Wid M b := wid_of M b (by omega)
  have hwc : Wid (M + 1) (boN M a b) := wid_of (M + 1) _ (by omega)
  have fa : (flat (fun _ => true) M a 1).length = szP M a := flat_sz M a 1
  have fb : (flat (fun _ => true) M b 1).length = szP M b := flat_sz M b 1
  have fc : (flat (fun _ => true) (M + 1) (boN M a b) 1).length = szP (M + 1) (boN M a b) := flat_sz (M + 1) _ 1
  have la := dpP_le M a
  have lb := dpP_le M b
  refine nests_walk (kd M a) (nu M a) (pl M a) (kd M b) (nu M b) (pl M b) (bsA (tx M a)) (bsA (tx M b)) (bsA op) sa sb (ks M a).length ca (ks M b).length cb w hR
    (formI (exprP M a) (patP M a) (stmtP M a)) (formI (exprP M b) (patP M b) (stmtP M b)) (formI (exprP (M + 1) (boN M a b)) (patP (M + 1) (boN M a b)) (stmtP (M + 1) (boN M a b))) (formI (exprP (M + 2) (thN M a b)) (patP (M + 2) (thN M a b)) (stmtP (M + 2) (thN M a b)))
    (szP M a) (szP M b) (szP (M + 1) (boN M a b)) (dpP M a) (dpP M b) (dpP (M + 1) (boN M a b))
    (fun W hW => Form_any M a sa ca W (hR.below hW) (NdG.below hW ha)) (fun W hW => Form_any M b sb cb W (hR.below hW) (NdG.below hW hb))
    (fun W G hW h => Form_any (M + 1) (boN M a b) (some ⟨G, 0, none⟩) 2 W (hR.below hW) (bo_at (NdG.below hW ha) (NdG.below hW hb) h))
    (fun W G H hW h h2 => Form_any (M + 2) (thN M a b) (some ⟨G, 0, none⟩) 2 W (hR.below hW) (th_at (NdG.below hW ha) (NdG.below hW hb) h h2))
    (fun W G hW h => ?hNo) (fun W hW => ?sA) (fun W hW => ?sB) (fun W G hW h => ?sC) (fun W hW => ?dA) (fun W hW => ?dB) (fun W G hW h => ?dC) ?e1 ?e0 ?e2 (formI_c _ _ _) (formI_c _ _ _) ?hz ?hd ?rz ?rd
  case hNo =>
    have h1 := Form_any (M + 1) (noN M a b op) (some ⟨G, 0, none⟩) 3 W (hR.below hW) (no_at (NdG.below hW ha) (NdG.below hW hb) h)
    rw [no_e, no_p, no_s] at h1
    exact h1
  case sA =>
    have h1 := Size_any M a sa ca W (NdG.below hW ha).at hwa (by omega) (by omega)
    rw [fa] at h1
    exact h1
  case sB =>
    have h1 := Size_any M b sb cb W (NdG.below hW hb).at hwb (by omega) (by omega)
    rw [fb] at h1
    exact h1
  case sC =>
    have h1 := Size_any (M + 1) (boN M a b) (some ⟨G, 0, none⟩) 2 W (bo_at (NdG.below hW ha) (NdG.below hW hb) h).at hwc (by omega) (by omega)
    rw [fc] at h1
    exact h1
  case dA =>
    have h1 := Depth_any M a sa ca W (NdG.below hW ha).at hwa (by omega) (by omega)
    rw [dep_is] at h1
    exact h1
  case dB =>
    have h1 := Depth_any M b sb cb W (NdG.below hW hb).at hwb (by omega) (by omega)
    rw [dep_is] at h1
    exact h1
  case dC =>
    have h1 := Depth_any (M + 1) (boN M a b) (some ⟨G, 0, none⟩) 2 W (bo_at (NdG.below hW ha) (NdG.below hW hb) h).at hwc (by omega) (by omega)
    rw [dep_is] at h1
    exact h1
  case e1 => rw [formI_1, formI_1, formI_1, bo_e]
  case e0 =>
    rw [formI_1, formI_1, bo_e, bo_p, bo_s]
    cases exprP M a <;> cases exprP M b <;> rfl
  case e2 =>
    rw [formI_2 _ _ _ (pat_no M a), formI_2 _ _ _ (pat_no M b), formI_2 _ _ _ (fun h => by rw [th_e] at h; cases h), th_p]
  case hz => rw [zb]; omega
  case hd => rw [db]; omega
  case rz => omega
  case rd => omega
end
end Go.Proofs.YtcemogaacicnfaaGreatDoor
