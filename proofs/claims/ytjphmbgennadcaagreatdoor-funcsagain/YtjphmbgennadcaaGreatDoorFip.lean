/- What is answered may be, and is of its kind. -/
import Derived.Test.YtjphmbgennadcaaGreatDoorUtp
import Derived.Test.YtjphmbgennadcaaGreatDoorSur
import Derived.Test.YtjphmbgennadcaaGreatDoorUnl
namespace Go.Proofs.YtjphmbgennadcaaGreatDoor
set_option maxHeartbeats 4000000
set_option maxRecDepth 20000
set_option linter.unusedSimpArgs false
open Go.ChangeShapes Go.WideShapes Go.ChangeAt Go.RowKit


theorem isR_one (a : UInt8) : isR [a] ↔ a.toNat < 128 := Iff.rfl
/-- A rune of more bytes has none below 128. -/
theorem isR_high {c : List UInt8} (h : isR c) (hl : c.length ≠ 1) : ∀ b ∈ c, 128 ≤ b.toNat := by
  unfold isR at h
  split at h
  · exact absurd rfl hl
  · obtain ⟨h1, h2, _⟩ := h
    intro x hx
    simp only [List.mem_cons, List.not_mem_nil, or_false] at hx
    rcases hx with rfl | rfl <;> omega
  · obtain ⟨h1, h2, h3, _⟩ := h
    intro x hx
    simp only [List.mem_cons, List.not_mem_nil, or_false] at hx
    rcases hx with rfl | rfl | rfl <;> omega
  · obtain ⟨h1, h2, h3, h4, _⟩ := h
    intro x hx
    simp only [List.mem_cons, List.not_mem_nil, or_false] at hx
    rcases hx with rfl | rfl | rfl | rfl <;> omega
  · exact h.elim
theorem trn_high {f t b : UInt8} (hf : f.toNat + 26 ≤ 128) (hb : 128 ≤ b.toNat) : trnP f t b = b := by
  unfold trnP
  rw [if_neg (by omega)]
theorem trn_low {f t b : UInt8} (ht : t.toNat + 26 ≤ 128) (hb : b.toNat < 128) : (trnP f t b).toNat < 128 := by
  unfold trnP
  split
  · rename_i h
    have e : (UInt8.ofNat (b.toNat - f.toNat + t.toNat)).toNat = (b.toNat - f.toNat + t.toNat) % 256 := by simp only [UInt8.toNat_ofNat', Nat.reducePow]
    rw [e]; omega
  · exact hb
theorem trn_isR {f t : UInt8} (hf : f.toNat + 26 ≤ 128) (ht : t.toNat + 26 ≤ 128) {c : List UInt8} (h : isR c) : isR (c.map (trnP f t)) := by
  by_cases hl : c.length = 1
  · match c, hl with
    | [a], _ => exact trn_low ht h
  · have e : c.map (trnP f t) = c := by
      have := isR_high h hl
      calc c.map (trnP f t) = c.map id := List.map_congr_left (fun b hb => trn_high hf (this b hb))
        _ = c := by simp
    rw [e]; exact h
theorem valid_trn {f t : UInt8} (hf : f.toNat + 26 ≤ 128) (ht : t.toNat + 26 ≤ 128) {l : List UInt8} (h : Lib.validD l = true) : Lib.validD (trnL f t l) = true := by
  obtain ⟨cs, h1, rfl⟩ := (valid_iff l).1 h
  refine (valid_iff _).2 ⟨cs.map (fun c => c.map (trnP f t)), ?_, ?_⟩
  · intro c hc
    obtain ⟨x, hx, rfl⟩ := List.mem_map.1 hc
    exact trn_isR hf ht (h1 x hx)
  · unfold trnL; rw [List.map_flatten]
theorem valid_ascii (l : List UInt8) (h : ∀ b ∈ l, b.toNat < 128) : Lib.validD l = true := by
  refine (valid_iff _).2 ⟨l.map (fun b => [b]), ?_, ?_⟩
  · intro c hc
    obtain ⟨x, hx, rfl⟩ := List.mem_map.1 hc
    exact h x hx
  · induction l with
    | nil => rfl
    | cons a l ih => rw [List.map_cons, List.flatten_cons, ← ih (fun b hb => h b (List.mem_cons_of_mem _ hb))]; rfl
/-- Blanks ahead. -/
theorem dropW : ∀ (cs : List (List UInt8)), (∀ c ∈ cs, isR c) → cs.flatten.dropWhile (· == 32) = (cs.dropWhile (· == [32])).flatten
  | [], _ => rfl
  | c :: cs, h => by
    have hc := h c List.mem_cons_self
    by_cases e : c = [32]
    · subst e
      rw [List.flatten_cons, List.singleton_append, List.dropWhile_cons_of_pos (by rfl), List.dropWhile_cons_of_pos (by rfl)]
      exact dropW cs (fun x hx => h x (List.mem_cons_of_mem _ hx))
    · rw [List.dropWhile_cons_of_neg (by simpa using e), List.flatten_cons]
      have hl := isR_len hc
      match c, hl with
      | a :: m, _ =>
        rw [List.cons_append, List.dropWhile_cons_of_neg]
        intro ha
        have ha' : a = 32 := by simpa using ha
        subst ha'
        by_cases hm : m = []
        · subst hm; exact e rfl
        · have := isR_high hc (by simp; exact hm) 32 (by simp)
          simp at this
theorem dropR : ∀ (cs : List (List UInt8)), (∀ c ∈ cs, isR c) → (cs.map List.reverse).flatten.dropWhile (· == 32) = ((cs.dropWhile (· == [32])).map List.reverse).flatten
  | [], _ => rfl
  | c :: cs, h => by
    have hc := h c List.mem_cons_self
    by_cases e : c = [32]
    · subst e
      rw [List.map_cons, List.flatten_cons, List.reverse_singleton, List.singleton_append, List.dropWhile_cons_of_pos (by rfl), List.dropWhile_cons_of_pos (by rfl)]
      exact dropR cs (fun x hx => h x (List.mem_cons_of_mem _ hx))
    · rw [List.dropWhile_cons_of_neg (by simpa using e), List.map_cons, List.flatten_cons]
      have hl := isR_len hc
      have hr : c.reverse ≠ [] := by intro h2; rw [List.reverse_eq_nil_iff] at h2; subst h2; simp at hl
      obtain ⟨a, m, hm⟩ := List.exists_cons_of_ne_nil hr
      rw [hm, List.cons_append, List.dropWhile_cons_of_neg]
      intro ha
      have ha' : a = 32 := by simpa using ha
      subst ha'
      have hmem : (32 : UInt8) ∈ c := by rw [← List.mem_reverse, hm]; simp
      by_cases h1 : c.length = 1
      · match c, h1 with
        | [x], _ =>
          simp at hmem
          subst hmem; exact e rfl
      · have := isR_high hc h1 32 hmem
        simp at this
theorem trimR_flat (cs : List (List UInt8)) (h : ∀ c ∈ cs, isR c) : Lib.trimRightB cs.flatten 32 = (cs.reverse.dropWhile (· == [32])).reverse.flatten := by
  unfold Lib.trimRightB
  have hr : ∀ c ∈ cs.reverse, isR c := fun c hc => h c (List.mem_reverse.1 hc)
  rw [List.reverse_flatten, ← List.map_reverse, dropR _ hr, List.reverse_flatten, ← List.map_reverse, ← List.map_reverse, List.map_map]
  have e : (List.reverse ∘ List.reverse : List UInt8 → List UInt8) = id := by funext x; simp
  rw [e, List.map_id]
theorem trim_flat (cs : List (List UInt8)) (h : ∀ c ∈ cs, isR c) : Lib.trimB cs.flatten 32 = ((cs.reverse.dropWhile (· == [32])).reverse.dropWhile (· == [32])).flatten := by
  unfold Lib.trimB Lib.trimLeftB
  rw [trimR_flat cs h, dropW]
  intro c hc
  rw [List.mem_reverse] at hc
  exact h c (List.mem_reverse.1 ((List.dropWhile_sublist _).mem hc))
theorem valid_trim {l : List UInt8} (h : Lib.validD l = true) : Lib.validD (Lib.trimB l 32) = true := by
  obtain ⟨cs, h1, rfl⟩ := (valid_iff l).1 h
  rw [trim_flat cs h1]
  refine valid_flat _ (fun c hc => ?_)
  have h2 := (List.dropWhile_sublist _).mem hc
  rw [List.mem_reverse] at h2
  exact h1 c (List.mem_reverse.1 ((List.dropWhile_sublist _).mem h2))
theorem trim_le (l : List UInt8) : (Lib.trimB l 32).length ≤ l.length := by
  unfold Lib.trimB Lib.trimLeftB Lib.trimRightB
  have h1 := (List.dropWhile_sublist (l := (l.reverse.dropWhile (· == 32)).reverse) (fun x : UInt8 => x == 32)).length_le
  have h2 := (List.dropWhile_sublist (l := l.reverse) (fun x : UInt8 => x == 32)).length_le
  rw [List.length_reverse] at h1 h2
  omega
/-- What is answered: nothing with an error, else a value that may be, null or of this kind. -/
structure Fit (K : Int) (p : Val × Int) : Prop where
  err : p.2 ≠ 0 → p.1 = dv
  ok : p.2 = 0 → mayV p.1 = true ∧ (p.1.1 = 0 ∨ p.1.1 = K)
theorem may_int (n : Int) : mayV (2, n, ⟨#[]⟩) = true := by rw [mayV_C]; simp [mayC]
theorem may_dec (n : Int) : mayV (3, n, ⟨#[]⟩) = true := by rw [mayV_C]; simp [mayC]
theorem may_dv : mayV dv = true := by rw [mayV_C]; rfl
theorem may_txt {l : List UInt8} (h : Lib.validD l = true) (hl : l.length ≤ 1024) : mayV (4, 0, bsA l) = true := by
  rw [mayV_C]
  unfold mayC
  simp only [bsA_list, bsA_size]
  simp [h]
  omega
theorem fit_int (n : Int) : Fit 2 ((2, n, ⟨#[]⟩), 0) := ⟨fun h => absurd rfl h, fun _ => ⟨may_int n, Or.inr rfl⟩⟩
theorem fit_txt {l : List UInt8} (h : Lib.validD l = true) (hl : l.length ≤ 1024) : Fit 4 ((4, 0, bsA l), 0) := ⟨fun h => absurd rfl h, fun _ => ⟨may_txt h hl, Or.inr rfl⟩⟩
theorem fit_dv (K : Int) (e : Int) : Fit K (dv, e) := ⟨fun _ => rfl, fun _ => ⟨may_dv, Or.inl rfl⟩⟩
theorem one_of {r : List Val} (h : lenB (ksL r) 1 = true) : ∃ v, r = [v] := by
  have := len_of h
  match r, this with
  | [v], _ => exact ⟨v, rfl⟩
/-- One argument of a kind. -/
theorem one_kind {r : List Val} {p : Int → Bool} (h : (lenB (ksL r) 1 && allK p (ksL r)) = true) (hn : nulB r = false) (hm : mayR r = true) : ∃ k n t, r = [(k, n, t)] ∧ p k = true ∧ mayS k n t = true := by
  obtain ⟨⟨k, n, t⟩, rfl⟩ := one_of (and_l h)
  have h2 : allK p (ksL [(k, n, t)]) = true := by cases hx : lenB (ksL [(k, n, t)]) 1 <;> simp_all
  have h3 : mayS k n t = true := by simpa [mayR, mayV] using hm
  refine ⟨k, n, t, rfl, ?_, h3⟩
  have h4 : (k == 0) = false := by simpa [nulB] using hn
  simp only [allK, ksL, List.map_cons, List.map_nil, List.all_cons, List.all_nil, Bool.and_true, h4, Bool.false_or] at h2
  exact h2
theorem num_kinds {k : Int} (h : isNum k = true) : k = 2 ∨ k = 3 := by unfold isNum at h; simpa using h
theorem txt_kind {k n : Int} {t : ByteArray} (hk : isT k = true) (hm : mayS k n t = true) : k = 4 ∧ n = 0 ∧ Lib.validD t.data.toList = true ∧ t.data.toList.length ≤ 1024 := by
  have e : k = 4 := by unfold isT at hk; simpa using hk
  subst e
  have h : (n == 0 && (decide ((t.size : Int) ≤ 1024) && Lib.validD t.data.toList)) = true := hm
  simp only [Bool.and_eq_true, beq_iff_eq, decide_eq_true_eq] at h
  refine ⟨rfl, h.1, h.2.2, ?_⟩
  rw [Array.length_toList]
  have : t.data.size = t.size := rfl
  omega
theorem fin_fit (K x : Int) (hK : K = 2 ∨ K = 3) : Fit K (((Ar.fin K x).1, (Ar.fin K x).2.1, ⟨#[]⟩), (Ar.fin K x).2.2) := by
  unfold Ar.fin
  split
  · rcases hK with rfl | rfl
    · exact ⟨fun h => absurd rfl h, fun _ => ⟨may_int _, Or.inr rfl⟩⟩
    · exact ⟨fun h => absurd rfl h, fun _ => ⟨may_dec _, Or.inr rfl⟩⟩
  · exact fit_dv K 20
theorem st1_num {k : Int} (h : k = 2 ∨ k = 3) : Ar.st1 k = (0, false) := by unfold Ar.st1; rw [if_pos h]
theorem fit_0 {r : List Val} (hok : OkD 0 r) (hn : nulB r = false) : Fit (kdP 0 (ksL r)) (dsP 0 r) := by
  obtain ⟨k, n, t, rfl, hk, hm⟩ := one_kind hok.tak hn hok.may
  have hk := num_kinds hk
  show Fit k (((absP k n t).1, (absP k n t).2.1, (absP k n t).2.2.1), (absP k n t).2.2.2)
  unfold absP
  split
  · unfold Ar.negS
    rw [st1_num hk]
    exact fin_fit k _ hk
  · exact ⟨fun h => absurd rfl h, fun _ => ⟨hm, Or.inr rfl⟩⟩
theorem fit_13 {r : List Val} (hok : OkD 13 r) (hn : nulB r = false) : Fit (kdP 13 (ksL r)) (dsP 13 r) := by
  obtain ⟨k, n, t, rfl, hk, hm⟩ := one_kind hok.tak hn hok.may
  have hk := num_kinds hk
  show Fit 3 (((Ar.decS k n).1, (Ar.decS k n).2.1, ⟨#[]⟩), (Ar.decS k n).2.2)
  unfold Ar.decS
  rw [st1_num hk]
  exact fin_fit 3 _ (Or.inr rfl)
theorem fit_14 {r : List Val} (hok : OkD 14 r) (hn : nulB r = false) : Fit (kdP 14 (ksL r)) (dsP 14 r) := by
  obtain ⟨k, n, t, rfl, hk, hm⟩ := one_kind hok.tak hn hok.may
  have hk := num_kinds hk
  show Fit 2 (((Ar.intS k n).1, (Ar.intS k n).2.1, ⟨#[]⟩), (Ar.intS k n).2.2)
  unfold Ar.intS
  rw [st1_num hk]
  exact fit_int _
theorem comP_kinds : ∀ (l : List Int) (q K : Int), comP q l = some K → K ≠ 3 → (q = 0 ∨ q = K) ∧ ∀ x ∈ l, x = 0 ∨ x = K
  | [], q, K, h, _ => by
    rw [comP] at h
    injection h with h
    exact ⟨Or.inr h, fun x hx => by cases hx⟩
  | x :: l, q, K, h, hK => by
    rw [comP] at h
    split at h
    · rename_i h1
      obtain ⟨a, b⟩ := comP_kinds l q K h hK
      refine ⟨a, fun y hy => ?_⟩
      rcases List.mem_cons.1 hy with rfl | hy
      · simp at h1
        rcases h1 with h1 | h1
        · exact Or.inl h1
        · rw [h1]; exact a
      · exact b y hy
    · split at h
      · rename_i h1 h2
        obtain ⟨a, b⟩ := comP_kinds l x K h hK
        refine ⟨Or.inl (by simpa using h2), fun y hy => ?_⟩
        rcases List.mem_cons.1 hy with rfl | hy
        · exact a
        · exact b y hy
      · split at h
        · obtain ⟨a, _⟩ := comP_kinds l 3 K h hK
          rcases a with a | a
          · omega
          · exact absurd a.symm hK
        · cases h
theorem dcV_fit (v : Val) (h : (dcV v).2 = 0) : mayV (dcV v).1 = true ∧ ((dcV v).1.1 = 0 ∨ (dcV v).1.1 = 3) := by
  have e : dcV v = (((Ar.decS v.1 v.2.1).1, (Ar.decS v.1 v.2.1).2.1, ⟨#[]⟩), (Ar.decS v.1 v.2.1).2.2) := rfl
  rw [e] at h ⊢
  unfold Ar.decS at h ⊢
  split
  · exact ⟨may_dv, Or.inl rfl⟩
  · rename_i hs
    rw [if_neg hs] at h
    exact (fin_fit 3 _ (Or.inr rfl)).ok h
theorem dcL_fit : ∀ (r : List Val) , ∀ v ∈ (dcL r).2, mayV v = true ∧ (v.1 = 0 ∨ v.1 = 3)
  | [], v, hv => by cases hv
  | u :: r, v, hv => by
    rw [dcL] at hv
    split at hv
    · rename_i h1
      split at hv
      · rcases List.mem_cons.1 hv with rfl | hv
        · exact dcV_fit u h1
        · exact dcL_fit r v hv
      · cases hv
    · cases hv
theorem inK_fit {r : List Val} (ha : alkB (ksL r) = true) (hm : mayR r = true) : ∀ v ∈ (inK r).2, mayV v = true ∧ (v.1 = 0 ∨ v.1 = comG (ksL r)) := by
  intro v hv
  unfold inK at hv
  split at hv
  · rename_i h3
    rw [h3]; exact dcL_fit r v hv
  · rename_i h3
    refine ⟨List.all_eq_true.1 hm v hv, ?_⟩
    unfold alkB at ha
    obtain ⟨K, hK⟩ := Option.isSome_iff_exists.1 ha
    have e : comG (ksL r) = K := by unfold comG; rw [hK]; rfl
    rw [e] at h3 ⊢
    exact (comP_kinds _ 0 K hK h3).2 v.1 (List.mem_map.2 ⟨v, hv, rfl⟩)
theorem firN_mem : ∀ (l : List Val), firN l = dv ∨ firN l ∈ l
  | [] => Or.inl rfl
  | v :: l => by
    rw [firN]
    split
    · rcases firN_mem l with h | h
      · exact Or.inl h
      · exact Or.inr (List.mem_cons_of_mem _ h)
    · exact Or.inr List.mem_cons_self
theorem fsP_mem (way : Int) : ∀ (l : List Val) (b : Val), fsP way b l = b ∨ fsP way b l ∈ l
  | [], _ => Or.inl rfl
  | v :: l, b => by
    rw [fsP]
    split
    · rcases fsP_mem way l v with h | h
      · rw [h]; exact Or.inr List.mem_cons_self
      · exact Or.inr (List.mem_cons_of_mem _ h)
    · rcases fsP_mem way l b with h | h
      · exact Or.inl h
      · exact Or.inr (List.mem_cons_of_mem _ h)
theorem and_r {a b : Bool} (h : (a && b) = true) : b = true := by cases a <;> simp_all
theorem fit_2 {r : List Val} (hok : OkD 2 r) : Fit (kdP 2 (ksL r)) (dsP 2 r) := by
  show Fit (comG (ksL r)) (coaP r)
  unfold coaP
  split
  · refine ⟨fun h => absurd rfl h, fun _ => ?_⟩
    rcases firN_mem (inK r).2 with h | h
    · show mayV (firN (inK r).2) = true ∧ ((firN (inK r).2).1 = 0 ∨ (firN (inK r).2).1 = comG (ksL r))
      rw [h]; exact ⟨may_dv, Or.inl rfl⟩
    · exact inK_fit (and_r hok.tak) hok.may _ h
  · exact fit_dv _ _
theorem far_fit {r : List Val} (way : Int) (hl : 1 ≤ r.length) (ha : alkB (ksL r) = true) (hm : mayR r = true) : Fit (comG (ksL r)) (farP way r) := by
  unfold farP
  split
  · rename_i h0
    refine ⟨fun h => absurd rfl h, fun _ => ?_⟩
    have hlen := inK_len r h0
    have hf := inK_fit ha hm
    generalize (inK r).2 = L at *
    match L, hlen with
    | [], hlen => simp at hlen; omega
    | v :: l, _ =>
      show mayV (fsP way v l) = true ∧ _
      rcases fsP_mem way l v with h | h
      · have := hf v List.mem_cons_self
        rw [← h] at this; exact this
      · exact hf _ (List.mem_cons_of_mem _ h)
  · exact fit_dv _ _
theorem fit_5 {r : List Val} (hok : OkD 5 r) : Fit (kdP 5 (ksL r)) (dsP 5 r) := far_fit 1 (len_ge hok.tak) (and_r hok.tak) hok.may
theorem fit_6 {r : List Val} (hok : OkD 6 r) : Fit (kdP 6 (ksL r)) (dsP 6 r) := far_fit (-1) (len_ge hok.tak) (and_r hok.tak) hok.may
theorem fit_9 {r : List Val} (hok : OkD 9 r) : Fit (kdP 9 (ksL r)) (dsP 9 r) := by
  have hl := len_of (and_l hok.tak)
  match r, hl with
  | [v, u], _ =>
    show Fit v.1 (nuiP v u)
    unfold nuiP
    split
    · exact fit_dv _ _
    · have := List.all_eq_true.1 hok.may v (by simp)
      exact ⟨fun h => absurd rfl h, fun _ => ⟨this, Or.inr rfl⟩⟩
theorem conL_valid : ∀ (r : List Val), (∀ v ∈ r, Lib.validD v.2.2.data.toList = true) → Lib.validD (conL r) = true
  | [], _ => rfl
  | v :: r, h => by
    have e : conL (v :: r) = v.2.2.data.toList ++ conL r := rfl
    rw [e]
    exact valid_append (h v List.mem_cons_self) (conL_valid r (fun x hx => h x (List.mem_cons_of_mem _ hx)))
theorem fit_3 {r : List Val} (hok : OkD 3 r) (hn : nulB r = false) : Fit (kdP 3 (ksL r)) (dsP 3 r) := by
  show Fit 4 (conP r)
  unfold conP
  split
  · rename_i h
    refine fit_txt (conL_valid r (fun v hv => ?_)) h
    have h1 : allK isT (ksL r) = true := and_r hok.tak
    have h2 := List.all_eq_true.1 h1 v.1 (List.mem_map.2 ⟨v, hv, rfl⟩)
    have h3 : (v.1 == 0) = false := by
      unfold nulB at hn
      rw [List.any_eq_false] at hn
      simpa using hn v hv
    rw [h3, Bool.false_or] at h2
    exact (txt_kind h2 (List.all_eq_true.1 hok.may v hv)).2.2.1
  · exact fit_dv _ _
theorem trnL_len (f t : UInt8) (l : List UInt8) : (trnL f t l).length = l.length := by simp [trnL]
theorem fit_8 {r : List Val} (hok : OkD 8 r) (hn : nulB r = false) : Fit (kdP 8 (ksL r)) (dsP 8 r) := by
  obtain ⟨k, n, t, rfl, hk, hm⟩ := one_kind hok.tak hn hok.may
  obtain ⟨rfl, rfl, hv, hl⟩ := txt_kind hk hm
  exact fit_txt (valid_trn (by decide) (by decide) hv) (by rw [trnL_len]; exact hl)
theorem fit_17 {r : List Val} (hok : OkD 17 r) (hn : nulB r = false) : Fit (kdP 17 (ksL r)) (dsP 17 r) := by
  obtain ⟨k, n, t, rfl, hk, hm⟩ := one_kind hok.tak hn hok.may
  obtain ⟨rfl, rfl, hv, hl⟩ := txt_kind hk hm
  exact fit_txt (valid_trn (by decide) (by decide) hv) (by rw [trnL_len]; exact hl)
theorem fit_16 {r : List Val} (hok : OkD 16 r) (hn : nulB r = false) : Fit (kdP 16 (ksL r)) (dsP 16 r) := by
  obtain ⟨k, n, t, rfl, hk, hm⟩ := one_kind hok.tak hn hok.may
  obtain ⟨rfl, rfl, hv, hl⟩ := txt_kind hk hm
  exact fit_txt (valid_trim hv) (Nat.le_trans (trim_le _) hl)
theorem subL_len (x y : Int) (l : List UInt8) : (subL x y l).length ≤ l.length := by
  unfold subL
  rw [List.length_take, List.length_drop]; omega
theorem fit_12 {r : List Val} (hok : OkD 12 r) (hn : nulB r = false) : Fit (kdP 12 (ksL r)) (dsP 12 r) := by
  have hl := len_of (and_l hok.tak)
  match r, hl with
  | [v, u, x], _ =>
    have h0 : txtP (ksL [v, u, x]) = true := hok.tak
    unfold txtP at h0
    have h1 := and_l (and_r h0)
    have h3 : (v.1 == 0) = false := by
      unfold nulB at hn
      rw [List.any_eq_false] at hn
      simpa using hn v (by simp)
    have h2 : isT v.1 = true := by simpa [allK, ksL, h3] using h1
    obtain ⟨_, _, hv, hs⟩ := txt_kind h2 (List.all_eq_true.1 hok.may v (by simp))
    exact fit_txt (valid_sub _ _ hv) (Nat.le_trans (subL_len _ _ _) hs)
theorem digits_asc (u : Nat) : ∀ b ∈ Lib.decDigits u, b.toNat < 128 := fun b hb => by have := digits_range u u (Nat.le_refl _) b hb; omega
theorem show_asc {k n : Int} {t : ByteArray} (hn : I64 n) (hm : mayS k n t = true) (h4 : k ≠ 4) : (∀ b ∈ showS k n t, b.toNat < 128) ∧ (showS k n t).length ≤ 1024 := by
  have hd : ∀ u, u < 18446744073709551616 → (Lib.decDigits u).length ≤ 20 := fun u hu => digits20 u hu
  have hdl : ∀ u, u < 18446744073709551616 → (∀ b ∈ decL u, b.toNat < 128) ∧ (decL u).length ≤ 100 := fun u hu => by
    have h1 := hd (u / 10000) (by omega)
    have h2 := rest_len u
    have hr : ∀ b ∈ restL u, b.toNat < 128 := fun b hb => digits_asc _ b (List.mem_of_mem_drop hb)
    have h3 := trimRight_len ((restL u).drop 1) 48
    rw [List.length_drop, h2] at h3
    unfold decL
    refine ⟨fun b hb => ?_, ?_⟩
    · simp only [List.mem_append, List.mem_singleton] at hb
      rcases hb with ((hb | hb) | hb) | hb
      · exact digits_asc _ b hb
      · subst hb; decide
      · exact hr b (List.mem_of_mem_take hb)
      · unfold Lib.trimRightB at hb
        rw [List.mem_reverse] at hb
        exact hr b (List.mem_of_mem_drop (List.mem_reverse.1 ((List.dropWhile_sublist _).mem hb)))
    · simp only [List.length_append, List.length_take, List.length_singleton]; omega
  rcases mayS_kinds hm with rfl | rfl | rfl | rfl | rfl
  · rw [showS_0 hm]; exact ⟨by decide, by decide⟩
  · rw [showS_1 hm]; unfold Lib.formatBool; split <;> exact ⟨by decide, by decide⟩
  · rw [showS_2 hm]
    unfold Lib.itoa
    unfold I64 at hn
    split
    · refine ⟨fun b hb => ?_, ?_⟩
      · rcases List.mem_cons.1 hb with rfl | hb
        · decide
        · exact digits_asc _ b hb
      · have := hd n.natAbs (by omega)
        rw [List.length_cons]; omega
    · exact ⟨digits_asc _, by have := hd n.toNat (by omega); omega⟩
  · rw [showS_3 hm]
    unfold decS
    unfold I64 at hn
    split
    · obtain ⟨h1, h2⟩ := hdl n.natAbs (by omega)
      refine ⟨fun b hb => ?_, by rw [List.length_cons]; omega⟩
      rcases List.mem_cons.1 hb with rfl | hb
      · decide
      · exact h1 b hb
    · obtain ⟨h1, h2⟩ := hdl n.toNat (by omega)
      exact ⟨h1, by omega⟩
  · exact absurd rfl h4
theorem fit_15 {r : List Val} (hok : OkD 15 r) (hI : IntR r) : Fit (kdP 15 (ksL r)) (dsP 15 r) := by
  obtain ⟨⟨k, n, t⟩, rfl⟩ := one_of hok.tak
  have hm : mayS k n t = true := List.all_eq_true.1 hok.may (k, n, t) (by simp)
  have hn : I64 n := hI (k, n, t) (by simp)
  show Fit 4 ((4, (totP k n t).1, (totP k n t).2), 0)
  unfold totP
  split
  · rename_i h4
    subst h4
    exact ⟨fun h => absurd rfl h, fun _ => ⟨hm, Or.inr rfl⟩⟩
  · rename_i h4
    obtain ⟨h1, h2⟩ := show_asc hn hm h4
    exact fit_txt (valid_ascii _ h1) h2
theorem fit_all (k : Nat) (hk : k < 18) {r : List Val} (hok : OkD k r) (hn : snB k = true ∨ nulB r = false) (hI : IntR r) : Fit (kdP k (ksL r)) (dsP k r) := by
  have hn' : snB k = false → nulB r = false := fun h => by rcases hn with h2 | h2; rw [h2] at h; cases h; exact h2
  rcases (show k = 0 ∨ k = 1 ∨ k = 2 ∨ k = 3 ∨ k = 4 ∨ k = 5 ∨ k = 6 ∨ k = 7 ∨ k = 8 ∨ k = 9 ∨ k = 10 ∨ k = 11 ∨ k = 12 ∨ k = 13 ∨ k = 14 ∨ k = 15 ∨ k = 16 ∨ k = 17 by omega) with rfl | rfl | rfl | rfl | rfl | rfl | rfl | rfl | rfl | rfl | rfl | rfl | rfl | rfl | rfl | rfl | rfl | rfl
  · exact fit_0 hok (hn' rfl)
  · exact fit_int _
  · exact fit_2 hok
  · exact fit_3 hok (hn' rfl)
  · exact fit_int _
  · exact fit_5 hok
  · exact fit_6 hok
  · exact fit_int _
  · exact fit_8 hok (hn' rfl)
  · exact fit_9 hok
  · exact fit_int _
  · exact fit_int _
  · exact fit_12 hok (hn' rfl)
  · exact fit_13 hok (hn' rfl)
  · exact fit_14 hok (hn' rfl)
  · exact fit_15 hok hI
  · exact fit_16 hok (hn' rfl)
  · exact fit_17 hok (hn' rfl)
/-- FuncsFit, in plain words. -/
theorem fit_main (s : ByteArray) (r : List Val) (hI : IntR r) : ((kinP s (ksL r)).2 ≠ 0 → (calP s r).2 = (kinP s (ksL r)).2) ∧ ((kinP s (ksL r)).2 = 0 → Fit (kinP s (ksL r)).1 (calP s r)) := by
  unfold kinP calP
  cases hB : fdB (fdK s) (ksL r) with
  | false => exact ⟨fun _ => rfl, fun h => by cases h⟩
  | true =>
    refine ⟨fun h => absurd rfl h, fun _ => ?_⟩
    obtain ⟨k, hk⟩ : ∃ k, fdK s = some k := by
      cases h : fdK s with
      | none => rw [h] at hB; cases hB
      | some k => exact ⟨k, rfl⟩
    have hk18 := fdK_lt hk
    have ht : tkP k (ksL r) = true := by rw [hk] at hB; unfold fdB at hB; simp at hB; exact hB.2
    rw [hk]
    show Fit (kdP k (ksL r)) (if mayR r then (if !snB k && nulB r then (dv, 0) else dsP k r) else (dv, 22))
    cases hm : mayR r with
    | false => exact fit_dv _ _
    | true =>
      cases hs : snB k with
      | true => exact fit_all k hk18 ⟨ht, hm⟩ (Or.inl hs) hI
      | false =>
        cases hn : nulB r with
        | true => exact fit_dv _ _
        | false => exact fit_all k hk18 ⟨ht, hm⟩ (Or.inr hn) hI
end Go.Proofs.YtjphmbgennadcaaGreatDoor
