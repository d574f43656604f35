/- Pieces, and what is done twice, in plain words. -/
import Derived.Test.YtjphmbgennadcaaGreatDoorFip
namespace Go.Proofs.YtjphmbgennadcaaGreatDoor
set_option maxHeartbeats 4000000
set_option maxRecDepth 20000
set_option linter.unusedSimpArgs false
open Go.ChangeShapes Go.WideShapes Go.ChangeAt Go.RowKit


theorem calV_at (s : ByteArray) (k : Nat) (r : List Val) (hk : fdC s.data.toList = some k) (ht : (areK (ksL r) && tkP k (ksL r)) = true) (hm : mayR r = true) (hn : (!snB k && nulB r) = false) (h0 : (dsP k r).2 = 0) : calV s r = (dsP k r).1 := by
  have e : calP s r = dsP k r := by
    unfold calP
    rw [fdK_C, hk]
    have h1 : fdB (some k) (ksL r) = true := ht
    rw [if_pos h1, if_pos hm]
    show (if (!snB k && nulB r) = true then _ else dsP k r) = _
    rw [hn]; rfl
  unfold calV
  rw [e, if_pos h0]
theorem may_of {s : ByteArray} (h : mayS 4 0 s = true) : Lib.validD s.data.toList = true ∧ s.data.toList.length ≤ 1024 := by
  have := txt_kind (k := 4) (n := 0) (t := s) rfl h
  exact ⟨this.2.2.1, this.2.2.2⟩
theorem may4 {l : List UInt8} (h : Lib.validD l = true) (hl : l.length ≤ 1024) : mayV (4, 0, bsA l) = true := may_txt h hl
theorem cv_len {l : List UInt8} (h : Lib.validD l = true) (hl : l.length ≤ 1024) : calV ⟨#[108, 101, 110, 103, 116, 104]⟩ [(4, 0, bsA l)] = (2, (Lib.runeCount (bsA l) : Int), ⟨#[]⟩) := by
  refine (calV_at _ 7 _ (by kernel_rfl) (by kernel_rfl) ?_ (by kernel_rfl) rfl).trans rfl
  unfold mayR
  rw [List.all_cons, may4 h hl]; rfl
theorem cv_up {l : List UInt8} (h : Lib.validD l = true) (hl : l.length ≤ 1024) : calV ⟨#[117, 112, 112, 101, 114]⟩ [(4, 0, bsA l)] = (4, 0, bsA (trnL 97 65 l)) := by
  refine (calV_at _ 17 _ (by kernel_rfl) (by kernel_rfl) ?_ (by kernel_rfl) rfl).trans ?_
  · unfold mayR
    rw [List.all_cons, may4 h hl]; rfl
  · show (4, 0, bsA (trnL 97 65 (bsA l).data.toList)) = _
    rw [bsA_list]
theorem cv_lo {l : List UInt8} (h : Lib.validD l = true) (hl : l.length ≤ 1024) : calV ⟨#[108, 111, 119, 101, 114]⟩ [(4, 0, bsA l)] = (4, 0, bsA (trnL 65 97 l)) := by
  refine (calV_at _ 8 _ (by kernel_rfl) (by kernel_rfl) ?_ (by kernel_rfl) rfl).trans ?_
  · unfold mayR
    rw [List.all_cons, may4 h hl]; rfl
  · show (4, 0, bsA (trnL 65 97 (bsA l).data.toList)) = _
    rw [bsA_list]
theorem cv_tr {l : List UInt8} (h : Lib.validD l = true) (hl : l.length ≤ 1024) : calV ⟨#[116, 114, 105, 109]⟩ [(4, 0, bsA l)] = (4, 0, bsA (Lib.trimB l 32)) := by
  refine (calV_at _ 16 _ (by kernel_rfl) (by kernel_rfl) ?_ (by kernel_rfl) rfl).trans ?_
  · unfold mayR
    rw [List.all_cons, may4 h hl]; rfl
  · show (4, 0, bsA (Lib.trimB (bsA l).data.toList 32)) = _
    rw [bsA_list]
theorem cv_sub {l : List UInt8} (h : Lib.validD l = true) (hl : l.length ≤ 1024) (x y : Int) : calV ⟨#[115, 117, 98, 115, 116, 114]⟩ [(4, 0, bsA l), (2, x, ⟨#[]⟩), (2, y, ⟨#[]⟩)] = (4, 0, bsA (subL x y l)) := by
  refine (calV_at _ 12 _ (by kernel_rfl) (by kernel_rfl) ?_ (by kernel_rfl) rfl).trans ?_
  · unfold mayR
    rw [List.all_cons, List.all_cons, List.all_cons, may4 h hl, may_int, may_int]; rfl
  · show (4, 0, bsA (subL x y (bsA l).data.toList)) = _
    rw [bsA_list]
theorem cv_con {l m : List UInt8} (h : Lib.validD l = true) (hl : l.length ≤ 1024) (h' : Lib.validD m = true) (hl' : m.length ≤ 1024) (hlm : l.length + m.length ≤ 1024) : calV ⟨#[99, 111, 110, 99, 97, 116]⟩ [(4, 0, bsA l), (4, 0, bsA m)] = (4, 0, bsA (l ++ m)) := by
  have e : conL [(4, 0, bsA l), (4, 0, bsA m)] = l ++ m := by simp [conL, bsA_list]
  have e2 : dsP 3 [(4, 0, bsA l), (4, 0, bsA m)] = ((4, 0, bsA (l ++ m)), 0) := by
    show conP _ = _
    unfold conP
    rw [e, if_pos (by rw [List.length_append]; exact hlm)]
  refine (calV_at _ 3 _ (by kernel_rfl) (by kernel_rfl) ?_ (by kernel_rfl) (by rw [e2])).trans (by rw [e2])
  unfold mayR
  rw [List.all_cons, List.all_cons, may4 h hl, may4 h' hl']; rfl
theorem bad_len {s : ByteArray} (h : mayS 4 0 s = false) : calP ⟨#[108, 101, 110, 103, 116, 104]⟩ [(4, 0, s)] = (dv, 22) := by
  unfold calP
  have h1 : fdK ⟨#[108, 101, 110, 103, 116, 104]⟩ = some 7 := by rw [fdK_C]; kernel_rfl
  rw [h1, if_pos (show fdB (some 7) (ksL [(4, 0, s)]) = true by kernel_rfl), if_neg]
  unfold mayR mayV
  rw [List.all_cons]
  show ¬ (mayS 4 0 s && _) = true
  rw [h]; simp
/-- A text cut in two. -/
structure PcP (s : ByteArray) (x : Int) (a b : ByteArray) (n m l : Int) : Prop where
  sa : calV ⟨#[115, 117, 98, 115, 116, 114]⟩ [(4, 0, s), (2, 0, ⟨#[]⟩), (2, x, ⟨#[]⟩)] = (4, 0, a)
  sb : calV ⟨#[115, 117, 98, 115, 116, 114]⟩ [(4, 0, s), (2, max 0 x, ⟨#[]⟩), (2, 4611686018427387904, ⟨#[]⟩)] = (4, 0, b)
  ln : calV ⟨#[108, 101, 110, 103, 116, 104]⟩ [(4, 0, a)] = (2, n, ⟨#[]⟩)
  lm : calV ⟨#[108, 101, 110, 103, 116, 104]⟩ [(4, 0, b)] = (2, m, ⟨#[]⟩)
  ll : calV ⟨#[108, 101, 110, 103, 116, 104]⟩ [(4, 0, s)] = (2, l, ⟨#[]⟩)
  cc : calV ⟨#[99, 111, 110, 99, 97, 116]⟩ [(4, 0, a), (4, 0, b)] = (4, 0, s)
  sum : n + m = l
  nn : n = max 0 (min x l)
  bd : 0 ≤ l ∧ l ≤ 1024
  bn : 0 ≤ n ∧ 0 ≤ m
theorem pieces_ok (s : ByteArray) (x : Int) (h : mayS 4 0 s = true) : ∃ a b n m l, PcP s x a b n m l := by
  obtain ⟨hv, hl⟩ := may_of h
  obtain ⟨cs, hc, e⟩ := (valid_iff _).1 hv
  have es : s = bsA cs.flatten := by rw [← e, bsA_of]
  rw [e] at hv hl
  rw [es]
  have ht : ∀ k, ∀ c ∈ cs.take k, isR c := fun k c h => hc c (List.mem_of_mem_take h)
  have hd : ∀ k, ∀ c ∈ cs.drop k, isR c := fun k c h => hc c (List.mem_of_mem_drop h)
  have hcl := flat_len cs hc
  have e0 : ∀ l : List UInt8, szF 0 l = 0 := fun l => by unfold szF; rfl
  have s1 : subL 0 x cs.flatten = (cs.take x.toNat).flatten := by
    unfold subL
    rw [show (0 : Int).toNat = 0 from rfl, e0, List.drop_zero, (split_flat x.toNat cs hc).1]
  have s2 : subL (max 0 x) 4611686018427387904 cs.flatten = (cs.drop x.toNat).flatten := by
    unfold subL
    rw [show (max 0 x).toNat = x.toNat by omega, (split_flat x.toNat cs hc).2, (split_flat _ _ (hd _)).1, List.take_of_length_le]
    rw [List.length_drop, show (4611686018427387904 : Int).toNat = 4611686018427387904 from rfl]
    omega
  have ea : (cs.take x.toNat).flatten ++ (cs.drop x.toNat).flatten = cs.flatten := by rw [← List.flatten_append, List.take_append_drop]
  have el : (cs.take x.toNat).flatten.length + (cs.drop x.toNat).flatten.length = cs.flatten.length := by rw [← List.length_append, ea]
  have va := valid_flat _ (ht x.toNat)
  have vb := valid_flat _ (hd x.toNat)
  refine ⟨_, _, _, _, _, ⟨by rw [cv_sub hv hl, s1], by rw [cv_sub hv hl, s2], by rw [cv_len va (by omega), count_flat _ (ht _)], by rw [cv_len vb (by omega), count_flat _ (hd _)], by rw [cv_len hv hl, count_flat _ hc], by rw [cv_con va (by omega) vb (by omega) (by omega), ea], ?_, ?_, ?_, ?_⟩⟩
  · rw [List.length_take, List.length_drop]; omega
  · rw [List.length_take]; omega
  · omega
  · omega
/-- Letters. -/
def tblB : Bool := (List.range 256).all fun n =>
  let c := UInt8.ofNat n
  (trnP 97 65 (trnP 97 65 c) == trnP 97 65 c) && (trnP 65 97 (trnP 65 97 c) == trnP 65 97 c) && (trnP 97 65 (trnP 65 97 c) == trnP 97 65 c) && (trnP 65 97 (trnP 97 65 c) == trnP 65 97 c)
theorem tbl_ok : tblB = true := by kernel_rfl
theorem tbl_at (c : UInt8) : trnP 97 65 (trnP 97 65 c) = trnP 97 65 c ∧ trnP 65 97 (trnP 65 97 c) = trnP 65 97 c ∧ trnP 97 65 (trnP 65 97 c) = trnP 97 65 c ∧ trnP 65 97 (trnP 97 65 c) = trnP 65 97 c := by
  have h := tbl_ok
  unfold tblB at h
  rw [List.all_eq_true] at h
  have h1 := h c.toNat (List.mem_range.2 c.toNat_lt)
  simp only [UInt8.ofNat_toNat, Bool.and_eq_true, beq_iff_eq] at h1
  exact ⟨h1.1.1.1, h1.1.1.2, h1.1.2, h1.2⟩
theorem trn_uu (l : List UInt8) : trnL 97 65 (trnL 97 65 l) = trnL 97 65 l := by
  unfold trnL; rw [List.map_map]; exact List.map_congr_left fun c _ => (tbl_at c).1
theorem trn_ll (l : List UInt8) : trnL 65 97 (trnL 65 97 l) = trnL 65 97 l := by
  unfold trnL; rw [List.map_map]; exact List.map_congr_left fun c _ => (tbl_at c).2.1
theorem trn_ul (l : List UInt8) : trnL 97 65 (trnL 65 97 l) = trnL 97 65 l := by
  unfold trnL; rw [List.map_map]; exact List.map_congr_left fun c _ => (tbl_at c).2.2.1
theorem trn_lu (l : List UInt8) : trnL 65 97 (trnL 97 65 l) = trnL 65 97 l := by
  unfold trnL; rw [List.map_map]; exact List.map_congr_left fun c _ => (tbl_at c).2.2.2
theorem dw_dw (p : UInt8 → Bool) : ∀ l : List UInt8, (l.dropWhile p).dropWhile p = l.dropWhile p
  | [] => rfl
  | c :: l => by
    cases h : p c with
    | true => rw [List.dropWhile_cons_of_pos h]; exact dw_dw p l
    | false => rw [List.dropWhile_cons_of_neg (by simp [h]), List.dropWhile_cons_of_neg (by simp [h])]
theorem dw_id (p : UInt8 → Bool) (l : List UInt8) (h : ∀ c, l.head? = some c → p c = false) : l.dropWhile p = l := by
  cases l with
  | nil => rfl
  | cons c l => rw [List.dropWhile_cons_of_neg (by simp [h c rfl])]
theorem dw_head (p : UInt8 → Bool) : ∀ (l : List UInt8) (c : UInt8), (l.dropWhile p).head? = some c → p c = false
  | [], c, h => by simp at h
  | x :: l, c, h => by
    cases hx : p x with
    | true => rw [List.dropWhile_cons_of_pos hx] at h; exact dw_head p l c h
    | false =>
      rw [List.dropWhile_cons_of_neg (by simp [hx])] at h
      simp at h
      subst h; exact hx
theorem trim_trim (l : List UInt8) : Lib.trimB (Lib.trimB l 32) 32 = Lib.trimB l 32 := by
  unfold Lib.trimB Lib.trimLeftB Lib.trimRightB
  generalize hr : (l.reverse.dropWhile (· == 32)).reverse = r
  have hlast : ∀ c, r.getLast? = some c → (c == 32) = false := fun c hc => by
    refine dw_head (· == 32) l.reverse c ?_
    rw [← hr, List.getLast?_reverse] at hc
    exact hc
  have e : (List.dropWhile (· == 32) (List.dropWhile (· == 32) r).reverse).reverse = List.dropWhile (· == 32) r := by
    rw [dw_id (· == 32) (List.dropWhile (· == 32) r).reverse, List.reverse_reverse]
    intro c hc
    rw [List.head?_reverse] at hc
    refine hlast c ?_
    obtain ⟨pre, hp⟩ := List.dropWhile_suffix (l := r) (p := (· == 32))
    rw [← hp]
    cases hd : List.dropWhile (· == 32) r with
    | nil => rw [hd] at hc; simp at hc
    | cons x y => rw [hd] at hc; rw [List.getLast?_append, hc]; rfl
  rw [e, dw_dw]
/-- What is done twice. -/
structure AgP (s u l t : ByteArray) : Prop where
  u1 : calV ⟨#[117, 112, 112, 101, 114]⟩ [(4, 0, s)] = (4, 0, u)
  l1 : calV ⟨#[108, 111, 119, 101, 114]⟩ [(4, 0, s)] = (4, 0, l)
  t1 : calV ⟨#[116, 114, 105, 109]⟩ [(4, 0, s)] = (4, 0, t)
  u2 : calV ⟨#[117, 112, 112, 101, 114]⟩ [(4, 0, u)] = (4, 0, u)
  l2 : calV ⟨#[108, 111, 119, 101, 114]⟩ [(4, 0, l)] = (4, 0, l)
  t2 : calV ⟨#[116, 114, 105, 109]⟩ [(4, 0, t)] = (4, 0, t)
  ul : calV ⟨#[117, 112, 112, 101, 114]⟩ [(4, 0, l)] = (4, 0, u)
  lu : calV ⟨#[108, 111, 119, 101, 114]⟩ [(4, 0, u)] = (4, 0, l)
theorem again_ok (s : ByteArray) (h : mayS 4 0 s = true) : ∃ u l t, AgP s u l t := by
  obtain ⟨hv, hl⟩ := may_of h
  have es : s = bsA s.data.toList := (bsA_of s).symm
  generalize s.data.toList = b at *
  subst es
  have vu := valid_trn (f := 97) (t := 65) (by decide) (by decide) hv
  have vl := valid_trn (f := 65) (t := 97) (by decide) (by decide) hv
  have lu : (trnL 97 65 b).length ≤ 1024 := by unfold trnL; rw [List.length_map]; exact hl
  have ll : (trnL 65 97 b).length ≤ 1024 := by unfold trnL; rw [List.length_map]; exact hl
  exact ⟨_, _, _, cv_up hv hl, cv_lo hv hl, cv_tr hv hl, by rw [cv_up vu lu, trn_uu], by rw [cv_lo vl ll, trn_ll], by rw [cv_tr (valid_trim hv) (Nat.le_trans (trim_le b) hl), trim_trim], by rw [cv_up vl ll, trn_ul], by rw [cv_lo vu lu, trn_lu]⟩
/-- Whole numbers around a decimal. -/
structure NuP (n f c r i : Int) : Prop where
  f1 : calV ⟨#[102, 108, 111, 111, 114]⟩ [(3, n, ⟨#[]⟩)] = (2, f, ⟨#[]⟩)
  c1 : calV ⟨#[99, 101, 105, 108]⟩ [(3, n, ⟨#[]⟩)] = (2, c, ⟨#[]⟩)
  r1 : calV ⟨#[114, 111, 117, 110, 100]⟩ [(3, n, ⟨#[]⟩)] = (2, r, ⟨#[]⟩)
  i1 : calV ⟨#[116, 111, 105, 110, 116]⟩ [(3, n, ⟨#[]⟩)] = (2, i, ⟨#[]⟩)
  fc : f ≤ c
  cf : c - f ≤ 1
  rf : f ≤ r
  rc : r ≤ c
  fi : f ≤ i
  ic : i ≤ c
  eq : (f = c) ↔ n.tmod 10000 = 0
  bf : -922337203685478 ≤ f ∧ c ≤ 922337203685478
theorem mayd (n : Int) : mayR [(3, n, ⟨#[]⟩)] = true := by unfold mayR; rw [List.all_cons, may_dec]; rfl
theorem nums_ok (n : Int) (hn : I64 n) : ∃ f c r i, NuP n f c r i := by
  have hq : n = 10000 * n.tdiv 10000 + n.tmod 10000 := (Int.mul_tdiv_add_tmod n 10000).symm
  have hm1 : n.tmod 10000 < 10000 := Int.tmod_lt_of_pos n (by decide)
  have hm3 : 0 ≤ n → 0 ≤ n.tmod 10000 := fun h => Int.tmod_nonneg _ h
  have hneg : n.tmod 10000 = -((-n).tmod 10000) := by rw [Int.neg_tmod, Int.neg_neg]
  have hm5 : (-n).tmod 10000 < 10000 := Int.tmod_lt_of_pos _ (by decide)
  have hm2 : -10000 < n.tmod 10000 := by omega
  have hm4 : n ≤ 0 → n.tmod 10000 ≤ 0 := fun h => by
    have := Int.tmod_nonneg (a := -n) 10000 (by omega)
    omega
  clear hneg hm5
  unfold I64 at hn
  refine ⟨florP 3 n, ceilP 3 n, rndP 3 n, n.tdiv 10000, ?_, ?_, ?_, ?_, ?_, ?_, ?_, ?_, ?_, ?_, ?_, ?_⟩
  · exact (calV_at _ 4 _ (by kernel_rfl) (by kernel_rfl) (mayd n) (by kernel_rfl) rfl).trans rfl
  · exact (calV_at _ 1 _ (by kernel_rfl) (by kernel_rfl) (mayd n) (by kernel_rfl) rfl).trans rfl
  · exact (calV_at _ 10 _ (by kernel_rfl) (by kernel_rfl) (mayd n) (by kernel_rfl) rfl).trans rfl
  · exact (calV_at _ 14 _ (by kernel_rfl) (by kernel_rfl) (mayd n) (by kernel_rfl) rfl).trans rfl
  all_goals
    simp only [florP, ceilP, rndP, cutP, show ¬ ((3 : Int) = 2) by decide, if_false]
    generalize n.tdiv 10000 = q at *
    generalize n.tmod 10000 = m at *
    (try split) <;> (try split) <;> (try split) <;> omega
theorem abs_ok (n : Int) (hn : I64 n) (h : n ≠ -9223372036854775808) : ∃ a, calV ⟨#[97, 98, 115]⟩ [(3, n, ⟨#[]⟩)] = (3, a, ⟨#[]⟩) ∧ calV ⟨#[97, 98, 115]⟩ [(3, a, ⟨#[]⟩)] = (3, a, ⟨#[]⟩) ∧ (∃ g, calV ⟨#[115, 105, 103, 110]⟩ [(3, n, ⟨#[]⟩)] = (2, g, ⟨#[]⟩) ∧ g * a = n) ∧ 0 ≤ a := by
  unfold I64 at hn
  have hd : ∀ m : Int, -9223372036854775808 < m → m ≤ 9223372036854775807 → dsP 0 [(3, m, ⟨#[]⟩)] = ((3, if m < 0 then -m else m, ⟨#[]⟩), 0) := fun m h1 h2 => by
    show (((absP 3 m ⟨#[]⟩).1, (absP 3 m ⟨#[]⟩).2.1, (absP 3 m ⟨#[]⟩).2.2.1), (absP 3 m ⟨#[]⟩).2.2.2) = _
    unfold absP
    split
    · rename_i hneg
      have e : Ar.negS 3 m = (3, 0 - m, 0) := by
        unfold Ar.negS
        rw [st1_num (Or.inr rfl)]
        show Ar.fin 3 (0 - m) = _
        unfold Ar.fin
        rw [if_pos (by unfold Ar.fits; simp; omega)]
      rw [e]
      simp
    · rfl
  have hc : ∀ m : Int, -9223372036854775808 < m → m ≤ 9223372036854775807 → calV ⟨#[97, 98, 115]⟩ [(3, m, ⟨#[]⟩)] = (3, if m < 0 then -m else m, ⟨#[]⟩) := fun m h1 h2 =>
    (calV_at _ 0 _ (by kernel_rfl) (by kernel_rfl) (mayd m) (by kernel_rfl) (by rw [hd m h1 h2])).trans (by rw [hd m h1 h2])
  refine ⟨if n < 0 then -n else n, hc n (by omega) (by omega), ?_, ⟨Lib.compareInt n 0, (calV_at _ 11 _ (by kernel_rfl) (by kernel_rfl) (mayd n) (by kernel_rfl) rfl).trans rfl, ?_⟩, ?_⟩
  · rw [hc _ (by split <;> omega) (by split <;> omega)]
    split <;> rename_i h1
    · split <;> rename_i h2
      · omega
      · rfl
    · rfl
  · unfold Lib.compareInt
    rcases Int.lt_trichotomy n 0 with h1 | h1 | h1
    · simp [h1]
    · subst h1; simp
    · have : ¬ n < 0 := by omega
      simp [this, h1]
  · split <;> omega
end Go.Proofs.YtjphmbgennadcaaGreatDoor
