/- The bytes of a row (Encode). -/
import Derived.Test.YtbfodpmlmhkikaaDoorEnc
namespace Go.Proofs.YtbfodpmlmhkikaaDoor
open Go.ChangeShapes Go.WideShapes Go.ChangeAt Go.RowKit

/-- The bytes of a value. -/
def encV (v : Val) : List UInt8 :=
  if v.1 = 0 then [0] else if v.1 = 1 then [1] ++ leB 1 (u64 v.2.1) else if v.1 = 2 then [2] ++ leB 8 (u64 v.2.1) else if v.1 = 3 then [3] ++ leB 8 (u64 v.2.1)
  else [4] ++ leB 2 v.2.2.size ++ v.2.2.data.toList
def encR (r : List Val) : List UInt8 := r.flatMap encV
theorem may_cases {k n : Int} {t : ByteArray} (h : mayS k n t = true) : (k = 0 ∧ n = 0 ∧ t.toList = []) ∨ (k = 1 ∧ (n = 0 ∨ n = 1) ∧ t.toList = []) ∨ (k = 2 ∧ t.toList = []) ∨ (k = 3 ∧ t.toList = []) ∨ (k = 4 ∧ n = 0 ∧ t.size ≤ 1024 ∧ Lib.validD t.data.toList = true) := by
  unfold mayS at h
  by_cases k0 : k = 0
  · subst k0; simp at h; exact Or.inl ⟨rfl, h⟩
  by_cases k1 : k = 1
  · subst k1; simp at h; exact Or.inr (Or.inl ⟨rfl, h⟩)
  by_cases k2 : k = 2
  · subst k2; simp at h; exact Or.inr (Or.inr (Or.inl ⟨rfl, h⟩))
  by_cases k3 : k = 3
  · subst k3; simp at h; exact Or.inr (Or.inr (Or.inr (Or.inl ⟨rfl, h⟩)))
  by_cases k4 : k = 4
  · subst k4; simp at h; exact Or.inr (Or.inr (Or.inr (Or.inr ⟨rfl, h.1, by omega, h.2.2⟩)))
  · simp [k0, k1, k2, k3, k4] at h
theorem encV_len {v : Val} (h : mayV v = true) : (encV v).length ≤ 1027 := by
  obtain ⟨k, n, t⟩ := v
  rcases may_cases h with ⟨rfl, _⟩ | ⟨rfl, _⟩ | ⟨rfl, _⟩ | ⟨rfl, _⟩ | ⟨rfl, _, h1, _⟩
  · simp [encV]
  · simp [encV, leB_len]
  · simp [encV, leB_len]
  · simp [encV, leB_len]
  · simp only [encV]
    have : t.data.toList.length = t.size := by rw [Array.length_toList]; rfl
    dsimp only at h1
    simp [leB_len]; simp at this; omega
theorem encR_len {r : List Val} (h : mayR r = true) : (encR r).length ≤ r.length * 1027 := by
  induction r with
  | nil => simp [encR]
  | cons v r ih =>
    simp only [mayR, List.all_cons, Bool.and_eq_true] at h
    have h1 := encV_len h.1
    have h2 := ih h.2
    have e : encR (v :: r) = encV v ++ encR r := by simp [encR]
    rw [e, List.length_append, List.length_cons]; omega
theorem appendValue_any (v : Value) (bs : List UInt8) (k n : Int) (t : ByteArray) (base : Nat) (w : World) (hm : mayS k n t = true) (hn1 : -9223372036854775808 ≤ n) (hn2 : n ≤ 9223372036854775807) (ho : OwnB w base v bs) (hbase : base ≤ w.heap.size) (hl : bs.length ≤ 4294967295) :
    Calls Tryd.prog 26 #[v, .agg #[.int .i64 k, .int .i64 n, .string t]] w fun e w' => ∃ v', e = .returned v' ∧ OwnB w' base v' (bs ++ encV (k, n, t)) ∧ Below base w w' := by
  rcases may_cases hm with ⟨rfl, _⟩ | ⟨rfl, _⟩ | ⟨rfl, _⟩ | ⟨rfl, _⟩ | ⟨rfl, _, h1, _⟩
  · exact appV_0 v bs n t base w ho hbase hl
  · exact appV_1 v bs n t base w ho hbase hl hn1 hn2
  · exact appV_2 v bs n t base w ho hbase hl hn1 hn2
  · exact appV_3 v bs n t base w ho hbase hl hn1 hn2
  · exact appV_4 v bs n t base w ho hbase hl h1
/-- Numbers that are ints. -/
def IntR (r : List Val) : Prop := ∀ i, i < r.length → -9223372036854775808 ≤ nAt r i ∧ nAt r i ≤ 9223372036854775807
/-- What Encode tells. -/
def bsA (bs : List UInt8) : ByteArray := ⟨bs.toArray⟩
def enS (r : List Val) : ByteArray := if mayR r then bsA (encR r) else ⟨#[]⟩
theorem mayR_at {r : List Val} (h : mayR r = true) {i : Nat} (hi : i < r.length) : mayS (kAt r i) (nAt r i) (tAt r i) = true := by
  have := List.all_eq_true.1 h (r.getD i dv) (by rw [List.getD_eq_getElem?_getD, List.getElem?_eq_getElem hi]; exact List.getElem_mem hi)
  exact this
theorem mayR_take {r : List Val} (h : mayR r = true) (i : Nat) : mayR (r.take i) = true := List.all_eq_true.2 fun x hx => List.all_eq_true.1 h x (List.mem_of_mem_take hx)
theorem encR_take {r : List Val} {i : Nat} (h : i < r.length) : encR (r.take (i + 1)) = encR (r.take i) ++ encV (kAt r i, nAt r i, tAt r i) := by
  rw [take_at h]; simp [encR]
theorem convert_own {w : World} {base : Nat} {v : Value} {bs : List UInt8} (h : OwnB w base v bs) : (convert 61 9 v).run Tryd.prog w = .ok (.string (bsA bs)) w := by
  have h' := h
  obtain ⟨h0, ⟨rfl, h1⟩ | ⟨g, cap, cur, rfl, hbg, hg, hnc, hcm, hcs, htake⟩⟩ := h
  · obtain rfl := List.length_eq_zero_iff.1 h1
    rw [run_convert_bytes_string w 61 9 5 none 0 0 Tryd.underlying61 Tryd.underlying5 Tryd.underlying9]
    rfl
  · refine run_convert_bytes_back w 61 9 5 ⟨g, 0, none⟩ cap bs Tryd.underlying61 Tryd.underlying5 Tryd.underlying9 (fun j hj => ?_)
    exact h'.cells (g := g) rfl j _ (by simp [byC, hj])
set_option maxRecDepth 20000 in
set_option maxHeartbeats 4000000 in
theorem Encode_bad (a : Option Addr) (cap : Nat) (r : List Val) (w : World) (hR : Ready w) (hlen : r.length ≤ 9223372036854775807) (hr : RowAt w a r) (hm : mayR r = false) :
    Calls Tryd.prog 8 #[.slice a r.length cap] w fun e w' => e = .returned (.tuple #[.string ⟨#[]⟩, .int .i64 31]) ∧ Below w.heap.size w w' := by
  have hc := mayBeR_any a cap r w hR hlen hr
  rw [hm] at hc
  clear hr hm
  go_enter Tryd.func8, Tryd.ntmps8
  go_wp2_with (go_at_call 25; refine hc.mono ?_; rintro e w' ⟨rfl, hb⟩)
  go_ret2
  exact ⟨rfl, hb⟩
set_option maxRecDepth 20000 in
set_option maxHeartbeats 4000000 in
theorem Encode_some (b off cap : Nat) (r : List Val) (w : World) (hR : Ready w) (hlen : r.length ≤ 4000000)
    (hc : ∀ i, i < r.length → w.cell? ⟨b, off + i * 3, none⟩ = some (.int .i64 (kAt r i)) ∧ w.cell? ⟨b, off + i * 3 + 1, none⟩ = some (.int .i64 (nAt r i)) ∧ w.cell? ⟨b, off + i * 3 + 2, none⟩ = some (.string (tAt r i))) (hI : IntR r) (hm : mayR r = true) :
    Calls Tryd.prog 8 #[.slice (some ⟨b, off, none⟩) r.length cap] w fun e w' => e = .returned (.tuple #[.string (bsA (encR r)), .int .i64 0]) ∧ Below w.heap.size w w' := by
  have hmb := mayBe_some b off cap r w hR (by omega) hc
  rw [hm] at hmb
  have HM : Hid _ := hm
  have HI : Hid (IntR r) := hI
  have HC : Hid _ := hc
  clear hm hI hc
  go_enter Tryd.func8, Tryd.ntmps8
  go_wp2_with (go_at_call 25; refine hmb.mono ?_; rintro e w1 ⟨rfl, hb1⟩)
  go_loopw [4, 12] (fun x i wr => ∃ (m : Nat) (v1 : Value), m ≤ r.length ∧ x = v1 ∧ i = .int .i64 m ∧ OwnB wr w.heap.size v1 (encR (r.take m)) ∧ Bel w.heap.size w wr) (fun _ i _ => r.length - (intOf i).toNat)
  case atStart => exact ⟨0, _, Nat.zero_le _, rfl, rfl, World.ownsRow_nil _ _ _ _, (by repeat (first | exact Bel.refl _ | assumption | refine Bel.drew ?_ | refine Bel.drewN ?_ _ | refine Bel.alloc ?_ _ | refine Bel.setCell ?_ (by simp <;> omega) _ | refine Bel.step ?_ (by assumption)))⟩
  case round =>
    obtain ⟨m, v1, hlm, hx1, rfl, hO, HB⟩ := hrel
    have hx2 := hx1.symm
    clear hx1
    subst hx2
    have HO : Hid _ := hO
    have hW := HB.out
    clear hO hmb
    have hel : (encR (r.take m)).length ≤ 4294967000 := by
      have h1 := encR_len (mayR_take HM.out m)
      have h2 : (r.take m).length ≤ r.length := by rw [List.length_take]; exact Nat.min_le_right _ _
      omega
    rcases Nat.lt_or_ge m r.length with hlt | hge
    · have c0 := cell_below hW (HC.out m hlt).1
      have c1 := cell_below hW (HC.out m hlt).2.1
      have c2 := cell_below hW (HC.out m hlt).2.2
      have hcall := appendValue_any v1 (encR (r.take m)) (kAt r m) (nAt r m) (tAt r m) w.heap.size (wr.alloc (.cells #[.int .i64 (kAt r m), .int .i64 (nAt r m), .string (tAt r m)] 53)) (mayR_at HM.out hlt) (HI.out m hlt).1 (HI.out m hlt).2 (HO.out.alloc _) (by have := hW.size; simp; omega) (by omega)
      rw [← encR_take hlt] at hcall
      go_wp2_with fail
      refine hcall.mono ?_
      rintro e w3 ⟨v3, rfl, hO3, hB3⟩
      have HO3 : Hid _ := hO3
      have hB4 : Bel w.heap.size w w3 := ⟨(HB.out.alloc HB.le _).trans hB3, by have h1 := hB3.size; have h2 := HB.le; simp at h1; omega⟩
      clear hO3 hB3 HO
      go_wp2
      go_roundw
      case rel => exact ⟨m + 1, v3, by omega, rfl, by go_num, HO3.out, hB4⟩
      case measure => simp [intOf]; omega
    · obtain rfl : m = r.length := by omega
      have hcv := convert_own HO.out
      rw [List.take_length] at hcv
      go_wp2
      go_ret2
      exact ⟨rfl, hW⟩
set_option maxRecDepth 20000 in
set_option maxHeartbeats 4000000 in
theorem Encode_none (a : Option Addr) (cap : Nat) (w : World) : Calls Tryd.prog 8 #[.slice a 0 cap] w fun e w' => e = .returned (.tuple #[.string ⟨#[]⟩, .int .i64 0]) ∧ Below w.heap.size w w' := by
  have hmb := mayBe_none a cap w
  have hcv : ∀ wx : World, (convert 61 9 (.slice none 0 0)).run Tryd.prog wx = .ok (.string ⟨#[]⟩) wx := fun wx => convert_own (base := 0) (World.ownsRow_nil wx 0 5 1)
  go_enter Tryd.func8, Tryd.ntmps8
  go_wp2_with (go_at_call 25; refine hmb.mono ?_; rintro e w1 ⟨rfl, hb1⟩)
  refine wp_loop_rounds 1 ?_
  rw [rounds_succ]
  go_wp2
  go_ret2
  exact ⟨rfl, hb1⟩
theorem Encode_any (a : Option Addr) (cap : Nat) (r : List Val) (w : World) (hR : Ready w) (hlen : r.length ≤ 4000000) (hr : RowAt w a r) (hI : IntR r) :
    Calls Tryd.prog 8 #[.slice a r.length cap] w fun e w' => e = .returned (.tuple #[.string (enS r), .int .i64 (erI 31 (mayR r))]) ∧ Below w.heap.size w w' := by
  cases hm : mayR r with
  | false =>
    have h := Encode_bad a cap r w hR (by omega) hr hm
    unfold enS erI; rw [hm]; exact h
  | true =>
    unfold enS erI; rw [hm]
    rcases hr with h0 | ⟨b, off, rfl, hc⟩
    · obtain rfl : r = [] := List.length_eq_zero_iff.1 h0
      exact Encode_none a cap w
    · exact Encode_some b off cap r w hR hlen hc hI hm
end Go.Proofs.YtbfodpmlmhkikaaDoor
