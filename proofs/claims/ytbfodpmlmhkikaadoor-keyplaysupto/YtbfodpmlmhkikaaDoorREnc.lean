/- The bytes of a row: the document's answer. -/
import Derived.Test.YtbfodpmlmhkikaaDoorEnc2
import Derived.Test.YtbfodpmlmhkikaaDoorRMay
import Derived.Test.YtbfodpmlmhkikaaDoorDcd
import Derived.Laws.BitsLemmas
namespace Go.Proofs.YtbfodpmlmhkikaaDoor
open Go.ChangeShapes Go.WideShapes Go.ChangeAt Go.RowKit

/-- A slice of bytes that the call has laid, and beside it the copy of a value. -/
structure EncAt (w : World) (base : Nat) (v : Value) (bs : List UInt8) (B : Nat) (k n : Int) (t : ByteArray) : Prop where
  own : OwnB w base v bs
  le : base ≤ w.heap.size
  ne : ∀ j, v.ownBlock = some j → j ≠ B
  c0 : w.cell? ⟨B, 0, none⟩ = some (.int .i64 k)
  c1 : w.cell? ⟨B, 1, none⟩ = some (.int .i64 n)
  c2 : w.cell? ⟨B, 2, none⟩ = some (.string t)
theorem EncAt.grow {w w2 : World} {base B L : Nat} {v v2 : Value} {bs : List UInt8} {k n : Int} {t : ByteArray} {ob : Obj} (h : EncAt w base v bs B k n t) (cs : List UInt8) (hm : L = bs.length + cs.length) (xs : List Value) (hx : byC cs = xs)
    (ho : w2.ownsRow base 5 1 v2 L (byC bs ++ xs)) (hg : (w.alloc ob).grownBy w2 v.ownBlock) (hl : v2.ownBlock = v.ownBlock ∨ v2.ownBlock = some (w.heap.size + 1)) :
    EncAt w2 base v2 (bs ++ cs) B k n t ∧ Below base w w2 := by
  have hB : B < w.heap.size := cell_lt h.c0
  have hkeep : w2.heap[B]? = (w.alloc ob).heap[B]? := hg.block _ (by simp only [World.size_alloc]; omega) (fun e => h.ne _ e.symm rfl)
  rw [Below.heap_alloc _ _ _ hB] at hkeep
  have hsz := hg.size
  simp only [World.size_alloc] at hsz
  subst hm hx
  refine ⟨⟨?_, by have := h.le; omega, ?_, (World.cell?_of_block (a := ⟨B, 0, none⟩) hkeep).trans h.c0, (World.cell?_of_block (a := ⟨B, 1, none⟩) hkeep).trans h.c1, (World.cell?_of_block (a := ⟨B, 2, none⟩) hkeep).trans h.c2⟩, ?_⟩
  · show World.ownsRow _ _ _ _ _ _ _
    rw [List.length_append, byC_app]; exact ho
  · intro j hj
    rcases hl with e | e
    · exact h.ne j (e ▸ hj)
    · rw [e] at hj; injection hj with hj; omega
  · exact ((Below.refl _ _).alloc h.le _).grown hg (by simp only [World.size_alloc]; have := h.le; omega) (fun j hj => (h.own.lt j hj).1)
theorem and_255 (K : Nat) (h : K < 18446744073709551616) : bits .and .u64 (K : Int) 255 = (K : Int) % 256 := by
  have h1 := bits_mask .u64 64 (by decide) wraps_u64 8 (by decide) (K : Int) (by omega) (by omega)
  have e : ((2 : Int) ^ 8 - 1) = 255 := by decide
  have e2 : ((2 : Int) ^ 8) = 256 := by decide
  rw [e, e2] at h1
  exact h1
theorem wraps_i63 (n : Int) (h₀ : 0 ≤ n) (h₁ : n < 2 ^ 63) : IntKind.i64.wrap n = n := by rw [IntKind.wrap_i64]; omega
theorem and_255i (K : Nat) (h : K ≤ 1024) : bits .and .i64 (K : Int) 255 = (K : Int) % 256 := by
  have h1 := bits_mask .i64 63 (by decide) wraps_i63 8 (by decide) (K : Int) (by omega) (by omega)
  have e : ((2 : Int) ^ 8 - 1) = 255 := by decide
  have e2 : ((2 : Int) ^ 8) = 256 := by decide
  rw [e, e2] at h1
  exact h1
theorem byC_one (K : Nat) : byC [UInt8.ofNat (K % 256)] = [.int .u8 ((K : Int) % 256)] := by
  simp only [byC, List.map_cons, List.map_nil]
  have : (UInt8.ofNat (K % 256)).toNat = K % 256 := by rw [UInt8.toNat_ofNat']; omega
  rw [this]; simp
theorem byC_two (K : Nat) (h : K ≤ 1024) : byC (leB 2 K) = [.int .u8 ((K : Int) % 256), .int .u8 ((K : Int) / 256)] := by
  simp only [byC, leB, List.map_cons, List.map_nil]
  have h1 : (UInt8.ofNat (K % 256)).toNat = K % 256 := by rw [UInt8.toNat_ofNat']; omega
  have h2 : (UInt8.ofNat (K / 256 % 256)).toNat = K / 256 := by rw [UInt8.toNat_ofNat']; omega
  rw [h1, h2]; simp
def uSix (n : Int) : Nat := u64 n
theorem uSix_int (n : Int) : ((uSix n : Nat) : Int) = n % 18446744073709551616 := by unfold uSix u64; omega
theorem uSix_lt (n : Int) : uSix n < 18446744073709551616 := by unfold uSix u64; omega
set_option maxRecDepth 20000 in
set_option maxHeartbeats 8000000 in
theorem REncode_some (hRu : RunesSaid) (b off cap : Nat) (r : List Val) (w : World) (hlen : r.length ≤ 4000000)
    (hc : ∀ i, i < r.length → w.cell? ⟨b, off + i * 3, none⟩ = some (.int .i64 (kAt r i)) ∧ w.cell? ⟨b, off + i * 3 + 1, none⟩ = some (.int .i64 (nAt r i)) ∧ w.cell? ⟨b, off + i * 3 + 2, none⟩ = some (.string (tAt r i))) (hI : IntR r) :
    Calls Tryd.prog 9 #[.slice (some ⟨b, off, none⟩) r.length cap] w fun e w' => e = .returned (.tuple #[.string (enS r), .int .i64 (erI 31 (mayR r))]) ∧ Below w.heap.size w w' := by
  obtain ⟨i0, hi, hz0, hz1, hz2⟩ := info_parts info5
  have HI : Hid (IntR r) := hI
  have HC : Hid _ := hc
  have HS : Hid (∀ S : ByteArray, enS r = S → enS r = S) := fun _ h => h
  have hF : mayR r = false → (enS r = ⟨#[]⟩ ∧ erI 31 (mayR r) = 31) := fun h => by unfold enS erI; rw [h]; exact ⟨rfl, rfl⟩
  have hT : mayR r = true → (enS r = bsA (encR r) ∧ erI 31 (mayR r) = 0) := fun h => by unfold enS erI; rw [h]; exact ⟨rfl, rfl⟩
  generalize enS r = S at hF hT ⊢
  generalize erI 31 (mayR r) = EE at hF hT ⊢
  have HF : Hid _ := hF
  have HT : Hid _ := hT
  clear hI hc hF hT HS
  go_enter Tryd.func9, Tryd.ntmps9
  go_wp2
  go_loopw [4, 5] (fun x i wr => ∃ (m : Nat) (v1 : Value), m ≤ r.length ∧ x = v1 ∧ i = .int .i64 m ∧ mayR (r.take m) = true ∧ OwnB wr w.heap.size v1 (encR (r.take m)) ∧ Bel w.heap.size w wr) (fun _ i _ => r.length - (intOf i).toNat)
  case atStart => exact ⟨0, _, Nat.zero_le _, rfl, rfl, by simp [mayR], World.ownsRow_nil _ _ _ _, Bel.refl _⟩
  case round =>
    obtain ⟨m, v1, hlm, hx1, rfl, hM, hO, HB⟩ := hrel
    have hx2 := hx1.symm
    clear hx1
    subst hx2
    have HO : Hid _ := hO
    have HM : Hid _ := hM
    have hW := HB.out
    clear hO hM
    rcases Nat.lt_or_ge m r.length with hlt | hge
    · have c0 := cell_below hW (HC.out m hlt).1
      have c1 := cell_below hW (HC.out m hlt).2.1
      have c2 := cell_below hW (HC.out m hlt).2.2
      have hmy := rMay_any hRu (kAt r m) (nAt r m) (tAt r m)
      cases hmv : mayS (kAt r m) (nAt r m) (tAt r m) with
      | false =>
        rw [hmv] at hmy
        have HFF := HF.out (by
          cases h : mayR r with
          | false => rfl
          | true => have := mayR_at h hlt; rw [hmv] at this; cases this)
        have HS1 : Hid _ := HFF.1
        have HS2 : Hid _ := HFF.2
        clear HFF hmv HF HT HO HM
        go_wp2_with fail
        refine (hmy _).mono ?_
        rintro e w2 ⟨rfl, hb2⟩
        go_wp2
        go_ret2
        rw [HS1.out, HS2.out]
        exact ⟨rfl, (Bel.out (by repeat (first | exact Bel.refl _ | assumption | refine Bel.drew ?_ | refine Bel.drewN ?_ _ | refine Bel.alloc ?_ _ | refine Bel.setCell ?_ (by simp <;> omega) _ | refine Bel.step ?_ (by assumption))))⟩
      | true =>
        rw [hmv] at hmy
        have hel : (encR (r.take m)).length ≤ 4294967000 := by
          have h1 := encR_len HM.out
          have h2 : (r.take m).length ≤ r.length := by rw [List.length_take]; exact Nat.min_le_right _ _
          omega
        have HM2 : Hid (mayR (r.take (m + 1)) = true) := by
          show _ = _
          rw [take_at hlt, mayR, List.all_append]
          simp only [List.all_cons, List.all_nil, Bool.and_true, Bool.and_eq_true]
          exact ⟨HM.out, hmv⟩
        have HEN : Hid _ := encR_take hlt
        have hmc := may_cases hmv
        have hI1 := (HI.out m hlt)
        generalize hEE : encR (r.take m) = E at HO hel HEN
        generalize kAt r m = k at *
        generalize nAt r m = n at *
        generalize tAt r m = t at *
        clear hmv HM HF HT hEE
        go_wp2_with fail
        refine (hmy _).mono ?_
        rintro e w2 ⟨rfl, hb2⟩
        have hB2 : Bel w.heap.size w w2 := ⟨(HB.out.alloc HB.le _).trans (hb2.mono (by have := HB.le; simp; omega)), by have h1 := hb2.size; have h2 := HB.le; simp at h1; omega⟩
        have HE2 : Hid (EncAt w2 w.heap.size v1 E wr.heap.size k n t) := ⟨owns_below (HO.out.alloc _) hb2, hB2.le, fun j hj => by have := (HO.out.lt j hj).2; omega, cell_below hb2 (new3_0 _ _ _ _ _), cell_below hb2 (new3_1 _ _ _ _ _), cell_below hb2 (new3_2 _ _ _ _ _)⟩
        have p0 := HE2.out.c0
        have p1 := HE2.out.c1
        have p2 := HE2.out.c2
        clear HO hmy hb2 c0 c1 c2
        generalize wr.heap.size = B at *
        rcases hmc with ⟨rfl, _⟩ | ⟨rfl, hn, _⟩ | ⟨rfl, _⟩ | ⟨rfl, _⟩ | ⟨rfl, _, h1, _⟩
        · have HEN2 : Hid (encR (r.take (m + 1)) = E ++ [0]) := HEN.out
          clear HEN
          have hnl3 : (E).length + 1 ≤ maxLen := by unfold maxLen; (try simp); omega
          have hby3 : ((E).length + 1) * 1 ≤ 140737488355328 := by (try simp); omega
          have hone3 : Hid (∀ u ∈ ([.int .u8 0] : List Value), u.oneCell' = true) := by intro u hu; simp only [List.mem_singleton] at hu; subst hu; rfl
          have hcel3 : Hid _ := cell_one_new w2 (.int .u8 0) 5
          have hrow3 : Hid ((w2.alloc (.cells #[.int .u8 0] 5)).ownsRow w.heap.size 5 1 v1 (E).length (byC (E))) := HE2.out.own.alloc _
          have hbw3 : w.heap.size ≤ (w2.alloc (.cells #[.int .u8 0] 5)).heap.size := by rw [World.size_alloc]; have := HE2.out.le; omega
          go_wp2_with (at_builtin; refine wpList_append_own_at _ rfl _ _ 61 rfl w.heap.size 5 i0 (.int .u8 0) 1 1 Tryd.underlying61 hi hz0 hz1 hz2 rfl (by decide) _ _ _ rfl hrow3.out ⟨w2.heap.size, 0, none⟩ 1 1 [.int .u8 0] rfl rfl hcel3.out hone3.out hnl3 hby3 hbw3 ?_)
          intro v3 w3 hown3 hgrow3 _ hloc3
          obtain ⟨hE3, hB3⟩ := HE2.out.grow [0] (by simp <;> omega) [.int .u8 0] (rfl) hown3 hgrow3 hloc3
          have HE3 : Hid _ := hE3
          have p0 := hE3.c0
          have p1 := hE3.c1
          have p2 := hE3.c2
          have hBb3 : Bel w.heap.size w w3 := ⟨(Bel.out (by assumption)).trans hB3, hE3.le⟩
          clear hE3 hown3 hgrow3 hloc3 hnl3 hby3 hone3 hcel3 hrow3 hbw3 HE2 hB3
          go_wp2
          go_roundw
          case rel => exact ⟨m + 1, v3, by omega, rfl, by go_num, HM2.out, by have h := HE3.out.own; rw [HEN2.out]; exact h, by assumption⟩
          case measure => simp [intOf]; omega
        · rcases hn with rfl | rfl
          · have HEN2 : Hid (encR (r.take (m + 1)) = E ++ [1] ++ [0]) := HEN.out.trans (by rw [List.append_assoc]; rfl)
            clear HEN
            have hnl3 : (E).length + 1 ≤ maxLen := by unfold maxLen; (try simp); omega
            have hby3 : ((E).length + 1) * 1 ≤ 140737488355328 := by (try simp); omega
            have hone3 : Hid (∀ u ∈ ([.int .u8 1] : List Value), u.oneCell' = true) := by intro u hu; simp only [List.mem_singleton] at hu; subst hu; rfl
            have hcel3 : Hid _ := cell_one_new w2 (.int .u8 1) 5
            have hrow3 : Hid ((w2.alloc (.cells #[.int .u8 1] 5)).ownsRow w.heap.size 5 1 v1 (E).length (byC (E))) := HE2.out.own.alloc _
            have hbw3 : w.heap.size ≤ (w2.alloc (.cells #[.int .u8 1] 5)).heap.size := by rw [World.size_alloc]; have := HE2.out.le; omega
            go_wp2_with (at_builtin; refine wpList_append_own_at _ rfl _ _ 61 rfl w.heap.size 5 i0 (.int .u8 0) 1 1 Tryd.underlying61 hi hz0 hz1 hz2 rfl (by decide) _ _ _ rfl hrow3.out ⟨w2.heap.size, 0, none⟩ 1 1 [.int .u8 1] rfl rfl hcel3.out hone3.out hnl3 hby3 hbw3 ?_)
            intro v3 w3 hown3 hgrow3 _ hloc3
            obtain ⟨hE3, hB3⟩ := HE2.out.grow [1] (by simp <;> omega) [.int .u8 1] (rfl) hown3 hgrow3 hloc3
            have HE3 : Hid _ := hE3
            have p0 := hE3.c0
            have p1 := hE3.c1
            have p2 := hE3.c2
            have hBb3 : Bel w.heap.size w w3 := ⟨(Bel.out (by assumption)).trans hB3, hE3.le⟩
            clear hE3 hown3 hgrow3 hloc3 hnl3 hby3 hone3 hcel3 hrow3 hbw3 HE2 hB3
            have hnl4 : (E ++ [1]).length + 1 ≤ maxLen := by unfold maxLen; (try simp); omega
            have hby4 : ((E ++ [1]).length + 1) * 1 ≤ 140737488355328 := by (try simp); omega
            have hone4 : Hid (∀ u ∈ ([.int .u8 0] : List Value), u.oneCell' = true) := by intro u hu; simp only [List.mem_singleton] at hu; subst hu; rfl
            have hcel4 : Hid _ := cell_one_new w3 (.int .u8 0) 5
            have hrow4 : Hid ((w3.alloc (.cells #[.int .u8 0] 5)).ownsRow w.heap.size 5 1 v3 (E ++ [1]).length (byC (E ++ [1]))) := HE3.out.own.alloc _
            have hbw4 : w.heap.size ≤ (w3.alloc (.cells #[.int .u8 0] 5)).heap.size := by rw [World.size_alloc]; have := HE3.out.le; omega
            go_wp2_with (at_builtin; refine wpList_append_own_at _ rfl _ _ 61 rfl w.heap.size 5 i0 (.int .u8 0) 1 1 Tryd.underlying61 hi hz0 hz1 hz2 rfl (by decide) _ _ _ rfl hrow4.out ⟨w3.heap.size, 0, none⟩ 1 1 [.int .u8 0] rfl rfl hcel4.out hone4.out hnl4 hby4 hbw4 ?_)
            intro v4 w4 hown4 hgrow4 _ hloc4
            obtain ⟨hE4, hB4⟩ := HE3.out.grow [0] (by simp <;> omega) [.int .u8 0] (rfl) hown4 hgrow4 hloc4
            have HE4 : Hid _ := hE4
            have p0 := hE4.c0
            have p1 := hE4.c1
            have p2 := hE4.c2
            have hBb4 : Bel w.heap.size w w4 := ⟨(Bel.out (by assumption)).trans hB4, hE4.le⟩
            clear hE4 hown4 hgrow4 hloc4 hnl4 hby4 hone4 hcel4 hrow4 hbw4 HE3 hB4
            go_wp2
            go_roundw
            case rel => exact ⟨m + 1, v4, by omega, rfl, by go_num, HM2.out, by have h := HE4.out.own; rw [HEN2.out]; exact h, by assumption⟩
            case measure => simp [intOf]; omega
          · have HEN2 : Hid (encR (r.take (m + 1)) = E ++ [1] ++ [1]) := HEN.out.trans (by rw [List.append_assoc]; rfl)
            clear HEN
            have hnl3 : (E).length + 1 ≤ maxLen := by unfold maxLen; (try simp); omega
            have hby3 : ((E).length + 1) * 1 ≤ 140737488355328 := by (try simp); omega
            have hone3 : Hid (∀ u ∈ ([.int .u8 1] : List Value), u.oneCell' = true) := by intro u hu; simp only [List.mem_singleton] at hu; subst hu; rfl
            have hcel3 : Hid _ := cell_one_new w2 (.int .u8 1) 5
            have hrow3 : Hid ((w2.alloc (.cells #[.int .u8 1] 5)).ownsRow w.heap.size 5 1 v1 (E).length (byC (E))) := HE2.out.own.alloc _
            have hbw3 : w.heap.size ≤ (w2.alloc (.cells #[.int .u8 1] 5)).heap.size := by rw [World.size_alloc]; have := HE2.out.le; omega
            go_wp2_with (at_builtin; refine wpList_append_own_at _ rfl _ _ 61 rfl w.heap.size 5 i0 (.int .u8 0) 1 1 Tryd.underlying61 hi hz0 hz1 hz2 rfl (by decide) _ _ _ rfl hrow3.out ⟨w2.heap.size, 0, none⟩ 1 1 [.int .u8 1] rfl rfl hcel3.out hone3.out hnl3 hby3 hbw3 ?_)
            intro v3 w3 hown3 hgrow3 _ hloc3
            obtain ⟨hE3, hB3⟩ := HE2.out.grow [1] (by simp <;> omega) [.int .u8 1] (rfl) hown3 hgrow3 hloc3
            have HE3 : Hid _ := hE3
            have p0 := hE3.c0
            have p1 := hE3.c1
            have p2 := hE3.c2
            have hBb3 : Bel w.heap.size w w3 := ⟨(Bel.out (by assumption)).trans hB3, hE3.le⟩
            clear hE3 hown3 hgrow3 hloc3 hnl3 hby3 hone3 hcel3 hrow3 hbw3 HE2 hB3
            have hnl4 : (E ++ [1]).length + 1 ≤ maxLen := by unfold maxLen; (try simp); omega
            have hby4 : ((E ++ [1]).length + 1) * 1 ≤ 140737488355328 := by (try simp); omega
            have hone4 : Hid (∀ u ∈ ([.int .u8 1] : List Value), u.oneCell' = true) := by intro u hu; simp only [List.mem_singleton] at hu; subst hu; rfl
            have hcel4 : Hid _ := cell_one_new w3 (.int .u8 1) 5
            have hrow4 : Hid ((w3.alloc (.cells #[.int .u8 1] 5)).ownsRow w.heap.size 5 1 v3 (E ++ [1]).length (byC (E ++ [1]))) := HE3.out.own.alloc _
            have hbw4 : w.heap.size ≤ (w3.alloc (.cells #[.int .u8 1] 5)).heap.size := by rw [World.size_alloc]; have := HE3.out.le; omega
            go_wp2_with (at_builtin; refine wpList_append_own_at _ rfl _ _ 61 rfl w.heap.size 5 i0 (.int .u8 0) 1 1 Tryd.underlying61 hi hz0 hz1 hz2 rfl (by decide) _ _ _ rfl hrow4.out ⟨w3.heap.size, 0, none⟩ 1 1 [.int .u8 1] rfl rfl hcel4.out hone4.out hnl4 hby4 hbw4 ?_)
            intro v4 w4 hown4 hgrow4 _ hloc4
            obtain ⟨hE4, hB4⟩ := HE3.out.grow [1] (by simp <;> omega) [.int .u8 1] (rfl) hown4 hgrow4 hloc4
            have HE4 : Hid _ := hE4
            have p0 := hE4.c0
            have p1 := hE4.c1
            have p2 := hE4.c2
            have hBb4 : Bel w.heap.size w w4 := ⟨(Bel.out (by assumption)).trans hB4, hE4.le⟩
            clear hE4 hown4 hgrow4 hloc4 hnl4 hby4 hone4 hcel4 hrow4 hbw4 HE3 hB4
            go_wp2
            go_roundw
            case rel => exact ⟨m + 1, v4, by omega, rfl, by go_num, HM2.out, by have h := HE4.out.own; rw [HEN2.out]; exact h, by assumption⟩
            case measure => simp [intOf]; omega
        · have HEN2 : Hid (encR (r.take (m + 1)) = E ++ [2] ++ leB 8 (uSix n)) := HEN.out.trans (by rw [List.append_assoc]; rfl)
          clear HEN
          have hnl3 : (E).length + 1 ≤ maxLen := by unfold maxLen; (try simp); omega
          have hby3 : ((E).length + 1) * 1 ≤ 140737488355328 := by (try simp); omega
          have hone3 : Hid (∀ u ∈ ([.int .u8 2] : List Value), u.oneCell' = true) := by intro u hu; simp only [List.mem_singleton] at hu; subst hu; rfl
          have hcel3 : Hid _ := cell_one_new w2 (.int .u8 2) 5
          have hrow3 : Hid ((w2.alloc (.cells #[.int .u8 2] 5)).ownsRow w.heap.size 5 1 v1 (E).length (byC (E))) := HE2.out.own.alloc _
          have hbw3 : w.heap.size ≤ (w2.alloc (.cells #[.int .u8 2] 5)).heap.size := by rw [World.size_alloc]; have := HE2.out.le; omega
          go_wp2_with (at_builtin; refine wpList_append_own_at _ rfl _ _ 61 rfl w.heap.size 5 i0 (.int .u8 0) 1 1 Tryd.underlying61 hi hz0 hz1 hz2 rfl (by decide) _ _ _ rfl hrow3.out ⟨w2.heap.size, 0, none⟩ 1 1 [.int .u8 2] rfl rfl hcel3.out hone3.out hnl3 hby3 hbw3 ?_)
          intro v3 w3 hown3 hgrow3 _ hloc3
          obtain ⟨hE3, hB3⟩ := HE2.out.grow [2] (by simp <;> omega) [.int .u8 2] (rfl) hown3 hgrow3 hloc3
          have HE3 : Hid _ := hE3
          have p0 := hE3.c0
          have p1 := hE3.c1
          have p2 := hE3.c2
          have hBb3 : Bel w.heap.size w w3 := ⟨(Bel.out (by assumption)).trans hB3, hE3.le⟩
          clear hE3 hown3 hgrow3 hloc3 hnl3 hby3 hone3 hcel3 hrow3 hbw3 HE2 hB3
          have hcv := uSix_int n
          have hul := uSix_lt n
          generalize uSix n = U at HEN2 hcv hul
          have HCV : Hid _ := hcv
          have hen : E.length ≤ 4294967000 := by assumption
          clear hcv hW hB2 HB
          go_wp2
          clear p0 p1 p2
          go_loopw [4, 7, 8] (fun b x i wr => ∃ (q U' : Nat) (vq : Value) (cs : List UInt8), q ≤ 8 ∧ b = vq ∧ x = .int .u64 U' ∧ U' < 18446744073709551616 ∧ i = .int .i64 q ∧ cs ++ leB (8 - q) U' = encR (r.take (m + 1)) ∧ cs.length = E.length + 1 + q ∧ EncAt wr w.heap.size vq cs B 2 n t ∧ Bel w.heap.size w wr) (fun _ _ i _ => 8 - (intOf i).toNat)
          case atStart => exact ⟨0, U, v3, _, by omega, rfl, by rw [HCV.out, IntKind.wrap_u64], hul, rfl, HEN2.out.symm, by simp, HE3.out, by assumption⟩
          case round =>
            obtain ⟨q, U', vq, cs, hq, hb1, rfl, hU, rfl, hV, hcl, hEq, hBq⟩ := hrel
            have hb2 := hb1.symm
            clear hb1
            subst hb2
            have HV : Hid _ := hV
            have HEq : Hid _ := hEq
            clear hV hEq HEN2 HE3 hBb3
            rcases Nat.lt_or_ge q 8 with hl8 | hg8
            · have hand := and_255 U' hU
              have hHV2 : Hid ((cs ++ [UInt8.ofNat (U' % 256)]) ++ leB (8 - (q + 1)) (U' / 256) = encR (r.take (m + 1))) := by
                show _ = _
                rw [← HV.out, List.append_assoc, show 8 - q = (8 - (q + 1)) + 1 by omega]
                rfl
              clear HV
              have hnl4 : (cs).length + 1 ≤ maxLen := by unfold maxLen; (try simp); omega
              have hby4 : ((cs).length + 1) * 1 ≤ 140737488355328 := by (try simp); omega
              have hone4 : Hid (∀ u ∈ ([Value.int .u8 ((U' : Int) % 256)] : List Value), u.oneCell' = true) := by intro u hu; simp only [List.mem_singleton] at hu; subst hu; rfl
              have hcel4 : Hid _ := cell_one_new wr (Value.int .u8 ((U' : Int) % 256)) 5
              have hrow4 : Hid ((wr.alloc (.cells #[Value.int .u8 ((U' : Int) % 256)] 5)).ownsRow w.heap.size 5 1 vq (cs).length (byC (cs))) := HEq.out.own.alloc _
              have hbw4 : w.heap.size ≤ (wr.alloc (.cells #[Value.int .u8 ((U' : Int) % 256)] 5)).heap.size := by rw [World.size_alloc]; have := HEq.out.le; omega
              go_wp2_with (at_builtin; refine wpList_append_own_at _ rfl _ _ 61 rfl w.heap.size 5 i0 (.int .u8 0) 1 1 Tryd.underlying61 hi hz0 hz1 hz2 rfl (by decide) _ _ _ rfl hrow4.out ⟨wr.heap.size, 0, none⟩ 1 1 [Value.int .u8 ((U' : Int) % 256)] rfl rfl hcel4.out hone4.out hnl4 hby4 hbw4 ?_)
              intro v4 w4 hown4 hgrow4 _ hloc4
              obtain ⟨hE4, hB4⟩ := HEq.out.grow [UInt8.ofNat (U' % 256)] (by simp <;> omega) [Value.int .u8 ((U' : Int) % 256)] (byC_one U') hown4 hgrow4 hloc4
              have HE4 : Hid _ := hE4
              have p0 := hE4.c0
              have p1 := hE4.c1
              have p2 := hE4.c2
              have hBb4 : Bel w.heap.size w w4 := ⟨(Bel.out (by assumption)).trans hB4, hE4.le⟩
              clear hE4 hown4 hgrow4 hloc4 hnl4 hby4 hone4 hcel4 hrow4 hbw4 HEq hB4
              go_wp2
              go_roundw
              case rel => exact ⟨q + 1, U' / 256, v4, _, by omega, rfl, by simp, by omega, by go_num, hHV2.out, by simp; omega, HE4.out, by assumption⟩
              case measure => simp [intOf]; omega
            · obtain rfl : q = 8 := by omega
              have HV3 : Hid (encR (r.take (m + 1)) = cs) := by
                show _ = _
                have h := HV.out
                rw [Nat.sub_self] at h
                rw [← h]; simp [leB]
              clear HV
              go_wp2
              go_roundw
              case rel => exact ⟨m + 1, vq, by omega, rfl, by go_num, HM2.out, by rw [HV3.out]; exact HEq.out.own, by assumption⟩
              case measure => simp [intOf]; omega
        · have HEN2 : Hid (encR (r.take (m + 1)) = E ++ [3] ++ leB 8 (uSix n)) := HEN.out.trans (by rw [List.append_assoc]; rfl)
          clear HEN
          have hnl3 : (E).length + 1 ≤ maxLen := by unfold maxLen; (try simp); omega
          have hby3 : ((E).length + 1) * 1 ≤ 140737488355328 := by (try simp); omega
          have hone3 : Hid (∀ u ∈ ([.int .u8 3] : List Value), u.oneCell' = true) := by intro u hu; simp only [List.mem_singleton] at hu; subst hu; rfl
          have hcel3 : Hid _ := cell_one_new w2 (.int .u8 3) 5
          have hrow3 : Hid ((w2.alloc (.cells #[.int .u8 3] 5)).ownsRow w.heap.size 5 1 v1 (E).length (byC (E))) := HE2.out.own.alloc _
          have hbw3 : w.heap.size ≤ (w2.alloc (.cells #[.int .u8 3] 5)).heap.size := by rw [World.size_alloc]; have := HE2.out.le; omega
          go_wp2_with (at_builtin; refine wpList_append_own_at _ rfl _ _ 61 rfl w.heap.size 5 i0 (.int .u8 0) 1 1 Tryd.underlying61 hi hz0 hz1 hz2 rfl (by decide) _ _ _ rfl hrow3.out ⟨w2.heap.size, 0, none⟩ 1 1 [.int .u8 3] rfl rfl hcel3.out hone3.out hnl3 hby3 hbw3 ?_)
          intro v3 w3 hown3 hgrow3 _ hloc3
          obtain ⟨hE3, hB3⟩ := HE2.out.grow [3] (by simp <;> omega) [.int .u8 3] (rfl) hown3 hgrow3 hloc3
          have HE3 : Hid _ := hE3
          have p0 := hE3.c0
          have p1 := hE3.c1
          have p2 := hE3.c2
          have hBb3 : Bel w.heap.size w w3 := ⟨(Bel.out (by assumption)).trans hB3, hE3.le⟩
          clear hE3 hown3 hgrow3 hloc3 hnl3 hby3 hone3 hcel3 hrow3 hbw3 HE2 hB3
          have hcv := uSix_int n
          have hul := uSix_lt n
          generalize uSix n = U at HEN2 hcv hul
          have HCV : Hid _ := hcv
          have hen : E.length ≤ 4294967000 := by assumption
          clear hcv hW hB2 HB
          go_wp2
          clear p0 p1 p2
          go_loopw [4, 7, 8] (fun b x i wr => ∃ (q U' : Nat) (vq : Value) (cs : List UInt8), q ≤ 8 ∧ b = vq ∧ x = .int .u64 U' ∧ U' < 18446744073709551616 ∧ i = .int .i64 q ∧ cs ++ leB (8 - q) U' = encR (r.take (m + 1)) ∧ cs.length = E.length + 1 + q ∧ EncAt wr w.heap.size vq cs B 3 n t ∧ Bel w.heap.size w wr) (fun _ _ i _ => 8 - (intOf i).toNat)
          case atStart => exact ⟨0, U, v3, _, by omega, rfl, by rw [HCV.out, IntKind.wrap_u64], hul, rfl, HEN2.out.symm, by simp, HE3.out, by assumption⟩
          case round =>
            obtain ⟨q, U', vq, cs, hq, hb1, rfl, hU, rfl, hV, hcl, hEq, hBq⟩ := hrel
            have hb2 := hb1.symm
            clear hb1
            subst hb2
            have HV : Hid _ := hV
            have HEq : Hid _ := hEq
            clear hV hEq HEN2 HE3 hBb3
            rcases Nat.lt_or_ge q 8 with hl8 | hg8
            · have hand := and_255 U' hU
              have hHV2 : Hid ((cs ++ [UInt8.ofNat (U' % 256)]) ++ leB (8 - (q + 1)) (U' / 256) = encR (r.take (m + 1))) := by
                show _ = _
                rw [← HV.out, List.append_assoc, show 8 - q = (8 - (q + 1)) + 1 by omega]
                rfl
              clear HV
              have hnl4 : (cs).length + 1 ≤ maxLen := by unfold maxLen; (try simp); omega
              have hby4 : ((cs).length + 1) * 1 ≤ 140737488355328 := by (try simp); omega
              have hone4 : Hid (∀ u ∈ ([Value.int .u8 ((U' : Int) % 256)] : List Value), u.oneCell' = true) := by intro u hu; simp only [List.mem_singleton] at hu; subst hu; rfl
              have hcel4 : Hid _ := cell_one_new wr (Value.int .u8 ((U' : Int) % 256)) 5
              have hrow4 : Hid ((wr.alloc (.cells #[Value.int .u8 ((U' : Int) % 256)] 5)).ownsRow w.heap.size 5 1 vq (cs).length (byC (cs))) := HEq.out.own.alloc _
              have hbw4 : w.heap.size ≤ (wr.alloc (.cells #[Value.int .u8 ((U' : Int) % 256)] 5)).heap.size := by rw [World.size_alloc]; have := HEq.out.le; omega
              go_wp2_with (at_builtin; refine wpList_append_own_at _ rfl _ _ 61 rfl w.heap.size 5 i0 (.int .u8 0) 1 1 Tryd.underlying61 hi hz0 hz1 hz2 rfl (by decide) _ _ _ rfl hrow4.out ⟨wr.heap.size, 0, none⟩ 1 1 [Value.int .u8 ((U' : Int) % 256)] rfl rfl hcel4.out hone4.out hnl4 hby4 hbw4 ?_)
              intro v4 w4 hown4 hgrow4 _ hloc4
              obtain ⟨hE4, hB4⟩ := HEq.out.grow [UInt8.ofNat (U' % 256)] (by simp <;> omega) [Value.int .u8 ((U' : Int) % 256)] (byC_one U') hown4 hgrow4 hloc4
              have HE4 : Hid _ := hE4
              have p0 := hE4.c0
              have p1 := hE4.c1
              have p2 := hE4.c2
              have hBb4 : Bel w.heap.size w w4 := ⟨(Bel.out (by assumption)).trans hB4, hE4.le⟩
              clear hE4 hown4 hgrow4 hloc4 hnl4 hby4 hone4 hcel4 hrow4 hbw4 HEq hB4
              go_wp2
              go_roundw
              case rel => exact ⟨q + 1, U' / 256, v4, _, by omega, rfl, by simp, by omega, by go_num, hHV2.out, by simp; omega, HE4.out, by assumption⟩
              case measure => simp [intOf]; omega
            · obtain rfl : q = 8 := by omega
              have HV3 : Hid (encR (r.take (m + 1)) = cs) := by
                show _ = _
                have h := HV.out
                rw [Nat.sub_self] at h
                rw [← h]; simp [leB]
              clear HV
              go_wp2
              go_roundw
              case rel => exact ⟨m + 1, vq, by omega, rfl, by go_num, HM2.out, by rw [HV3.out]; exact HEq.out.own, by assumption⟩
              case measure => simp [intOf]; omega
        · have HEN2 : Hid (encR (r.take (m + 1)) = E ++ [4] ++ leB 2 t.size ++ t.data.toList) := HEN.out.trans (by simp [encV])
          clear HEN
          have hnl3 : (E).length + 1 ≤ maxLen := by unfold maxLen; (try simp); omega
          have hby3 : ((E).length + 1) * 1 ≤ 140737488355328 := by (try simp); omega
          have hone3 : Hid (∀ u ∈ ([.int .u8 4] : List Value), u.oneCell' = true) := by intro u hu; simp only [List.mem_singleton] at hu; subst hu; rfl
          have hcel3 : Hid _ := cell_one_new w2 (.int .u8 4) 5
          have hrow3 : Hid ((w2.alloc (.cells #[.int .u8 4] 5)).ownsRow w.heap.size 5 1 v1 (E).length (byC (E))) := HE2.out.own.alloc _
          have hbw3 : w.heap.size ≤ (w2.alloc (.cells #[.int .u8 4] 5)).heap.size := by rw [World.size_alloc]; have := HE2.out.le; omega
          go_wp2_with (at_builtin; refine wpList_append_own_at _ rfl _ _ 61 rfl w.heap.size 5 i0 (.int .u8 0) 1 1 Tryd.underlying61 hi hz0 hz1 hz2 rfl (by decide) _ _ _ rfl hrow3.out ⟨w2.heap.size, 0, none⟩ 1 1 [.int .u8 4] rfl rfl hcel3.out hone3.out hnl3 hby3 hbw3 ?_)
          intro v3 w3 hown3 hgrow3 _ hloc3
          obtain ⟨hE3, hB3⟩ := HE2.out.grow [4] (by simp <;> omega) [.int .u8 4] (rfl) hown3 hgrow3 hloc3
          have HE3 : Hid _ := hE3
          have p0 := hE3.c0
          have p1 := hE3.c1
          have p2 := hE3.c2
          have hBb3 : Bel w.heap.size w w3 := ⟨(Bel.out (by assumption)).trans hB3, hE3.le⟩
          clear hE3 hown3 hgrow3 hloc3 hnl3 hby3 hone3 hcel3 hrow3 hbw3 HE2 hB3
          have hand := and_255i t.size h1
          have hnl4 : (E ++ [4]).length + 2 ≤ maxLen := by unfold maxLen; (try simp); omega
          have hby4 : ((E ++ [4]).length + 2) * 1 ≤ 140737488355328 := by (try simp); omega
          have hone4 : Hid (∀ u ∈ ([Value.int .u8 ((t.size : Int) % 256), Value.int .u8 ((t.size : Int) / 256)] : List Value), u.oneCell' = true) := by intro u hu; simp only [List.mem_cons, List.not_mem_nil, or_false] at hu; rcases hu with rfl | rfl <;> rfl
          have hcel4 : Hid _ := cell_two_new w3 (Value.int .u8 ((t.size : Int) % 256)) (Value.int .u8 ((t.size : Int) / 256)) 5
          have hrow4 : Hid ((w3.alloc (.cells #[Value.int .u8 ((t.size : Int) % 256), Value.int .u8 ((t.size : Int) / 256)] 5)).ownsRow w.heap.size 5 1 v3 (E ++ [4]).length (byC (E ++ [4]))) := HE3.out.own.alloc _
          have hbw4 : w.heap.size ≤ (w3.alloc (.cells #[Value.int .u8 ((t.size : Int) % 256), Value.int .u8 ((t.size : Int) / 256)] 5)).heap.size := by rw [World.size_alloc]; have := HE3.out.le; omega
          go_wp2_with (at_builtin; refine wpList_append_own_at _ rfl _ _ 61 rfl w.heap.size 5 i0 (.int .u8 0) 1 1 Tryd.underlying61 hi hz0 hz1 hz2 rfl (by decide) _ _ _ rfl hrow4.out ⟨w3.heap.size, 0, none⟩ 2 2 [Value.int .u8 ((t.size : Int) % 256), Value.int .u8 ((t.size : Int) / 256)] rfl rfl hcel4.out hone4.out hnl4 hby4 hbw4 ?_)
          intro v4 w4 hown4 hgrow4 _ hloc4
          obtain ⟨hE4, hB4⟩ := HE3.out.grow (leB 2 t.size) (by simp [leB_len]) [Value.int .u8 ((t.size : Int) % 256), Value.int .u8 ((t.size : Int) / 256)] (byC_two t.size h1) hown4 hgrow4 hloc4
          have HE4 : Hid _ := hE4
          have p0 := hE4.c0
          have p1 := hE4.c1
          have p2 := hE4.c2
          have hBb4 : Bel w.heap.size w w4 := ⟨(Bel.out (by assumption)).trans hB4, hE4.le⟩
          clear hE4 hown4 hgrow4 hloc4 hnl4 hby4 hone4 hcel4 hrow4 hbw4 HE3 hB4
          have HO4 := HE4.out.own
          obtain ⟨g3, cap3, rfl, hb3, hg3⟩ := own_some HO4 (by simp)
          have hbl : ((E ++ [4]) ++ leB 2 t.size).length ≤ 4294967300 := by simp [leB_len]; omega
          obtain ⟨v5, w5, hrun, hown5, hg5⟩ := appendStr_run w4 w.heap.size g3 cap3 _ ((E ++ [4]) ++ leB 2 t.size) t rfl HO4 (by omega) HE4.out.le
          have HO5 : Hid (OwnB w5 w.heap.size v5 (E ++ [4] ++ leB 2 t.size ++ t.data.toList)) := by
            show World.ownsRow _ _ _ _ _ _ _
            have e2 : (((E ++ [4]) ++ leB 2 t.size) ++ t.data.toList).length = ((E ++ [4]) ++ leB 2 t.size).length + t.size := by rw [List.length_append, Array.length_toList]; rfl
            rw [e2]
            exact hown5
          have hB5 : Bel w.heap.size w w5 := by
            have h := hBb4.out.grown hg5 HE4.out.le (fun j hj => by injection hj with hj; omega)
            exact ⟨h, h.size⟩
          clear hown5 hg5 HO4 HE4 hBb4
          generalize ((E ++ [4]) ++ leB 2 t.size).length = ln at hrun ⊢
          have HRN : Hid _ := hrun
          clear hrun
          go_wp2_with (at_builtin; refine wpList_run_append rfl _ _ #[61, 9] rfl _ _ _ rfl rfl HRN.out ?_)
          go_wp2
          go_roundw
          case rel => exact ⟨m + 1, v5, by omega, rfl, by go_num, HM2.out, by rw [HEN2.out]; exact HO5.out, by assumption⟩
          case measure => simp [intOf]; omega
    · obtain rfl : m = r.length := by omega
      have hM := HM.out
      rw [List.take_length] at hM
      obtain ⟨h1, h2⟩ := HT.out hM
      have HS1 : Hid _ := h1
      have HS2 : Hid _ := h2
      have hcv := convert_own HO.out
      rw [List.take_length] at hcv
      clear h1 h2 hM HF HT HM
      go_wp2
      go_ret2
      rw [HS1.out, HS2.out]
      exact ⟨rfl, hW⟩
set_option maxRecDepth 20000 in
set_option maxHeartbeats 4000000 in
theorem REncode_none (a : Option Addr) (cap : Nat) (w : World) : Calls Tryd.prog 9 #[.slice a 0 cap] w fun e w' => e = .returned (.tuple #[.string ⟨#[]⟩, .int .i64 0]) ∧ Below w.heap.size w w' := by
  have hcv : ∀ wx : World, (convert 61 9 (.slice none 0 0)).run Tryd.prog wx = .ok (.string ⟨#[]⟩) wx := fun wx => convert_own (base := 0) (World.ownsRow_nil wx 0 5 1)
  go_enter Tryd.func9, Tryd.ntmps9
  go_wp2
  refine wp_loop_rounds 1 ?_
  rw [rounds_succ]
  go_wp2
  go_ret2
  exact ⟨rfl, Below.refl _ _⟩
theorem REncode_any (hRu : RunesSaid) (a : Option Addr) (cap : Nat) (r : List Val) (w : World) (hlen : r.length ≤ 4000000) (hr : RowAt w a r) (hI : IntR r) :
    Calls Tryd.prog 9 #[.slice a r.length cap] w fun e w' => e = .returned (.tuple #[.string (enS r), .int .i64 (erI 31 (mayR r))]) ∧ Below w.heap.size w w' := by
  rcases hr with h0 | ⟨b, off, rfl, hc⟩
  · obtain rfl : r = [] := List.length_eq_zero_iff.1 h0
    exact REncode_none a cap w
  · exact REncode_some hRu b off cap r w hlen hc hI
end Go.Proofs.YtbfodpmlmhkikaaDoor
