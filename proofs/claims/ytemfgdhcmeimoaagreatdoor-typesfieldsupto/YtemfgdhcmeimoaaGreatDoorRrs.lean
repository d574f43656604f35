/- Which field a name says: the document's. -/
import Derived.Test.YtemfgdhcmeimoaaGreatDoorRes
namespace Go.Proofs.YtemfgdhcmeimoaaGreatDoor
open Go.ChangeShapes Go.WideShapes Go.ChangeAt Go.RowKit
set_option linter.unusedSimpArgs false
set_option maxRecDepth 20000
set_option maxHeartbeats 4000000

theorem fiF_iso {s c : ByteArray} : ∀ (l : List Fd) (j k : Nat), (fiF s c l j).isSome = (fiF s c l k).isSome
  | [], _, _ => rfl
  | f :: l, j, k => by
    unfold fiF
    split
    · rfl
    · exact fiF_iso l (j + 1) (k + 1)
theorem rsF_two {s c : ByteArray} {r : List Fd} {i : Nat} (h1 : fiF s c r 0 = some i) (h2 : (fiF s c (r.drop (i + 1)) (i + 1)).isSome = true) : rsF s c r = (0, 110) := by
  unfold rsF
  rw [h1]
  dsimp only
  rw [fiF_iso _ (i + 1) 0] at h2
  obtain ⟨j, hj⟩ := Option.isSome_iff_exists.1 h2
  rw [hj]
theorem rsF_one {s c : ByteArray} {r : List Fd} {i : Nat} (h1 : fiF s c r 0 = some i) (h2 : fiF s c (r.drop (i + 1)) (i + 1) = none) : rsF s c r = (i, 0) := by
  unfold rsF
  rw [h1]
  dsimp only
  have h3 : (fiF s c (r.drop (i + 1)) 0).isSome = false := by rw [fiF_iso _ 0 (i + 1), h2]; rfl
  cases hj : fiF s c (r.drop (i + 1)) 0 with
  | none => rfl
  | some j => rw [hj] at h3; cases h3
theorem rsF_none {s c : ByteArray} {r : List Fd} (h1 : fiF s c r 0 = none) : rsF s c r = (0, 110) := by
  unfold rsF
  rw [h1]
/-- What was found so far. -/
def Sf (s c : ByteArray) (r : List Fd) (m : Nat) (z : Int) : Prop := (z = -1 ∧ fiF s c r 0 = fiF s c (r.drop m) m) ∨ ∃ i : Nat, z = (i : Int) ∧ fiF s c r 0 = some i ∧ fiF s c (r.drop (i + 1)) (i + 1) = fiF s c (r.drop m) m
theorem Sf.no {s c : ByteArray} {r : List Fd} {m : Nat} {z : Int} {f : Fd} (h : Sf s c r m z) (hf : r[m]? = some f) (hm : mtF s c f = false) : Sf s c r (m + 1) z := by
  have e := fiF_drop (s := s) (c := c) r m f hf m
  rw [hm, if_neg (by simp)] at e
  rcases h with ⟨h1, h2⟩ | ⟨i, h1, h2, h3⟩
  · exact Or.inl ⟨h1, h2.trans e⟩
  · exact Or.inr ⟨i, h1, h2, h3.trans e⟩
theorem Sf.first {s c : ByteArray} {r : List Fd} {m : Nat} {f : Fd} (h : Sf s c r m (-1)) (hf : r[m]? = some f) (hm : mtF s c f = true) : Sf s c r (m + 1) m := by
  have e := fiF_drop (s := s) (c := c) r m f hf m
  rw [hm, if_pos rfl] at e
  rcases h with ⟨_, h2⟩ | ⟨i, h1, _⟩
  · exact Or.inr ⟨m, rfl, h2.trans e, rfl⟩
  · omega
theorem Sf.second {s c : ByteArray} {r : List Fd} {m i : Nat} {f : Fd} (h : Sf s c r m i) (hf : r[m]? = some f) (hm : mtF s c f = true) : rsF s c r = (0, 110) := by
  have e := fiF_drop (s := s) (c := c) r m f hf m
  rw [hm, if_pos rfl] at e
  rcases h with ⟨h1, _⟩ | ⟨j, h1, h2, h3⟩
  · omega
  · exact rsF_two h2 (by rw [h3, e]; rfl)
theorem Sf.done {s c : ByteArray} {r : List Fd} {m : Nat} {z : Int} (h : Sf s c r m z) (hm : r.length ≤ m) : (z = -1 ∧ rsF s c r = (0, 110)) ∨ ∃ i : Nat, z = i ∧ rsF s c r = (i, 0) := by
  have e : fiF s c (r.drop m) m = none := by rw [List.drop_eq_nil_of_le hm]; rfl
  rw [Sf, e] at h
  rcases h with ⟨h1, h2⟩ | ⟨i, h1, h2, h3⟩
  · exact Or.inl ⟨h1, rsF_none h2⟩
  · exact Or.inr ⟨i, h1, rsF_one h2 h3⟩
theorem Sf.ge {s c : ByteArray} {r : List Fd} {m : Nat} {z : Int} (h : Sf s c r m z) : z = -1 ∨ ∃ i : Nat, z = i ∧ (i : Int) ≥ 0 := by
  rcases h with ⟨h1, _⟩ | ⟨i, h1, _⟩
  · exact Or.inl h1
  · exact Or.inr ⟨i, h1, by omega⟩
theorem rresolve_any (r : List Fd) (a : Option Addr) (cap : Nat) (s c : ByteArray) (w : World) (hr : FsAt w a r) (hl : r.length ≤ 4611686018427387904) :
    Calls Tryz.prog 7 #[.slice a r.length cap, .string s, .string c] w fun e w' => e = .returned (.tuple #[.int .i64 ((rsF s c r).1 : Nat), .int .i64 (rsF s c r).2]) ∧ Below w.heap.size w w' := by
  have HR : Hid (FsAt w a r) := hr
  have HL : Hid (r.length ≤ 4611686018427387904) := hl
  clear hr hl
  obtain ⟨n, hn⟩ : ∃ n, r.length = n := ⟨_, rfl⟩
  have HN : Hid (r.length = n) := hn
  rw [hn]
  clear hn
  have H0 : Hid (Sf s c r 0 (-1)) := Or.inl ⟨rfl, by rw [List.drop_zero]⟩
  go_enter Tryz.func7, Tryz.ntmps7
  go_wp2
  go_loopw [8, 9] (fun x y wr => ∃ (m : Nat) (z : Int), m ≤ n ∧ x = .int .i64 z ∧ y = .int .i64 m ∧ Sf s c r m z ∧ wr = w) (fun _ y _ => n - (intOf y).toNat)
  case atStart => exact ⟨0, -1, Nat.zero_le _, rfl, rfl, H0.out, rfl⟩
  case round =>
    obtain ⟨m, z, hm, rfl, rfl, hS, rfl⟩ := hrel
    have HSf : Hid (Sf s c r m z) := hS
    clear hS H0
    rcases Nat.lt_or_ge m n with hlt | hge
    · have hlr : m < r.length := by have := HN.out; omega
      have hnb : n ≤ 4611686018427387904 := by have := HN.out; have := HL.out; omega
      obtain ⟨f, hf⟩ : ∃ f, r[m]? = some f := ⟨_, List.getElem?_eq_getElem hlr⟩
      rcases HR.out with h0 | ⟨b, off, rfl, hc⟩
      · rw [h0] at hlr; simp at hlr
      obtain ⟨c0, c1, c2⟩ := hc m _ hf
      have HF : Hid (r[m]? = some f) := hf
      clear hc hf hlr
      obtain ⟨f1, f2, f3⟩ := f
      dsimp only at c0 c1 c2
      by_cases e2 : f2.toList = c.toList
      · by_cases es : s.toList = []
        · skip
          have hmt : mtF s c (f1, f2, f3) = true := by simp [mtF, e2, es]
          rcases HSf.out.ge with rfl | ⟨i, rfl, hi⟩
          · have HS2 : Hid (Sf s c r (m + 1) m) := HSf.out.first HF.out hmt
            clear HSf HF hmt
            go_wp2
            go_roundw
            case rel => exact ⟨m + 1, m, by omega, rfl, by go_num, HS2.out, trivial⟩
            case measure => simp [intOf]; omega
          · have HP : Hid (Ending.returned (.tuple #[.int .i64 0, .int .i64 110]) = Ending.returned (.tuple #[.int .i64 ((rsF s c r).1 : Nat), .int .i64 (rsF s c r).2])) := by
              show _ = _
              rw [HSf.out.second HF.out hmt]
              rfl
            have hi' : (0 : Int) ≤ (i : Int) := hi
            clear HSf HF hmt
            go_wp2
            refine bodyPost_ret (v := .tuple #[.int .i64 0, .int .i64 110]) (by simp [results, Tryz.results7, go_sem]) rfl ⟨HP.out, Below.refl _ _⟩
        · have es' : s.toList.isEmpty = false := by simpa using es
          by_cases e1 : f1.toList = s.toList
          · skip
            have hmt : mtF s c (f1, f2, f3) = true := by simp [mtF, e2, e1]
            rcases HSf.out.ge with rfl | ⟨i, rfl, hi⟩
            · have HS2 : Hid (Sf s c r (m + 1) m) := HSf.out.first HF.out hmt
              clear HSf HF hmt
              go_wp2
              go_roundw
              case rel => exact ⟨m + 1, m, by omega, rfl, by go_num, HS2.out, trivial⟩
              case measure => simp [intOf]; omega
            · have HP : Hid (Ending.returned (.tuple #[.int .i64 0, .int .i64 110]) = Ending.returned (.tuple #[.int .i64 ((rsF s c r).1 : Nat), .int .i64 (rsF s c r).2])) := by
                show _ = _
                rw [HSf.out.second HF.out hmt]
                rfl
              have hi' : (0 : Int) ≤ (i : Int) := hi
              clear HSf HF hmt
              go_wp2
              refine bodyPost_ret (v := .tuple #[.int .i64 0, .int .i64 110]) (by simp [results, Tryz.results7, go_sem]) rfl ⟨HP.out, Below.refl _ _⟩
          · skip
            have hmt : mtF s c (f1, f2, f3) = false := by simp [mtF, e2, es', e1]
            have e1b : (f1.toList != s.toList) = true := by simpa using e1
            have e1c : (f1.toList == s.toList) = false := by simpa using e1
            have HS2 : Hid (Sf s c r (m + 1) z) := HSf.out.no HF.out hmt
            clear HSf HF hmt
            go_wp2
            go_roundw
            case rel => exact ⟨m + 1, z, by omega, rfl, by go_num, HS2.out, trivial⟩
            case measure => simp [intOf]; omega
      · skip
        have hmt : mtF s c (f1, f2, f3) = false := by simp [mtF, e2]
        have HS2 : Hid (Sf s c r (m + 1) z) := HSf.out.no HF.out hmt
        clear HSf HF hmt
        go_wp2
        go_roundw
        case rel => exact ⟨m + 1, z, by omega, rfl, by go_num, HS2.out, trivial⟩
        case measure => simp [intOf]; omega
    · obtain rfl : m = n := by omega
      rcases HSf.out.done (by rw [HN.out]; exact Nat.le_refl _) with ⟨rfl, hq⟩ | ⟨i, rfl, hq⟩
      · have HP : Hid (Ending.returned (.tuple #[.int .i64 0, .int .i64 110]) = Ending.returned (.tuple #[.int .i64 ((rsF s c r).1 : Nat), .int .i64 (rsF s c r).2])) := by
          show _ = _
          rw [hq]
          rfl
        clear HSf hq
        go_wp2
        refine bodyPost_ret (v := .tuple #[.int .i64 0, .int .i64 110]) (by simp [results, Tryz.results7, go_sem]) rfl ⟨HP.out, Below.refl _ _⟩
      · have HP : Hid (Ending.returned (.tuple #[.int .i64 (i : Nat), .int .i64 0]) = Ending.returned (.tuple #[.int .i64 ((rsF s c r).1 : Nat), .int .i64 (rsF s c r).2])) := by
          show _ = _
          rw [hq]
        have hi0 : ((i : Int) < 0) = False := eq_false (by omega)
        clear HSf hq
        go_wp2
        refine bodyPost_ret (v := .tuple #[.int .i64 (i : Nat), .int .i64 0]) (by simp [results, Tryz.results7, go_sem]) rfl ⟨HP.out, Below.refl _ _⟩
end Go.Proofs.YtemfgdhcmeimoaaGreatDoor
