/- Which field a name says (Resolve), on both sides. -/
import Derived.Test.YtemfgdhcmeimoaaGreatDoorBase
import Derived.Deep.CutBlock
import Derived.Deep.CutRange
import Derived.Deep.DeepCutAuto
import Derived.Deep.LoopGhost
import Derived.Laws.AppendOwn
import Derived.Laws.OwnMore
import Derived.Laws.StructEq
import Derived.OwnWalk
import Derived.Below
namespace Go.Proofs.YtemfgdhcmeimoaaGreatDoor
open Go.ChangeShapes Go.WideShapes Go.ChangeAt Go.RowKit
set_option linter.unusedSimpArgs false
set_option maxRecDepth 20000
set_option maxHeartbeats 4000000

/-- A field: stream, column, kind. -/
abbrev Fd := ByteArray × ByteArray × Int
/-- Does a name say it? -/
def mtF (s c : ByteArray) (f : Fd) : Bool := f.2.1.toList == c.toList && (s.toList.isEmpty || f.1.toList == s.toList)
/-- The first that it says, from so many on. -/
def fiF (s c : ByteArray) : List Fd → Nat → Option Nat
  | [], _ => none
  | f :: l, k => if mtF s c f = true then some k else fiF s c l (k + 1)
def rsF (s c : ByteArray) (l : List Fd) : Nat × Int := match fiF s c l 0 with
  | none => (0, 110)
  | some i => match fiF s c (l.drop (i + 1)) 0 with
    | none => (i, 0)
    | some _ => (0, 110)
/-- Fields in memory. -/
def FsAt (w : World) (a : Option Addr) (r : List Fd) : Prop :=
  r = [] ∨ ∃ b off, a = some ⟨b, off, none⟩ ∧ ∀ i f, r[i]? = some f → w.cell? ⟨b, off + i * 3, none⟩ = some (.string f.1) ∧ w.cell? ⟨b, off + i * 3 + 1, none⟩ = some (.string f.2.1) ∧ w.cell? ⟨b, off + i * 3 + 2, none⟩ = some (.int .i64 f.2.2)
theorem cell_lt' {w : World} {b j : Nat} {v : Value} (h : w.cell? ⟨b, j, none⟩ = some v) : b < w.heap.size := by
  rcases Nat.lt_or_ge b w.heap.size with h' | h'
  · exact h'
  · unfold World.cell? at h
    rw [Array.getElem?_eq_none h'] at h
    cases h
theorem cell_bel {w w' : World} {b j : Nat} {v : Value} (hb : Below w.heap.size w w') (h : w.cell? ⟨b, j, none⟩ = some v) : w'.cell? ⟨b, j, none⟩ = some v := (World.cell?_of_block (a := ⟨b, j, none⟩) (hb.block b (cell_lt' h))).trans h
theorem FsAt.below {w w' : World} {a : Option Addr} {r : List Fd} (h : FsAt w a r) (hb : Below w.heap.size w w') : FsAt w' a r := by
  rcases h with h | ⟨b, off, ha, hc⟩
  · exact Or.inl h
  · exact Or.inr ⟨b, off, ha, fun i f hi => ⟨cell_bel hb (hc i f hi).1, cell_bel hb (hc i f hi).2.1, cell_bel hb (hc i f hi).2.2⟩⟩
theorem said_any (f : Fd) (s c : ByteArray) (bc bs : Nat) (w : World) (hc : w.cell? ⟨bc, 0, none⟩ = some (.string c)) (hs : w.cell? ⟨bs, 0, none⟩ = some (.string s)) :
    Calls Tryz.prog 9 #[.agg #[.string f.1, .string f.2.1, .int .i64 f.2.2], .pointer (some ⟨bc, 0, none⟩), .pointer (some ⟨bs, 0, none⟩)] w fun e w' => e = .returned (.bool (mtF s c f)) ∧ Below w.heap.size w w' := by
  obtain ⟨f1, f2, f3⟩ := f
  go_enter Tryz.func9, Tryz.ntmps9
  go_upto_region 1 with (fail)
  have hb : Below w.heap.size w (w.alloc (.cells #[.string f1, .string f2, .int .i64 f3] 28)) := (Below.refl _ _).alloc (Nat.le_refl _) _
  have hc' := cell_bel hb hc
  have hs' := cell_bel hb hs
  have y0 : (w.alloc (.cells #[.string f1, .string f2, .int .i64 f3] 28)).cell? ⟨w.heap.size, 0, none⟩ = some (.string f1) := (World.cell?_alloc_mark w #[.string f1, .string f2, .int .i64 f3] 28 (0, 0) 0).trans rfl
  have y1 : (w.alloc (.cells #[.string f1, .string f2, .int .i64 f3] 28)).cell? ⟨w.heap.size, 1, none⟩ = some (.string f2) := (World.cell?_alloc_mark w #[.string f1, .string f2, .int .i64 f3] 28 (0, 0) 1).trans rfl
  obtain ⟨bx, hbx⟩ : ∃ bx, w.heap.size = bx := ⟨_, rfl⟩
  have HB : Hid (Below w.heap.size w (w.alloc (.cells #[.string f1, .string f2, .int .i64 f3] 28))) := hb
  rw [hbx] at y0 y1
  rw [hbx]
  clear hc hs hbx hb
  generalize (w.alloc (.cells #[.string f1, .string f2, .int .i64 f3] 28)) = w1 at *
  by_cases e2 : f2.toList = c.toList
  · by_cases es : s.toList = []
    · have hm : mtF s c (f1, f2, f3) = true := by simp [mtF, e2, es]
      have HM : Hid (Ending.returned (.bool true) = Ending.returned (.bool (mtF s c (f1, f2, f3)))) := by show _ = _; rw [hm]
      clear hm
      go_wp2
      go_ret
      exact ⟨HM.out, HB.out⟩
    · have es' : s.toList.isEmpty = false := by simpa using es
      by_cases e1 : f1.toList = s.toList
      · have hm : mtF s c (f1, f2, f3) = true := by simp [mtF, e2, e1]
        have e1' : (f1.toList == s.toList) = true := by simpa using e1
        have HM : Hid (Ending.returned (.bool true) = Ending.returned (.bool (mtF s c (f1, f2, f3)))) := by show _ = _; rw [hm]
        clear hm e1
        go_wp2
        refine bodyPost_ret (v := .bool true) (by simp [results, Tryz.results9, go_sem, e1']) rfl ⟨HM.out, HB.out⟩
      · have hm : mtF s c (f1, f2, f3) = false := by simp [mtF, e2, es', e1]
        have e1' : (f1.toList == s.toList) = false := by simpa using e1
        have HM : Hid (Ending.returned (.bool false) = Ending.returned (.bool (mtF s c (f1, f2, f3)))) := by show _ = _; rw [hm]
        clear hm e1
        go_wp2
        refine bodyPost_ret (v := .bool false) (by simp [results, Tryz.results9, go_sem, e1', es']) rfl ⟨HM.out, HB.out⟩
  · have hm : mtF s c (f1, f2, f3) = false := by simp [mtF, e2]
    have e2' : (f2.toList == c.toList) = false := by simpa using e2
    have HM : Hid (Ending.returned (.bool false) = Ending.returned (.bool (mtF s c (f1, f2, f3)))) := by show _ = _; rw [hm]
    clear hm
    go_wp2
    refine bodyPost_ret (v := .bool false) (by simp [results, Tryz.results9, go_sem]) rfl ⟨HM.out, HB.out⟩
/-- IndexFunc over that. -/
def ixI (s c : ByteArray) (l : List Fd) : Int := match fiF s c l 0 with
  | none => -1
  | some i => i
theorem fiF_drop {s c : ByteArray} : ∀ (l : List Fd) (k : Nat) (f : Fd), l[k]? = some f → ∀ n, fiF s c (l.drop k) n = if mtF s c f = true then some n else fiF s c (l.drop (k + 1)) (n + 1) := by
  intro l k f h n
  have hk := (List.getElem?_eq_some_iff.1 h)
  obtain ⟨hlt, rfl⟩ := hk
  rw [List.drop_eq_getElem_cons hlt]
  rfl
theorem index_any (r : List Fd) (a : Option Addr) (cap : Nat) (s c : ByteArray) (bc bs : Nat) (w : World) (hr : FsAt w a r) (hl : r.length ≤ 4611686018427387904) (hc : w.cell? ⟨bc, 0, none⟩ = some (.string c)) (hs : w.cell? ⟨bs, 0, none⟩ = some (.string s)) :
    Calls Tryz.prog 10 #[.slice a r.length cap, .func (.func 9) #[] #[.pointer (some ⟨bc, 0, none⟩), .pointer (some ⟨bs, 0, none⟩)]] w fun e w' => e = .returned (.int .i64 (ixI s c r)) ∧ Below w.heap.size w w' := by
  have HI : Hid (fiF s c r 0 = fiF s c (r.drop 0) 0) := by show _ = _; rw [List.drop_zero]
  have HR : Hid (FsAt w a r) := hr
  have HC : Hid (w.cell? ⟨bc, 0, none⟩ = some (.string c)) := hc
  have HS : Hid (w.cell? ⟨bs, 0, none⟩ = some (.string s)) := hs
  have HL : Hid (r.length ≤ 4611686018427387904) := hl
  clear hr hc hs hl
  obtain ⟨n, hn⟩ : ∃ n, r.length = n := ⟨_, rfl⟩
  have HN : Hid (r.length = n) := hn
  rw [hn]
  clear hn
  go_enter Tryz.func10, Tryz.ntmps10
  go_wp2
  go_loopw [8] (fun x wr => ∃ m : Nat, m ≤ n ∧ x = .int .i64 m ∧ fiF s c r 0 = fiF s c (r.drop m) m ∧ Bel w.heap.size w wr) (fun x _ => n - (intOf x).toNat)
  case atStart => exact ⟨0, Nat.zero_le _, rfl, HI.out, Bel.refl _⟩
  case round =>
    obtain ⟨m, hm, rfl, hd, hB⟩ := hrel
    have HD : Hid (fiF s c r 0 = fiF s c (r.drop m) m) := hd
    have HB : Hid (Bel w.heap.size w wr) := hB
    clear hd hB HI
    rcases Nat.lt_or_ge m n with hlt | hge
    · have hlr : m < r.length := by have := HN.out; omega
      have hnb : n ≤ 4611686018427387904 := by have := HN.out; have := HL.out; omega
      obtain ⟨f, hf⟩ : ∃ f, r[m]? = some f := ⟨_, List.getElem?_eq_getElem hlr⟩
      have hD := HD.out
      rw [fiF_drop r m _ hf m] at hD
      rcases HR.out.below HB.out.out with h0 | ⟨b, off, rfl, hc⟩
      · rw [h0] at hlr; simp at hlr
      obtain ⟨c0, c1, c2⟩ := hc m _ hf
      have hs := said_any f s c bc bs wr (cell_bel HB.out.out HC.out) (cell_bel HB.out.out HS.out)
      clear hc hf hlr HD
      obtain ⟨f1, f2, f3⟩ := f
      dsimp only at c0 c1 c2 hs
      generalize hmt : mtF s c (f1, f2, f3) = q at hs hD
      have HDD : Hid _ := hD
      clear hD hmt
      go_wp2_with fail
      refine hs.mono ?_
      rintro e w2 ⟨rfl, hb2⟩
      have HB2 : Hid (Bel w.heap.size w w2) := HB.out.step hb2
      clear hs hb2 c0 c1 c2
      cases q with
      | true =>
        have HP : Hid (Ending.returned (.int .i64 (m : Nat)) = Ending.returned (.int .i64 (ixI s c r))) := by
          show _ = _
          unfold ixI
          rw [HDD.out, if_pos rfl]
        clear HDD
        go_wp2
        refine bodyPost_ret (v := .int .i64 (m : Nat)) (by simp [results, Tryz.results10, go_sem]) rfl ⟨HP.out, HB2.out.out⟩
      | false =>
        have HD2 : Hid (fiF s c r 0 = fiF s c (r.drop (m + 1)) (m + 1)) := by
          show _ = _
          rw [HDD.out, if_neg (by simp)]
        clear HDD
        go_wp2
        go_roundw
        case rel => exact ⟨m + 1, by omega, by go_num, HD2.out, HB2.out⟩
        case measure => simp [intOf]; omega
    · obtain rfl : m = n := by omega
      have HP : Hid (Ending.returned (.int .i64 (-1)) = Ending.returned (.int .i64 (ixI s c r))) := by
        show _ = _
        unfold ixI
        rw [HD.out, List.drop_eq_nil_of_le (by have := HN.out; omega)]
        rfl
      clear HD
      go_wp2
      refine bodyPost_ret (v := .int .i64 (-1)) (by simp [results, Tryz.results10, go_sem]) rfl ⟨HP.out, HB.out.out⟩
theorem contains_any (r : List Fd) (a : Option Addr) (n cap : Nat) (hn : r.length = n) (s c : ByteArray) (bc bs : Nat) (w : World) (hr : FsAt w a r) (hl : r.length ≤ 4611686018427387904) (hc : w.cell? ⟨bc, 0, none⟩ = some (.string c)) (hs : w.cell? ⟨bs, 0, none⟩ = some (.string s)) :
    Calls Tryz.prog 11 #[.slice a n cap, .func (.func 9) #[] #[.pointer (some ⟨bc, 0, none⟩), .pointer (some ⟨bs, 0, none⟩)]] w fun e w' => e = .returned (.bool (fiF s c r 0).isSome) ∧ Below w.heap.size w w' := by
  have h1 := index_any r a cap s c bc bs w hr hl hc hs
  rw [hn] at h1
  unfold ixI at h1
  generalize fiF s c r 0 = q at h1
  clear hr hl hc hs hn
  cases q with
  | none =>
    go_enter Tryz.func11, Tryz.ntmps11
    go_wp2_with fail
    refine h1.mono ?_
    rintro e w1 ⟨rfl, hb⟩
    clear h1
    go_wp2
    go_ret
    exact ⟨rfl, hb⟩
  | some i =>
    go_enter Tryz.func11, Tryz.ntmps11
    go_wp2_with fail
    refine h1.mono ?_
    rintro e w1 ⟨rfl, hb⟩
    clear h1
    have hi : (0 : Int) ≤ (i : Int) := by omega
    go_wp2
    go_ret
    exact ⟨rfl, hb⟩
theorem FsAt.drop {w : World} {b off : Nat} {r : List Fd} (h : FsAt w (some ⟨b, off, none⟩) r) (k : Nat) : FsAt w (some ⟨b, off + k * 3, none⟩) (r.drop k) := by
  rcases h with h | ⟨b', off', ha, hc⟩
  · exact Or.inl (by rw [h]; simp)
  · cases ha
    refine Or.inr ⟨b, off + k * 3, rfl, fun i f hi => ?_⟩
    rw [List.getElem?_drop] at hi
    have h := hc (k + i) f hi
    rw [show off + (k + i) * 3 = off + k * 3 + i * 3 by omega] at h
    exact h
theorem fiF_lt' {s c : ByteArray} : ∀ (l : List Fd) (k : Nat) {i : Nat}, fiF s c l k = some i → k ≤ i ∧ i < k + l.length
  | [], _, _, h => by cases h
  | f :: l, k, i, h => by
    unfold fiF at h
    split at h
    · cases h; simp
    · have := fiF_lt' l (k + 1) h
      simp only [List.length_cons]
      omega
theorem fiF_lt {s c : ByteArray} (l : List Fd) {i : Nat} (h : fiF s c l 0 = some i) : i < l.length := by have := fiF_lt' l 0 h; omega
theorem resolve_any (r : List Fd) (a : Option Addr) (cap : Nat) (s c : ByteArray) (w : World) (hr : FsAt w a r) (hl : r.length ≤ 4611686018427387904) (hcap : r.length ≤ cap) :
    Calls Tryz.prog 6 #[.slice a r.length cap, .string s, .string c] w fun e w' => e = .returned (.tuple #[.int .i64 ((rsF s c r).1 : Nat), .int .i64 (rsF s c r).2]) ∧ Below w.heap.size w w' := by
  have HR : Hid (FsAt w a r) := hr
  have HL : Hid (r.length ≤ 4611686018427387904) := hl
  have HCP : Hid (r.length ≤ cap) := hcap
  clear hr hl hcap
  obtain ⟨n, hn⟩ : ∃ n, r.length = n := ⟨_, rfl⟩
  have HN : Hid (r.length = n) := hn
  rw [hn]
  clear hn
  go_enter Tryz.func6, Tryz.ntmps6
  go_upto_region 1 with (fail)
  have hB : Below w.heap.size w ((w.alloc (.cells #[.string s] 9)).alloc (.cells #[.string c] 9)) := ((Below.refl _ _).alloc (Nat.le_refl _) _).alloc (by rw [World.size_alloc]; omega) _
  have hs0 : (w.alloc (.cells #[.string s] 9)).cell? ⟨w.heap.size, 0, none⟩ = some (.string s) := (World.cell?_alloc_mark w #[.string s] 9 (0, 0) 0).trans rfl
  have hs1 := cell_bel (w' := (w.alloc (.cells #[.string s] 9)).alloc (.cells #[.string c] 9)) ((Below.refl _ _).alloc (Nat.le_refl _) _) hs0
  have hc1 : ((w.alloc (.cells #[.string s] 9)).alloc (.cells #[.string c] 9)).cell? ⟨(w.alloc (.cells #[.string s] 9)).heap.size, 0, none⟩ = some (.string c) := (World.cell?_alloc_mark _ #[.string c] 9 (0, 0) 0).trans rfl
  rw [World.size_alloc] at hc1
  obtain ⟨bc, hbc⟩ : ∃ bc, w.heap.size + 1 = bc := ⟨_, rfl⟩
  have HBB : Hid (Below w.heap.size w ((w.alloc (.cells #[.string s] 9)).alloc (.cells #[.string c] 9))) := hB
  rw [hbc] at hc1
  rw [hbc]
  obtain ⟨bs, hbs⟩ : ∃ bs, w.heap.size = bs := ⟨_, rfl⟩
  rw [hbs] at hs1
  rw [hbs]
  clear hbc hbs hs0 hB
  generalize ((w.alloc (.cells #[.string s] 9)).alloc (.cells #[.string c] 9)) = w2 at *
  have HC1 : Hid (w2.cell? ⟨bc, 0, none⟩ = some (.string c)) := hc1
  have HS1 : Hid (w2.cell? ⟨bs, 0, none⟩ = some (.string s)) := hs1
  have h1 := index_any r a cap s c bc bs w2 (HR.out.below HBB.out) HL.out hc1 hs1
  rw [HN.out] at h1
  clear hc1 hs1
  unfold ixI at h1
  cases hq : fiF s c r 0 with
  | none =>
    rw [hq] at h1
    have HP : Hid (Ending.returned (.tuple #[.int .i64 0, .int .i64 110]) = Ending.returned (.tuple #[.int .i64 ((rsF s c r).1 : Nat), .int .i64 (rsF s c r).2])) := by
      show _ = _
      unfold rsF
      rw [hq]
      rfl
    clear hq
    go_wp2_with fail
    refine h1.mono ?_
    rintro e w3 ⟨rfl, hb3⟩
    have HB3 := HBB.out.trans (hb3.mono HBB.out.size)
    clear h1 hb3
    go_wp2
    refine bodyPost_ret (v := .tuple #[.int .i64 0, .int .i64 110]) (by simp [results, Tryz.results6, go_sem]) rfl ⟨HP.out, HB3⟩
  | some i =>
    rw [hq] at h1
    have hlt := fiF_lt r hq
    rcases HR.out with h0 | ⟨b, off, rfl, hc⟩
    · rw [h0] at hlt; simp at hlt
    clear hc
    have hin : i + 1 ≤ n := by have := HN.out; omega
    have hic : n ≤ cap := by have := HN.out; have := HCP.out; omega
    have hnb : n ≤ 4611686018427387904 := by have := HN.out; have := HL.out; omega
    have HQ : Hid _ := hq
    clear hq hlt
    dsimp only at h1
    go_wp2_with fail
    refine h1.mono ?_
    rintro e w3 ⟨rfl, hb3⟩
    clear h1
    have hi0 : ((i : Int) < 0) = False := eq_false (by omega)
    by_cases hcp : cap = i + 1
    · have h2 := contains_any (r.drop (i + 1)) (some ⟨b, off, none⟩) (n - (i + 1)) 0 (by rw [List.length_drop, HN.out]) s c bc bs w3 (Or.inl (List.drop_eq_nil_of_le (by have := HN.out; omega))) (by rw [List.length_drop]; have := HL.out; omega) (cell_bel hb3 HC1.out) (cell_bel hb3 HS1.out)
      have HB3 : Hid (Below w.heap.size w w3) := HBB.out.trans (hb3.mono HBB.out.size)
      clear hb3
      cases hq2 : fiF s c (r.drop (i + 1)) 0 with
      | none =>
        rw [hq2] at h2
        have HP : Hid (Ending.returned (.tuple #[.int .i64 (i : Nat), .int .i64 0]) = Ending.returned (.tuple #[.int .i64 ((rsF s c r).1 : Nat), .int .i64 (rsF s c r).2])) := by
          show _ = _
          unfold rsF
          rw [HQ.out]
          dsimp only
          rw [hq2]
        clear hq2 HQ
        go_wp2_with fail
        refine h2.mono ?_
        rintro e w4 ⟨rfl, hb4⟩
        have HB4 := HB3.out.trans (hb4.mono HB3.out.size)
        clear h2 hb4
        go_wp2
        refine bodyPost_ret (v := .tuple #[.int .i64 (i : Nat), .int .i64 0]) (by simp [results, Tryz.results6, go_sem]) rfl ⟨HP.out, HB4⟩
      | some j =>
        rw [hq2] at h2
        have HP : Hid (Ending.returned (.tuple #[.int .i64 0, .int .i64 110]) = Ending.returned (.tuple #[.int .i64 ((rsF s c r).1 : Nat), .int .i64 (rsF s c r).2])) := by
          show _ = _
          unfold rsF
          rw [HQ.out]
          dsimp only
          rw [hq2]
          rfl
        clear hq2 HQ
        go_wp2_with fail
        refine h2.mono ?_
        rintro e w4 ⟨rfl, hb4⟩
        have HB4 := HB3.out.trans (hb4.mono HB3.out.size)
        clear h2 hb4
        go_wp2
        refine bodyPost_ret (v := .tuple #[.int .i64 0, .int .i64 110]) (by simp [results, Tryz.results6, go_sem]) rfl ⟨HP.out, HB4⟩
    · have h2 := contains_any (r.drop (i + 1)) (some ⟨b, off + (i + 1) * 3, none⟩) (n - (i + 1)) (cap - (i + 1)) (by rw [List.length_drop, HN.out]) s c bc bs w3 ((HR.out.below (HBB.out.trans (hb3.mono HBB.out.size))).drop (i + 1)) (by rw [List.length_drop]; have := HL.out; omega) (cell_bel hb3 HC1.out) (cell_bel hb3 HS1.out)
      have HB3 : Hid (Below w.heap.size w w3) := HBB.out.trans (hb3.mono HBB.out.size)
      clear hb3
      cases hq2 : fiF s c (r.drop (i + 1)) 0 with
      | none =>
        rw [hq2] at h2
        have HP : Hid (Ending.returned (.tuple #[.int .i64 (i : Nat), .int .i64 0]) = Ending.returned (.tuple #[.int .i64 ((rsF s c r).1 : Nat), .int .i64 (rsF s c r).2])) := by
          show _ = _
          unfold rsF
          rw [HQ.out]
          dsimp only
          rw [hq2]
        clear hq2 HQ
        go_wp2_with fail
        refine h2.mono ?_
        rintro e w4 ⟨rfl, hb4⟩
        have HB4 := HB3.out.trans (hb4.mono HB3.out.size)
        clear h2 hb4
        go_wp2
        refine bodyPost_ret (v := .tuple #[.int .i64 (i : Nat), .int .i64 0]) (by simp [results, Tryz.results6, go_sem]) rfl ⟨HP.out, HB4⟩
      | some j =>
        rw [hq2] at h2
        have HP : Hid (Ending.returned (.tuple #[.int .i64 0, .int .i64 110]) = Ending.returned (.tuple #[.int .i64 ((rsF s c r).1 : Nat), .int .i64 (rsF s c r).2])) := by
          show _ = _
          unfold rsF
          rw [HQ.out]
          dsimp only
          rw [hq2]
          rfl
        clear hq2 HQ
        go_wp2_with fail
        refine h2.mono ?_
        rintro e w4 ⟨rfl, hb4⟩
        have HB4 := HB3.out.trans (hb4.mono HB3.out.size)
        clear h2 hb4
        go_wp2
        refine bodyPost_ret (v := .tuple #[.int .i64 0, .int .i64 110]) (by simp [results, Tryz.results6, go_sem]) rfl ⟨HP.out, HB4⟩
end Go.Proofs.YtemfgdhcmeimoaaGreatDoor
