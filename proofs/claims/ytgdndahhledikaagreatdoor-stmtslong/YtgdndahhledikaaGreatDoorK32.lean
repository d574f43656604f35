/- Asm, Zpu. -/
import Derived.Test.YtgdndahhledikaaGreatDoorK16
import Derived.Test.YtgdndahhledikaaGreatDoorK19
import Derived.Test.YtgdndahhledikaaGreatDoorK23
import Derived.Test.YtgdndahhledikaaGreatDoorK25
import Derived.Test.YtgdndahhledikaaGreatDoorK30
import Derived.Test.YtgdndahhledikaaGreatDoorK31
import Derived.Test.YtgdndahhledikaaGreatDoorK00
import Derived.BigCall
import Derived.BigGuard
import Derived.Deep.DeepCutAuto
import Derived.Laws.AppendOwn
import Derived.Laws.OwnMore
import Derived.Laws.StructEq
import Derived.Lib.AppendIntMem
import Derived.Lib.AtoiAllCases
import Derived.Lib.IndexBytes
import Derived.Lib.ItoaMem
import Derived.Lib.ItoaNum
import Derived.Lib.LazyBuf
import Derived.Lib.Repeat
import Derived.Lib.Replace
import Derived.Lib.ReplaceLaws
import Derived.Lib.Strings
import Derived.Lib.TrimByte
import Derived.Lib.ValidU
import Derived.Lib.Walk
import Derived.OwnWalk
import Derived.ScopeJumps
import Derived.Shelf.Unicode.DecodeSlow
import Derived.WalkMore
import Derived.WalkSpells
namespace Go.Proofs.YtgdndahhledikaaGreatDoor
open Go.ChangeShapes Go.WideShapes Go.ChangeAt Go.RowKit
set_option linter.unusedSimpArgs false
set_option maxRecDepth 20000
set_option maxHeartbeats 4000000
def patR (T : List Tt) (E : Nat → Rz X) (F : Nat) : Nat → Nat → Nat → Rz X
 | 0 => fun _ _ => none
 | n + 1 => fun i op => paQ T (fun i op => orQ T (fun i op => anQ T (unQ T (fun i op => atQ T (fun _ _ => none) (patR T E F n) (fun i _ => evP T E i) i op) F) (fun _ _ => none) F i op) F i op) F i op
theorem patR_ok (rb : Nat) (ta : Option Addr) (cap : Nat) (T : List Tt) (E : Nat → Rz X) (hE : RdX rb ta cap T 80 (fun i _ => E i)) (F : Nat) : ∀ n, RdX rb ta cap T 17 (patR T E F n)
 | 0 => Rds.no 17 #[ptr rb]
 | n + 1 => pattern_s rb ta cap T _ (or_s rb ta cap T _ (and_s rb ta cap T _ _ (un_s rb ta cap T _ (atom_s rb ta cap T _ _ _ (Rds.no 161 #[ptr rb]) (patR_ok rb ta cap T E hE F n) (event_s rb ta cap T E hE)) F) (Rds.no 91 #[ptr rb]) F) F) F
def endR (T : List Tt) (E : Nat → Rz X) (F : Nat) : Nat → Nat → Rz X := fun i op => endP T (fun i op => stP T (fun i op => creP T (fun _ _ => none) (fun _ _ => none) F i op) (fun i op => selP T E (fun i op => frmP T (fun _ _ => none) (fun i op => strP T E (fun i op => vwP T (fun _ _ => none) (fun _ _ => none) (fun _ _ => none) i op) F i op) F i op) F i op) (fun _ _ => none) i op) i op
theorem endR_ok (rb : Nat) (ta : Option Addr) (cap : Nat) (T : List Tt) (E : Nat → Rz X) (hE : RdX rb ta cap T 80 (fun i _ => E i)) (F : Nat) : RdX rb ta cap T 14 (endR T E F) :=
 ended_s rb ta cap T _ (stmt_s rb ta cap T _ _ _ (create_s rb ta cap T _ _ (Rds.no 68 #[ptr rb]) (Rds.no 69 #[ptr rb]) F) (selection_s rb ta cap T E hE _ (from_s rb ta cap T _ _ (Rds.no 116 #[ptr rb]) (stream_s rb ta cap T E hE _ (view_s rb ta cap T _ _ _ (Rds.no 176 #[ptr rb]) (Rds.no 177 #[ptr rb]) (Rds.no 178 #[ptr rb])) F) F) F) (Rds.no 47 #[ptr rb]))
theorem Pattern_any (ta : Option Addr) (cap : Nat) (T : List Tt) (E : Nat → Rz X) (hE : ExpR ta cap T E) (F n i0 : Nat) (hi0 : i0 ≤ T.length) (w : World) (hT : TksAt w ta T) (hl : T.length ≤ 1000000000) (ht : ∀ b o, ta = some ⟨b, o, none⟩ → b < w.heap.size) (r : Sum Er (X × Nat)) (h : patR T E F n i0 0 = some r) : Calls Tryz.prog 10 #[.slice ta T.length cap, .int .i64 (i0 : Nat)] w (EPost w r) := by
 have hb : Below w.heap.size w (w.alloc o5) := (Below.refl _ _).alloc (Nat.le_refl _) _
 have h1 := read_any ta cap T (patR T E F n) 17 (ent_of (fn := Tryz.f17) rfl (by decide) rfl) (fun rb => patR_ok rb ta cap T E (expr_s rb ta cap T E hE) F n) i0 hi0 _ (hT.below hb) hl (fun b o e => by have := ht b o e; have := hb.size; omega) r h
 obtain ⟨y1, y2, y3, y4, y5, f1, f2, f3, f4, f5⟩ := Box5.new w (.int .i64 0) (.string ⟨#[]⟩) (.int .i64 0) (.int .i64 0) (.slice none 0 0) 34
 have HB : Hid _ := hb
 have HX0 : Hid (Box5 (w.alloc o5) w.heap.size (.int .i64 0) (.string ⟨#[]⟩) (.int .i64 0) (.int .i64 0) (.slice none 0 0)) := Box5.new w _ _ _ _ _ 34
 clear hT hl ht h hE hi0 hb y1 y2 y3 y4 y5 f1 f2 f3 f4 f5
 go_enter Tryz.func10, Tryz.ntmps10
 go_wp2_with fail
 refine h1.mono ?_
 intro e w1 hpost
 clear h1
 have hb1 := hpost.2
 have HB1 : Hid (Below w.heap.size w w1) := HB.out.trans (hb1.mono HB.out.size)
 have hbx := HX0.out.below hb1
 cases r with
 | inl q =>
  obtain ⟨q1, q2⟩ := q
  have he : e = .returned (.tuple #[nV 0 [] 0 0 (.slice none 0 0), .int .i64 (q1 : Nat), .int .i64 q2]) := hpost.1
  subst he
  obtain ⟨z0, z1, z2, z3, z4, _, _, _, _, _⟩ := own5 hbx (.int .i64 0) (.string (bsA [])) (.int .i64 0) (.int .i64 0) (.slice none 0 0)
  obtain ⟨d0, d1, d2, d3, d4, g0, g1, g2, g3, g4⟩ := hbx
  have HP : Hid (EPost w (.inl (q1, q2)) (.returned (.tuple #[nV 0 [] 0 0 (.slice none 0 0), .int .i64 (q1 : Nat), .int .i64 q2])) (set5 w1 w.heap.size 0 (.int .i64 0) (.string (bsA [])) (.int .i64 0) (.int .i64 0) (.slice none 0 0))) := ⟨rfl, set5_below HB1.out _ _ _ _ _ _ _ (Nat.le_refl _)⟩
  unfold nV at HP ⊢
  clear hpost hb1 HB HX0 HB1
  go_wp2
  refine bodyPost_ret (v := .tuple #[.agg #[.int .i64 0, .string (bsA []), .int .i64 0, .int .i64 0, .slice none 0 0], .int .i64 (q1 : Nat), .int .i64 q2]) (by unfold set5 at z0 z1 z2 z3 z4; simp [results, Tryz.results10, go_sem, z0, z1, z2, z3, z4]) rfl ?_
  exact HP.out
 | inr q =>
  obtain ⟨x, j⟩ := q
  obtain ⟨s, c, he, hx⟩ : ∃ s c, e = .returned (.tuple #[xV x s c, .int .i64 (j : Nat), .int .i64 0]) ∧ XAt (w.alloc o5).heap.size w1 x s := hpost.1
  subst he
  obtain ⟨z0, z1, z2, z3, z4, _, _, _, _, _⟩ := own5 hbx (.int .i64 (xk x)) (.string (bsA (xt x))) (.int .i64 (xn x)) (.int .i64 (xa x)) (.slice s (xl x) c)
  obtain ⟨d0, d1, d2, d3, d4, g0, g1, g2, g3, g4⟩ := hbx
  have HP : Hid (EPost w (.inr (x, j)) (.returned (.tuple #[xV x s c, .int .i64 (j : Nat), .int .i64 0])) (set5 w1 w.heap.size 0 (.int .i64 (xk x)) (.string (bsA (xt x))) (.int .i64 (xn x)) (.int .i64 (xa x)) (.slice s (xl x) c))) := ⟨⟨s, c, rfl, NdF.keep HB.out.size (fun b hb _ => set5_heap _ _ _ _ _ _ _ _ _ (by rw [World.size_alloc] at hb; omega)) hx⟩, set5_below HB1.out _ _ _ _ _ _ _ (Nat.le_refl _)⟩
  unfold xV nV at HP ⊢
  clear hpost hb1 HB HX0 HB1 hx
  go_wp2
  refine bodyPost_ret (v := .tuple #[.agg #[.int .i64 (xk x), .string (bsA (xt x)), .int .i64 (xn x), .int .i64 (xa x), .slice s (xl x) c], .int .i64 (j : Nat), .int .i64 0]) (by unfold set5 at z0 z1 z2 z3 z4; simp [results, Tryz.results10, go_sem, z0, z1, z2, z3, z4]) rfl ?_
  exact HP.out
theorem byteOf_any (s : List UInt8) (ta : Option Addr) (cap : Nat) (T : List Tt) (p : Nat) (w : World) (hT : TksAt w ta T) : Calls Tryz.prog 15 #[.string (bsA s), .slice ta T.length cap, .int .i64 (p : Nat)] w fun e w' => e = .returned (.int .i64 (if p < T.length then (tkI T p).2 else (s.length : Int))) ∧ w' = w := by
 have hz := bsA_size s
 rcases Nat.lt_or_ge p T.length with hp | hp
 ·
  obtain ⟨b, off, rfl, t0, t1, t2, t3⟩ := tk_cells hT p hp
  rw [if_pos hp]
  have hi : (p : Int) < (T.length : Int) := by omega
  generalize T.length = n at hp hi
  generalize (tkI T p).2 = q at t3 ⊢
  clear hT t0 t1 t2 hz
  go_enter Tryz.func15, Tryz.ntmps15
  go_wp2
  go_ret
  exact ⟨rfl, rfl⟩
 ·
  rw [if_neg (by omega)]
  have hi : ¬ ((p : Int) < (T.length : Int)) := by omega
  generalize T.length = n at hp hi
  clear hT
  go_enter Tryz.func15, Tryz.ntmps15
  go_wp2
  go_ret
  exact ⟨rfl, rfl⟩
end Go.Proofs.YtgdndahhledikaaGreatDoor
namespace Go.Proofs.YtgdndahhledikaaGreatDoor
open Go.ChangeShapes Go.WideShapes Go.ChangeAt Go.RowKit Go.Lib
set_option linter.unusedSimpArgs false
set_option maxRecDepth 20000
set_option maxHeartbeats 4000000
def lineN (l : List UInt8) : Int := if Lib.indexByte l 10 ≥ 0 then Lib.indexByte l 10 else l.length
def noteN (l : List UInt8) : Int := if Lib.index (l.drop 2) [42, 47] < 0 then 0 else 2 + Lib.index (l.drop 2) [42, 47] + 2
def shortS : List UInt8 := [60, 62, 61, 43, 45, 42, 47, 37, 40, 41, 44, 46, 59, 91, 93, 35]
def sgn2 (l : List UInt8) : Bool := decide (1 < l.length) && (l.take 2 == [60, 61] || l.take 2 == [62, 61] || l.take 2 == [33, 61] || l.take 2 == [45, 62])
def sgnN (l : List UInt8) : Nat := if sgn2 l then 2 else if Lib.indexByte shortS (l.headD 0) ≥ 0 then 1 else 0
def sgnP (l : List UInt8) : Tk × Int × Int := if sgnN l = 0 then (tk0, 0, 50) else ((6, l.take (sgnN l), 0), sgnN l, 0)
def msN (u : List UInt8) : Int := if u = [109, 115] then 1 else if u = [115] then 1000 else if u = [109] then 60000 else if u = [104] then 3600000 else if u = [100] then 86400000 else 0
def whlP (k : Int) (d : List UInt8) : Tk × Int := match Lib.atoiAll d with
 | .ok v => ((k, [], v), 0)
 | _ => (tk0, 51)
def frcL (s : List UInt8) : List UInt8 := if Lib.hasPrefix s [46] then s.tail.take (ldN dgB s.tail) else []
def decP (d b : List UInt8) : Tk × Int := if 4 < b.length then (tk0, 50) else whlP 4 (d ++ b ++ Lib.repeatL [48] (4 - b.length))
def perP (d : List UInt8) (u : Int) : Tk × Int := if (whlP 7 d).2 ≠ 0 ∨ (whlP 7 d).1.2.2 > 1099511627776 / u then (tk0, 51) else ((7, [], (whlP 7 d).1.2.2 * u), 0)
theorem app_bsA (a b : List UInt8) : bsA a ++ bsA b = bsA (a ++ b) := by
 apply ba_ext
 simp [bsA]
def quF : List UInt8 → Option (List UInt8 × Nat)
 | [] => none
 | [c] => if c = 39 then some ([], 1) else none
 | c :: d :: r => if c = 39 then (if d = 39 then (quF r).map (fun p => (39 :: p.1, p.2 + 2)) else some ([], 1)) else (quF (d :: r)).map (fun p => (c :: p.1, p.2 + 1))
def hlv : List UInt8 → List UInt8
 | [] => []
 | [c] => [c]
 | c :: d :: r => if c = 39 ∧ d = 39 then 39 :: hlv r else c :: hlv (d :: r)
theorem hlv_cons {c : UInt8} (h : c ≠ 39) (l : List UInt8) : hlv (c :: l) = c :: hlv l := by
 cases l with
 | nil => rfl
 | cons d r => rw [hlv, if_neg (fun e => h e.1)]
theorem quF_spec : ∀ (l x : List UInt8) (n : Nat), quF l = some (x, n) → 1 ≤ n ∧ n ≤ l.length ∧ hlv (l.take (n - 1)) = x ∧ l[n - 1]? = some 39 ∧ x.length + 1 ≤ n ∧ l[n]? ≠ some 39
 | [], x, n, h => by cases h
 | [c], x, n, h => by
  rw [quF] at h
  split at h
  · next hc => injection h with h; injection h with h1 h2; subst h1 h2 hc; simp [hlv]
  · cases h
 | c :: d :: r, x, n, h => by
  rw [quF] at h
  split at h
  ·
   next hc =>
   subst hc
   split at h
   ·
    next hd =>
    subst hd
    cases hq : quF r with
    | none => rw [hq] at h; cases h
    | some p =>
     obtain ⟨y, m⟩ := p
     rw [hq] at h
     simp only [Option.map_some, Option.some.injEq, Prod.mk.injEq] at h
     obtain ⟨rfl, rfl⟩ := h
     obtain ⟨i1, i2, i3, i4, i5, i6⟩ := quF_spec r y m hq
     have e : m + 2 - 1 = (m - 1) + 1 + 1 := by omega
     refine ⟨by omega, by simp; omega, ?_, ?_, by simp; omega, ?_⟩
     · rw [e, List.take_succ_cons, List.take_succ_cons, hlv, if_pos ⟨rfl, rfl⟩, i3]
     · rw [e]; simpa using i4
     · simpa using i6
   ·
    next hd =>
    injection h with h
    injection h with h1 h2
    subst h1 h2
    refine ⟨by omega, by simp, rfl, rfl, by simp, ?_⟩
    simpa using hd
  ·
   next hc =>
   cases hq : quF (d :: r) with
   | none => rw [hq] at h; cases h
   | some p =>
    obtain ⟨y, m⟩ := p
    rw [hq] at h
    simp only [Option.map_some, Option.some.injEq, Prod.mk.injEq] at h
    obtain ⟨rfl, rfl⟩ := h
    obtain ⟨i1, i2, i3, i4, i5, i6⟩ := quF_spec (d :: r) y m hq
    have e : m + 1 - 1 = (m - 1) + 1 := by omega
    refine ⟨by omega, by simp at i2 ⊢; omega, ?_, ?_, by simp; omega, ?_⟩
    · rw [e, List.take_succ_cons, hlv_cons hc, i3]
    · rw [e]; simpa using i4
    · simpa using i6
def dgs (l : List UInt8) : List UInt8 := l.take (ldN dgB l)
def rst (l : List UInt8) : List UInt8 := l.drop (ldN dgB l)
def unt (l : List UInt8) : List UInt8 := (rst l).take (ldN ptB (rst l))
def amtP (l : List UInt8) : Tk × Nat × Int :=
 if 0 < msN (unt l) then ((perP (dgs l) (msN (unt l))).1, (dgs l).length + (unt l).length, (perP (dgs l) (msN (unt l))).2)
 else if frcL (rst l) ≠ [] then ((decP (dgs l) (frcL (rst l))).1, (dgs l).length + 1 + (frcL (rst l)).length, (decP (dgs l) (frcL (rst l))).2)
 else ((whlP 3 (dgs l)).1, (dgs l).length, (whlP 3 (dgs l)).2)
def nghB : List UInt8 → Bool
 | c :: d :: _ => c == 48 && dgB d.toNat
 | _ => false
def numE (l : List UInt8) : Int := if nghB l || decide (0 < ldN ptB (l.drop (amtP l).2.1)) then 50 else (amtP l).2.2
def numP (l : List UInt8) : Tk × Int × Int := if numE l ≠ 0 then (tk0, 0, numE l) else ((amtP l).1, (amtP l).2.1, 0)
def txtP (l : List UInt8) : Tk × Int × Int := match quF l.tail with
 | none => (tk0, 0, 52)
 | some (x, n) => if 1024 < x.length ∨ Lib.validD x = false then (tk0, 0, 52) else ((5, x, 0), (n : Int) + 1, 0)
def tokP (l : List UInt8) : Tk × Int × Int :=
 if ltB (l.headD 0).toNat then namP l else if dgB (l.headD 0).toNat then numP l else if l.headD 0 = 39 then txtP l else sgnP l
def stp (l : List UInt8) : Int :=
 if l = [] then 0 else if blB (l.headD 0).toNat then 1 else if Lib.hasPrefix l [45, 45] then lineN l
 else if Lib.hasPrefix l [47, 42] then (if noteN l = 0 then -1 else noteN l) else 0
def skF : Nat → List UInt8 → Nat × Bool
 | 0, l => (0, stp l == 0)
 | f + 1, l => if stp l ≤ 0 then (0, stp l == 0) else ((skF f (l.drop (stp l).toNat)).1 + (stp l).toNat, (skF f (l.drop (stp l).toNat)).2)
def sk (l : List UInt8) : Nat × Bool := skF l.length l
def lxF : Nat → List UInt8 → Int → List (Tk × Int) × Int × Int
 | 0, _, _ => ([], 0, 0)
 | f + 1, l, a =>
  if (sk l).2 = false then ([], a + (sk l).1, 50)
  else if l.drop (sk l).1 = [] then ([], 0, 0)
  else if (tokP (l.drop (sk l).1)).2.2 ≠ 0 then ([], a + (sk l).1, (tokP (l.drop (sk l).1)).2.2)
  else if (lxF f (l.drop ((sk l).1 + (tokP (l.drop (sk l).1)).2.1.toNat)) (a + (sk l).1 + (tokP (l.drop (sk l).1)).2.1)).2.2 ≠ 0 then
   lxF f (l.drop ((sk l).1 + (tokP (l.drop (sk l).1)).2.1.toNat)) (a + (sk l).1 + (tokP (l.drop (sk l).1)).2.1)
  else (((tokP (l.drop (sk l).1)).1, a + (sk l).1) :: (lxF f (l.drop ((sk l).1 + (tokP (l.drop (sk l).1)).2.1.toNat)) (a + (sk l).1 + (tokP (l.drop (sk l).1)).2.1)).1, 0, 0)
def lx (l : List UInt8) (a : Int) : List (Tk × Int) × Int × Int := lxF (l.length + 1) l a
theorem lineN_le (l : List UInt8) : lineN l ≤ l.length := by
 unfold lineN
 split
 · have h := Lib.index_le l [10]; rw [Lib.index_one] at h; exact h
 · exact Int.le_refl _
theorem two_of {l : List UInt8} {a b : UInt8} (h : Lib.hasPrefix l [a, b] = true) : ∃ r, l = a :: b :: r := by
 unfold Lib.hasPrefix at h
 obtain ⟨t, ht⟩ := List.isPrefixOf_iff_prefix.1 h
 exact ⟨t, ht.symm⟩
theorem lineN_dash (r : List UInt8) : 2 ≤ lineN (45 :: 45 :: r) := by
 unfold lineN
 have g := Lib.indexByte_ge r 10
 split
 ·
  next h =>
  simp only [Lib.indexByte, show ((45 : UInt8) == 10) = false from rfl] at h ⊢
  by_cases hm : Lib.indexByte r 10 = -1
  · simp [hm] at h
  ·
   have hm' : (Lib.indexByte r 10 == -1) = false := by simpa using hm
   simp only [hm'] at h ⊢
   simp
   split
   · omega
   · omega
 · simp; omega
theorem noteN_le (r : List UInt8) (a b : UInt8) : noteN (a :: b :: r) ≤ (a :: b :: r).length ∧ 0 ≤ noteN (a :: b :: r) := by
 unfold noteN
 split
 ·
  constructor
  · simp; omega
  · omega
 ·
  next h =>
  have h' : 0 ≤ Lib.index ((a :: b :: r).drop 2) [42, 47] := by omega
  have := Lib.index_room _ _ h'
  simp at this h' ⊢
  omega
theorem stp_le (l : List UInt8) : stp l ≤ l.length := by
 unfold stp
 split
 · simp
 ·
  next hl =>
  have h1 : 1 ≤ l.length := by cases l with | nil => exact absurd rfl hl | cons => simp
  split
  · omega
  ·
   split
   · exact lineN_le l
   ·
    split
    ·
     next h =>
     obtain ⟨r, rfl⟩ := two_of h
     split
     · omega
     · exact (noteN_le r _ _).1
    · omega
theorem skF_fuel : ∀ (f : Nat) (l : List UInt8), l.length ≤ f → skF f l = skF l.length l
 | 0, l, h => by
  have : l = [] := List.length_eq_zero_iff.1 (by omega)
  subst this; rfl
 | f + 1, l, h => by
  have hle := stp_le l
  cases l with
  | nil => rfl
  | cons c r =>
   show skF (f + 1) (c :: r) = skF (r.length + 1) (c :: r)
   rw [skF, skF]
   split
   · rfl
   ·
    next hs =>
    have e : ((c :: r).drop (stp (c :: r)).toNat).length ≤ r.length := by simp; omega
    rw [skF_fuel f _ (by simp at h; omega), ← skF_fuel r.length _ e]
theorem sk_stop {l : List UInt8} (h : stp l ≤ 0) : sk l = (0, stp l == 0) := by
 unfold sk
 cases hn : l.length with
 | zero => rfl
 | succ n => rw [skF, if_pos h]
theorem sk_step {l : List UInt8} (h : 0 < stp l) : sk l = ((sk (l.drop (stp l).toNat)).1 + (stp l).toNat, (sk (l.drop (stp l).toNat)).2) := by
 have hle := stp_le l
 unfold sk
 cases hn : l.length with
 | zero => omega
 | succ n =>
  rw [skF, if_neg (by omega), skF_fuel n _ (by simp; omega)]
theorem sk_le (l : List UInt8) : (sk l).1 ≤ l.length := by
 induction hn : l.length using Nat.strongRecOn generalizing l with
 | _ n IH =>
  subst hn
  by_cases h : stp l ≤ 0
  · rw [sk_stop h]; exact Nat.zero_le _
  ·
   have hle := stp_le l
   have hd : (l.drop (stp l).toNat).length < l.length := by simp; omega
   have ih := IH _ hd (l.drop (stp l).toNat) rfl
   rw [sk_step (by omega)]
   simp at ih ⊢
   omega
theorem whlP_ok {k : Int} {d : List UInt8} {t : Tk} (h : whlP k d = (t, 0)) : t.1 = k ∧ t.2.1 = [] := by
 unfold whlP at h
 split at h
 · injection h with h1 h2; subst h1; exact ⟨rfl, rfl⟩
 · injection h with h1 h2; cases h2
theorem ldN_pos {p : Nat → Bool} {l : List UInt8} (h : l ≠ []) (hp : p (l.headD 0).toNat = true) : 1 ≤ ldN p l := by
 cases l with
 | nil => exact absurd rfl h
 | cons c r =>
  unfold ldN
  rw [List.takeWhile_cons, if_pos (by simpa using hp)]
  simp
theorem amt_len (l : List UInt8) : ldN dgB l ≤ (amtP l).2.1 ∧ (amtP l).2.1 ≤ l.length := by
 have h1 := ldN_le dgB l
 have hd : (dgs l).length = ldN dgB l := by unfold dgs; rw [List.length_take]; omega
 have hr : (rst l).length = l.length - ldN dgB l := by unfold rst; rw [List.length_drop]
 have h2 := ldN_le ptB (rst l)
 have hu : (unt l).length = ldN ptB (rst l) := by unfold unt; rw [List.length_take]; omega
 unfold amtP
 split
 · simp only; omega
 ·
  split
  ·
   next hf =>
   have hq : 1 + (frcL (rst l)).length ≤ (rst l).length := by
    unfold frcL at hf ⊢
    split at hf
    ·
     next hp =>
     rw [if_pos hp]
     have := ldN_le dgB (rst l).tail
     cases hx : rst l with
     | nil => rw [hx] at hp; simp [Lib.hasPrefix] at hp
     | cons c r => rw [hx] at this; simp at this ⊢; omega
    · exact absurd rfl hf
   simp only; omega
  · simp only; omega
theorem perP_kind {d : List UInt8} {u : Int} (h : (perP d u).2 = 0) : (perP d u).1.1 = 7 := by
 unfold perP at h ⊢
 split
 · next hc => rw [if_pos hc] at h; cases h
 · rfl
theorem whlP_kind {k : Int} {d : List UInt8} (h : (whlP k d).2 = 0) : (whlP k d).1.1 = k := (whlP_ok (t := (whlP k d).1) (by rw [← h])).1
theorem decP_kind {d b : List UInt8} (h : (decP d b).2 = 0) : (decP d b).1.1 = 4 := by
 unfold decP at h ⊢
 split
 · next hc => rw [if_pos hc] at h; cases h
 · next hc => rw [if_neg hc] at h; exact whlP_kind h
theorem amt_kind {l : List UInt8} (h : (amtP l).2.2 = 0) : (amtP l).1.1 ≠ 0 := by
 unfold amtP at h ⊢
 split
 · next hc => rw [if_pos hc] at h; rw [perP_kind h]; decide
 ·
  next hc =>
  rw [if_neg hc] at h
  split
  · next hc => rw [if_pos hc] at h; rw [decP_kind h]; decide
  · next hc => rw [if_neg hc] at h; rw [whlP_kind h]; decide
theorem sgn_len (c : UInt8) (r : List UInt8) : sgnN (c :: r) ≤ (c :: r).length := by
 unfold sgnN
 split
 · next h => unfold sgn2 at h; simp at h ⊢; omega
 · split <;> simp
theorem tok_ok {l : List UInt8} (hl : l ≠ []) (h : (tokP l).2.2 = 0) : (tokP l).1.1 ≠ 0 ∧ 1 ≤ (tokP l).2.1 ∧ (tokP l).2.1 ≤ l.length := by
 unfold tokP at h ⊢
 split
 ·
  next hc =>
  have h1 := ldN_pos (p := ptB) hl (by unfold ptB; rw [hc]; rfl)
  have h2 := ldN_le ptB l
  unfold namP
  split
  · refine ⟨by simp, ?_, ?_⟩ <;> simp only [List.length_take] <;> omega
  · refine ⟨by simp, ?_, ?_⟩ <;> simp only [List.length_take] <;> omega
 ·
  next hc0 =>
  rw [if_neg hc0] at h
  split
  ·
   next hc =>
   rw [if_pos hc] at h
   have h1 := ldN_pos (p := dgB) hl hc
   have h2 := amt_len l
   unfold numP at h ⊢
   split
   · next he => rw [if_pos he] at h; exact absurd h he
   ·
    next he =>
    have he' : numE l = 0 := Decidable.not_not.1 he
    unfold numE at he'
    split at he'
    · cases he'
    · refine ⟨amt_kind he', ?_, ?_⟩ <;> simp only <;> omega
  ·
   next hc1 =>
   rw [if_neg hc1] at h
   split
   ·
    next hc =>
    rw [if_pos hc] at h
    unfold txtP at h ⊢
    cases hq : quF l.tail with
    | none => rw [hq] at h; cases h
    | some p =>
     obtain ⟨x, n⟩ := p
     rw [hq] at h
     simp only at h ⊢
     split
     · next he => rw [if_pos he] at h; cases h
     ·
      have := quF_spec _ _ _ hq
      cases l with
      | nil => exact absurd rfl hl
      | cons c r => refine ⟨by simp, ?_, ?_⟩ <;> simp at this ⊢ <;> omega
   ·
    next hc =>
    rw [if_neg hc] at h
    cases l with
    | nil => exact absurd rfl hl
    | cons c r =>
     have := sgn_len c r
     unfold sgnP at h ⊢
     split
     · next he => rw [if_pos he] at h; cases h
     · refine ⟨by simp, ?_, ?_⟩ <;> simp at this ⊢ <;> omega
theorem lxF_fuel : ∀ (f : Nat) (l : List UInt8) (a : Int), l.length + 1 ≤ f → lxF f l a = lxF (l.length + 1) l a
 | 0, l, a, h => by omega
 | f + 1, l, a, h => by
  have hs := sk_le l
  rw [lxF, lxF]
  split
  · rfl
  ·
   split
   · rfl
   ·
    next hne =>
    split
    · rfl
    ·
     next he =>
     have ht := tok_ok hne (Decidable.not_not.1 he)
     have hd : (l.drop ((sk l).1 + (tokP (l.drop (sk l).1)).2.1.toNat)).length + 1 ≤ l.length := by simp at ht ⊢; omega
     rw [lxF_fuel f _ _ (by omega), ← lxF_fuel l.length _ _ hd]
theorem lx_bad {l : List UInt8} {a : Int} (h : (sk l).2 = false) : lx l a = ([], a + (sk l).1, 50) := by
 unfold lx; rw [lxF, if_pos h]
theorem lx_end {l : List UInt8} {a : Int} (h : (sk l).2 = true) (he : l.drop (sk l).1 = []) : lx l a = ([], 0, 0) := by
 unfold lx; rw [lxF, if_neg (by simp [h]), if_pos he]
theorem lx_err {l : List UInt8} {a : Int} (h : (sk l).2 = true) (he : l.drop (sk l).1 ≠ []) (hx : (tokP (l.drop (sk l).1)).2.2 ≠ 0) : lx l a = ([], a + (sk l).1, (tokP (l.drop (sk l).1)).2.2) := by
 unfold lx; rw [lxF, if_neg (by simp [h]), if_neg he, if_pos hx]
theorem lx_go {l : List UInt8} {a : Int} (h : (sk l).2 = true) (he : l.drop (sk l).1 ≠ []) (hx : (tokP (l.drop (sk l).1)).2.2 = 0) :
  lx l a = if (lx (l.drop ((sk l).1 + (tokP (l.drop (sk l).1)).2.1.toNat)) (a + (sk l).1 + (tokP (l.drop (sk l).1)).2.1)).2.2 ≠ 0 then lx (l.drop ((sk l).1 + (tokP (l.drop (sk l).1)).2.1.toNat)) (a + (sk l).1 + (tokP (l.drop (sk l).1)).2.1)
   else (((tokP (l.drop (sk l).1)).1, a + (sk l).1) :: (lx (l.drop ((sk l).1 + (tokP (l.drop (sk l).1)).2.1.toNat)) (a + (sk l).1 + (tokP (l.drop (sk l).1)).2.1)).1, 0, 0) := by
 have hs := sk_le l
 have ht := tok_ok he hx
 have hd : (l.drop ((sk l).1 + (tokP (l.drop (sk l).1)).2.1.toNat)).length + 1 ≤ l.length := by simp at ht ⊢; omega
 unfold lx
 rw [lxF, if_neg (by simp [h]), if_neg he, if_neg (by simp [hx]), lxF_fuel l.length _ _ hd]
def val (l : List UInt8) : Nat := l.foldl (fun a c => 10 * a + (c.toNat - 48)) 0
theorem val_snoc (l : List UInt8) (c : UInt8) : val (l ++ [c]) = 10 * val l + (c.toNat - 48) := by unfold val; rw [List.foldl_append]; rfl
def valA (a : Nat) (l : List UInt8) : Nat := l.foldl (fun a c => 10 * a + (c.toNat - 48)) a
theorem valA_ge : ∀ (l : List UInt8) (a : Nat), a ≤ valA a l
 | [], a => Nat.le_refl _
 | c :: r, a => by
  have := valA_ge r (10 * a + (c.toNat - 48))
  show a ≤ valA (10 * a + (c.toNat - 48)) r
  omega
theorem valA_app (a b : List UInt8) : val (a ++ b) = valA (val a) b := by unfold val valA; rw [List.foldl_append]
def Dgs (l : List UInt8) : Prop := ∀ c ∈ l, 48 ≤ c.toNat ∧ c.toNat ≤ 57
theorem parse_ok : ∀ (l : List UInt8) (a : Nat), Dgs l → valA a l < 18446744073709551616 → parseUint10 a l = .ok (valA a l)
 | [], a, _, _ => rfl
 | c :: r, a, hd, hv => by
  have hc := hd c (by simp)
  have e : valA a (c :: r) = valA (10 * a + (c.toNat - 48)) r := rfl
  rw [e] at hv ⊢
  have hg := valA_ge r (10 * a + (c.toNat - 48))
  have ih := parse_ok r (10 * a + (c.toNat - 48)) (fun x hx => hd x (by simp [hx])) hv
  rw [parseUint10, if_pos hc, if_neg (by omega), if_neg (by omega), Nat.mul_comm a 10, ih]
theorem atoi_digits {l : List UInt8} (hl : l ≠ []) (hd : Dgs l) (hv : val l ≤ 9223372036854775807) : atoiAll l = .ok (val l : Int) := by
 cases l with
 | nil => exact absurd rfl hl
 | cons c r =>
  have hc := hd c (by simp)
  have hp : parseMag (c :: r) = .ok (val (c :: r)) := by
   unfold parseMag
   rw [if_neg hl]
   exact parse_ok (c :: r) 0 hd (by have e : valA 0 (c :: r) = val (c :: r) := rfl; omega)
  rw [atoiAll_plain c r (by omega) (by omega), hp]
  simp only [signless]
  rw [if_neg (by omega)]
theorem msN_range (u : List UInt8) : 0 ≤ msN u ∧ msN u ≤ 86400000 := by
 unfold msN
 repeat (first | (split; · decide) | decide)
theorem b48 {x : UInt8} : ((x.toNat : Int) = 48) ↔ x = 48 := by
 constructor
 ·
  intro h; exact UInt8.toNat_inj.1 (by have : (48 : UInt8).toNat = 48 := rfl; omega)
 · rintro rfl; rfl
theorem ext_mid (l : List UInt8) (a b : Nat) : (bsA l).extract a b = bsA ((l.drop a).take (b - a)) := by
 apply ba_ext
 rw [Lib.extract_data, bsA_list, bsA_list]
theorem lx_cases {l : List UInt8} {a : Int} (h : (lx l a).2.2 = 0) : (sk l).2 = true ∧ ((l.drop (sk l).1 = [] ∧ lx l a = ([], 0, 0)) ∨
  (l.drop (sk l).1 ≠ [] ∧ (tokP (l.drop (sk l).1)).2.2 = 0 ∧ (lx (l.drop ((sk l).1 + (tokP (l.drop (sk l).1)).2.1.toNat)) (a + (sk l).1 + (tokP (l.drop (sk l).1)).2.1)).2.2 = 0 ∧
   lx l a = (((tokP (l.drop (sk l).1)).1, a + (sk l).1) :: (lx (l.drop ((sk l).1 + (tokP (l.drop (sk l).1)).2.1.toNat)) (a + (sk l).1 + (tokP (l.drop (sk l).1)).2.1)).1, 0, 0))) := by
 by_cases h1 : (sk l).2 = false
 · rw [lx_bad h1] at h; cases h
 ·
  have h1' : (sk l).2 = true := by simpa using h1
  refine ⟨h1', ?_⟩
  by_cases h2 : l.drop (sk l).1 = []
  · exact Or.inl ⟨h2, lx_end h1' h2⟩
  ·
   by_cases h3 : (tokP (l.drop (sk l).1)).2.2 = 0
   ·
    refine Or.inr ⟨h2, h3, ?_⟩
    rw [lx_go h1' h2 h3] at h ⊢
    split at h
    · next hx => exact absurd h hx
    · next hx => rw [if_neg hx]; exact ⟨Decidable.not_not.1 hx, rfl⟩
   · rw [lx_err h1' h2 h3] at h; exact absurd h h3
theorem lx_place0 {l : List UInt8} {a : Int} (h : (lx l a).2.2 = 0) : (lx l a).2.1 = 0 := by
 obtain ⟨_, h | h⟩ := lx_cases h
 · rw [h.2]
 · rw [h.2.2.2]
theorem stp_bl {c : UInt8} (h : blB c.toNat = true) (l : List UInt8) : stp (c :: l) = 1 := by
 unfold stp
 rw [if_neg (by simp), if_pos (by simpa using h)]
def cmb (acc : List Tt) (q : List Tt × Int × Int) : List Tt × Int × Int := if q.2.2 ≠ 0 then q else (acc ++ q.1, 0, 0)
theorem cmb_cons (acc : List Tt) (t : Tt) (q : List Tt × Int × Int) : cmb acc (if q.2.2 ≠ 0 then q else (t :: q.1, 0, 0)) = cmb (acc ++ [t]) q := by
 unfold cmb
 by_cases h : q.2.2 = 0
 · simp [h]
 · simp [h]
theorem lx_cmb (l : List UInt8) (a : Int) : lx l a = cmb [] (lx l a) := by
 unfold cmb
 by_cases h : (lx l a).2.2 = 0
 ·
  rw [if_neg (by simp [h])]
  have := lx_place0 h
  generalize lx l a = q at h this
  obtain ⟨q1, q2, q3⟩ := q
  simp only at h this
  subst h this
  rfl
 · rw [if_pos h]
def LexPost (base : Nat) (q : List Tt × Int × Int) (e : Ending) (w' : World) : Prop :=
 if q.2.2 ≠ 0 then e = .returned (.tuple #[.slice none 0 0, .int .i64 q.2.1, .int .i64 q.2.2])
 else ∃ a cap, e = .returned (.tuple #[.slice a q.1.length cap, .int .i64 0, .int .i64 0]) ∧ TksAt w' a q.1 ∧ (∀ g o, a = some ⟨g, o, none⟩ → base ≤ g) ∧ q.1.length ≤ cap
end Go.Proofs.YtgdndahhledikaaGreatDoor
