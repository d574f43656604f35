/- A view's parts: plain, up to a number (isPlain, isUpTo, isNone, isBare, isOfLength, isOfTime). -/
import Derived.Test.YtfjpdflilmcnhaaDoorMgB
import Derived.Deep.WholeRow
import Derived.Laws.EntriesVeiled
namespace Go.Proofs.YtfjpdflilmcnhaaDoor
open Go.ChangeShapes Go.WideShapes Go.ChangeAt Go.RowKit

def plB (c : Nat) (d : Bool) : Bool := (((c : Int) == 0) && !d)
def utB (n m : Int) : Bool := (decide (1 ≤ n) && decide (n ≤ m))
def vwV (k n : Int) (a : Option Addr) (c cap : Nat) (d : Bool) : Value := .agg #[.int .i64 k, .int .i64 n, .slice a c cap, .bool d]
theorem isPlain_any (k n : Int) (a : Option Addr) (c cap : Nat) (d : Bool) (w : World) : Calls Tryd.prog 48 #[vwV k n a c cap d] w fun e w' => e = .returned (.bool (plB c d)) ∧ Below w.heap.size w w' := by
  unfold vwV plB
  cases h : ((c : Int) == 0)
  · go_enter Tryd.func48, Tryd.ntmps48
    go_wp2
    go_ret
    exact ⟨rfl, (Bel.out (by repeat (first | exact Bel.refl _ | assumption | refine Bel.drew ?_ | refine Bel.drewN ?_ _ | refine Bel.alloc ?_ _ | refine Bel.setCell ?_ (by simp <;> omega) _ | refine Bel.step ?_ (by assumption))))⟩
  · cases d
    · go_enter Tryd.func48, Tryd.ntmps48
      go_wp2
      go_ret
      exact ⟨rfl, (Bel.out (by repeat (first | exact Bel.refl _ | assumption | refine Bel.drew ?_ | refine Bel.drewN ?_ _ | refine Bel.alloc ?_ _ | refine Bel.setCell ?_ (by simp <;> omega) _ | refine Bel.step ?_ (by assumption))))⟩
    · go_enter Tryd.func48, Tryd.ntmps48
      go_wp2
      go_ret
      exact ⟨rfl, (Bel.out (by repeat (first | exact Bel.refl _ | assumption | refine Bel.drew ?_ | refine Bel.drewN ?_ _ | refine Bel.alloc ?_ _ | refine Bel.setCell ?_ (by simp <;> omega) _ | refine Bel.step ?_ (by assumption))))⟩
theorem isUpTo_any (k n : Int) (a : Option Addr) (c cap : Nat) (d : Bool) (m : Int) (w : World) : Calls Tryd.prog 50 #[vwV k n a c cap d, .int .i64 m] w fun e w' => e = .returned (.bool (utB n m)) ∧ Below w.heap.size w w' := by
  have hE : ∀ b, utB n m = b → Ending.returned (.bool b) = Ending.returned (.bool (utB n m)) := fun b hb => by rw [hb]
  by_cases h : 1 ≤ n
  · by_cases h2 : n ≤ m
    · have HE : Hid _ := hE true (by simp [utB, h, h2])
      clear hE
      generalize utB n m = r at *
      unfold vwV
      go_enter Tryd.func50, Tryd.ntmps50
      go_wp2
      go_ret
      exact ⟨HE.out, (Bel.out (by repeat (first | exact Bel.refl _ | assumption | refine Bel.drew ?_ | refine Bel.drewN ?_ _ | refine Bel.alloc ?_ _ | refine Bel.setCell ?_ (by simp <;> omega) _ | refine Bel.step ?_ (by assumption))))⟩
    · have HE : Hid _ := hE false (by simp [utB, h2])
      clear hE
      generalize utB n m = r at *
      unfold vwV
      go_enter Tryd.func50, Tryd.ntmps50
      go_wp2
      go_ret
      exact ⟨HE.out, (Bel.out (by repeat (first | exact Bel.refl _ | assumption | refine Bel.drew ?_ | refine Bel.drewN ?_ _ | refine Bel.alloc ?_ _ | refine Bel.setCell ?_ (by simp <;> omega) _ | refine Bel.step ?_ (by assumption))))⟩
  · have HE : Hid _ := hE false (by simp [utB, h])
    clear hE
    generalize utB n m = r at *
    unfold vwV
    go_enter Tryd.func50, Tryd.ntmps50
    go_wp2
    go_ret
    exact ⟨HE.out, (Bel.out (by repeat (first | exact Bel.refl _ | assumption | refine Bel.drew ?_ | refine Bel.drewN ?_ _ | refine Bel.alloc ?_ _ | refine Bel.setCell ?_ (by simp <;> omega) _ | refine Bel.step ?_ (by assumption))))⟩
theorem isNone_any (k n : Int) (a : Option Addr) (c cap : Nat) (d : Bool) (m : Int) (w : World) : Calls Tryd.prog 28 #[vwV k n a c cap d, .int .i64 m] w fun e w' => e = .returned (.bool false) ∧ Below w.heap.size w w' := by
  unfold vwV
  go_enter Tryd.func28, Tryd.ntmps28
  go_wp2
  go_ret
  exact ⟨rfl, (Bel.out (by repeat (first | exact Bel.refl _ | assumption | refine Bel.drew ?_ | refine Bel.drewN ?_ _ | refine Bel.alloc ?_ _ | refine Bel.setCell ?_ (by simp <;> omega) _ | refine Bel.step ?_ (by assumption))))⟩
theorem isBare_any (k n : Int) (a : Option Addr) (c cap : Nat) (d : Bool) (m : Int) (w : World) : Calls Tryd.prog 31 #[vwV k n a c cap d, .int .i64 m] w fun e w' => e = .returned (.bool ((n == 0) && plB c d)) ∧ Below w.heap.size w w' := by
  have hp := isPlain_any k n a c cap d
  unfold vwV at hp ⊢
  cases h : (n == 0)
  · clear hp
    go_enter Tryd.func31, Tryd.ntmps31
    go_wp2
    go_ret
    exact ⟨rfl, (Bel.out (by repeat (first | exact Bel.refl _ | assumption | refine Bel.drew ?_ | refine Bel.drewN ?_ _ | refine Bel.alloc ?_ _ | refine Bel.setCell ?_ (by simp <;> omega) _ | refine Bel.step ?_ (by assumption))))⟩
  · generalize plB c d = b at *
    go_enter Tryd.func31, Tryd.ntmps31
    go_wp2_with fail
    refine (hp _).mono ?_
    rintro e w1 ⟨rfl, hb1⟩
    go_wp2
    go_ret
    exact ⟨by simp, (Bel.out (by repeat (first | exact Bel.refl _ | assumption | refine Bel.drew ?_ | refine Bel.drewN ?_ _ | refine Bel.alloc ?_ _ | refine Bel.setCell ?_ (by simp <;> omega) _ | refine Bel.step ?_ (by assumption))))⟩
theorem isOfLength_any (k n : Int) (a : Option Addr) (c cap : Nat) (d : Bool) (m : Int) (w : World) : Calls Tryd.prog 33 #[vwV k n a c cap d, .int .i64 m] w fun e w' => e = .returned (.bool (utB n 65536 && plB c d)) ∧ Below w.heap.size w w' := by
  have hp := isPlain_any k n a c cap d
  have hu := isUpTo_any k n a c cap d 65536
  unfold vwV at hp hu ⊢
  generalize plB c d = b at *
  generalize utB n 65536 = u at *
  cases u
  · clear hp
    go_enter Tryd.func33, Tryd.ntmps33
    go_wp2_with fail
    refine (hu _).mono ?_
    rintro e w1 ⟨rfl, hb1⟩
    go_wp2
    go_ret
    exact ⟨rfl, (Bel.out (by repeat (first | exact Bel.refl _ | assumption | refine Bel.drew ?_ | refine Bel.drewN ?_ _ | refine Bel.alloc ?_ _ | refine Bel.setCell ?_ (by simp <;> omega) _ | refine Bel.step ?_ (by assumption))))⟩
  · go_enter Tryd.func33, Tryd.ntmps33
    go_wp2_with fail
    refine (hu _).mono ?_
    rintro e w1 ⟨rfl, hb1⟩
    have y0 : w1.cell? ⟨w.heap.size, 0, none⟩ = some (.int .i64 k) := cell_below hb1 (by go_simp)
    have y1 : w1.cell? ⟨w.heap.size, 1, none⟩ = some (.int .i64 n) := cell_below hb1 (by go_simp)
    have y2 : w1.cell? ⟨w.heap.size, 2, none⟩ = some (.slice a c cap) := cell_below hb1 (by go_simp)
    have y3 : w1.cell? ⟨w.heap.size, 3, none⟩ = some (.bool d) := cell_below hb1 (by go_simp)
    go_wp2_with fail
    refine (hp _).mono ?_
    rintro e w2 ⟨rfl, hb2⟩
    go_wp2
    go_ret
    exact ⟨by simp, (Bel.out (by repeat (first | exact Bel.refl _ | assumption | refine Bel.drew ?_ | refine Bel.drewN ?_ _ | refine Bel.alloc ?_ _ | refine Bel.setCell ?_ (by simp <;> omega) _ | refine Bel.step ?_ (by assumption))))⟩
theorem isOfTime_any (k n : Int) (a : Option Addr) (c cap : Nat) (d : Bool) (m : Int) (w : World) : Calls Tryd.prog 35 #[vwV k n a c cap d, .int .i64 m] w fun e w' => e = .returned (.bool (utB n 1099511627776 && plB c d)) ∧ Below w.heap.size w w' := by
  have hp := isPlain_any k n a c cap d
  have hu := isUpTo_any k n a c cap d 1099511627776
  unfold vwV at hp hu ⊢
  generalize plB c d = b at *
  generalize utB n 1099511627776 = u at *
  cases u
  · clear hp
    go_enter Tryd.func35, Tryd.ntmps35
    go_wp2_with fail
    refine (hu _).mono ?_
    rintro e w1 ⟨rfl, hb1⟩
    go_wp2
    go_ret
    exact ⟨rfl, (Bel.out (by repeat (first | exact Bel.refl _ | assumption | refine Bel.drew ?_ | refine Bel.drewN ?_ _ | refine Bel.alloc ?_ _ | refine Bel.setCell ?_ (by simp <;> omega) _ | refine Bel.step ?_ (by assumption))))⟩
  · go_enter Tryd.func35, Tryd.ntmps35
    go_wp2_with fail
    refine (hu _).mono ?_
    rintro e w1 ⟨rfl, hb1⟩
    have y0 : w1.cell? ⟨w.heap.size, 0, none⟩ = some (.int .i64 k) := cell_below hb1 (by go_simp)
    have y1 : w1.cell? ⟨w.heap.size, 1, none⟩ = some (.int .i64 n) := cell_below hb1 (by go_simp)
    have y2 : w1.cell? ⟨w.heap.size, 2, none⟩ = some (.slice a c cap) := cell_below hb1 (by go_simp)
    have y3 : w1.cell? ⟨w.heap.size, 3, none⟩ = some (.bool d) := cell_below hb1 (by go_simp)
    go_wp2_with fail
    refine (hp _).mono ?_
    rintro e w2 ⟨rfl, hb2⟩
    go_wp2
    go_ret
    exact ⟨by simp, (Bel.out (by repeat (first | exact Bel.refl _ | assumption | refine Bel.drew ?_ | refine Bel.drewN ?_ _ | refine Bel.alloc ?_ _ | refine Bel.setCell ?_ (by simp <;> omega) _ | refine Bel.step ?_ (by assumption))))⟩
end Go.Proofs.YtfjpdflilmcnhaaDoor

/- Which functions a kind of view has (kindOf). -/
namespace Go.Proofs.YtfjpdflilmcnhaaDoor
open Go.ChangeShapes Go.WideShapes Go.ChangeAt Go.RowKit

def fnV (k : Nat) : Value := .func (.func k) #[] #[]
def clsI (n : Int) : Nat := if 0 ≤ n ∧ n < 10 then n.toNat else 0
def kM (c : Nat) : Nat := [28, 31, 33, 35, 33, 35, 41, 43, 31, 31].getD c 28
def kH (c : Nat) : Nat := [29, 32, 34, 36, 38, 39, 42, 44, 45, 46].getD c 29
def kT (c : Nat) : Nat := [30, 30, 30, 37, 30, 40, 30, 30, 30, 30].getD c 30
def kndV (c : Nat) : Value := .agg #[fnV (kM c), fnV (kH c), fnV (kT c)]
theorem cls_lt (n : Int) : clsI n < 10 := by unfold clsI; split <;> omega
def kAr : Array Value := #[fnV 28, fnV 29, fnV 30, fnV 31, fnV 32, fnV 30, fnV 33, fnV 34, fnV 30, fnV 35, fnV 36, fnV 37, fnV 33, fnV 38, fnV 30, fnV 35, fnV 39, fnV 40, fnV 41, fnV 42, fnV 30, fnV 43, fnV 44, fnV 30, fnV 31, fnV 45, fnV 30, fnV 31, fnV 46, fnV 30]
theorem kAr_at {c : Nat} (h : c < 10) : kAr[c * 3]? = some (fnV (kM c)) ∧ kAr[c * 3 + 1]? = some (fnV (kH c)) ∧ kAr[c * 3 + 2]? = some (fnV (kT c)) := by
  have : c = 0 ∨ c = 1 ∨ c = 2 ∨ c = 3 ∨ c = 4 ∨ c = 5 ∨ c = 6 ∨ c = 7 ∨ c = 8 ∨ c = 9 := by omega
  rcases this with rfl | rfl | rfl | rfl | rfl | rfl | rfl | rfl | rfl | rfl <;> exact ⟨rfl, rfl, rfl⟩
theorem kAr_store (w0 : World) (z : Array Value) (hz : z.size = 30) : (Instr.storeAt 71 (.pointer (some ⟨w0.heap.size, 0, none⟩)) (.agg kAr)).run Tryd.prog (w0.alloc (.cells z 71)) = .ok () (w0.alloc (.cells kAr 71)) := by
  have h := run_storeVar_new (P := Tryd.prog) w0 71 z kAr (by kernel_rfl) (by rw [hz]; rfl) (by kernel_rfl)
  generalize kAr = K at *
  simp [Instr.storeAt, Instr.sureAddr, h]
theorem wpList_kAr {ops : Array Oper} {rest : List Oper} {o : Oper} {a : Act} {Q : Exit → Act → World → Prop} {w w0 : World} {z : Array Value} (hg : o.guard = none) (hop : o.op = Op.store 71 (Operand.tmp 3) (Operand.tmp 14)) (hw : w = w0.alloc (.cells z 71)) (hz : z.size = 30) {A : Nat}
    (ha : a.eval (Operand.tmp 3) = .pointer (some ⟨A, 0, none⟩)) (hA : A = w0.heap.size) (hv : a.eval (Operand.tmp 14) = .agg kAr) (hd : o.dst = none)
    (hK : wpList Tryd.prog ops Q rest a (w0.alloc (.cells kAr 71))) : wpList Tryd.prog ops Q (o :: rest) a w := by
  refine wpList_plain hg fun K hK' => ?_
  subst hw
  subst hA
  have h := kAr_store w0 z hz
  generalize kAr = kk at *
  unfold Oper.wp
  simp [execOp, hop, ha, hv, h, Result.andThen]
  exact hK' _ _ (by rw [hd]; exact hK)
set_option maxRecDepth 20000 in
set_option maxHeartbeats 8000000 in
theorem kindOf_any (n : Int) (w : World) : Calls Tryd.prog 20 #[.int .i64 n] w fun e w' => e = .returned (kndV (clsI n)) ∧ Below w.heap.size w w' := by
  go_enter Tryd.func20, Tryd.ntmps20
  go_upto_region 2 with (refine wpList_kAr rfl rfl rfl rfl rfl (by simp) rfl rfl ?_)
  have hb : Below w.heap.size w ((w.alloc (Obj.cells #[.nilFunc, .nilFunc, .nilFunc] 58)).alloc (Obj.cells kAr 71)) := ((Below.refl w.heap.size w).alloc (Nat.le_refl _) _).alloc (by simp) _
  have x0 : World.cell? ((w.alloc (Obj.cells #[.nilFunc, .nilFunc, .nilFunc] 58)).alloc (Obj.cells kAr 71)) ⟨w.heap.size, 0, none⟩ = some .nilFunc := by go_simp
  have x1 : World.cell? ((w.alloc (Obj.cells #[.nilFunc, .nilFunc, .nilFunc] 58)).alloc (Obj.cells kAr 71)) ⟨w.heap.size, 1, none⟩ = some .nilFunc := by go_simp
  have x2 : World.cell? ((w.alloc (Obj.cells #[.nilFunc, .nilFunc, .nilFunc] 58)).alloc (Obj.cells kAr 71)) ⟨w.heap.size, 2, none⟩ = some .nilFunc := by go_simp
  have f0 : World.frozen? ((w.alloc (Obj.cells #[.nilFunc, .nilFunc, .nilFunc] 58)).alloc (Obj.cells kAr 71)) ⟨w.heap.size, 0, none⟩ = false := by go_simp
  have f1 : World.frozen? ((w.alloc (Obj.cells #[.nilFunc, .nilFunc, .nilFunc] 58)).alloc (Obj.cells kAr 71)) ⟨w.heap.size, 1, none⟩ = false := by go_simp
  have f2 : World.frozen? ((w.alloc (Obj.cells #[.nilFunc, .nilFunc, .nilFunc] 58)).alloc (Obj.cells kAr 71)) ⟨w.heap.size, 2, none⟩ = false := by go_simp
  have ys : ∀ i v, kAr[i]? = some v → World.cell? ((w.alloc (Obj.cells #[.nilFunc, .nilFunc, .nilFunc] 58)).alloc (Obj.cells kAr 71)) ⟨w.heap.size + 1, i, none⟩ = some v := fun i v h => by
    have := World.cell?_alloc_mark (w.alloc (Obj.cells #[.nilFunc, .nilFunc, .nilFunc] 58)) kAr 71 (0, 0) i
    rw [World.size_alloc] at this
    exact this.trans h
  have HK : Hid (∀ c, c < 10 → World.cell? ((w.alloc (Obj.cells #[.nilFunc, .nilFunc, .nilFunc] 58)).alloc (Obj.cells kAr 71)) ⟨w.heap.size + 1, c * 3, none⟩ = some (fnV (kM c)) ∧ World.cell? ((w.alloc (Obj.cells #[.nilFunc, .nilFunc, .nilFunc] 58)).alloc (Obj.cells kAr 71)) ⟨w.heap.size + 1, c * 3 + 1, none⟩ = some (fnV (kH c)) ∧ World.cell? ((w.alloc (Obj.cells #[.nilFunc, .nilFunc, .nilFunc] 58)).alloc (Obj.cells kAr 71)) ⟨w.heap.size + 1, c * 3 + 2, none⟩ = some (fnV (kT c))) := fun c hc => by
    obtain ⟨h0, h1, h2⟩ := kAr_at hc
    exact ⟨ys _ _ h0, ys _ _ h1, ys _ _ h2⟩
  have HB : Hid _ := hb
  clear ys hb
  generalize ((w.alloc (Obj.cells #[.nilFunc, .nilFunc, .nilFunc] 58)).alloc (Obj.cells kAr 71)) = w1 at *
  have fin : ∀ c, clsI n = c → ∀ (w2 : World), w2 = ((w1.setCell ⟨w.heap.size, 0, none⟩ (fnV (kM c))).setCell ⟨w.heap.size, 1, none⟩ (fnV (kH c))).setCell ⟨w.heap.size, 2, none⟩ (fnV (kT c)) → Below w.heap.size w w2 := fun c _ w2 e => by
    rw [e]
    exact ((HB.out.setCell (p := ⟨w.heap.size, 0, none⟩) (Nat.le_refl _) _).setCell (p := ⟨w.heap.size, 1, none⟩) (Nat.le_refl _) _).setCell (p := ⟨w.heap.size, 2, none⟩) (Nat.le_refl _) _
  have FIN : Hid _ := fin
  clear fin
  by_cases hin : 0 ≤ n ∧ n < 10
  · obtain ⟨c, rfl⟩ : ∃ c : Nat, n = c := ⟨n.toNat, by omega⟩
    have hc : c < 10 := by omega
    have HE : Hid (clsI c = c) := by show _ = _; unfold clsI; rw [if_pos hin]; simp
    obtain ⟨k0, k1, k2⟩ := HK.out c hc
    clear HK
    unfold fnV at k0 k1 k2
    have h1 : ¬ ((c : Int) < 0) := by omega
    have h2 : (c : Int) < 10 := hin.2
    go_wp2
    have t0 : World.cell? (((w1.setCell ⟨w.heap.size, 0, none⟩ (.func (.func (kM c)) #[] #[])).setCell ⟨w.heap.size, 1, none⟩ (.func (.func (kH c)) #[] #[])).setCell ⟨w.heap.size, 2, none⟩ (.func (.func (kT c)) #[] #[])) ⟨w.heap.size, 0, none⟩ = some (.func (.func (kM c)) #[] #[]) := by go_simp
    have t1 : World.cell? (((w1.setCell ⟨w.heap.size, 0, none⟩ (.func (.func (kM c)) #[] #[])).setCell ⟨w.heap.size, 1, none⟩ (.func (.func (kH c)) #[] #[])).setCell ⟨w.heap.size, 2, none⟩ (.func (.func (kT c)) #[] #[])) ⟨w.heap.size, 1, none⟩ = some (.func (.func (kH c)) #[] #[]) := by go_simp
    have t2 : World.cell? (((w1.setCell ⟨w.heap.size, 0, none⟩ (.func (.func (kM c)) #[] #[])).setCell ⟨w.heap.size, 1, none⟩ (.func (.func (kH c)) #[] #[])).setCell ⟨w.heap.size, 2, none⟩ (.func (.func (kT c)) #[] #[])) ⟨w.heap.size, 2, none⟩ = some (.func (.func (kT c)) #[] #[]) := by go_simp
    refine bodyPost_ret (v := .agg #[.func (.func (kM c)) #[] #[], .func (.func (kH c)) #[] #[], .func (.func (kT c)) #[] #[]]) (by simp [results, Tryd.results20, go_sem, t0, t1, t2]) rfl ⟨by rw [HE.out]; rfl, FIN.out c HE.out _ rfl⟩
  · have HE : Hid (clsI n = 0) := by show _ = _; unfold clsI; rw [if_neg hin]
    obtain ⟨k0, k1, k2⟩ := HK.out 0 (by omega)
    simp only [Nat.zero_mul, Nat.zero_add] at k0 k1 k2
    clear HK
    unfold fnV at k0 k1 k2
    by_cases h1 : n < 0
    · go_wp2
      have t0 : World.cell? (((w1.setCell ⟨w.heap.size, 0, none⟩ (.func (.func (kM 0)) #[] #[])).setCell ⟨w.heap.size, 1, none⟩ (.func (.func (kH 0)) #[] #[])).setCell ⟨w.heap.size, 2, none⟩ (.func (.func (kT 0)) #[] #[])) ⟨w.heap.size, 0, none⟩ = some (.func (.func (kM 0)) #[] #[]) := by go_simp
      have t1 : World.cell? (((w1.setCell ⟨w.heap.size, 0, none⟩ (.func (.func (kM 0)) #[] #[])).setCell ⟨w.heap.size, 1, none⟩ (.func (.func (kH 0)) #[] #[])).setCell ⟨w.heap.size, 2, none⟩ (.func (.func (kT 0)) #[] #[])) ⟨w.heap.size, 1, none⟩ = some (.func (.func (kH 0)) #[] #[]) := by go_simp
      have t2 : World.cell? (((w1.setCell ⟨w.heap.size, 0, none⟩ (.func (.func (kM 0)) #[] #[])).setCell ⟨w.heap.size, 1, none⟩ (.func (.func (kH 0)) #[] #[])).setCell ⟨w.heap.size, 2, none⟩ (.func (.func (kT 0)) #[] #[])) ⟨w.heap.size, 2, none⟩ = some (.func (.func (kT 0)) #[] #[]) := by go_simp
      refine bodyPost_ret (v := .agg #[.func (.func (kM 0)) #[] #[], .func (.func (kH 0)) #[] #[], .func (.func (kT 0)) #[] #[]]) (by simp [results, Tryd.results20, go_sem, t0, t1, t2]) rfl ⟨by rw [HE.out]; rfl, FIN.out 0 HE.out _ rfl⟩
    · have h2 : 10 ≤ n := by omega
      go_wp2
      have t0 : World.cell? (((w1.setCell ⟨w.heap.size, 0, none⟩ (.func (.func (kM 0)) #[] #[])).setCell ⟨w.heap.size, 1, none⟩ (.func (.func (kH 0)) #[] #[])).setCell ⟨w.heap.size, 2, none⟩ (.func (.func (kT 0)) #[] #[])) ⟨w.heap.size, 0, none⟩ = some (.func (.func (kM 0)) #[] #[]) := by go_simp
      have t1 : World.cell? (((w1.setCell ⟨w.heap.size, 0, none⟩ (.func (.func (kM 0)) #[] #[])).setCell ⟨w.heap.size, 1, none⟩ (.func (.func (kH 0)) #[] #[])).setCell ⟨w.heap.size, 2, none⟩ (.func (.func (kT 0)) #[] #[])) ⟨w.heap.size, 1, none⟩ = some (.func (.func (kH 0)) #[] #[]) := by go_simp
      have t2 : World.cell? (((w1.setCell ⟨w.heap.size, 0, none⟩ (.func (.func (kM 0)) #[] #[])).setCell ⟨w.heap.size, 1, none⟩ (.func (.func (kH 0)) #[] #[])).setCell ⟨w.heap.size, 2, none⟩ (.func (.func (kT 0)) #[] #[])) ⟨w.heap.size, 2, none⟩ = some (.func (.func (kT 0)) #[] #[]) := by go_simp
      refine bodyPost_ret (v := .agg #[.func (.func (kM 0)) #[] #[], .func (.func (kH 0)) #[] #[], .func (.func (kT 0)) #[] #[]]) (by simp [results, Tryd.results20, go_sem, t0, t1, t2]) rfl ⟨by rw [HE.out]; rfl, FIN.out 0 HE.out _ rfl⟩
end Go.Proofs.YtfjpdflilmcnhaaDoor
