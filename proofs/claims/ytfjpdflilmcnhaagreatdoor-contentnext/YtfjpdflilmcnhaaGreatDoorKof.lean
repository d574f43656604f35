/- Which functions a kind of view has (kindOf). -/
import Derived.Test.YtfjpdflilmcnhaaGreatDoorVw
import Derived.Deep.WholeRow
import Derived.Laws.EntriesVeiled
namespace Go.Proofs.YtfjpdflilmcnhaaGreatDoor
open Go.ChangeShapes Go.WideShapes Go.ChangeAt Go.RowKit

def fnV (k : Nat) : Value := .func (.func k) #[] #[]
def clsI (n : Int) : Nat := if 0 ≤ n ∧ n < 10 then n.toNat else 0
def kM (c : Nat) : Nat := [35, 38, 40, 42, 40, 42, 48, 50, 38, 38].getD c 35
def kH (c : Nat) : Nat := [36, 39, 41, 43, 45, 46, 49, 51, 52, 53].getD c 36
def kT (c : Nat) : Nat := [37, 37, 37, 44, 37, 47, 37, 37, 37, 37].getD c 37
def kndV (c : Nat) : Value := .agg #[fnV (kM c), fnV (kH c), fnV (kT c)]
theorem cls_lt (n : Int) : clsI n < 10 := by unfold clsI; split <;> omega
def kAr : Array Value := #[fnV 35, fnV 36, fnV 37, fnV 38, fnV 39, fnV 37, fnV 40, fnV 41, fnV 37, fnV 42, fnV 43, fnV 44, fnV 40, fnV 45, fnV 37, fnV 42, fnV 46, fnV 47, fnV 48, fnV 49, fnV 37, fnV 50, fnV 51, fnV 37, fnV 38, fnV 52, fnV 37, fnV 38, fnV 53, fnV 37]
theorem kAr_at {c : Nat} (h : c < 10) : kAr[c * 3]? = some (fnV (kM c)) ∧ kAr[c * 3 + 1]? = some (fnV (kH c)) ∧ kAr[c * 3 + 2]? = some (fnV (kT c)) := by
  have : c = 0 ∨ c = 1 ∨ c = 2 ∨ c = 3 ∨ c = 4 ∨ c = 5 ∨ c = 6 ∨ c = 7 ∨ c = 8 ∨ c = 9 := by omega
  rcases this with rfl | rfl | rfl | rfl | rfl | rfl | rfl | rfl | rfl | rfl <;> exact ⟨rfl, rfl, rfl⟩
theorem kAr_store (w0 : World) (z : Array Value) (hz : z.size = 30) : (Instr.storeAt 73 (.pointer (some ⟨w0.heap.size, 0, none⟩)) (.agg kAr)).run Tryz.prog (w0.alloc (.cells z 73)) = .ok () (w0.alloc (.cells kAr 73)) := by
  have h := run_storeVar_new (P := Tryz.prog) w0 73 z kAr (by kernel_rfl) (by rw [hz]; rfl) (by kernel_rfl)
  generalize kAr = K at *
  simp [Instr.storeAt, Instr.sureAddr, h]
theorem wpList_kAr {ops : Array Oper} {rest : List Oper} {o : Oper} {a : Act} {Q : Exit → Act → World → Prop} {w w0 : World} {z : Array Value} (hg : o.guard = none) (hop : o.op = Op.store 73 (Operand.tmp 3) (Operand.tmp 14)) (hw : w = w0.alloc (.cells z 73)) (hz : z.size = 30) {A : Nat}
    (ha : a.eval (Operand.tmp 3) = .pointer (some ⟨A, 0, none⟩)) (hA : A = w0.heap.size) (hv : a.eval (Operand.tmp 14) = .agg kAr) (hd : o.dst = none)
    (hK : wpList Tryz.prog ops Q rest a (w0.alloc (.cells kAr 73))) : wpList Tryz.prog ops Q (o :: rest) a w := by
  refine wpList_plain hg fun K hK' => ?_
  subst hw
  subst hA
  have h := kAr_store w0 z hz
  generalize kAr = kk at *
  unfold Oper.wp
  simp [execOp, hop, ha, hv, h, Result.andThen]
  exact hK' _ _ (by rw [hd]; exact hK)
set_option maxRecDepth 20000 in
set_option maxHeartbeats 8000000 in
theorem kindOf_any (n : Int) (w : World) : Calls Tryz.prog 28 #[.int .i64 n] w fun e w' => e = .returned (kndV (clsI n)) ∧ Below w.heap.size w w' := by
  go_enter Tryz.func28, Tryz.ntmps28
  go_upto_region 2 with (refine wpList_kAr rfl rfl rfl rfl rfl (by simp) rfl rfl ?_)
  have hb : Below w.heap.size w ((w.alloc (Obj.cells #[.nilFunc, .nilFunc, .nilFunc] 45)).alloc (Obj.cells kAr 73)) := ((Below.refl w.heap.size w).alloc (Nat.le_refl _) _).alloc (by simp) _
  have x0 : World.cell? ((w.alloc (Obj.cells #[.nilFunc, .nilFunc, .nilFunc] 45)).alloc (Obj.cells kAr 73)) ⟨w.heap.size, 0, none⟩ = some .nilFunc := by go_simp
  have x1 : World.cell? ((w.alloc (Obj.cells #[.nilFunc, .nilFunc, .nilFunc] 45)).alloc (Obj.cells kAr 73)) ⟨w.heap.size, 1, none⟩ = some .nilFunc := by go_simp
  have x2 : World.cell? ((w.alloc (Obj.cells #[.nilFunc, .nilFunc, .nilFunc] 45)).alloc (Obj.cells kAr 73)) ⟨w.heap.size, 2, none⟩ = some .nilFunc := by go_simp
  have f0 : World.frozen? ((w.alloc (Obj.cells #[.nilFunc, .nilFunc, .nilFunc] 45)).alloc (Obj.cells kAr 73)) ⟨w.heap.size, 0, none⟩ = false := by go_simp
  have f1 : World.frozen? ((w.alloc (Obj.cells #[.nilFunc, .nilFunc, .nilFunc] 45)).alloc (Obj.cells kAr 73)) ⟨w.heap.size, 1, none⟩ = false := by go_simp
  have f2 : World.frozen? ((w.alloc (Obj.cells #[.nilFunc, .nilFunc, .nilFunc] 45)).alloc (Obj.cells kAr 73)) ⟨w.heap.size, 2, none⟩ = false := by go_simp
  have ys : ∀ i v, kAr[i]? = some v → World.cell? ((w.alloc (Obj.cells #[.nilFunc, .nilFunc, .nilFunc] 45)).alloc (Obj.cells kAr 73)) ⟨w.heap.size + 1, i, none⟩ = some v := fun i v h => by
    have := World.cell?_alloc_mark (w.alloc (Obj.cells #[.nilFunc, .nilFunc, .nilFunc] 45)) kAr 73 (0, 0) i
    rw [World.size_alloc] at this
    exact this.trans h
  have HK : Hid (∀ c, c < 10 → World.cell? ((w.alloc (Obj.cells #[.nilFunc, .nilFunc, .nilFunc] 45)).alloc (Obj.cells kAr 73)) ⟨w.heap.size + 1, c * 3, none⟩ = some (fnV (kM c)) ∧ World.cell? ((w.alloc (Obj.cells #[.nilFunc, .nilFunc, .nilFunc] 45)).alloc (Obj.cells kAr 73)) ⟨w.heap.size + 1, c * 3 + 1, none⟩ = some (fnV (kH c)) ∧ World.cell? ((w.alloc (Obj.cells #[.nilFunc, .nilFunc, .nilFunc] 45)).alloc (Obj.cells kAr 73)) ⟨w.heap.size + 1, c * 3 + 2, none⟩ = some (fnV (kT c))) := fun c hc => by
    obtain ⟨h0, h1, h2⟩ := kAr_at hc
    exact ⟨ys _ _ h0, ys _ _ h1, ys _ _ h2⟩
  have HB : Hid _ := hb
  clear ys hb
  generalize ((w.alloc (Obj.cells #[.nilFunc, .nilFunc, .nilFunc] 45)).alloc (Obj.cells kAr 73)) = w1 at *
  have fin : ∀ c, clsI n = c → ∀ (w2 : World), w2 = ((w1.setCell ⟨w.heap.size, 0, none⟩ (fnV (kM c))).setCell ⟨w.heap.size, 1, none⟩ (fnV (kH c))).setCell ⟨w.heap.size, 2, none⟩ (fnV (kT c)) → Below w.heap.size w w2 := fun c _ w2 e => by
    rw [e]
    exact ((HB.out.setCell (p := ⟨w.heap.size, 0, none⟩) (Nat.le_refl _) _).setCell (p := ⟨w.heap.size, 1, none⟩) (Nat.le_refl _) _).setCell (p := ⟨w.heap.size, 2, none⟩) (Nat.le_refl _) _
  have FIN : Hid _ := fin
  clear fin
  by_cases hin : 0 ≤ n ∧ n < 10
  · obtain ⟨c, rfl⟩ : ∃ c : Nat, n = c := ⟨n.toNat, by omega⟩
    have hc : c < 10 := by omega
    have HE : Hid (clsI c = c) := by show _ = _; unfold clsI; rw [if_pos hin]; simp
    obtain ⟨k0, k1, k2⟩ := HK.out c hc
    clear HK
    unfold fnV at k0 k1 k2
    have h1 : ¬ ((c : Int) < 0) := by omega
    have h2 : (c : Int) < 10 := hin.2
    go_wp2
    have t0 : World.cell? (((w1.setCell ⟨w.heap.size, 0, none⟩ (.func (.func (kM c)) #[] #[])).setCell ⟨w.heap.size, 1, none⟩ (.func (.func (kH c)) #[] #[])).setCell ⟨w.heap.size, 2, none⟩ (.func (.func (kT c)) #[] #[])) ⟨w.heap.size, 0, none⟩ = some (.func (.func (kM c)) #[] #[]) := by go_simp
    have t1 : World.cell? (((w1.setCell ⟨w.heap.size, 0, none⟩ (.func (.func (kM c)) #[] #[])).setCell ⟨w.heap.size, 1, none⟩ (.func (.func (kH c)) #[] #[])).setCell ⟨w.heap.size, 2, none⟩ (.func (.func (kT c)) #[] #[])) ⟨w.heap.size, 1, none⟩ = some (.func (.func (kH c)) #[] #[]) := by go_simp
    have t2 : World.cell? (((w1.setCell ⟨w.heap.size, 0, none⟩ (.func (.func (kM c)) #[] #[])).setCell ⟨w.heap.size, 1, none⟩ (.func (.func (kH c)) #[] #[])).setCell ⟨w.heap.size, 2, none⟩ (.func (.func (kT c)) #[] #[])) ⟨w.heap.size, 2, none⟩ = some (.func (.func (kT c)) #[] #[]) := by go_simp
    refine bodyPost_ret (v := .agg #[.func (.func (kM c)) #[] #[], .func (.func (kH c)) #[] #[], .func (.func (kT c)) #[] #[]]) (by simp [results, Tryz.results28, go_sem, t0, t1, t2]) rfl ⟨by rw [HE.out]; rfl, FIN.out c HE.out _ rfl⟩
  · have HE : Hid (clsI n = 0) := by show _ = _; unfold clsI; rw [if_neg hin]
    obtain ⟨k0, k1, k2⟩ := HK.out 0 (by omega)
    simp only [Nat.zero_mul, Nat.zero_add] at k0 k1 k2
    clear HK
    unfold fnV at k0 k1 k2
    by_cases h1 : n < 0
    · go_wp2
      have t0 : World.cell? (((w1.setCell ⟨w.heap.size, 0, none⟩ (.func (.func (kM 0)) #[] #[])).setCell ⟨w.heap.size, 1, none⟩ (.func (.func (kH 0)) #[] #[])).setCell ⟨w.heap.size, 2, none⟩ (.func (.func (kT 0)) #[] #[])) ⟨w.heap.size, 0, none⟩ = some (.func (.func (kM 0)) #[] #[]) := by go_simp
      have t1 : World.cell? (((w1.setCell ⟨w.heap.size, 0, none⟩ (.func (.func (kM 0)) #[] #[])).setCell ⟨w.heap.size, 1, none⟩ (.func (.func (kH 0)) #[] #[])).setCell ⟨w.heap.size, 2, none⟩ (.func (.func (kT 0)) #[] #[])) ⟨w.heap.size, 1, none⟩ = some (.func (.func (kH 0)) #[] #[]) := by go_simp
      have t2 : World.cell? (((w1.setCell ⟨w.heap.size, 0, none⟩ (.func (.func (kM 0)) #[] #[])).setCell ⟨w.heap.size, 1, none⟩ (.func (.func (kH 0)) #[] #[])).setCell ⟨w.heap.size, 2, none⟩ (.func (.func (kT 0)) #[] #[])) ⟨w.heap.size, 2, none⟩ = some (.func (.func (kT 0)) #[] #[]) := by go_simp
      refine bodyPost_ret (v := .agg #[.func (.func (kM 0)) #[] #[], .func (.func (kH 0)) #[] #[], .func (.func (kT 0)) #[] #[]]) (by simp [results, Tryz.results28, go_sem, t0, t1, t2]) rfl ⟨by rw [HE.out]; rfl, FIN.out 0 HE.out _ rfl⟩
    · have h2 : 10 ≤ n := by omega
      go_wp2
      have t0 : World.cell? (((w1.setCell ⟨w.heap.size, 0, none⟩ (.func (.func (kM 0)) #[] #[])).setCell ⟨w.heap.size, 1, none⟩ (.func (.func (kH 0)) #[] #[])).setCell ⟨w.heap.size, 2, none⟩ (.func (.func (kT 0)) #[] #[])) ⟨w.heap.size, 0, none⟩ = some (.func (.func (kM 0)) #[] #[]) := by go_simp
      have t1 : World.cell? (((w1.setCell ⟨w.heap.size, 0, none⟩ (.func (.func (kM 0)) #[] #[])).setCell ⟨w.heap.size, 1, none⟩ (.func (.func (kH 0)) #[] #[])).setCell ⟨w.heap.size, 2, none⟩ (.func (.func (kT 0)) #[] #[])) ⟨w.heap.size, 1, none⟩ = some (.func (.func (kH 0)) #[] #[]) := by go_simp
      have t2 : World.cell? (((w1.setCell ⟨w.heap.size, 0, none⟩ (.func (.func (kM 0)) #[] #[])).setCell ⟨w.heap.size, 1, none⟩ (.func (.func (kH 0)) #[] #[])).setCell ⟨w.heap.size, 2, none⟩ (.func (.func (kT 0)) #[] #[])) ⟨w.heap.size, 2, none⟩ = some (.func (.func (kT 0)) #[] #[]) := by go_simp
      refine bodyPost_ret (v := .agg #[.func (.func (kM 0)) #[] #[], .func (.func (kH 0)) #[] #[], .func (.func (kT 0)) #[] #[]]) (by simp [results, Tryz.results28, go_sem, t0, t1, t2]) rfl ⟨by rw [HE.out]; rfl, FIN.out 0 HE.out _ rfl⟩
end Go.Proofs.YtfjpdflilmcnhaaGreatDoor
