/- The keys of package key's two maps: pieces (structs), and places (ints). -/
import Derived.Test.YtfjpdflilmcnhaaGreatDoorMaps
import Derived.Test.YtfjpdflilmcnhaaGreatDoorMem
import Derived.Laws.StructEq
namespace Go.Proofs.YtfjpdflilmcnhaaGreatDoor
open Go.ChangeShapes Go.WideShapes Go.ChangeAt Go.RowKit

/-- A value: its kind, its number, its text. -/
abbrev Val := Int × Int × ByteArray
def vlE (v : Val) : Value := .agg #[.int .i64 v.1, .int .i64 v.2.1, .string v.2.2]
/-- A piece: a place, and a value behind it. -/
abbrev Pce := Int × Val
def pcE (p : Pce) : Value := .agg #[.int .i64 p.1, .int .i64 p.2.1, .int .i64 p.2.2.1, .string p.2.2.2]
/-- A way: where it leads to, how many rows go there. -/
abbrev Way := Int × Int
def wyE (x : Way) : Value := .agg #[.int .i64 x.1, .int .i64 x.2]
def itE (x : Int) : Value := .int .i64 x

theorem ba_ext {a b : ByteArray} (h : a.data.toList = b.data.toList) : a = b := by
  obtain ⟨⟨x⟩⟩ := a
  obtain ⟨⟨y⟩⟩ := b
  simp at h; subst h; rfl
theorem ba_toList {a b : ByteArray} : (a.toList = b.toList) = (a = b) := by
  rw [ByteArray.toList_eq, ByteArray.toList_eq]
  exact propext ⟨ba_ext, fun h => by rw [h]⟩
theorem hf98 : Tryz.prog.underlying 102 = some (.struct (Tryz.prog.fieldsOf 102)) := by kernel_rfl
theorem hs98 : Tryz.prog.stoodInHeld 102 = false := by kernel_rfl
theorem hf46 : Tryz.prog.underlying 64 = some (.struct (Tryz.prog.fieldsOf 64)) := by kernel_rfl
theorem hs46 : Tryz.prog.stoodInHeld 64 = false := by kernel_rfl
theorem hg46 : Tryz.prog.eqGuardType Tryz.prog.depth 47 = false := by kernel_rfl
theorem part46 (p k n : Int) (t : ByteArray) (w : World) : (part 64 #[.int .i64 p, .int .i64 k, .int .i64 n, .string t] 1).run Tryz.prog w = .ok (.agg #[.int .i64 k, .int .i64 n, .string t]) w := by kernel_rfl
theorem eq98 (x y : Pce) (w : World) : (Op.equal 102 (pcE x) (pcE y)).run Tryz.prog w = .ok (decide (y = x)) w := by
  obtain ⟨p, k, n, t⟩ := x
  obtain ⟨q, k', n', t'⟩ := y
  unfold pcE Op.equal
  rw [show Op.maxDepth = 9999 + 1 from rfl, run_equalIn_agg w 9999 102 _ _ hf98 hs98]
  simp [Op.eqFields, Program.fieldsOf, Tryz.underlying102, go_sem]
  by_cases h1 : p = q <;> by_cases h2 : k = k' <;> by_cases h3 : n = n' <;> by_cases h4 : t = t' <;> simp_all [eq_comm, ba_toList]
theorem ck98 (b : Bool) (x : Pce) (w : World) : (Instr.checkKey b 10000 102 (pcE x)).run Tryz.prog w = .ok () w := by
  obtain ⟨p, k, n, t⟩ := x
  kernel_rfl
theorem ck3 (b : Bool) (x : Int) (w : World) : (Instr.checkKey b 10000 3 (itE x)).run Tryz.prog w = .ok () w := by kernel_rfl
theorem findAsk98 (k : Pce) (w : World) : ∀ (es : List MapEntry) (ks : List Pce) (i : Nat), es.map (·.key) = ks.map pcE → (Instr.findAsking 102 (pcE k) es i).run Tryz.prog w = .ok ((ks.findIdx? fun x => decide (x = k)).map fun j => (j + i, (es[j]?.map (·.val)).getD .nilIface)) w
  | [], [], _, _ => by simp [Instr.findAsking]
  | [], _ :: _, _, h => by simp at h
  | _ :: _, [], _, h => by simp at h
  | e :: es, x :: ks, i, h => by
    simp only [List.map_cons, List.cons.injEq] at h
    simp only [Instr.findAsking, Sem.run_bind, h.1, eq98, Result.andThen_ok]
    by_cases hx : x = k
    · simp [hx, List.findIdx?_cons]
    · simp only [hx, decide_false, Bool.false_eq_true, if_false, List.findIdx?_cons]
      rw [findAsk98 k w es ks (i + 1) h.2]
      cases List.findIdx? (fun x => decide (x = k)) ks <;> simp
      omega
theorem find98 (k : Pce) (es : List MapEntry) (ks : List Pce) (w : World) (h : es.map (·.key) = ks.map pcE) : (Instr.findKey 102 (pcE k) es).run Tryz.prog w = .ok ((ks.findIdx? fun x => decide (x = k)).map fun i => (i, (es[i]?.map (·.val)).getD .nilIface)) w := by
  cases es with
  | nil =>
    cases ks with
    | nil => simp [Instr.findKey, run_underlying hf98, Instr.findNow]
    | cons x ks => simp at h
  | cons e es =>
    have h0 := findAsk98 k w (e :: es) ks 0 h
    simp only [Nat.add_zero] at h0
    have hn : Instr.findNow (.struct (Tryz.prog.fieldsOf 102)) (pcE k) (e :: es) 0 = none := by simp [Instr.findNow, Instr.sameNow]
    simp only [Instr.findKey, Sem.run_bind, run_underlying hf98, Result.andThen_ok, hn, h0]
theorem findNow3 (k : Int) : ∀ (es : List MapEntry) (ks : List Int) (i : Nat), es.map (·.key) = ks.map itE → Instr.findNow (.int .i64) (itE k) es i = some ((ks.findIdx? fun x => decide (x = k)).map fun j => (j + i, (es[j]?.map (·.val)).getD .nilIface))
  | [], [], _, _ => by simp [Instr.findNow]
  | [], _ :: _, _, h => by simp at h
  | _ :: _, [], _, h => by simp at h
  | e :: es, x :: ks, i, h => by
    simp only [List.map_cons, List.cons.injEq] at h
    by_cases hx : x = k
    · simp [Instr.findNow, Instr.sameNow, h.1, itE, hx, List.findIdx?_cons]
    · have hx' : ¬ k = x := fun e => hx e.symm
      have hsn : Instr.sameNow (.int .i64) (itE k) (itE x) = some false := by simp [Instr.sameNow, itE, hx']
      rw [Instr.findNow, h.1, hsn]
      simp only [hx, decide_false, Bool.false_eq_true, if_false, List.findIdx?_cons]
      rw [findNow3 k es ks (i + 1) h.2]
      cases List.findIdx? (fun x => decide (x = k)) ks <;> simp
      omega
theorem find3 (k : Int) (es : List MapEntry) (ks : List Int) (w : World) (h : es.map (·.key) = ks.map itE) : (Instr.findKey 3 (itE k) es).run Tryz.prog w = .ok ((ks.findIdx? fun x => decide (x = k)).map fun i => (i, (es[i]?.map (·.val)).getD .nilIface)) w := by
  have h0 := findNow3 k es ks 0 h
  simp only [Nat.add_zero] at h0
  simp only [Instr.findKey, Sem.run_bind, run_underlying Tryz.underlying3, Result.andThen_ok, h0, Sem.run_pure]
theorem bits98 (k : Pce) : Instr.sameBits 10000 (pcE k) (pcE k) = true := by
  rw [show (10000 : Nat) = 9998 + 1 + 1 from rfl]
  simp [Instr.sameBits, pcE, beq_toListBytes]
theorem keys98 : KeysOf Tryz.prog 102 pcE := ⟨fun b k w => ck98 b k w, find98, bits98⟩
theorem keys3 : KeysOf Tryz.prog 3 itE := ⟨fun b k w => ck3 b k w, find3, fun k => by simp [Instr.sameBits, itE]⟩
end Go.Proofs.YtfjpdflilmcnhaaGreatDoor
