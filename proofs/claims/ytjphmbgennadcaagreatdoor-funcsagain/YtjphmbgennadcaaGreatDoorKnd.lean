/- The kinds that the functions take: which numbers are kinds, which lists of kinds are all of one kind. -/
import Derived.Test.YtjphmbgennadcaaGreatDoorCmp
import Derived.Test.YtjphmbgennadcaaGreatDoorMem
import Derived.Test.YtjphmbgennadcaaGreatDoorBase
namespace Go.Proofs.YtjphmbgennadcaaGreatDoor
set_option maxHeartbeats 4000000
set_option linter.unusedSimpArgs false
open Go.ChangeShapes Go.WideShapes Go.ChangeAt Go.RowKit

/-- The kind of kinds that are alike. -/
def comP : Int → List Int → Option Int
  | k, [] => some k
  | k, x :: l => if x == 0 || x == k then comP k l else if k == 0 then comP x l else if isNum x && isNum k then comP 3 l else none
def allK (p : Int → Bool) (l : List Int) : Bool := l.all fun x => x == 0 || p x
def isK (x : Int) : Bool := decide (0 ≤ x) && decide (x ≤ 4)
def areK (l : List Int) : Bool := l.all isK
def isI (k : Int) : Bool := k == 2
def isT (k : Int) : Bool := k == 4
def lenB (l : List Int) (n : Nat) : Bool := decide (l.length = n)
def oneN (l : List Int) : Bool := lenB l 1 && allK isNum l
def oneT (l : List Int) : Bool := lenB l 1 && allK isT l
def oneA (l : List Int) : Bool := lenB l 1
def somT (l : List Int) : Bool := !lenB l 0 && allK isT l
def alkB (l : List Int) : Bool := (comP 0 l).isSome
def somA (l : List Int) : Bool := !lenB l 0 && alkB l
def twoA (l : List Int) : Bool := lenB l 2 && alkB l
def txtP (l : List Int) : Bool := lenB l 3 && (allK isT (l.take 1) && allK isI (l.drop 1))
/-- Which kinds the k-th function takes. -/
def tkP : Nat → List Int → Bool
  | 0 => oneN | 1 => oneN | 2 => somA | 3 => somT | 4 => oneN | 5 => somA | 6 => somA | 7 => oneT | 8 => oneT | 9 => twoA | 10 => oneN | 11 => oneN | 12 => txtP | 13 => oneN | 14 => oneN | 15 => oneA | 16 => oneT | _ => oneT
/-- What it answers: a kind; -1: that of the first; -2: that of all. -/
def anI : Nat → Int
  | 0 => -1 | 1 => 2 | 2 => -2 | 3 => 4 | 4 => 2 | 5 => -2 | 6 => -2 | 7 => 2 | 8 => 4 | 9 => -1 | 10 => 2 | 11 => 2 | 12 => 4 | 13 => 3 | 14 => 2 | 15 => 4 | 16 => 4 | _ => 4
def snB : Nat → Bool
  | 2 => true | 9 => true | _ => false
/-- The names. -/
def nmL : List (List UInt8) := [[97, 98, 115], [99, 101, 105, 108], [99, 111, 97, 108, 101, 115, 99, 101], [99, 111, 110, 99, 97, 116], [102, 108, 111, 111, 114], [103, 114, 101, 97, 116, 101, 115, 116], [108, 101, 97, 115, 116], [108, 101, 110, 103, 116, 104], [108, 111, 119, 101, 114], [110, 117, 108, 108, 105, 102], [114, 111, 117, 110, 100], [115, 105, 103, 110], [115, 117, 98, 115, 116, 114], [116, 111, 100, 101, 99], [116, 111, 105, 110, 116], [116, 111, 116, 101, 120, 116], [116, 114, 105, 109], [117, 112, 112, 101, 114]]
def nmA (k : Nat) : ByteArray := ⟨(nmL.getD k []).toArray⟩
def comG (l : List Int) : Int := (comP 0 l).getD 0
def kdP (k : Nat) (l : List Int) : Int := if anI k == -1 then l.headD 0 else if anI k == -2 then comG l else anI k
def ksL (r : List Val) : List Int := r.map (·.1)
def nulB (r : List Val) : Bool := r.any (·.1 == 0)

/-- A function of the program's own. -/
def Ent (k : FuncId) : Prop := ∀ (args : Array Value) (w : World), (callFunc k args).run Tryz.prog w = .ok (.enter k args) w
theorem ent_of {k : FuncId} {fn : Func} (h : Tryz.prog.funcs[k]? = some fn) (hn : (fn.name == "runtime.NumGoroutine") = false) (hb : fn.body.isNone = false) : Ent k := fun args w => by
  have hn' : ¬ fn.name = "runtime.NumGoroutine" := by simpa using hn
  have hb' : ¬ fn.body = none := fun e => by rw [e] at hb; cases hb
  simp [callFunc, go_sem, h, hn', hb']
/-- A slice of ints. -/
def KsAt (w : World) (a : Option Addr) (l : List Int) : Prop := l.length = 0 ∨ ∃ b off, a = some ⟨b, off, none⟩ ∧ ∀ i, i < l.length → w.cell? ⟨b, off + i, none⟩ = some (.int .i64 (l.getD i 0))
theorem KsAt.below {w w' : World} {a : Option Addr} {l : List Int} (h : KsAt w a l) (hb : Below w.heap.size w w') : KsAt w' a l := by
  rcases h with h | ⟨b, off, ha, hc⟩
  · exact Or.inl h
  · exact Or.inr ⟨b, off, ha, fun i hi => cell_below hb (hc i hi)⟩
theorem KsAt.alloc {w : World} {a : Option Addr} {l : List Int} (h : KsAt w a l) (o : Obj) : KsAt (w.alloc o) a l := h.below ((Below.refl _ _).alloc (Nat.le_refl _) o)
theorem dropI {l : List Int} {i : Nat} (h : i < l.length) : l.drop i = l.getD i 0 :: l.drop (i + 1) := by
  rw [List.drop_eq_getElem_cons h, List.getD_eq_getElem?_getD, List.getElem?_eq_getElem h]; rfl

theorem isNumber10_any (k : Int) (w : World) : Calls Tryz.prog 81 #[.int .i64 k] w fun e w' => e = .returned (.bool (isNum k)) ∧ w' = w := by
  by_cases h2 : k = 2
  · subst h2; go_enter Tryz.func81, Tryz.ntmps81; go_wp2; go_ret; exact ⟨rfl, rfl⟩
  · have e2 : (k == 2) = false := by simpa using h2
    have hn : isNum k = (k == 3) := by unfold isNum; rw [e2]; rfl
    rw [hn]
    clear hn h2
    go_enter Tryz.func81, Tryz.ntmps81; go_wp2; go_ret; exact ⟨rfl, rfl⟩
theorem isInt10_any (k : Int) (w : World) : Calls Tryz.prog 97 #[.int .i64 k] w fun e w' => e = .returned (.bool (isI k)) ∧ w' = w := by
  unfold isI
  go_enter Tryz.func97, Tryz.ntmps97; go_wp2; go_ret; exact ⟨rfl, rfl⟩
theorem isText10_any (k : Int) (w : World) : Calls Tryz.prog 87 #[.int .i64 k] w fun e w' => e = .returned (.bool (isT k)) ∧ w' = w := by
  unfold isT
  go_enter Tryz.func87, Tryz.ntmps87; go_wp2; go_ret; exact ⟨rfl, rfl⟩
/-- A function that tells of a kind by p. -/
structure Tst (F : FuncId) (p : Int → Bool) : Prop where
  ent : Ent F
  run : ∀ (x : Int) (w : World), Calls Tryz.prog F #[.int .i64 x] w fun e w' => e = .returned (.bool (p x)) ∧ w' = w
theorem tst_num : Tst 81 isNum := ⟨ent_of Tryz.func81 (by kernel_rfl) rfl, isNumber10_any⟩
theorem tst_int : Tst 97 isI := ⟨ent_of Tryz.func97 (by kernel_rfl) rfl, isInt10_any⟩
theorem tst_txt : Tst 87 isT := ⟨ent_of Tryz.func87 (by kernel_rfl) rfl, isText10_any⟩

theorem areK_some (b off cap : Nat) (l : List Int) (w : World) (hlen : l.length ≤ 9223372036854775807) (hc : ∀ i, i < l.length → w.cell? ⟨b, off + i, none⟩ = some (.int .i64 (l.getD i 0))) :
    Calls Tryz.prog 66 #[.slice (some ⟨b, off, none⟩) l.length cap] w fun e w' => e = .returned (.bool (areK l)) ∧ w' = w := by
  have HC : Hid _ := hc
  clear hc
  go_enter Tryz.func66, Tryz.ntmps66
  go_wp2
  go_loop [7] (fun i => ∃ m : Nat, m ≤ l.length ∧ i = .int .i64 m ∧ areK (l.drop m) = areK l) (fun i => l.length - (intOf i).toNat)
  case atStart => exact ⟨0, Nat.zero_le _, rfl, rfl⟩
  case round =>
    obtain ⟨m, hm, rfl, hV⟩ := hrel
    have HV : Hid (areK (l.drop m) = areK l) := hV
    clear hV
    rcases Nat.lt_or_ge m l.length with hlt | hge
    · have c0 := HC.out m hlt
      have HD : Hid (l.drop m = l.getD m 0 :: l.drop (m + 1)) := dropI hlt
      generalize l.getD m 0 = x at c0 HD
      rcases Int.lt_or_le x 0 with h0 | h0
      · have HN : Hid (areK l = false) := by show _ = _; rw [← HV.out, HD.out, areK, List.all_cons, isK, decide_eq_false (by omega)]; rfl
        go_wp2
        go_ret
        exact ⟨ret_bool HN.out.symm, rfl⟩
      · rcases Int.lt_or_le 4 x with h4 | h4
        · have HN : Hid (areK l = false) := by show _ = _; rw [← HV.out, HD.out, areK, List.all_cons, isK, decide_eq_false (show ¬ x ≤ 4 by omega), Bool.and_false]; rfl
          go_wp2
          go_ret
          exact ⟨ret_bool HN.out.symm, rfl⟩
        · have HN : Hid (areK (l.drop (m + 1)) = areK l) := by show _ = _; rw [← HV.out, HD.out, areK, areK, List.all_cons, isK, decide_eq_true h0, decide_eq_true h4]; rfl
          go_wp2
          go_round
          case rel => exact ⟨m + 1, by omega, by go_num, HN.out⟩
          case measure => simp [intOf]; omega
    · obtain rfl : m = l.length := by omega
      have HN : Hid (areK l = true) := by show _ = _; rw [← HV.out, List.drop_length]; rfl
      go_wp2
      go_ret
      exact ⟨ret_bool HN.out.symm, rfl⟩
theorem areK_none (a : Option Addr) (cap : Nat) (w : World) : Calls Tryz.prog 66 #[.slice a 0 cap] w fun e w' => e = .returned (.bool true) ∧ w' = w := by
  go_enter Tryz.func66, Tryz.ntmps66
  go_wp2
  refine wp_loop_rounds 1 ?_
  rw [rounds_succ]
  go_wp2
  go_ret
  exact ⟨rfl, rfl⟩
theorem areKinds_any (a : Option Addr) (cap : Nat) (l : List Int) (w : World) (hlen : l.length ≤ 9223372036854775807) (hk : KsAt w a l) :
    Calls Tryz.prog 66 #[.slice a l.length cap] w fun e w' => e = .returned (.bool (areK l)) ∧ w' = w := by
  rcases hk with h0 | ⟨b, off, rfl, hc⟩
  · obtain rfl : l = [] := List.length_eq_zero_iff.1 h0
    exact areK_none a cap w
  · exact areK_some b off cap l w hlen hc

theorem all_some (F : FuncId) (p : Int → Bool) (hT : Tst F p) (b off cap : Nat) (l : List Int) (w : World) (hlen : l.length ≤ 9223372036854775807) (hc : ∀ i, i < l.length → w.cell? ⟨b, off + i, none⟩ = some (.int .i64 (l.getD i 0))) :
    Calls Tryz.prog 80 #[.func (.func F) #[] #[], .slice (some ⟨b, off, none⟩) l.length cap] w fun e w' => e = .returned (.bool (allK p l)) ∧ w' = w := by
  have HC : Hid _ := hc
  have hE := hT.ent
  unfold Ent at hE
  have HT : Hid _ := hT.run
  clear hc hT
  go_enter Tryz.func80, Tryz.ntmps80
  go_wp2
  go_loop [9] (fun i => ∃ m : Nat, m ≤ l.length ∧ i = .int .i64 m ∧ allK p (l.drop m) = allK p l) (fun i => l.length - (intOf i).toNat)
  case atStart => exact ⟨0, Nat.zero_le _, rfl, rfl⟩
  case round =>
    obtain ⟨m, hm, rfl, hV⟩ := hrel
    have HV : Hid (allK p (l.drop m) = allK p l) := hV
    clear hV
    rcases Nat.lt_or_ge m l.length with hlt | hge
    · have c0 := HC.out m hlt
      have HD : Hid (l.drop m = l.getD m 0 :: l.drop (m + 1)) := dropI hlt
      generalize l.getD m 0 = x at c0 HD
      have hr := HT.out x w
      generalize hp : p x = q at hr
      have HP : Hid (p x = q) := hp
      clear hp
      by_cases hx : x = 0
      · subst hx
        have HN : Hid (allK p (l.drop (m + 1)) = allK p l) := by show _ = _; rw [← HV.out, HD.out, allK, allK, List.all_cons]; rfl
        go_wp2
        go_round
        case rel => exact ⟨m + 1, by omega, by go_num, HN.out⟩
        case measure => simp [intOf]; omega
      · have hx' : (x != 0) = true := by simpa using hx
        have HX : Hid ((x == 0) = false) := by show _ = _; simpa using hx
        clear hx
        cases q
        · have HN : Hid (allK p l = false) := by show _ = _; rw [← HV.out, HD.out, allK, List.all_cons, HX.out, HP.out]; rfl
          go_wp2_with fail
          refine hr.mono ?_
          rintro e w1 ⟨rfl, rfl⟩
          go_wp2
          go_ret
          exact ⟨ret_bool HN.out.symm, rfl⟩
        · have HN : Hid (allK p (l.drop (m + 1)) = allK p l) := by show _ = _; rw [← HV.out, HD.out, allK, allK, List.all_cons, HX.out, HP.out]; rfl
          go_wp2_with fail
          refine hr.mono ?_
          rintro e w1 ⟨rfl, rfl⟩
          go_wp2
          go_round
          case rel => exact ⟨m + 1, by omega, by go_num, HN.out⟩
          case measure => simp [intOf]; omega
    · obtain rfl : m = l.length := by omega
      have HN : Hid (allK p l = true) := by show _ = _; rw [← HV.out, List.drop_length]; rfl
      go_wp2
      go_ret
      exact ⟨ret_bool HN.out.symm, rfl⟩
theorem all_none (F : FuncId) (a : Option Addr) (cap : Nat) (w : World) : Calls Tryz.prog 80 #[.func (.func F) #[] #[], .slice a 0 cap] w fun e w' => e = .returned (.bool true) ∧ w' = w := by
  go_enter Tryz.func80, Tryz.ntmps80
  go_wp2
  refine wp_loop_rounds 1 ?_
  rw [rounds_succ]
  go_wp2
  go_ret
  exact ⟨rfl, rfl⟩
theorem all_any (F : FuncId) (p : Int → Bool) (hT : Tst F p) (a : Option Addr) (cap : Nat) (l : List Int) (w : World) (hlen : l.length ≤ 9223372036854775807) (hk : KsAt w a l) :
    Calls Tryz.prog 80 #[.func (.func F) #[] #[], .slice a l.length cap] w fun e w' => e = .returned (.bool (allK p l)) ∧ w' = w := by
  rcases hk with h0 | ⟨b, off, rfl, hc⟩
  · obtain rfl : l = [] := List.length_eq_zero_iff.1 h0
    exact all_none F a cap w
  · exact all_some F p hT b off cap l w hlen hc
end Go.Proofs.YtjphmbgennadcaaGreatDoor
