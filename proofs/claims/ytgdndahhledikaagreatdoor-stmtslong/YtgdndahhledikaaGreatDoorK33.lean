/- YCls, YShelfL, YShelfA, YPure. -/
import Derived.Test.YtgdndahhledikaaGreatDoorK32
import Derived.Shelf.Strings.Builder1
import Derived.Shelf.Strings.Builder2
import Derived.Shelf.Strings.OnBuilder
import Derived.Shelf.Small.Strs
import Derived.Shelf.Strings.Search1
import Derived.Shelf.Strings.Search2
import Derived.Shelf.Strings.Search3
import Derived.Shelf.Strings.Prefix
import Derived.Shelf.Strings.Repeat
import Derived.Test.YtgdndahhledikaaGreatDoorProg
import Derived.Shelf.LaysC
import Derived.Shelf.Strconv.AtoiAll
import Derived.Lib.ItoaMem
import Derived.Lib.AppendIntMem
import Derived.Shelf.Unicode.DecodeSlow
namespace Go.Proofs.YtgdndahhledikaaGreatDoor
open Go.ChangeShapes Go.WideShapes Go.ChangeAt Go.RowKit
set_option maxHeartbeats 4000000 in
theorem isDigit_any (c : Nat) (w : World) : Calls Tryz.prog 62 #[.int .u8 c] w fun e w' => e = .returned (.bool (dgB c)) ∧ w' = w := by
 have hc : c < 48 ∨ (48 ≤ c ∧ c ≤ 57) ∨ 57 < c := by omega
 rcases hc with h | h | h
 ·
  have e : dgB c = false := by simp [dgB]; omega
  rw [e]
  have e0 : ((48 : Int) ≤ (c : Int)) = False := eq_false (by omega)
  go_enter Tryz.func62, Tryz.ntmps62
  go_wp2
  go_ret
  exact ⟨rfl, rfl⟩
 ·
  have e : dgB c = true := by simp [dgB]; omega
  rw [e]
  have e0 : ((48 : Int) ≤ (c : Int)) = True := eq_true (by omega)
  have e1 : ((c : Int) ≤ (57 : Int)) = True := eq_true (by omega)
  go_enter Tryz.func62, Tryz.ntmps62
  go_wp2
  go_ret
  exact ⟨rfl, rfl⟩
 ·
  have e : dgB c = false := by simp [dgB]; omega
  rw [e]
  have e0 : ((48 : Int) ≤ (c : Int)) = True := eq_true (by omega)
  have e1 : ((c : Int) ≤ (57 : Int)) = False := eq_false (by omega)
  go_enter Tryz.func62, Tryz.ntmps62
  go_wp2
  go_ret
  exact ⟨rfl, rfl⟩
set_option maxHeartbeats 4000000 in
theorem isBlank_any (c : Nat) (w : World) : Calls Tryz.prog 39 #[.int .u8 c] w fun e w' => e = .returned (.bool (blB c)) ∧ w' = w := by
 have hc : c = 9 ∨ c = 10 ∨ c = 13 ∨ c = 32 ∨ (c ≠ 9 ∧ c ≠ 10 ∧ c ≠ 13 ∧ c ≠ 32) := by omega
 rcases hc with rfl | rfl | rfl | rfl | ⟨h1, h2, h3, h4⟩
 ·
  rw [show blB _ = true from rfl]
  go_enter Tryz.func39, Tryz.ntmps39
  go_wp2
  go_ret
  exact ⟨rfl, rfl⟩
 ·
  rw [show blB _ = true from rfl]
  go_enter Tryz.func39, Tryz.ntmps39
  go_wp2
  go_ret
  exact ⟨rfl, rfl⟩
 ·
  rw [show blB _ = true from rfl]
  go_enter Tryz.func39, Tryz.ntmps39
  go_wp2
  go_ret
  exact ⟨rfl, rfl⟩
 ·
  rw [show blB _ = true from rfl]
  go_enter Tryz.func39, Tryz.ntmps39
  go_wp2
  go_ret
  exact ⟨rfl, rfl⟩
 ·
  have e : blB c = false := by simp [blB, h1, h2, h3, h4]
  rw [e]
  have e0 : ((c : Int) == 9) = false := by rw [beq_eq_false_iff_ne]; omega
  have e1 : ((c : Int) == 10) = false := by rw [beq_eq_false_iff_ne]; omega
  have e2 : ((c : Int) == 13) = false := by rw [beq_eq_false_iff_ne]; omega
  have e3 : ((c : Int) == 32) = false := by rw [beq_eq_false_iff_ne]; omega
  clear h1 h2 h3 h4
  go_enter Tryz.func39, Tryz.ntmps39
  go_wp2
  go_ret
  exact ⟨rfl, rfl⟩
set_option maxHeartbeats 4000000 in
theorem isLetter_any (c : Nat) (w : World) : Calls Tryz.prog 60 #[.int .u8 c] w fun e w' => e = .returned (.bool (ltB c)) ∧ w' = w := by
 have hc : c < 65 ∨ (65 ≤ c ∧ c ≤ 90) ∨ (90 < c ∧ c < 97 ∧ c ≠ 95) ∨ c = 95 ∨ (97 ≤ c ∧ c ≤ 122) ∨ 122 < c := by omega
 rcases hc with h | h | h | h | h | h
 ·
  have e : ltB c = false := by simp [ltB]; omega
  rw [e]
  have e0 : ((97 : Int) ≤ (c : Int)) = False := eq_false (by omega)
  have e1 : ((65 : Int) ≤ (c : Int)) = False := eq_false (by omega)
  have e2 : ((c : Int) == 95) = false := by rw [beq_eq_false_iff_ne]; omega
  clear h
  go_enter Tryz.func60, Tryz.ntmps60
  go_wp2
  go_ret
  exact ⟨rfl, rfl⟩
 ·
  have e : ltB c = true := by simp [ltB]; omega
  rw [e]
  have e0 : ((97 : Int) ≤ (c : Int)) = False := eq_false (by omega)
  have e1 : ((65 : Int) ≤ (c : Int)) = True := eq_true (by omega)
  have e2 : ((c : Int) ≤ (90 : Int)) = True := eq_true (by omega)
  clear h
  go_enter Tryz.func60, Tryz.ntmps60
  go_wp2
  go_ret
  exact ⟨rfl, rfl⟩
 ·
  have e : ltB c = false := by simp [ltB]; omega
  rw [e]
  have e0 : ((97 : Int) ≤ (c : Int)) = False := eq_false (by omega)
  have e1 : ((65 : Int) ≤ (c : Int)) = True := eq_true (by omega)
  have e2 : ((c : Int) ≤ (90 : Int)) = False := eq_false (by omega)
  have e3 : ((c : Int) == 95) = false := by rw [beq_eq_false_iff_ne]; omega
  clear h
  go_enter Tryz.func60, Tryz.ntmps60
  go_wp2
  go_ret
  exact ⟨rfl, rfl⟩
 ·
  subst h
  rw [show ltB 95 = true from rfl]
  go_enter Tryz.func60, Tryz.ntmps60
  go_wp2
  go_ret
  exact ⟨rfl, rfl⟩
 ·
  have e : ltB c = true := by simp [ltB]; omega
  rw [e]
  have e0 : ((97 : Int) ≤ (c : Int)) = True := eq_true (by omega)
  have e1 : ((c : Int) ≤ (122 : Int)) = True := eq_true (by omega)
  clear h
  go_enter Tryz.func60, Tryz.ntmps60
  go_wp2
  go_ret
  exact ⟨rfl, rfl⟩
 ·
  have e : ltB c = false := by simp [ltB]; omega
  rw [e]
  have e0 : ((97 : Int) ≤ (c : Int)) = True := eq_true (by omega)
  have e1 : ((c : Int) ≤ (122 : Int)) = False := eq_false (by omega)
  have e2 : ((65 : Int) ≤ (c : Int)) = True := eq_true (by omega)
  have e3 : ((c : Int) ≤ (90 : Int)) = False := eq_false (by omega)
  have e4 : ((c : Int) == 95) = false := by rw [beq_eq_false_iff_ne]; omega
  clear h
  go_enter Tryz.func60, Tryz.ntmps60
  go_wp2
  go_ret
  exact ⟨rfl, rfl⟩
set_option maxHeartbeats 4000000 in
theorem isPart_any (c : Nat) (w : World) : Calls Tryz.prog 95 #[.int .u8 c] w fun e w' => e = .returned (.bool (ptB c)) ∧ w' = w := by
 have h1 := isLetter_any c w
 have h2 := isDigit_any c w
 unfold ptB
 cases hl : ltB c with
 | true =>
  rw [hl] at h1
  go_enter Tryz.func95, Tryz.ntmps95
  go_wp2_with (go_at_call 60; refine h1.mono ?_; rintro e w' ⟨rfl, rfl⟩)
  go_ret
  exact ⟨rfl, rfl⟩
 | false =>
  rw [hl] at h1
  go_enter Tryz.func95, Tryz.ntmps95
  go_wp2_with (first | (go_at_call 60; refine h1.mono ?_; rintro e w' ⟨rfl, rfl⟩) | (go_at_call 62; refine h2.mono ?_; rintro e w' ⟨rfl, rfl⟩))
  go_ret
  exact ⟨rfl, rfl⟩
set_option maxRecDepth 20000 in
set_option maxHeartbeats 4000000 in
theorem leading_isPart (l : List UInt8) (w : World) (hl : l.length ≤ 1048576000) : Calls Tryz.prog 94 #[.string (bsA l), .func (.func 95) #[] #[]] w fun e w' => e = .returned (.string (bsA (l.take (ldN ptB l)))) ∧ w' = w := by
 have hz := bsA_size l
 go_enter Tryz.func94, Tryz.ntmps94
 go_wp2
 go_loopw [5] (fun i wr => ∃ m : Nat, m ≤ l.length ∧ i = .int .i64 m ∧ m + ldN ptB (l.drop m) = ldN ptB l ∧ wr = w) (fun i _ => l.length - (intOf i).toNat)
 case atStart => exact ⟨0, Nat.zero_le _, rfl, by simp, rfl⟩
 case round =>
  obtain ⟨m, hm, rfl, hH, rfl⟩ := hrel
  have HH : Hid _ := hH
  clear hH
  rcases Nat.lt_or_ge m l.length with hlt | hge
  ·
   have hi : m < (bsA l).size := by rw [hz]; exact hlt
   have hc := isPart_any ((bsA l)[m]'hi).toNat wr
   cases hp : ptB ((bsA l)[m]'hi).toNat with
   | true =>
    rw [hp] at hc
    have HP : Hid (m + 1 + ldN ptB (l.drop (m + 1)) = ldN ptB l) := by rw [← HH.out]; exact (ldN_drop (p := ptB) hlt hp).symm
    go_wp2_with fail
    refine hc.mono ?_
    rintro e w' ⟨rfl, rfl⟩
    go_wp2
    go_roundw
    case rel => exact ⟨m + 1, by omega, by go_num, HP.out, trivial⟩
    case measure => simp [intOf]; omega
   | false =>
    rw [hp] at hc
    have HP : Hid (m = ldN ptB l) := by
     have h1 := ldN_stop hlt (p := ptB) hp
     have h2 := HH.out
     show m = _; omega
    go_wp2_with fail
    refine hc.mono ?_
    rintro e w' ⟨rfl, rfl⟩
    go_wp2
    go_ret
    exact ⟨by rw [← HP.out]; exact congrArg (fun x => Ending.returned (.string x)) (ext_take l m), rfl⟩
  ·
   have HP : Hid (m = ldN ptB l) := by
    have h2 := HH.out
    have h1 := ldN_le ptB (l.drop m)
    rw [List.length_drop] at h1
    show m = _; omega
   go_wp2
   go_ret
   exact ⟨by rw [← HP.out]; exact congrArg (fun x => Ending.returned (.string x)) (ext_take l m), rfl⟩
set_option maxRecDepth 20000 in
set_option maxHeartbeats 4000000 in
theorem leading_isDigit (l : List UInt8) (w : World) (hl : l.length ≤ 1048576000) : Calls Tryz.prog 94 #[.string (bsA l), .func (.func 62) #[] #[]] w fun e w' => e = .returned (.string (bsA (l.take (ldN dgB l)))) ∧ w' = w := by
 have hz := bsA_size l
 go_enter Tryz.func94, Tryz.ntmps94
 go_wp2
 go_loopw [5] (fun i wr => ∃ m : Nat, m ≤ l.length ∧ i = .int .i64 m ∧ m + ldN dgB (l.drop m) = ldN dgB l ∧ wr = w) (fun i _ => l.length - (intOf i).toNat)
 case atStart => exact ⟨0, Nat.zero_le _, rfl, by simp, rfl⟩
 case round =>
  obtain ⟨m, hm, rfl, hH, rfl⟩ := hrel
  have HH : Hid _ := hH
  clear hH
  rcases Nat.lt_or_ge m l.length with hlt | hge
  ·
   have hi : m < (bsA l).size := by rw [hz]; exact hlt
   have hc := isDigit_any ((bsA l)[m]'hi).toNat wr
   cases hp : dgB ((bsA l)[m]'hi).toNat with
   | true =>
    rw [hp] at hc
    have HP : Hid (m + 1 + ldN dgB (l.drop (m + 1)) = ldN dgB l) := by rw [← HH.out]; exact (ldN_drop (p := dgB) hlt hp).symm
    go_wp2_with fail
    refine hc.mono ?_
    rintro e w' ⟨rfl, rfl⟩
    go_wp2
    go_roundw
    case rel => exact ⟨m + 1, by omega, by go_num, HP.out, trivial⟩
    case measure => simp [intOf]; omega
   | false =>
    rw [hp] at hc
    have HP : Hid (m = ldN dgB l) := by
     have h1 := ldN_stop hlt (p := dgB) hp
     have h2 := HH.out
     show m = _; omega
    go_wp2_with fail
    refine hc.mono ?_
    rintro e w' ⟨rfl, rfl⟩
    go_wp2
    go_ret
    exact ⟨by rw [← HP.out]; exact congrArg (fun x => Ending.returned (.string x)) (ext_take l m), rfl⟩
  ·
   have HP : Hid (m = ldN dgB l) := by
    have h2 := HH.out
    have h1 := ldN_le dgB (l.drop m)
    rw [List.length_drop] at h1
    show m = _; omega
   go_wp2
   go_ret
   exact ⟨by rw [← HP.out]; exact congrArg (fun x => Ending.returned (.string x)) (ext_take l m), rfl⟩
end Go.Proofs.YtgdndahhledikaaGreatDoor
namespace Go.Proofs
open Go.Shelf
def Tryz.lays99_ren : Go.Shelf.Ren := ⟨fun | 99 => 40 | 206 => 57 | n => n, fun | 9 => 9 | 4 => 4 | 3 => 3 | n => n, fun | n => n⟩
theorem Tryz.lays99 : Go.Proofs.Lays.n99 Tryz.prog Tryz.lays99_ren := {
 mixed := by kernel_rfl
 f99 := Tryz.func40.trans (congrArg some (by kernel_rfl))
 f206 := Tryz.func57.trans (congrArg some (by kernel_rfl))
 t3 := Tryz.underlying3
 a3 := Tryz.isAgg3
 z3 := Tryz.sizeOf3
 v3 := Tryz.zeroValue3
 t4 := Tryz.underlying4
 a4 := Tryz.isAgg4
 z4 := Tryz.sizeOf4
 v4 := Tryz.zeroValue4
 t9 := Tryz.underlying9
 a9 := Tryz.isAgg9
 z9 := Tryz.sizeOf9
 v9 := Tryz.zeroValue9 }
open Go.RowKit Go.Lib in
theorem Tryz.strings_HasPrefix (s p : ByteArray) (w : World) :
  Calls Tryz.prog 40 #[.string s, .string p] w fun e w' => e = .returned (.bool (Lib.hasPrefix s.data.toList p.data.toList)) ∧ w' = w := Any.strings_HasPrefix Tryz.lays99 s p w
def Tryz.lays137_ren : Go.Shelf.Ren := ⟨fun | 137 => 58 | 217 => 92 | 266 => 129 | n => n, fun | 9 => 9 | 5 => 5 | 3 => 3 | n => n, fun | n => n⟩
theorem Tryz.lays137 : Go.Proofs.Lays.n137 Tryz.prog Tryz.lays137_ren := {
 mixed := by kernel_rfl
 f137 := Tryz.func58.trans (congrArg some (by kernel_rfl))
 f217 := Tryz.func92.trans (congrArg some (by kernel_rfl))
 f266 := Tryz.func129.trans (congrArg some (by kernel_rfl))
 t3 := Tryz.underlying3
 a3 := Tryz.isAgg3
 z3 := Tryz.sizeOf3
 v3 := Tryz.zeroValue3
 t5 := Tryz.underlying5
 a5 := Tryz.isAgg5
 z5 := Tryz.sizeOf5
 v5 := Tryz.zeroValue5
 t9 := Tryz.underlying9
 a9 := Tryz.isAgg9
 z9 := Tryz.sizeOf9
 v9 := Tryz.zeroValue9 }
open Go.RowKit in
theorem Tryz.strings_IndexByte (s : ByteArray) (c : Int) (w : World) :
  Calls Tryz.prog 58 #[.string s, .int .u8 c] w fun e w' => e = .returned (.int .i64 (Lib.indexByte s.data.toList c.toNat.toUInt8)) ∧ w' = w := Any.strings_IndexByte Tryz.lays137 s c w
def Tryz.lays143_ren : Go.Shelf.Ren := ⟨fun | 143 => 59 | 219 => 93 | 217 => 92 | 225 => 130 | 224 => 131 | 267 => 132 | 266 => 129 | 314 => 163 | n => n, fun | 9 => 9 | 3 => 3 | 4 => 4 | 5 => 5 | 46 => 98 | 146 => 130 | 51 => 129 | n => n, fun | 1 => 0 | n => n⟩
theorem Tryz.lays143 : Go.Proofs.Lays.n143 Tryz.prog Tryz.lays143_ren := {
 mixed := by kernel_rfl
 f143 := Tryz.func59.trans (congrArg some (by kernel_rfl))
 f217 := Tryz.func92.trans (congrArg some (by kernel_rfl))
 f219 := Tryz.func93.trans (congrArg some (by kernel_rfl))
 f224 := Tryz.func131.trans (congrArg some (by kernel_rfl))
 f225 := Tryz.func130.trans (congrArg some (by kernel_rfl))
 f266 := Tryz.func129.trans (congrArg some (by kernel_rfl))
 f267 := Tryz.func132.trans (congrArg some (by kernel_rfl))
 f314 := Tryz.func163.trans (congrArg some (by kernel_rfl))
 t3 := Tryz.underlying3
 a3 := Tryz.isAgg3
 z3 := Tryz.sizeOf3
 v3 := Tryz.zeroValue3
 t4 := Tryz.underlying4
 a4 := Tryz.isAgg4
 z4 := Tryz.sizeOf4
 v4 := Tryz.zeroValue4
 t5 := Tryz.underlying5
 a5 := Tryz.isAgg5
 z5 := Tryz.sizeOf5
 v5 := Tryz.zeroValue5
 t9 := Tryz.underlying9
 a9 := Tryz.isAgg9
 z9 := Tryz.sizeOf9
 v9 := Tryz.zeroValue9
 t46 := Tryz.underlying98
 a46 := Tryz.isAgg98
 z46 := Tryz.sizeOf98
 v46 := Tryz.zeroValue98
 t51 := Tryz.underlying129
 a51 := Tryz.isAgg129
 z51 := Tryz.sizeOf129
 v51 := Tryz.zeroValue129
 t146 := Tryz.underlying130
 a146 := Tryz.isAgg130
 z146 := Tryz.sizeOf130
 v146 := Tryz.zeroValue130
 g1 := by kernel_rfl }
open Go.RowKit Go.Lib in
theorem Tryz.strings_Index (s sub : ByteArray) (m : Int) (w : World) (hs : s.size < 4294967281) (hm : w.cell? ⟨0, 0, none⟩ = some (.int .i64 m)) :
  Calls Tryz.prog 59 #[.string s, .string sub] w fun e w' => e = .returned (.int .i64 (Lib.index s.data.toList sub.data.toList)) ∧ w' = w := Any.strings_Index Tryz.lays143 s sub m w hs hm
def Tryz.lays159_ren : Go.Shelf.Ren := ⟨fun | 159 => 96 | 165 => 133 | 166 => 134 | 167 => 135 | 169 => 136 | 230 => 137 | 204 => 138 | 240 => 164 | 241 => 165 | 197 => 166 | 118 => 167 | 168 => 168 | 270 => 169 | 262 => 170 | 276 => 183 | 277 => 184 | 260 => 185 | 242 => 186 | 313 => 187 | 278 => 197 | 274 => 198 | 275 => 199 | n => n, fun | 9 => 9 | 4 => 4 | 3 => 3 | 5 => 5 | 72 => 101 | 0 => 0 | 76 => 105 | 75 => 104 | 107 => 109 | 70 => 99 | 20 => 20 | 37 => 38 | 127 => 132 | 21 => 21 | 105 => 133 | 164 => 140 | 162 => 146 | 203 => 144 | 119 => 117 | 46 => 98 | 139 => 120 | 138 => 119 | 51 => 129 | 160 => 152 | 208 => 168 | 206 => 166 | 80 => 93 | n => n, fun | 13 => 4 | 3 => 2 | 4 => 3 | n => n⟩
theorem Tryz.lays159 : Go.Proofs.Lays.n159 Tryz.prog Tryz.lays159_ren := {
 mixed := by kernel_rfl
 f118 := Tryz.func167.trans (congrArg some (by kernel_rfl))
 f159 := Tryz.func96.trans (congrArg some (by kernel_rfl))
 f165 := Tryz.func133.trans (congrArg some (by kernel_rfl))
 f166 := Tryz.func134.trans (congrArg some (by kernel_rfl))
 f167 := Tryz.func135.trans (congrArg some (by kernel_rfl))
 f168 := Tryz.func168.trans (congrArg some (by kernel_rfl))
 f169 := Tryz.func136.trans (congrArg some (by kernel_rfl))
 f197 := Tryz.func166.trans (congrArg some (by kernel_rfl))
 f204 := Tryz.func138.trans (congrArg some (by kernel_rfl))
 f230 := Tryz.func137.trans (congrArg some (by kernel_rfl))
 f240 := Tryz.func164.trans (congrArg some (by kernel_rfl))
 f241 := Tryz.func165.trans (congrArg some (by kernel_rfl))
 f242 := Tryz.func186.trans (congrArg some (by kernel_rfl))
 f260 := Tryz.func185.trans (congrArg some (by kernel_rfl))
 f262 := Tryz.func170.trans (congrArg some (by kernel_rfl))
 f270 := Tryz.func169.trans (congrArg some (by kernel_rfl))
 f274 := Tryz.func198.trans (congrArg some (by kernel_rfl))
 f275 := Tryz.func199.trans (congrArg some (by kernel_rfl))
 f276 := Tryz.func183.trans (congrArg some (by kernel_rfl))
 f277 := Tryz.func184.trans (congrArg some (by kernel_rfl))
 f278 := Tryz.func197.trans (congrArg some (by kernel_rfl))
 f313 := Tryz.func187.trans (congrArg some (by kernel_rfl))
 t0 := Tryz.underlying0
 a0 := Tryz.isAgg0
 z0 := Tryz.sizeOf0
 v0 := Tryz.zeroValue0
 t3 := Tryz.underlying3
 a3 := Tryz.isAgg3
 z3 := Tryz.sizeOf3
 v3 := Tryz.zeroValue3
 t4 := Tryz.underlying4
 a4 := Tryz.isAgg4
 z4 := Tryz.sizeOf4
 v4 := Tryz.zeroValue4
 t5 := Tryz.underlying5
 a5 := Tryz.isAgg5
 z5 := Tryz.sizeOf5
 v5 := Tryz.zeroValue5
 t9 := Tryz.underlying9
 a9 := Tryz.isAgg9
 z9 := Tryz.sizeOf9
 v9 := Tryz.zeroValue9
 t20 := Tryz.underlying20
 a20 := Tryz.isAgg20
 z20 := Tryz.sizeOf20
 v20 := Tryz.zeroValue20
 t21 := Tryz.underlying21
 a21 := Tryz.isAgg21
 z21 := Tryz.sizeOf21
 v21 := Tryz.zeroValue21
 t37 := Tryz.underlying38
 a37 := Tryz.isAgg38
 z37 := Tryz.sizeOf38
 v37 := Tryz.zeroValue38
 t46 := Tryz.underlying98
 a46 := Tryz.isAgg98
 z46 := Tryz.sizeOf98
 v46 := Tryz.zeroValue98
 t51 := Tryz.underlying129
 a51 := Tryz.isAgg129
 z51 := Tryz.sizeOf129
 v51 := Tryz.zeroValue129
 t70 := Tryz.underlying99
 a70 := Tryz.isAgg99
 z70 := Tryz.sizeOf99
 v70 := Tryz.zeroValue99
 t72 := Tryz.underlying101
 a72 := Tryz.isAgg101
 z72 := Tryz.sizeOf101
 v72 := Tryz.zeroValue101
 t75 := Tryz.underlying104
 a75 := Tryz.isAgg104
 z75 := Tryz.sizeOf104
 v75 := Tryz.zeroValue104
 t76 := Tryz.underlying105
 a76 := Tryz.isAgg105
 z76 := Tryz.sizeOf105
 v76 := Tryz.zeroValue105
 t105 := Tryz.underlying133
 a105 := Tryz.isAgg133
 z105 := Tryz.sizeOf133
 v105 := Tryz.zeroValue133
 t107 := Tryz.underlying109
 a107 := Tryz.isAgg109
 z107 := Tryz.sizeOf109
 v107 := Tryz.zeroValue109
 t119 := Tryz.underlying117
 a119 := Tryz.isAgg117
 z119 := Tryz.sizeOf117
 t127 := Tryz.underlying132
 a127 := Tryz.isAgg132
 z127 := Tryz.sizeOf132
 v127 := Tryz.zeroValue132
 t138 := Tryz.underlying119
 a138 := Tryz.isAgg119
 z138 := Tryz.sizeOf119
 v138 := Tryz.zeroValue119
 t139 := Tryz.underlying120
 a139 := Tryz.isAgg120
 z139 := Tryz.sizeOf120
 v139 := Tryz.zeroValue120
 t160 := Tryz.underlying152
 a160 := Tryz.isAgg152
 z160 := Tryz.sizeOf152
 v160 := Tryz.zeroValue152
 t162 := Tryz.underlying146
 a162 := Tryz.isAgg146
 z162 := Tryz.sizeOf146
 v162 := Tryz.zeroValue146
 t164 := Tryz.underlying140
 a164 := Tryz.isAgg140
 z164 := Tryz.sizeOf140
 v164 := Tryz.zeroValue140
 t203 := Tryz.underlying144
 a203 := Tryz.isAgg144
 z203 := Tryz.sizeOf144
 v203 := Tryz.zeroValue144
 t206 := Tryz.underlying166
 a206 := Tryz.isAgg166
 z206 := Tryz.sizeOf166
 v206 := Tryz.zeroValue166
 t208 := Tryz.underlying168
 a208 := Tryz.isAgg168
 z208 := Tryz.sizeOf168
 v208 := Tryz.zeroValue168
 g3 := by kernel_rfl
 g4 := by kernel_rfl
 g13 := by kernel_rfl }
theorem Tryz.Builder_Extra_159 : Builder.Extra Tryz.prog Tryz.lays159_ren := {
 sizeBuilder := by kernel_rfl
 liesBuilder := by kernel_rfl
 t5 := Tryz.underlying5
 a5 := Tryz.isAgg5
 z5 := Tryz.sizeOf5
 v5 := Tryz.zeroValue5
 infoByte := by kernel_rfl
 cellsByte := by kernel_rfl
 sizeByte := by kernel_rfl
 neB5 := by decide }
open Go.RowKit in
theorem Tryz.strings_ToLower_ascii (s : ByteArray) (w : World) (hs : s.size ≤ 140737488355328) (hascii : ∀ (j : Nat) (b : UInt8), s.data.toList[j]? = some b → b.toNat < 128) :
  Calls Tryz.prog 96 #[.string s] w fun e w' => e = .returned (.string ⟨(Lib.toLowerA s.data.toList).toArray⟩) ∧ Below w.heap.size w w' := Any.strings_ToLower_ascii Tryz.lays159 Tryz.Builder_Extra_159 s w hs hascii
def Tryz.lays105_ren : Go.Shelf.Ren := ⟨fun | 105 => 171 | 212 => 188 | 99 => 40 | 165 => 133 | 166 => 134 | 170 => 189 | 169 => 136 | 263 => 200 | 264 => 201 | 206 => 57 | 240 => 164 | 241 => 165 | 276 => 183 | 277 => 184 | n => n, fun | 9 => 9 | 3 => 3 | 4 => 4 | 20 => 20 | 0 => 0 | 46 => 98 | 109 => 147 | 5 => 5 | 72 => 101 | 76 => 105 | 51 => 129 | 146 => 130 | 53 => 139 | 148 => 156 | 70 => 99 | 37 => 38 | 75 => 104 | 127 => 132 | 164 => 140 | 80 => 93 | n => n, fun | n => n⟩
theorem Tryz.lays105 : Go.Proofs.Lays.n105 Tryz.prog Tryz.lays105_ren := {
 mixed := by kernel_rfl
 f99 := Tryz.func40.trans (congrArg some (by kernel_rfl))
 f105 := Tryz.func171.trans (congrArg some (by kernel_rfl))
 f165 := Tryz.func133.trans (congrArg some (by kernel_rfl))
 f166 := Tryz.func134.trans (congrArg some (by kernel_rfl))
 f169 := Tryz.func136.trans (congrArg some (by kernel_rfl))
 f170 := Tryz.func189.trans (congrArg some (by kernel_rfl))
 f206 := Tryz.func57.trans (congrArg some (by kernel_rfl))
 f212 := Tryz.func188.trans (congrArg some (by kernel_rfl))
 f240 := Tryz.func164.trans (congrArg some (by kernel_rfl))
 f241 := Tryz.func165.trans (congrArg some (by kernel_rfl))
 f263 := Tryz.func200.trans (congrArg some (by kernel_rfl))
 f264 := Tryz.func201.trans (congrArg some (by kernel_rfl))
 f276 := Tryz.func183.trans (congrArg some (by kernel_rfl))
 f277 := Tryz.func184.trans (congrArg some (by kernel_rfl))
 t0 := Tryz.underlying0
 a0 := Tryz.isAgg0
 z0 := Tryz.sizeOf0
 v0 := Tryz.zeroValue0
 t3 := Tryz.underlying3
 a3 := Tryz.isAgg3
 z3 := Tryz.sizeOf3
 v3 := Tryz.zeroValue3
 t4 := Tryz.underlying4
 a4 := Tryz.isAgg4
 z4 := Tryz.sizeOf4
 v4 := Tryz.zeroValue4
 t5 := Tryz.underlying5
 a5 := Tryz.isAgg5
 z5 := Tryz.sizeOf5
 v5 := Tryz.zeroValue5
 t9 := Tryz.underlying9
 a9 := Tryz.isAgg9
 z9 := Tryz.sizeOf9
 v9 := Tryz.zeroValue9
 t20 := Tryz.underlying20
 a20 := Tryz.isAgg20
 z20 := Tryz.sizeOf20
 v20 := Tryz.zeroValue20
 t37 := Tryz.underlying38
 a37 := Tryz.isAgg38
 z37 := Tryz.sizeOf38
 v37 := Tryz.zeroValue38
 t46 := Tryz.underlying98
 a46 := Tryz.isAgg98
 z46 := Tryz.sizeOf98
 v46 := Tryz.zeroValue98
 t51 := Tryz.underlying129
 a51 := Tryz.isAgg129
 z51 := Tryz.sizeOf129
 v51 := Tryz.zeroValue129
 t53 := Tryz.underlying139
 a53 := Tryz.isAgg139
 z53 := Tryz.sizeOf139
 v53 := Tryz.zeroValue139
 t70 := Tryz.underlying99
 a70 := Tryz.isAgg99
 z70 := Tryz.sizeOf99
 v70 := Tryz.zeroValue99
 t72 := Tryz.underlying101
 a72 := Tryz.isAgg101
 z72 := Tryz.sizeOf101
 v72 := Tryz.zeroValue101
 t75 := Tryz.underlying104
 a75 := Tryz.isAgg104
 z75 := Tryz.sizeOf104
 v75 := Tryz.zeroValue104
 t76 := Tryz.underlying105
 a76 := Tryz.isAgg105
 z76 := Tryz.sizeOf105
 v76 := Tryz.zeroValue105
 t109 := Tryz.underlying147
 a109 := Tryz.isAgg147
 z109 := Tryz.sizeOf147
 v109 := Tryz.zeroValue147
 t127 := Tryz.underlying132
 a127 := Tryz.isAgg132
 z127 := Tryz.sizeOf132
 v127 := Tryz.zeroValue132
 t146 := Tryz.underlying130
 a146 := Tryz.isAgg130
 z146 := Tryz.sizeOf130
 v146 := Tryz.zeroValue130
 t148 := Tryz.underlying156
 a148 := Tryz.isAgg156
 z148 := Tryz.sizeOf156
 v148 := Tryz.zeroValue156
 t164 := Tryz.underlying140
 a164 := Tryz.isAgg140
 z164 := Tryz.sizeOf140
 v164 := Tryz.zeroValue140 }
theorem Tryz.Builder_Extra_105 : Builder.Extra Tryz.prog Tryz.lays105_ren := {
 sizeBuilder := by kernel_rfl
 liesBuilder := by kernel_rfl
 t5 := Tryz.underlying5
 a5 := Tryz.isAgg5
 z5 := Tryz.sizeOf5
 v5 := Tryz.zeroValue5
 infoByte := by kernel_rfl
 cellsByte := by kernel_rfl
 sizeByte := by kernel_rfl
 neB5 := by decide }
open Go.RowKit Go.Lib in
theorem Tryz.strings_Repeat (s : ByteArray) (c : Nat) (w : World) (hc : c ≤ 9223372036854775807) (hlen : s.size * c ≤ 140737488355328) :
  Calls Tryz.prog 171 #[.string s, .int .i64 c] w fun e w' => e = .returned (.string ⟨(Lib.repeatL s.data.toList c).toArray⟩) ∧ Below w.heap.size w w' := Any.strings_Repeat Tryz.lays105 Tryz.Builder_Extra_105 s c w hc hlen
end Go.Proofs
namespace Go.Proofs
open Go.Shelf
def Tryz.laysC172_ren : Go.Shelf.Ren := ⟨fun | 172 => 172 | 244 => 190 | 245 => 191 | 247 => 202 | 279 => 203 | 280 => 204 | 281 => 205 | 282 => 206 | 287 => 211 | 316 => 212 | 171 => 214 | 205 => 213 | 321 => 220 | 322 => 221 | 243 => 222 | 246 => 229 | 283 => 236 | 284 => 237 | 285 => 238 | 286 => 239 | 129 => 242 | 317 => 241 | 318 => 243 | 319 => 244 | 320 => 245 | 337 => 247 | 338 => 248 | n => n, fun | 9 => 9 | 3 => 3 | 75 => 104 | 76 => 105 | 4 => 4 | 5 => 5 | 167 => 158 | 37 => 38 | 0 => 0 | 85 => 159 | 2 => 2 | 168 => 161 | 53 => 139 | 175 => 169 | 46 => 98 | 210 => 172 | 127 => 132 | 145 => 180 | 143 => 178 | 21 => 21 | 171 => 186 | 173 => 189 | 212 => 192 | 51 => 129 | 20 => 20 | 213 => 193 | 232 => 196 | 233 => 197 | 80 => 93 | n => n, fun | 15 => 5 | 16 => 6 | 17 => 7 | 18 => 8 | 19 => 9 | n => n⟩
theorem Tryz.laysC172 : Go.Proofs.LaysC.n172 Tryz.prog Tryz.laysC172_ren := {
 mixed := by kernel_rfl
 f129 := Tryz.func242.trans (congrArg some (by kernel_rfl))
 f171 := Tryz.func214.trans (congrArg some (by kernel_rfl))
 f172 := Tryz.func172.trans (congrArg some (by kernel_rfl))
 f205 := Tryz.func213.trans (congrArg some (by kernel_rfl))
 f243 := Tryz.func222.trans (congrArg some (by kernel_rfl))
 f244 := Tryz.func190.trans (congrArg some (by kernel_rfl))
 f245 := Tryz.func191.trans (congrArg some (by kernel_rfl))
 f246 := Tryz.func229.trans (congrArg some (by kernel_rfl))
 f247 := Tryz.func202.trans (congrArg some (by kernel_rfl))
 f279 := Tryz.func203.trans (congrArg some (by kernel_rfl))
 f280 := Tryz.func204.trans (congrArg some (by kernel_rfl))
 f281 := Tryz.func205.trans (congrArg some (by kernel_rfl))
 f282 := Tryz.func206.trans (congrArg some (by kernel_rfl))
 f283 := Tryz.func236.trans (congrArg some (by kernel_rfl))
 f284 := Tryz.func237.trans (congrArg some (by kernel_rfl))
 f285 := Tryz.func238.trans (congrArg some (by kernel_rfl))
 f286 := Tryz.func239.trans (congrArg some (by kernel_rfl))
 f287 := Tryz.func211.trans (congrArg some (by kernel_rfl))
 f316 := Tryz.func212.trans (congrArg some (by kernel_rfl))
 f317 := Tryz.func241.trans (congrArg some (by kernel_rfl))
 f318 := Tryz.func243.trans (congrArg some (by kernel_rfl))
 f319 := Tryz.func244.trans (congrArg some (by kernel_rfl))
 f320 := Tryz.func245.trans (congrArg some (by kernel_rfl))
 f321 := Tryz.func220.trans (congrArg some (by kernel_rfl))
 f322 := Tryz.func221.trans (congrArg some (by kernel_rfl))
 f337 := Tryz.func247.trans (congrArg some (by kernel_rfl))
 f338 := Tryz.func248.trans (congrArg some (by kernel_rfl))
 t0 := Tryz.underlying0
 a0 := Tryz.isAgg0
 z0 := Tryz.sizeOf0
 v0 := Tryz.zeroValue0
 t2 := Tryz.underlying2
 a2 := Tryz.isAgg2
 z2 := Tryz.sizeOf2
 v2 := Tryz.zeroValue2
 t3 := Tryz.underlying3
 a3 := Tryz.isAgg3
 z3 := Tryz.sizeOf3
 v3 := Tryz.zeroValue3
 t4 := Tryz.underlying4
 a4 := Tryz.isAgg4
 z4 := Tryz.sizeOf4
 v4 := Tryz.zeroValue4
 t5 := Tryz.underlying5
 a5 := Tryz.isAgg5
 z5 := Tryz.sizeOf5
 v5 := Tryz.zeroValue5
 t9 := Tryz.underlying9
 a9 := Tryz.isAgg9
 z9 := Tryz.sizeOf9
 v9 := Tryz.zeroValue9
 t20 := Tryz.underlying20
 a20 := Tryz.isAgg20
 z20 := Tryz.sizeOf20
 v20 := Tryz.zeroValue20
 t21 := Tryz.underlying21
 a21 := Tryz.isAgg21
 z21 := Tryz.sizeOf21
 v21 := Tryz.zeroValue21
 t37 := Tryz.underlying38
 a37 := Tryz.isAgg38
 z37 := Tryz.sizeOf38
 v37 := Tryz.zeroValue38
 t46 := Tryz.underlying98
 a46 := Tryz.isAgg98
 z46 := Tryz.sizeOf98
 v46 := Tryz.zeroValue98
 t51 := Tryz.underlying129
 a51 := Tryz.isAgg129
 z51 := Tryz.sizeOf129
 v51 := Tryz.zeroValue129
 t53 := Tryz.underlying139
 a53 := Tryz.isAgg139
 z53 := Tryz.sizeOf139
 v53 := Tryz.zeroValue139
 t75 := Tryz.underlying104
 a75 := Tryz.isAgg104
 z75 := Tryz.sizeOf104
 v75 := Tryz.zeroValue104
 t76 := Tryz.underlying105
 a76 := Tryz.isAgg105
 z76 := Tryz.sizeOf105
 v76 := Tryz.zeroValue105
 t85 := Tryz.underlying159
 a85 := Tryz.isAgg159
 z85 := Tryz.sizeOf159
 v85 := Tryz.zeroValue159
 t127 := Tryz.underlying132
 a127 := Tryz.isAgg132
 z127 := Tryz.sizeOf132
 v127 := Tryz.zeroValue132
 t143 := Tryz.underlying178
 a143 := Tryz.isAgg178
 z143 := Tryz.sizeOf178
 v143 := Tryz.zeroValue178
 t145 := Tryz.underlying180
 a145 := Tryz.isAgg180
 z145 := Tryz.sizeOf180
 v145 := Tryz.zeroValue180
 t167 := Tryz.underlying158
 a167 := Tryz.isAgg158
 z167 := Tryz.sizeOf158
 v167 := Tryz.zeroValue158
 t168 := Tryz.underlying161
 a168 := Tryz.isAgg161
 z168 := Tryz.sizeOf161
 v168 := Tryz.zeroValue161
 t171 := Tryz.underlying186
 a171 := Tryz.isAgg186
 z171 := Tryz.sizeOf186
 v171 := Tryz.zeroValue186
 t173 := Tryz.underlying189
 a173 := Tryz.isAgg189
 z173 := Tryz.sizeOf189
 v173 := Tryz.zeroValue189
 t175 := Tryz.underlying169
 a175 := Tryz.isAgg169
 z175 := Tryz.sizeOf169
 v175 := Tryz.zeroValue169
 t210 := Tryz.underlying172
 a210 := Tryz.isAgg172
 z210 := Tryz.sizeOf172
 v210 := Tryz.zeroValue172
 t212 := Tryz.underlying192
 a212 := Tryz.isAgg192
 z212 := Tryz.sizeOf192
 v212 := Tryz.zeroValue192
 t213 := Tryz.underlying193
 a213 := Tryz.isAgg193
 z213 := Tryz.sizeOf193
 t232 := Tryz.underlying196
 a232 := Tryz.isAgg196
 z232 := Tryz.sizeOf196
 v232 := Tryz.zeroValue196
 t233 := Tryz.underlying197
 a233 := Tryz.isAgg197
 z233 := Tryz.sizeOf197
 v233 := Tryz.zeroValue197
 g15 := by kernel_rfl
 g16 := by kernel_rfl
 g17 := by kernel_rfl
 g18 := by kernel_rfl
 g19 := by kernel_rfl
 t80 := Tryz.underlying93
 a80 := Tryz.isAgg93
 z80 := Tryz.sizeOf93
 v80 := Tryz.zeroValue93
 i0 := by kernel_rfl
 i2 := by kernel_rfl
 i3 := by kernel_rfl
 i4 := by kernel_rfl
 i5 := by kernel_rfl
 i9 := by kernel_rfl
 i20 := by kernel_rfl
 i21 := by kernel_rfl
 i37 := by kernel_rfl
 i46 := by kernel_rfl
 i51 := by kernel_rfl
 i53 := by kernel_rfl
 i75 := by kernel_rfl
 i76 := by kernel_rfl
 i80 := by kernel_rfl
 i85 := by kernel_rfl
 i127 := by kernel_rfl
 i143 := by kernel_rfl
 i145 := by kernel_rfl
 i167 := by kernel_rfl
 i168 := by kernel_rfl
 i171 := by kernel_rfl
 i173 := by kernel_rfl
 i175 := by kernel_rfl
 i210 := by kernel_rfl
 i212 := by kernel_rfl
 i232 := by kernel_rfl
 i233 := by kernel_rfl
 m15 := by kernel_rfl
 m16 := by kernel_rfl
 m17 := by kernel_rfl
 m18 := by kernel_rfl
 m19 := by kernel_rfl
 c0 := by kernel_rfl
 c2 := by kernel_rfl
 c3 := by kernel_rfl
 c4 := by kernel_rfl
 c5 := by kernel_rfl
 c9 := by kernel_rfl
 c20 := by kernel_rfl
 c21 := by kernel_rfl
 c37 := by kernel_rfl
 c46 := by kernel_rfl
 c51 := by kernel_rfl
 c53 := by kernel_rfl
 c75 := by kernel_rfl
 c76 := by kernel_rfl
 c80 := by kernel_rfl
 c85 := by kernel_rfl
 c127 := by kernel_rfl
 c143 := by kernel_rfl
 c145 := by kernel_rfl
 c167 := by kernel_rfl
 c168 := by kernel_rfl
 c171 := by kernel_rfl
 c173 := by kernel_rfl
 c175 := by kernel_rfl
 c210 := by kernel_rfl
 c212 := by kernel_rfl
 c213 := by kernel_rfl
 c232 := by kernel_rfl
 c233 := by kernel_rfl }
open Go.RowKit in
theorem Tryz.strconv_Atoi_ok (s : ByteArray) (hmax : s.size ≤ 9223372036854775806) (v : Int) (h : Lib.atoiAll s.data.toList = .ok v) (w : World) :
  Calls Tryz.prog 172 #[.string s] w fun e w' => e = .returned (.tuple #[.int .i64 v, .nilIface]) ∧ (w' = w ∨ ∃ t, w' = Lib.bytesWorld w 5 t) := Any.strconv_Atoi_ok Tryz.laysC172 s hmax v h w
open Go.RowKit in
theorem Tryz.strconv_Atoi_syntax (s : ByteArray) (hlim : s.size ≤ 281474976710656) (h : Lib.atoiAll s.data.toList = .«syntax») (ev : Value) (w : World) (hv : w.cell? ⟨5, 0, none⟩ = some ev) (hev : ev = .nilIface ∨ ∃ te pe, ev = .iface te pe) :
  Calls Tryz.prog 172 #[.string s] w fun e w' => ∃ N, e = .returned (.tuple #[.int .i64 (0), .iface 161 (.pointer (some ⟨N, 0, none⟩))]) ∧ w.heap.size ≤ N ∧ w'.heap[N]? = some (.cells #[.string ⟨#[65, 116, 111, 105]⟩, .string s, ev] 172 (0, 0)) ∧ Below w.heap.size w w' := Any.strconv_Atoi_syntax Tryz.laysC172 s hlim h ev w hv hev
open Go.RowKit in
theorem Tryz.strconv_Atoi_range (s : ByteArray) (hlim : s.size ≤ 281474976710656) (h : Lib.atoiAll s.data.toList = .range) (ev : Value) (w : World) (hv : w.cell? ⟨6, 0, none⟩ = some ev) (hev : ev = .nilIface ∨ ∃ te pe, ev = .iface te pe) :
  Calls Tryz.prog 172 #[.string s] w fun e w' => ∃ N, e = .returned (.tuple #[.int .i64 (Lib.atoiSat s.data.toList), .iface 161 (.pointer (some ⟨N, 0, none⟩))]) ∧ w.heap.size ≤ N ∧ w'.heap[N]? = some (.cells #[.string ⟨#[65, 116, 111, 105]⟩, .string s, ev] 172 (0, 0)) ∧ Below w.heap.size w w' := Any.strconv_Atoi_range Tryz.laysC172 s hlim h ev w hv hev
end Go.Proofs
namespace Go.Proofs.YtgdndahhledikaaGreatDoor
open Go.ChangeShapes Go.WideShapes Go.ChangeAt Go.RowKit
structure Rdv (w : World) : Prop where
 words : ∀ i, i < 58 → w.cell? ⟨1, i, none⟩ = some (.string (bsA (wd i)))
 mx : ∃ m, w.cell? ⟨0, 0, none⟩ = some (.int .i64 m)
 utf : Lib.Utf8Tabs 2 3 w
 pow : Lib.TabIs Tryz.prog w "internal/strconv.uint64pow10" .u64 Lib.pow10Tab
 es : ∃ ev, w.cell? ⟨5, 0, none⟩ = some ev ∧ (ev = .nilIface ∨ ∃ te pe, ev = .iface te pe)
 er : ∃ ev, w.cell? ⟨6, 0, none⟩ = some ev ∧ (ev = .nilIface ∨ ∃ te pe, ev = .iface te pe)
theorem Rdv.below {w w' : World} (h : Rdv w) (hb : Below w.heap.size w w') : Rdv w' where
 words := fun i hi => cell_below hb (h.words i hi)
 mx := by obtain ⟨m, hm⟩ := h.mx; exact ⟨m, cell_below hb hm⟩
 utf := ⟨fun c hc => cell_below hb (h.utf.1 c hc), fun i hi => ⟨cell_below hb (h.utf.2 i hi).1, cell_below hb (h.utf.2 i hi).2⟩⟩
 pow := Lib.tabBelow_of_tabIs h.pow _ hb
 es := by obtain ⟨m, hm, h2⟩ := h.es; exact ⟨m, cell_below hb hm, h2⟩
 er := by obtain ⟨m, hm, h2⟩ := h.er; exact ⟨m, cell_below hb hm, h2⟩
theorem Rdv.alloc {w : World} (h : Rdv w) (o : Obj) : Rdv (w.alloc o) := h.below ((Below.refl _ _).alloc (Nat.le_refl _) o)
end Go.Proofs.YtgdndahhledikaaGreatDoor
