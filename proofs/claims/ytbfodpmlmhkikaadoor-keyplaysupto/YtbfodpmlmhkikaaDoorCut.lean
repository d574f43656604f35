/- What is cut off bytes (cutNumber, cutText, cutValue). -/
import Derived.Test.YtbfodpmlmhkikaaDoorEnc2
import Derived.Lib.EndianBits
namespace Go.Proofs.YtbfodpmlmhkikaaDoor
open Go.ChangeShapes Go.WideShapes Go.ChangeAt Go.RowKit

/-- The number that bytes say, the lowest first. -/
def leN : List UInt8 → Nat
  | [] => 0
  | b :: l => b.toNat + 256 * leN l
theorem leN_lt (l : List UInt8) : leN l < 256 ^ l.length := by
  induction l with
  | nil => simp [leN]
  | cons b l ih =>
    have hb : b.toNat < 256 := b.toNat_lt
    simp only [leN, List.length_cons, Nat.pow_succ]
    omega
theorem leN_snoc (l : List UInt8) (b : UInt8) : leN (l ++ [b]) = leN l + b.toNat * 256 ^ l.length := by
  induction l with
  | nil => simp [leN]
  | cons c l ih =>
    simp only [List.cons_append, leN, ih, List.length_cons, Nat.pow_succ, Nat.mul_add]
    have : 256 * (b.toNat * 256 ^ l.length) = b.toNat * (256 ^ l.length * 256) := by
      rw [Nat.mul_comm 256, Nat.mul_assoc]
    omega
theorem pow_256 (m : Nat) : 256 ^ m = 2 ^ (8 * m) := by rw [show (256 : Nat) = 2 ^ 8 from rfl, ← Nat.pow_mul]
theorem leN_take (s : ByteArray) (m : Nat) (hm : m < s.size) : leN (s.data.toList.take (m + 1)) = leN (s.data.toList.take m) + (s[m]'hm).toNat * 2 ^ (8 * m) := by
  have hl : m < s.data.toList.length := by simpa using hm
  rw [List.take_succ_eq_append_getElem hl, leN_snoc, List.length_take, Nat.min_eq_left (by omega), pow_256]
  rfl
theorem or_step (s : ByteArray) (m : Nat) (hm : m < s.size) (h8 : m < 8) : bits .or .u64 (leN (s.data.toList.take m) : Int) (IntKind.u64.wrap (IntKind.u64.wrap ((s[m]'hm).toNat : Int) * 2 ^ (8 * m))) = (leN (s.data.toList.take (m + 1)) : Int) := by
  have hb : (s[m]'hm).toNat < 256 := UInt8.toNat_lt _
  have hA := leN_lt (s.data.toList.take m)
  rw [List.length_take, Nat.min_eq_left (by simpa using Nat.le_of_lt hm), pow_256] at hA
  rw [leN_take s m hm]
  generalize leN (s.data.toList.take m) = A at hA ⊢
  generalize (s[m]'hm).toNat = b at hb ⊢
  have h1 : IntKind.u64.wrap (b : Int) = b := u64_wrap_id _ (by omega) (by omega)
  rw [h1]
  have h2 : ((b : Int) * 2 ^ (8 * m)) = ((b * 2 ^ (8 * m) : Nat) : Int) := by simp
  have h3 : b * 2 ^ (8 * m) < 2 ^ 64 := by
    have : 2 ^ (8 * m) * 256 ≤ 2 ^ 64 := by
      rw [show (256 : Nat) = 2 ^ 8 from rfl, ← Nat.pow_add]
      exact Nat.pow_le_pow_right (by omega) (by omega)
    have h4 : 0 < 2 ^ (8 * m) := Nat.pow_pos (by omega)
    calc b * 2 ^ (8 * m) < 256 * 2 ^ (8 * m) := Nat.mul_lt_mul_of_pos_right hb h4
      _ = 2 ^ (8 * m) * 256 := Nat.mul_comm _ _
      _ ≤ 2 ^ 64 := this
  have h5 : A < 2 ^ 64 := Nat.lt_of_lt_of_le hA (Nat.pow_le_pow_right (by omega) (by omega))
  rw [h2, wraps_u64 _ (Int.natCast_nonneg _) (by exact_mod_cast h3)]
  rw [bits_join_low .u64 64 (by decide) wraps_u64 (8 * m) (A : Int) ((b * 2 ^ (8 * m) : Nat) : Int) (Int.natCast_nonneg _) (by exact_mod_cast hA) (by exact_mod_cast h5) (Int.natCast_nonneg _) (by exact_mod_cast Nat.mul_mod_left _ _) (by exact_mod_cast h3)]
  simp
theorem ext_drop (s : ByteArray) (z : Nat) : s.extract z s.size = bsA (s.data.toList.drop z) := by
  apply ba_ext
  simp only [bsA, ByteArray.data_extract, Array.toList_extract]
  have h : s.size = s.data.toList.length := by simp
  rw [h, List.extract_eq_take_drop]
  rw [List.take_of_length_le (by simp)]
def i64 (x : Nat) : Int := IntKind.i64.wrap (x : Int)
set_option maxRecDepth 20000 in
set_option maxHeartbeats 4000000 in
theorem cutNumber_no (s : ByteArray) (z : Nat) (w : World) (_hz : z ≤ 8) (hs : s.size < z) :
    Calls Tryd.prog 45 #[.string s, .int .i64 z] w fun e w' => e = .returned (.tuple #[.int .i64 0, .string ⟨#[]⟩, .bool false]) ∧ Below w.heap.size w w' := by
  go_enter Tryd.func45, Tryd.ntmps45
  go_wp2
  refine bodyPost_ret (v := .tuple #[.int .i64 0, .string ⟨#[]⟩, .bool false]) (by simp [results, Tryd.results45, go_sem]) rfl ⟨rfl, (Bel.out (by repeat (first | exact Bel.refl _ | assumption | refine Bel.drew ?_ | refine Bel.drewN ?_ _ | refine Bel.alloc ?_ _ | refine Bel.setCell ?_ (by simp <;> omega) _ | refine Bel.step ?_ (by assumption))))⟩
set_option maxRecDepth 20000 in
set_option maxHeartbeats 4000000 in
theorem cutNumber_yes (s : ByteArray) (z : Nat) (w : World) (hz : z ≤ 8) (hs : z ≤ s.size) (hmx : s.size ≤ 9223372036854775807) :
    Calls Tryd.prog 45 #[.string s, .int .i64 z] w fun e w' => e = .returned (.tuple #[.int .i64 (i64 (leN (s.data.toList.take z))), .string (bsA (s.data.toList.drop z)), .bool true]) ∧ Below w.heap.size w w' := by
  have e1 : (s.size < z) = False := eq_false (by omega)
  have HX : Hid (s.extract z s.size = bsA (s.data.toList.drop z)) := ext_drop s z
  go_enter Tryd.func45, Tryd.ntmps45
  go_wp2
  go_loopw [7, 14] (fun b i wr => ∃ (m : Nat), m ≤ z ∧ b = .int .u64 (leN (s.data.toList.take m)) ∧ i = .int .i64 m ∧ Bel w.heap.size w wr) (fun _ i _ => z - (intOf i).toNat)
  case atStart => exact ⟨0, Nat.zero_le _, rfl, rfl, Bel.refl _⟩
  case round =>
    obtain ⟨m, hm, rfl, rfl, HB⟩ := hrel
    rcases Nat.lt_or_ge m z with hlt | hge
    · have hms : m < s.size := by omega
      have hos := or_step s m hms (by omega)
      go_wp2
      go_roundw
      case rel => exact ⟨m + 1, by omega, rfl, by go_num, (by repeat (first | exact Bel.refl _ | assumption | refine Bel.drew ?_ | refine Bel.drewN ?_ _ | refine Bel.alloc ?_ _ | refine Bel.setCell ?_ (by simp <;> omega) _ | refine Bel.step ?_ (by assumption)))⟩
      case measure => simp [intOf]; omega
    · obtain rfl : m = z := by omega
      generalize hx : leN (s.data.toList.take m) = X
      have HXX : Hid _ := hx
      clear hx
      go_wp2
      refine wp_region_held_drew (S := (fun wS => Bel wr.heap.size wr wS)) (by kernel_rfl) ?_ (fun hHeld => ?_)
      · (try dsimp only); exact (Bel.refl _).drew
      refine wpAnyH_take (i := 0) (oi := { dst := some 27, op := Op.move (Operand.tmp 7), type := 64, pos := "key.go:103", after := #[], guard := none }) (v := ?_) rfl (by kernel_rfl) (by kernel_rfl) (by kernel_rfl) (fun _ _ _ h => h) (Or.inl ⟨by kernel_rfl, ?_⟩) (by assumption) ?_
      rotate_left
      · intro wS hSw; (try dsimp only at hSw); go_simp; (try with_reducible rfl)
      try simp only [Act.put, List.setIfInBounds_toArray, List.set_cons_zero, List.set_cons_succ]
      refine wpAnyH_take (i := 1) (oi := { dst := some 28, op := Op.convert 64 3 (Operand.tmp 27), type := 3, pos := "key.go:103", after := #[{ on := 0, ground := Ground.data }], guard := none }) (v := ?_) rfl (by kernel_rfl) (by kernel_rfl) (by kernel_rfl) (fun _ _ _ h => h) (Or.inl ⟨by kernel_rfl, ?_⟩) (by assumption) ?_
      rotate_left
      · intro wS hSw; (try dsimp only at hSw); go_simp; (try with_reducible rfl)
      try simp only [Act.put, List.setIfInBounds_toArray, List.set_cons_zero, List.set_cons_succ]
      refine wpAnyH_take (i := 2) (oi := { dst := some 29, op := Op.move (Operand.tmp 0), type := 9, pos := "key.go:103", after := #[], guard := none }) (v := ?_) rfl (by kernel_rfl) (by kernel_rfl) (by kernel_rfl) (fun _ _ _ h => h) (Or.inl ⟨by kernel_rfl, ?_⟩) (by assumption) ?_
      rotate_left
      · intro wS hSw; (try dsimp only at hSw); go_simp; (try with_reducible rfl)
      try simp only [Act.put, List.setIfInBounds_toArray, List.set_cons_zero, List.set_cons_succ]
      refine wpAnyH_take (i := 3) (oi := { dst := some 30, op := Op.move (Operand.tmp 1), type := 3, pos := "key.go:103", after := #[], guard := none }) (v := ?_) rfl (by kernel_rfl) (by kernel_rfl) (by kernel_rfl) (fun _ _ _ h => h) (Or.inl ⟨by kernel_rfl, ?_⟩) (by assumption) ?_
      rotate_left
      · intro wS hSw; (try dsimp only at hSw); go_simp; (try with_reducible rfl)
      try simp only [Act.put, List.setIfInBounds_toArray, List.set_cons_zero, List.set_cons_succ]
      refine wpAnyH_take (i := 4) (oi := { dst := some 31, op := Op.slice 9 (Operand.tmp 29) (some (Operand.tmp 30)) none none, type := 9, pos := "key.go:103", after := #[{ on := 2, ground := Ground.data }, { on := 3, ground := Ground.data }], guard := none }) (v := ?_) rfl (by kernel_rfl) (by kernel_rfl) (by kernel_rfl) (fun _ _ _ h => h) (Or.inl ⟨by kernel_rfl, ?_⟩) (by assumption) ?_
      rotate_left
      · intro wS hSw; (try dsimp only at hSw); go_simp; (try with_reducible rfl)
      try simp only [Act.put, List.setIfInBounds_toArray, List.set_cons_zero, List.set_cons_succ]
      refine wpAnyH_take (i := 5) (oi := { dst := some 4, op := Op.assign (Operand.tmp 28), type := 3, pos := "key.go:103", after := #[{ on := 1, ground := Ground.data }, { on := 0, ground := Ground.phase }, { on := 1, ground := Ground.phase }, { on := 2, ground := Ground.textOnly Departure.lateStores }, { on := 3, ground := Ground.textOnly Departure.lateStores }, { on := 4, ground := Ground.textOnly Departure.lateStoresUnsure }], guard := none }) (v := ?_) rfl (by kernel_rfl) (by kernel_rfl) (by kernel_rfl) (fun _ _ _ h => h) (Or.inl ⟨by kernel_rfl, ?_⟩) (by assumption) ?_
      rotate_left
      · intro wS hSw; (try dsimp only at hSw); go_simp; (try with_reducible rfl)
      try simp only [Act.put, List.setIfInBounds_toArray, List.set_cons_zero, List.set_cons_succ]
      refine wpAnyH_take (i := 6) (oi := { dst := some 5, op := Op.assign (Operand.tmp 31), type := 9, pos := "key.go:103", after := #[{ on := 4, ground := Ground.data }, { on := 5, ground := Ground.chain }, { on := 0, ground := Ground.phase }, { on := 1, ground := Ground.phase }, { on := 2, ground := Ground.phase }, { on := 3, ground := Ground.phase }, { on := 4, ground := Ground.phase }, { on := 5, ground := Ground.phase }], guard := none }) (v := ?_) rfl (by kernel_rfl) (by kernel_rfl) (by kernel_rfl) (fun _ _ _ h => h) (Or.inl ⟨by kernel_rfl, ?_⟩) (by assumption) ?_
      rotate_left
      · intro wS hSw; (try dsimp only at hSw); go_simp; (try with_reducible rfl)
      try simp only [Act.put, List.setIfInBounds_toArray, List.set_cons_zero, List.set_cons_succ]
      refine wpAnyH_take (i := 7) (oi := { dst := some 6, op := Op.assign (Operand.const (Value.bool true)), type := 4, pos := "key.go:103", after := #[{ on := 6, ground := Ground.chain }, { on := 0, ground := Ground.phase }, { on := 1, ground := Ground.phase }, { on := 2, ground := Ground.phase }, { on := 3, ground := Ground.phase }, { on := 4, ground := Ground.phase }, { on := 5, ground := Ground.phase }, { on := 6, ground := Ground.phase }], guard := none }) (v := ?_) rfl (by kernel_rfl) (by kernel_rfl) (by kernel_rfl) (fun _ _ _ h => h) (Or.inl ⟨by kernel_rfl, ?_⟩) (by assumption) ?_
      rotate_left
      · intro wS hSw; (try dsimp only at hSw); go_simp; (try with_reducible rfl)
      try simp only [Act.put, List.setIfInBounds_toArray, List.set_cons_zero, List.set_cons_succ]
      refine wpAnyH_done (by kernel_rfl) ?_ _
      go_wp2
      refine bodyPost_ret (v := .tuple #[.int .i64 (IntKind.i64.wrap (X : Int)), .string (s.extract m s.size), .bool true]) (by simp [results, Tryd.results45, go_sem]) rfl ⟨by rw [HX.out, HXX.out]; rfl, (Bel.out (by repeat (first | exact Bel.refl _ | assumption | refine Bel.drew ?_ | refine Bel.drewN ?_ _ | refine Bel.alloc ?_ _ | refine Bel.setCell ?_ (by simp <;> omega) _ | refine Bel.step ?_ (by assumption))))⟩
theorem ext_take (s : ByteArray) (z : Nat) : s.extract 0 z = bsA (s.data.toList.take z) := by
  apply ba_ext
  simp [bsA, ByteArray.data_extract, Array.toList_extract, List.extract_eq_take_drop]
theorem i64_small {x : Nat} (h : x < 9223372036854775808) : i64 x = x := by
  unfold i64; simp [IntKind.wrap, IntKind.bits, IntKind.signed]; omega
theorem bsA_list (l : List UInt8) : (bsA l).data.toList = l := by simp [bsA]
theorem bsA_size (l : List UInt8) : (bsA l).size = l.length := by simp [bsA, ByteArray.size]
theorem leN2 (l : List UInt8) : leN (l.take 2) < 65536 := by
  have h := leN_lt (l.take 2)
  have h2 : (l.take 2).length ≤ 2 := by rw [List.length_take]; exact Nat.min_le_left _ _
  exact Nat.lt_of_lt_of_le h (by have := Nat.pow_le_pow_right (n := 256) (by omega) h2; simpa using this)
set_option maxRecDepth 20000 in
set_option maxHeartbeats 4000000 in
theorem cutText_no1 (s : ByteArray) (w : World) (hs : s.size < 2) :
    Calls Tryd.prog 46 #[.string s] w fun e w' => e = .returned (.tuple #[.string ⟨#[]⟩, .string ⟨#[]⟩, .bool false]) ∧ Below w.heap.size w w' := by
  have hc := cutNumber_no s 2 w (by omega) hs
  go_enter Tryd.func46, Tryd.ntmps46
  go_wp2_with (go_at_call 45; refine hc.mono ?_; rintro e w1 ⟨rfl, hb⟩)
  refine bodyPost_ret (v := .tuple #[.string ⟨#[]⟩, .string ⟨#[]⟩, .bool false]) (by simp [results, Tryd.results46, go_sem]) rfl ⟨rfl, hb⟩
set_option maxRecDepth 20000 in
set_option maxHeartbeats 4000000 in
theorem cutText_no2 (s : ByteArray) (w : World) (hs : 2 ≤ s.size) (hmx : s.size ≤ 9223372036854775807) (hn : (s.data.toList.drop 2).length < leN (s.data.toList.take 2)) :
    Calls Tryd.prog 46 #[.string s] w fun e w' => e = .returned (.tuple #[.string ⟨#[]⟩, .string ⟨#[]⟩, .bool false]) ∧ Below w.heap.size w w' := by
  have hc := cutNumber_yes s 2 w (by omega) hs hmx
  have hl := leN2 s.data.toList
  rw [i64_small (by omega)] at hc
  generalize leN (s.data.toList.take 2) = X at hc hn hl
  have hz := bsA_size (s.data.toList.drop 2)
  generalize bsA (s.data.toList.drop 2) = r at hc hz
  rw [← hz] at hn
  clear hz
  go_enter Tryd.func46, Tryd.ntmps46
  go_wp2_with (go_at_call 45; refine hc.mono ?_; rintro e w1 ⟨rfl, hb⟩)
  refine bodyPost_ret (v := .tuple #[.string ⟨#[]⟩, .string ⟨#[]⟩, .bool false]) (by simp [results, Tryd.results46, go_sem]) rfl ⟨rfl, hb⟩
set_option maxRecDepth 20000 in
set_option maxHeartbeats 4000000 in
theorem cutText_yes (s : ByteArray) (w : World) (hs : 2 ≤ s.size) (hmx : s.size ≤ 9223372036854775807) (hn : leN (s.data.toList.take 2) ≤ (s.data.toList.drop 2).length) :
    Calls Tryd.prog 46 #[.string s] w fun e w' => e = .returned (.tuple #[.string (bsA ((s.data.toList.drop 2).take (leN (s.data.toList.take 2)))), .string (bsA ((s.data.toList.drop 2).drop (leN (s.data.toList.take 2)))), .bool true]) ∧ Below w.heap.size w w' := by
  have hc := cutNumber_yes s 2 w (by omega) hs hmx
  have hl := leN2 s.data.toList
  rw [i64_small (by omega)] at hc
  generalize leN (s.data.toList.take 2) = X at hc hn hl ⊢
  have hz := bsA_size (s.data.toList.drop 2)
  have h1 := ext_take (bsA (s.data.toList.drop 2)) X
  have h2 := ext_drop (bsA (s.data.toList.drop 2)) X
  rw [bsA_list] at h1 h2
  rw [← h1, ← h2]
  clear h1 h2
  generalize bsA (s.data.toList.drop 2) = r at hc hz ⊢
  rw [← hz] at hn
  clear hz
  have e1 : (r.size < X) = False := eq_false (by omega)
  have e2 : ((r.size : Int) < X) = False := eq_false (by omega)
  go_enter Tryd.func46, Tryd.ntmps46
  go_wp2_with (go_at_call 45; refine hc.mono ?_; rintro e w1 ⟨rfl, hb⟩)
  refine wp_region_held_drew (S := (fun wS => Bel w1.heap.size w1 wS)) (by kernel_rfl) ?_ (fun hHeld => ?_)
  · (try dsimp only); exact (Bel.refl _).drew
  refine wpAnyH_take (i := 0) (oi := { dst := some 20, op := Op.move (Operand.tmp 3), type := 9, pos := "key.go:111", after := #[], guard := none }) (v := ?_) rfl (by kernel_rfl) (by kernel_rfl) (by kernel_rfl) (fun _ _ _ h => h) (Or.inl ⟨by kernel_rfl, ?_⟩) (by assumption) ?_
  rotate_left
  · intro wS hSw; (try dsimp only at hSw); go_simp; (try with_reducible rfl)
  try simp only [Act.put, List.setIfInBounds_toArray, List.set_cons_zero, List.set_cons_succ]
  refine wpAnyH_take (i := 1) (oi := { dst := some 21, op := Op.move (Operand.tmp 5), type := 3, pos := "key.go:111", after := #[], guard := none }) (v := ?_) rfl (by kernel_rfl) (by kernel_rfl) (by kernel_rfl) (fun _ _ _ h => h) (Or.inl ⟨by kernel_rfl, ?_⟩) (by assumption) ?_
  rotate_left
  · intro wS hSw; (try dsimp only at hSw); go_simp; (try with_reducible rfl)
  try simp only [Act.put, List.setIfInBounds_toArray, List.set_cons_zero, List.set_cons_succ]
  refine wpAnyH_take (i := 2) (oi := { dst := some 22, op := Op.slice 9 (Operand.tmp 20) none (some (Operand.tmp 21)) none, type := 9, pos := "key.go:111", after := #[{ on := 0, ground := Ground.data }, { on := 1, ground := Ground.data }], guard := none }) (v := ?_) rfl (by kernel_rfl) (by kernel_rfl) (by kernel_rfl) (fun _ _ _ h => h) (Or.inl ⟨by kernel_rfl, ?_⟩) (by assumption) ?_
  rotate_left
  · intro wS hSw; (try dsimp only at hSw); go_simp; (try with_reducible rfl)
  try simp only [Act.put, List.setIfInBounds_toArray, List.set_cons_zero, List.set_cons_succ]
  refine wpAnyH_take (i := 3) (oi := { dst := some 23, op := Op.move (Operand.tmp 3), type := 9, pos := "key.go:111", after := #[], guard := none }) (v := ?_) rfl (by kernel_rfl) (by kernel_rfl) (by kernel_rfl) (fun _ _ _ h => h) (Or.inl ⟨by kernel_rfl, ?_⟩) (by assumption) ?_
  rotate_left
  · intro wS hSw; (try dsimp only at hSw); go_simp; (try with_reducible rfl)
  try simp only [Act.put, List.setIfInBounds_toArray, List.set_cons_zero, List.set_cons_succ]
  refine wpAnyH_take (i := 4) (oi := { dst := some 24, op := Op.move (Operand.tmp 5), type := 3, pos := "key.go:111", after := #[], guard := none }) (v := ?_) rfl (by kernel_rfl) (by kernel_rfl) (by kernel_rfl) (fun _ _ _ h => h) (Or.inl ⟨by kernel_rfl, ?_⟩) (by assumption) ?_
  rotate_left
  · intro wS hSw; (try dsimp only at hSw); go_simp; (try with_reducible rfl)
  try simp only [Act.put, List.setIfInBounds_toArray, List.set_cons_zero, List.set_cons_succ]
  refine wpAnyH_take (i := 5) (oi := { dst := some 25, op := Op.slice 9 (Operand.tmp 23) (some (Operand.tmp 24)) none none, type := 9, pos := "key.go:111", after := #[{ on := 3, ground := Ground.data }, { on := 4, ground := Ground.data }], guard := none }) (v := ?_) rfl (by kernel_rfl) (by kernel_rfl) (by kernel_rfl) (fun _ _ _ h => h) (Or.inl ⟨by kernel_rfl, ?_⟩) (by assumption) ?_
  rotate_left
  · intro wS hSw; (try dsimp only at hSw); go_simp; (try with_reducible rfl)
  try simp only [Act.put, List.setIfInBounds_toArray, List.set_cons_zero, List.set_cons_succ]
  refine wpAnyH_take (i := 6) (oi := { dst := some 2, op := Op.assign (Operand.tmp 22), type := 9, pos := "key.go:111", after := #[{ on := 2, ground := Ground.data }, { on := 0, ground := Ground.phase }, { on := 1, ground := Ground.phase }, { on := 2, ground := Ground.phase }, { on := 3, ground := Ground.textOnly Departure.lateStores }, { on := 4, ground := Ground.textOnly Departure.lateStores }, { on := 5, ground := Ground.textOnly Departure.lateStoresUnsure }], guard := none }) (v := ?_) rfl (by kernel_rfl) (by kernel_rfl) (by kernel_rfl) (fun _ _ _ h => h) (Or.inl ⟨by kernel_rfl, ?_⟩) (by assumption) ?_
  rotate_left
  · intro wS hSw; (try dsimp only at hSw); go_simp; (try with_reducible rfl)
  try simp only [Act.put, List.setIfInBounds_toArray, List.set_cons_zero, List.set_cons_succ]
  refine wpAnyH_take (i := 7) (oi := { dst := some 3, op := Op.assign (Operand.tmp 25), type := 9, pos := "key.go:111", after := #[{ on := 5, ground := Ground.data }, { on := 6, ground := Ground.chain }, { on := 0, ground := Ground.phase }, { on := 1, ground := Ground.phase }, { on := 2, ground := Ground.phase }, { on := 3, ground := Ground.phase }, { on := 4, ground := Ground.phase }, { on := 5, ground := Ground.phase }, { on := 6, ground := Ground.phase }], guard := none }) (v := ?_) rfl (by kernel_rfl) (by kernel_rfl) (by kernel_rfl) (fun _ _ _ h => h) (Or.inl ⟨by kernel_rfl, ?_⟩) (by assumption) ?_
  rotate_left
  · intro wS hSw; (try dsimp only at hSw); go_simp; (try with_reducible rfl)
  try simp only [Act.put, List.setIfInBounds_toArray, List.set_cons_zero, List.set_cons_succ]
  refine wpAnyH_take (i := 8) (oi := { dst := some 4, op := Op.assign (Operand.const (Value.bool true)), type := 4, pos := "key.go:111", after := #[{ on := 7, ground := Ground.chain }, { on := 0, ground := Ground.phase }, { on := 1, ground := Ground.phase }, { on := 2, ground := Ground.phase }, { on := 3, ground := Ground.phase }, { on := 4, ground := Ground.phase }, { on := 5, ground := Ground.phase }, { on := 6, ground := Ground.phase }, { on := 7, ground := Ground.phase }], guard := none }) (v := ?_) rfl (by kernel_rfl) (by kernel_rfl) (by kernel_rfl) (fun _ _ _ h => h) (Or.inl ⟨by kernel_rfl, ?_⟩) (by assumption) ?_
  rotate_left
  · intro wS hSw; (try dsimp only at hSw); go_simp; (try with_reducible rfl)
  try simp only [Act.put, List.setIfInBounds_toArray, List.set_cons_zero, List.set_cons_succ]
  refine wpAnyH_done (by kernel_rfl) ?_ _
  go_wp2
  refine bodyPost_ret (v := .tuple #[.string (r.extract 0 X), .string (r.extract X r.size), .bool true]) (by simp [results, Tryd.results46, go_sem]) rfl ⟨rfl, (Bel.out (by repeat (first | exact Bel.refl _ | assumption | refine Bel.drew ?_ | refine Bel.drewN ?_ _ | refine Bel.alloc ?_ _ | refine Bel.setCell ?_ (by simp <;> omega) _ | refine Bel.step ?_ (by assumption))))⟩
end Go.Proofs.YtbfodpmlmhkikaaDoor
