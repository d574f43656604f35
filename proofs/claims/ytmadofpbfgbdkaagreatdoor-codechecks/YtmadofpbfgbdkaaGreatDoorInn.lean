/- Is a text one of a list (the document's side). -/
import Derived.Test.YtmadofpbfgbdkaaGreatDoorEff
namespace Go.Proofs.YtmadofpbfgbdkaaGreatDoor
open Go.ChangeShapes Go.WideShapes Go.ChangeAt Go.RowKit
set_option linter.unusedSimpArgs false
set_option maxRecDepth 20000
set_option maxHeartbeats 4000000

/-- A list of texts lies at a slice's place. -/
def StrsAt (w : World) (oa : Option Addr) (L : List ByteArray) : Prop := L = [] ∨ ∃ b off, oa = some ⟨b, off, none⟩ ∧ ∀ i t, L[i]? = some t → w.cell? ⟨b, off + i, none⟩ = some (.string t)
theorem in_any (s : ByteArray) (L : List ByteArray) (oa : Option Addr) (n ocap : Nat) (hn : L.length = n) (hbig : n ≤ 4096) (w : World) (hr : StrsAt w oa L) :
    Calls Tryz.prog 28 #[.string s, .slice oa n ocap] w fun e w' => e = .returned (.bool ((L.map (·.toList)).contains s.toList)) ∧ w' = w := by
  have HP : Hid (∀ v, v = (L.map (·.toList)).contains s.toList → Ending.returned (.bool v) = Ending.returned (.bool ((L.map (·.toList)).contains s.toList))) := fun v h => by rw [h]
  have HR : Hid (StrsAt w oa L) := hr
  have HN : Hid (L.length = n) := hn
  clear hr hn
  go_enter Tryz.func28, Tryz.ntmps28
  go_wp2
  go_loopw [5] (fun x wr => ∃ j : Nat, j ≤ n ∧ x = .int .i64 j ∧ (∀ t ∈ L.take j, t.toList ≠ s.toList) ∧ wr = w) (fun x _ => n - (intOf x).toNat)
  case atStart => exact ⟨0, Nat.zero_le _, rfl, by simp, rfl⟩
  case round =>
    obtain ⟨j, hj, rfl, hO, rfl⟩ := hrel
    have HO : Hid (∀ t ∈ L.take j, t.toList ≠ s.toList) := hO
    clear hO
    rcases Nat.lt_or_ge j n with hlt | hge
    · have hjl : j < L.length := by rw [HN.out]; exact hlt
      obtain ⟨t, ht⟩ : ∃ t, L[j]? = some t := ⟨_, List.getElem?_eq_getElem hjl⟩
      have HT : Hid (L[j]? = some t) := ht
      rcases HR.out with h0 | ⟨b, off, rfl, hc⟩
      · rw [h0] at hjl; simp at hjl
      have c0 := hc j t ht
      clear hc ht hjl
      by_cases q : t.toList = s.toList
      · have HC : Hid (true = (L.map (·.toList)).contains s.toList) := by
          show _ = _
          rw [eq_comm, List.contains_iff_mem, ← q]
          exact List.mem_map_of_mem (List.mem_of_getElem? HT.out)
        clear HO HT
        have qb : (t.toList == s.toList) = true := by simpa using q
        go_wp2
        refine bodyPost_ret (v := .bool true) (by simp [results, Tryz.results28, go_sem]) rfl ⟨HP.out _ HC.out, rfl⟩
      · have HO2 : Hid (∀ t' ∈ L.take (j + 1), t'.toList ≠ s.toList) := by
          intro t' h
          rw [List.take_add_one, HT.out] at h
          rcases List.mem_append.1 h with h | h
          · exact HO.out t' h
          · simp at h; rw [h]; exact q
        clear HO HT
        have qb : (t.toList == s.toList) = false := by simpa using q
        go_wp2
        go_roundw
        case rel => exact ⟨j + 1, by omega, by go_num, HO2.out, trivial⟩
        case measure => simp [intOf]; omega
    · obtain rfl : j = n := by omega
      go_wp2
      refine bodyPost_ret (v := .bool false) (by simp [results, Tryz.results28, go_sem]) rfl ⟨HP.out _ ?_, rfl⟩
      rw [eq_comm, Bool.eq_false_iff]
      intro hm
      rw [List.contains_iff_mem] at hm
      obtain ⟨t, h1, h2⟩ := List.mem_map.1 hm
      refine HO.out t ?_ h2
      rw [← HN.out, List.take_length]
      exact h1
end Go.Proofs.YtmadofpbfgbdkaaGreatDoor
