/- The row of bytes (Decode). -/
import Derived.Test.YtbfodpmlmhkikaaDoorCut2
import Derived.Test.YtbfodpmlmhkikaaDoorClone
namespace Go.Proofs.YtbfodpmlmhkikaaDoor
open Go.ChangeShapes Go.WideShapes Go.ChangeAt Go.RowKit

def decF : Nat → List UInt8 → Option (List Val)
  | _, [] => some []
  | 0, _ :: _ => none
  | n + 1, b :: l => match cutV b l with
    | none => none
    | some (v, l') => if mayV v then (decF n l').map (v :: ·) else none
/-- The row that has these bytes. -/
def decS (l : List UInt8) : Option (List Val) := decF l.length l
theorem rowCells_new (w : World) (v : Val) : ∀ j u, (rwC [v])[j]? = some u → (w.alloc (.cells #[.int .i64 v.1, .int .i64 v.2.1, .string v.2.2] 53)).cell? ((⟨w.heap.size, 0, none⟩ : Addr).add j) = some u := by
  have e : rwC [v] = [.int .i64 v.1, .int .i64 v.2.1, .string v.2.2] := by have := rwC_snoc [] v; simpa [rwC_nil] using this
  rw [e]
  intro j u hj
  rw [add_plain]
  match j, hj with
  | 0, hj => simp only [List.getElem?_cons_zero, Option.some.injEq] at hj; subst hj; simp only [Nat.zero_add]; go_simp
  | 1, hj => simp only [List.getElem?_cons_succ, List.getElem?_cons_zero, Option.some.injEq] at hj; subst hj; simp only [Nat.zero_add]; go_simp
  | 2, hj => simp only [List.getElem?_cons_succ, List.getElem?_cons_zero, Option.some.injEq] at hj; subst hj; simp only [Nat.zero_add]; go_simp
  | j + 3, hj => simp at hj
theorem owns_below {w w' : World} {base e size n : Nat} {v : Value} {xs : List Value} (h : w.ownsRow base e size v n xs) (hb : Below w.heap.size w w') : w'.ownsRow base e size v n xs :=
  h.kept (row := none) ⟨hb.os, hb.tape, hb.output, hb.size, fun k hk _ => hb.block k hk⟩ (by cases v.ownBlock <;> simp)
def strLn : Value → Nat
  | .string s => s.size
  | _ => 0
/-- What Decode tells. -/
def DecPost (D : Option (List Val)) (n : Nat) (e : Ending) (w' : World) : Prop := match D with
  | none => e = .returned (.tuple #[.slice none 0 0, .int .i64 31])
  | some r => ∃ a cap, e = .returned (.tuple #[.slice a r.length cap, .int .i64 0]) ∧ RowAt w' a r ∧ r.length ≤ n
set_option maxRecDepth 20000 in
set_option maxHeartbeats 8000000 in
theorem Decode_any (s : ByteArray) (w : World) (hR : Ready w) (hsz : s.size ≤ 4294967296) :
    Calls Tryd.prog 10 #[.string s] w fun e w' => DecPost (decS s.data.toList) s.size e w' ∧ Below w.heap.size w w' := by
  obtain ⟨i0, hi, hz0⟩ := Option.map_eq_some_iff.1 info53
  simp only [Prod.mk.injEq] at hz0
  obtain ⟨hz, hs, hb3⟩ := hz0
  have HX : Hid (decS s.data.toList = decF s.data.toList.length s.data.toList) := rfl
  generalize decS s.data.toList = D at HX ⊢
  go_enter Tryd.func10, Tryd.ntmps10
  go_wp2
  go_loopw [0, 4] (fun x y wr => ∃ (c : ByteArray) (acc : List Val) (v1 : Value) (n : Nat), x = .string c ∧ y = v1 ∧ c.size ≤ n ∧ acc.length + c.size ≤ s.size ∧ D = (decF n c.data.toList).map (acc ++ ·) ∧ wr.ownsRow w.heap.size 53 3 v1 acc.length (rwC acc) ∧ Bel w.heap.size w wr) (fun x _ _ => strLn x)
  case atStart => exact ⟨s, [], _, s.data.toList.length, rfl, rfl, by simp, by simp, by simpa using HX.out, World.ownsRow_nil _ _ _ _, Bel.refl _⟩
  case round =>
    obtain ⟨c, acc, v1, n, rfl, hy1, hcn, hac, hD, hO, HB⟩ := hrel
    have hy2 := hy1.symm
    clear hy1
    subst hy2
    have HD : Hid (D = (decF n c.data.toList).map (acc ++ ·)) := hD
    have HO : Hid (wr.ownsRow w.heap.size 53 3 v1 acc.length (rwC acc)) := hO
    have hW := HB.out
    have hRr := hR.below hW
    clear hD hO HX
    generalize hcl : c.data.toList = cl at HD
    cases cl with
    | nil =>
      have HN : Hid (D = some acc) := by show _ = _; rw [HD.out]; cases n <;> simp [decF]
      have HO2 : Hid (∃ a cap, v1 = .slice a acc.length cap ∧ RowAt wr a acc ∧ _) := row_of_owns HO.out
      have hne : c.toList.isEmpty = true := by rw [ByteArray.toList_eq, hcl]; rfl
      clear HD
      obtain ⟨a, cap, rfl, hra, _⟩ := HO2.out
      have HRA : Hid _ := hra
      clear HO HO2 hra
      go_wp2
      go_ret2
      rw [HN.out]
      exact ⟨⟨a, cap, rfl, HRA.out, by omega⟩, hW⟩
    | cons b l =>
      have hcs : c.size = l.length + 1 := by have := congrArg List.length hcl; simpa using this
      cases n with
      | zero => omega
      | succ n =>
        have hne : c.toList.isEmpty = false := by rw [ByteArray.toList_eq, hcl]; rfl
        cases hcut : cutV b l with
        | none =>
          have HN : Hid (D = none) := by show _ = _; rw [HD.out]; simp [decF, hcut]
          have hcall := fun wx => cutValue_none b c l wx hcl (by omega) hcut
          clear HD HO
          go_wp2_with fail
          refine (hcall _).mono ?_
          rintro e w1 ⟨k, rfl, hb1⟩
          go_wp2
          go_ret2
          rw [HN.out]
          exact ⟨rfl, (Bel.out (by repeat (first | exact Bel.refl _ | assumption | refine Bel.drew ?_ | refine Bel.drewN ?_ _ | refine Bel.alloc ?_ _ | refine Bel.setCell ?_ (by simp <;> omega) _ | refine Bel.step ?_ (by assumption))))⟩
        | some p =>
          obtain ⟨v, l'⟩ := p
          have hll := cutV_len hcut
          have hcall := fun wx => cutValue_some b c l wx hcl (by omega) v l' hcut
          have hch := Check_any v.1 v.2.1 v.2.2
          cases hmv : mayV v with
          | false =>
            have HN : Hid (D = none) := by show _ = _; rw [HD.out]; simp [decF, hcut, hmv]
            have hmv' : mayS v.1 v.2.1 v.2.2 = false := hmv
            rw [hmv'] at hch
            simp only [Bool.false_eq_true, if_false] at hch
            clear HD HO
            go_wp2_with fail
            refine (hcall _).mono ?_
            rintro e w1 ⟨rfl, hb1⟩
            go_wp2_with (go_at_call 29; refine (hch _ ((hRr.below hb1).alloc _)).mono ?_; rintro e w2 ⟨rfl, hb2⟩)
            go_ret2
            rw [HN.out]
            exact ⟨rfl, (Bel.out (by repeat (first | exact Bel.refl _ | assumption | refine Bel.drew ?_ | refine Bel.drewN ?_ _ | refine Bel.alloc ?_ _ | refine Bel.setCell ?_ (by simp <;> omega) _ | refine Bel.step ?_ (by assumption))))⟩
          | true =>
            have HN : Hid (D = (decF n l').map ((acc ++ [v]) ++ ·)) := by
              show _ = _
              rw [HD.out]; simp only [decF, hcut, hmv, if_true, Option.map_map]
              congr 1; funext z; simp
            have hmv' : mayS v.1 v.2.1 v.2.2 = true := hmv
            rw [hmv'] at hch
            simp only [if_true] at hch
            clear HD
            go_wp2_with fail
            refine (hcall _).mono ?_
            rintro e w1 ⟨rfl, hb1⟩
            go_wp2_with fail
            refine (hch _ ((hRr.below hb1).alloc _)).mono ?_
            rintro e w2 ⟨rfl, hb2⟩
            have hB2 : Below wr.heap.size wr w2 := hb1.trans (((Below.refl _ _).alloc (Nat.le_refl _) _).trans (hb2.mono (by simp)) |>.mono hb1.size)
            have q0 : w2.cell? ⟨w1.heap.size, 0, none⟩ = some (.int .i64 v.1) := cell_below hb2 (new3_0 _ _ _ _ _)
            have q1 : w2.cell? ⟨w1.heap.size, 1, none⟩ = some (.int .i64 v.2.1) := cell_below hb2 (new3_1 _ _ _ _ _)
            have q2 : w2.cell? ⟨w1.heap.size, 2, none⟩ = some (.string v.2.2) := cell_below hb2 (new3_2 _ _ _ _ _)
            have hrow : Hid ((w2.alloc (.cells #[.int .i64 v.1, .int .i64 v.2.1, .string v.2.2] 53)).ownsRow w.heap.size 53 3 v1 acc.length (rwC acc)) := (owns_below HO.out hB2).alloc _
            have hcel : Hid _ := rowCells_new w2 v
            have hone : Hid (∀ u ∈ rwC [v], u.oneCell' = true) := rowC_one _ _ _ _
            have hnl : acc.length + 1 ≤ maxLen := by unfold maxLen; omega
            have hby : (acc.length + 1) * 32 ≤ 140737488355328 := by omega
            have hbw : w.heap.size ≤ w2.heap.size := Nat.le_trans hW.size hB2.size
            have hbw2 : w.heap.size ≤ (w2.alloc (.cells #[.int .i64 v.1, .int .i64 v.2.1, .string v.2.2] 53)).heap.size := by rw [World.size_alloc]; omega
            have hvl : Hid ((rwC [v]).length = 1 * 3) := rwC_len [v]
            clear hb2 HO
            go_wp2_with (at_builtin; refine wpList_append_own _ rfl _ _ 22 rfl w.heap.size 53 i0 (.agg #[.int .i64 0, .int .i64 0, .string ⟨#[]⟩]) 3 32 Tryd.underlying22 hi hz hs hb3 rfl (by decide) _ _ _ rfl hrow.out ⟨w2.heap.size, 0, none⟩ 1 1 (rwC [v]) rfl hvl.out hcel.out hone.out hnl hby hbw2 ?_)
            intro v3 w3 hown3 hgrow3 hi3
            clear hi3
            have HO3 : Hid (w3.ownsRow w.heap.size 53 3 v3 (acc ++ [v]).length (rwC (acc ++ [v]))) := by
              show World.ownsRow _ _ _ _ _ _ _
              have e : rwC [v] = [.int .i64 v.1, .int .i64 v.2.1, .string v.2.2] := by have := rwC_snoc [] v; simpa [rwC_nil] using this
              rw [rwC_snoc, ← e, List.length_append, List.length_singleton]; exact hown3
            have hB3 : Bel w.heap.size w w3 := by
              have h1 : Below w.heap.size w w2 := hW.trans (hB2.mono hW.size)
              have h2 := (h1.alloc hbw (.cells #[.int .i64 v.1, .int .i64 v.2.1, .string v.2.2] 53)).grown hgrow3 hbw2 (fun j hj => (hrow.out.lt j hj).1)
              exact ⟨h2, h2.size⟩
            have hbs : (bsA l').size = l'.length := bsA_size l'
            have hbl : (bsA l').data.toList = l' := bsA_list l'
            have HBS : Hid _ := hbs
            have HBL : Hid _ := hbl
            clear hown3 hgrow3 hrow hcel hone hvl hbs hbl q0 q1 q2 hB2
            generalize bsA l' = c' at HBS HBL ⊢
            go_wp2
            go_roundw
            case rel => exact ⟨c', acc ++ [v], v3, n, rfl, rfl, by rw [HBS.out]; omega, by rw [HBS.out]; simp; omega, by rw [HBL.out]; exact HN.out, HO3.out, hB3⟩
            case measure => show c'.size < c.size; rw [HBS.out]; omega
end Go.Proofs.YtbfodpmlmhkikaaDoor
