/- What must come whatever the input is (sure). -/
import Derived.Test.YtbfodpmlmhkikaaDoorDcd
import Derived.Test.YtbfodpmlmhkikaaDoorSame
import Derived.Test.YtbfodpmlmhkikaaDoorAdd2
import Derived.Test.YtbfodpmlmhkikaaDoorRem
import Derived.Test.YtbfodpmlmhkikaaDoorRws
namespace Go.Proofs.YtbfodpmlmhkikaaDoor
open Go.ChangeShapes Go.WideShapes Go.ChangeAt Go.RowKit

def sRow : List Val := [(0, 0, ⟨#[]⟩), (1, 1, ⟨#[]⟩), (2, 1, ⟨#[]⟩), (4, 0, ⟨#[97, 98]⟩)]
theorem sRow_enc : enS sRow = ⟨#[0, 1, 1, 2, 1, 0, 0, 0, 0, 0, 0, 0, 4, 2, 0, 97, 98]⟩ := by kernel_rfl
theorem sRow_may : erI 31 (mayR sRow) = 0 := by kernel_rfl
theorem sDec : decS [1, 2] = none := by kernel_rfl
theorem may_a : mayR (txt ⟨#[97]⟩) = true := by kernel_rfl
theorem may_b : mayR (txt ⟨#[98]⟩) = true := by kernel_rfl
def sCells : Array Value := #[.int .i64 0, .int .i64 0, .string ⟨#[]⟩, .int .i64 1, .int .i64 1, .string ⟨#[]⟩, .int .i64 2, .int .i64 1, .string ⟨#[]⟩, .int .i64 4, .int .i64 0, .string ⟨#[97, 98]⟩]
theorem sRow_at (w : World) : RowAt (w.alloc (.cells sCells 53)) (some ⟨w.heap.size, 0, none⟩) sRow := by
  refine Or.inr ⟨w.heap.size, 0, rfl, fun i hi => ?_⟩
  have e := new_at w (.cells sCells 53)
  have hi' : i < 4 := hi
  have h4 : i = 0 ∨ i = 1 ∨ i = 2 ∨ i = 3 := by omega
  rcases h4 with rfl | rfl | rfl | rfl <;> (refine ⟨?_, ?_, ?_⟩ <;> (unfold World.cell?; dsimp only; rw [e]; rfl))
theorem sRow_int : IntR sRow := fun i hi => by
  have hi' : i < 4 := hi
  have h4 : i = 0 ∨ i = 1 ∨ i = 2 ∨ i = 3 := by omega
  rcases h4 with rfl | rfl | rfl | rfl <;> decide
/-- A map that the call has made. -/
structure Own (w0 : World) (w : World) (M : Mb) (WL : List (Pce × Way)) (HL : List (Int × Ent)) (pl bi : Int) : Prop where
  at_ : MpAt w M WL HL pl bi
  own : ∀ k, M.own k → w0.heap.size ≤ k
  bel : Below w0.heap.size w0 w
variable {w0 w w' : World} {M : Mb} {WL : List (Pce × Way)} {HL : List (Int × Ent)} {pl bi : Int}
theorem Own.below (h : Own w0 w M WL HL pl bi) (hb : Below w.heap.size w w') : Own w0 w' M WL HL pl bi := ⟨h.at_.below hb, h.own, h.bel.trans (hb.mono h.bel.size)⟩
theorem Own.alloc (h : Own w0 w M WL HL pl bi) (o : Obj) : Own w0 (w.alloc o) M WL HL pl bi := h.below ((Below.refl _ _).alloc (Nat.le_refl _) o)
theorem Own.next (h : Own w0 w M WL HL pl bi) {WL' : List (Pce × Way)} {HL' : List (Int × Ent)} {pl' bi' : Int} (hM : MpAt w' M WL' HL' pl' bi') (hf : Fr M.own w w') : Own w0 w' M WL' HL' pl' bi' := ⟨hM, h.own, hf.below h.bel.size h.own h.bel⟩
theorem Own.ready (h : Own w0 w M WL HL pl bi) (hR : Ready w0) : Ready w := hR.below h.bel
theorem Own.away (h : Own w0 w M WL HL pl bi) : ∀ g o, (some ⟨w.heap.size, 0, none⟩ : Option Addr) = some ⟨g, o, none⟩ → g ≠ M.m := fun g o e => by
  injection e with e; injection e with e1 _ _
  have := cell_lt h.at_.c0
  omega
theorem txt_le (t : ByteArray) : (txt t).length ≤ 9223372036854775807 := by show 1 ≤ _; decide
theorem txt_by (t : ByteArray) : (txt t).length * 32 ≤ 140737488355328 := by show 1 * 32 ≤ _; decide
theorem few_c {L : List (Pce × Way)} (h : L.all (fun y => decide (0 ≤ y.2.2 ∧ y.2.2 ≤ 2)) = true) : Few L 2 := fun y hy => of_decide_eq_true (List.all_eq_true.1 h y hy)
theorem AddT_new (t : ByteArray) (n : Int) (h : Own w0 w M WL HL pl bi) (hR : Ready w0) (hm : mayR (txt t) = true) (hf : (fdP WL HL (txt t)).2 = false) (hF : Few WL 2) (hp0 : 0 ≤ pl) (hp1 : pl < 4) (hb0 : 0 ≤ bi) (hb1 : bi < 4) :
    Calls Tryd.prog 15 #[.pointer (some ⟨M.m, 0, none⟩), .slice (some ⟨w.heap.size, 0, none⟩) 1 1, .int .i64 n] (w.alloc (.cells #[.int .i64 4, .int .i64 0, .string t] 53)) fun e w' => e = .returned (.tuple #[.int .i64 n, .int .i64 0]) ∧ ∃ a' cap', Own w0 w' M (ptL (WL, pl, 0) (txt t)).1 (up HL (ptL (WL, pl, 0) (txt t)).2.2 ⟨a', cap', txt t, n, bi + 1⟩) (ptL (WL, pl, 0) (txt t)).2.1 (bi + 1) := by
  have h1 := h.alloc (.cells #[.int .i64 4, .int .i64 0, .string t] 53)
  have hl : ((txt t).length : Int) = 1 := rfl
  refine (Add_new (some ⟨w.heap.size, 0, none⟩) 1 M WL HL pl bi n (txt t) _ (h1.ready hR) (txt_le t) h1.at_ (txt_at t w) hm hf h.away 2 hF (by decide) (by rw [hl]; decide) hp0 (by rw [hl]; omega) hb0 (by omega) (txt_by t)).mono ?_
  rintro e w' ⟨he, a', c', hM, hfr, _⟩
  exact ⟨he, a', c', h1.next hM hfr⟩
theorem AddT_sum (t : ByteArray) (n p : Int) (x : Ent) (h : Own w0 w M WL HL pl bi) (hR : Ready w0) (hm : mayR (txt t) = true) (hf : fdP WL HL (txt t) = (p, true)) (hx : lk HL p = some x) (hn1 : 0 ≤ n) (hn2 : n ≤ 9) (hx1 : 0 ≤ x.n) (hx2 : x.n ≤ 9) :
    Calls Tryd.prog 15 #[.pointer (some ⟨M.m, 0, none⟩), .slice (some ⟨w.heap.size, 0, none⟩) 1 1, .int .i64 n] (w.alloc (.cells #[.int .i64 4, .int .i64 0, .string t] 53)) fun e w' => e = .returned (.tuple #[.int .i64 (x.n + n), .int .i64 0]) ∧ Own w0 w' M WL (up HL p ⟨x.a, x.cap, x.row, x.n + n, x.born⟩) pl bi := by
  have h1 := h.alloc (.cells #[.int .i64 4, .int .i64 0, .string t] 53)
  refine (Add_sum (some ⟨w.heap.size, 0, none⟩) 1 M WL HL pl bi n (txt t) _ (h1.ready hR) (txt_le t) h1.at_ (txt_at t w) hm p hf x hx (by omega) (by omega) (by omega) (by omega) (by unfold lvI; rw [decide_eq_false (by omega), decide_eq_false (by omega)]; rfl)).mono ?_
  rintro e w' ⟨he, hM, hfr⟩
  exact ⟨he, h1.next hM hfr⟩
theorem GetT (t : ByteArray) (h : Own w0 w M WL HL pl bi) :
    Calls Tryd.prog 19 #[.pointer (some ⟨M.m, 0, none⟩), .slice (some ⟨w.heap.size, 0, none⟩) 1 1] (w.alloc (.cells #[.int .i64 4, .int .i64 0, .string t] 53)) fun e w' => e = .returned (.tuple #[.int .i64 (gtP WL HL (txt t)).1, .bool (gtP WL HL (txt t)).2]) ∧ Own w0 w' M WL HL pl bi := by
  have h1 := h.alloc (.cells #[.int .i64 4, .int .i64 0, .string t] 53)
  refine (Get_any (some ⟨w.heap.size, 0, none⟩) 1 M WL HL pl bi (txt t) _ (txt_le t) h1.at_ (txt_at t w)).mono ?_
  rintro e w' ⟨he, hb⟩
  exact ⟨he, h1.below hb⟩
theorem RemT_yes (t : ByteArray) (p : Int) (h : Own w0 w M WL HL pl bi) (hF : Few WL 2) (hf : fdP WL HL (txt t) = (p, true)) :
    Calls Tryd.prog 17 #[.pointer (some ⟨M.m, 0, none⟩), .slice (some ⟨w.heap.size, 0, none⟩) 1 1] (w.alloc (.cells #[.int .i64 4, .int .i64 0, .string t] 53)) fun e w' => e = .returned (.bool true) ∧ Own w0 w' M (lvL (WL, 0) (txt t)).1 (rm HL p) pl bi := by
  have h1 := h.alloc (.cells #[.int .i64 4, .int .i64 0, .string t] 53)
  refine (Remove_yes (some ⟨w.heap.size, 0, none⟩) 1 M WL HL pl bi (txt t) _ (txt_le t) h1.at_ (txt_at t w) h.away 2 hF (by decide) (by decide) p hf).mono ?_
  rintro e w' ⟨he, hM, hfr⟩
  exact ⟨he, h1.next hM hfr⟩
theorem RemT_no (t : ByteArray) (h : Own w0 w M WL HL pl bi) (hf : (fdP WL HL (txt t)).2 = false) :
    Calls Tryd.prog 17 #[.pointer (some ⟨M.m, 0, none⟩), .slice (some ⟨w.heap.size, 0, none⟩) 1 1] (w.alloc (.cells #[.int .i64 4, .int .i64 0, .string t] 53)) fun e w' => e = .returned (.bool false) ∧ Own w0 w' M WL HL pl bi := by
  have h1 := h.alloc (.cells #[.int .i64 4, .int .i64 0, .string t] 53)
  refine (Remove_no (some ⟨w.heap.size, 0, none⟩) 1 M WL HL pl bi (txt t) _ (txt_le t) h1.at_ (txt_at t w) hf).mono ?_
  rintro e w' ⟨he, hb⟩
  exact ⟨he, h1.below hb⟩
theorem rs_of_upto {B g n : Nat} {rs : List (List Val)} (h : RowsUpto w B g n rs rs.length) : RsAt w (some ⟨g, 0, none⟩) rs :=
  Or.inr ⟨g, 0, rfl, fun i hi => by obtain ⟨ai, cap, h1, h2, _⟩ := h.has i hi; exact ⟨ai, cap, by rw [Nat.zero_add]; exact h1, h2⟩⟩
theorem RowsT (h : Own w0 w M WL HL pl bi) (hS : Rising HL) (hlen : HL.length ≤ 9) (hrl : ∀ x ∈ HL, x.2.row.length ≤ 9) :
    Calls Tryd.prog 21 #[.pointer (some ⟨M.m, 0, none⟩)] w fun e w' => ∃ g cap, e = .returned (.slice (some ⟨g, 0, none⟩) HL.length cap) ∧ RsAt w' (some ⟨g, 0, none⟩) (rwH HL) ∧ Own w0 w' M WL HL pl bi := by
  refine (Rows_any M WL HL pl bi w h.at_ hS (by omega) (fun x hx => by have := hrl x hx; omega)).mono ?_
  rintro e w' ⟨g, cap, he, _, _, hU, hb⟩
  refine ⟨g, cap, he, rs_of_upto (B := w.heap.size) (n := HL.length) (by rw [rwH_len]; exact hU), h.below hb⟩
theorem LenT (h : Own w0 w M WL HL pl bi) : Calls Tryd.prog 22 #[.pointer (some ⟨M.m, 0, none⟩)] w fun e w' => e = .returned (.int .i64 HL.length) ∧ Own w0 w' M WL HL pl bi :=
  (Len_any M WL HL pl bi w h.at_).mono fun _ _ ⟨he, hb⟩ => ⟨he, h.below hb⟩
theorem Dec_bad (s : ByteArray) (w : World) (hR : Ready w) (hsz : s.size ≤ 4000000) (hd : decS s.data.toList = none) :
    Calls Tryd.prog 10 #[.string s] w fun e w' => e = .returned (.tuple #[.slice none 0 0, .int .i64 31]) ∧ Below w.heap.size w w' := by
  have h := Decode_any s w hR (by omega)
  rw [hd] at h
  exact h
theorem txt2_at (s t : ByteArray) (w : World) : RsAt (((w.alloc (.cells #[.int .i64 4, .int .i64 0, .string s] 53)).alloc (.cells #[.int .i64 4, .int .i64 0, .string t] 53)).alloc (.cells #[.slice (some ⟨w.heap.size, 0, none⟩) 1 1, .slice (some ⟨w.heap.size + 1, 0, none⟩) 1 1] 22)) (some ⟨w.heap.size + 1 + 1, 0, none⟩) [txt s, txt t] := by
  have e := new_at (((w.alloc (.cells #[.int .i64 4, .int .i64 0, .string s] 53)).alloc (.cells #[.int .i64 4, .int .i64 0, .string t] 53))) (.cells #[.slice (some ⟨w.heap.size, 0, none⟩) 1 1, .slice (some ⟨w.heap.size + 1, 0, none⟩) 1 1] 22)
  simp only [World.size_alloc] at e
  have h1 := txt_at t (w.alloc (.cells #[.int .i64 4, .int .i64 0, .string s] 53))
  rw [World.size_alloc] at h1
  refine Or.inr ⟨_, 0, rfl, fun i hi => ?_⟩
  have h2 : i = 0 ∨ i = 1 := by simp at hi; omega
  rcases h2 with rfl | rfl
  · refine ⟨some ⟨w.heap.size, 0, none⟩, 1, ?_, ((txt_at s w).alloc _).alloc _⟩
    unfold World.cell?; dsimp only; rw [e]; rfl
  · refine ⟨some ⟨w.heap.size + 1, 0, none⟩, 1, ?_, h1.alloc _⟩
    unfold World.cell?; dsimp only; rw [e]; rfl
theorem sameT {s t : ByteArray} {g cap k : Nat} {w : World} {o1 o2 o3 : Obj} (h : RsAt w (some ⟨g, 0, none⟩) [txt s, txt t]) (h' : RsAt (((w.alloc o1).alloc o2).alloc o3) (some ⟨k, 0, none⟩) [txt s, txt t]) :
    Calls Tryd.prog 23 #[.slice (some ⟨g, 0, none⟩) 2 cap, .slice (some ⟨k, 0, none⟩) 2 2] (((w.alloc o1).alloc o2).alloc o3) fun e w' => e = .returned (.bool true) ∧ Below (((w.alloc o1).alloc o2).alloc o3).heap.size (((w.alloc o1).alloc o2).alloc o3) w' := by
  have hb : Below w.heap.size w (((w.alloc o1).alloc o2).alloc o3) := (((Below.refl _ _).alloc (Nat.le_refl _) _).alloc (by simp) _).alloc (by simp; omega) _
  have hc := same_any (some ⟨g, 0, none⟩) (some ⟨k, 0, none⟩) cap 2 [txt s, txt t] [txt s, txt t] _ (by simp) (fun i => by
    match i with
    | 0 => simp [txt]
    | 1 => simp [txt]
    | n + 2 => simp) (h.below hb) h'
  rw [decide_eq_true rfl] at hc
  exact hc
set_option maxRecDepth 40000 in
set_option maxHeartbeats 16000000 in
theorem sure_any (w0 : World) (hR : Ready w0) : Calls Tryd.prog 13 #[] w0 fun e w' => e = .returned (.bool true) ∧ Below w0.heap.size w0 w' := by
  have tx := text_any
  have h1 := Encode_any (some ⟨w0.heap.size, 0, none⟩) 4 sRow (w0.alloc (.cells sCells 53)) (hR.alloc _) (by decide) (sRow_at w0) sRow_int
  rw [sRow_enc, sRow_may] at h1
  go_enter Tryd.func13, Tryd.ntmps13
  go_wp2_with fail
  refine h1.mono ?_
  rintro e w1 ⟨rfl, hb1⟩
  have hB1 : Below w0.heap.size w0 w1 := ((Below.refl _ _).alloc (Nat.le_refl _) _).trans (hb1.mono (by simp))
  clear h1 hb1
  go_wp2_with fail
  refine (Dec_bad ⟨#[1, 2]⟩ w1 (hR.below hB1) (by decide) sDec).mono ?_
  rintro e w2 ⟨rfl, hb2⟩
  have hB2 : Below w0.heap.size w0 w2 := hB1.trans (hb2.mono hB1.size)
  clear hb2 hB1
  go_wp2_with fail
  refine (New_any w2).mono ?_
  rintro e w3 ⟨M, rfl, hM3, ho1, ho2, ho3, hb3⟩
  have HO0 : Hid (Own w0 w3 M [] [] 0 0) := ⟨hM3, fun k hk => by
    have := hB2.size
    rcases hk with rfl | rfl | rfl <;> omega, hB2.trans (hb3.mono hB2.size)⟩
  clear hM3 ho1 ho2 ho3 hb3 hB2
  go_wp2_with (go_at_call 31; refine (tx _ _).mono ?_; rintro e w' ⟨rfl, rfl⟩)
  refine (AddT_new ⟨#[97]⟩ 2 HO0.out hR may_a rfl (few_c rfl) (by decide) (by decide) (by decide) (by decide)).mono ?_
  rintro e w4 ⟨rfl, a1, c1, hO1⟩
  have HO1 : Hid (Own w0 w4 M [((0, 4, 0, ⟨#[97]⟩), (1, 1))] [(1, ⟨a1, c1, txt ⟨#[97]⟩, 2, 1⟩)] 1 1) := hO1
  clear hO1 HO0
  go_wp2_with (go_at_call 31; refine (tx _ _).mono ?_; rintro e w' ⟨rfl, rfl⟩)
  refine (AddT_new ⟨#[98]⟩ 1 HO1.out hR may_b rfl (few_c rfl) (by decide) (by decide) (by decide) (by decide)).mono ?_
  rintro e w5 ⟨rfl, a2, c2, hO2⟩
  have HO2 : Hid (Own w0 w5 M [((0, 4, 0, ⟨#[97]⟩), (1, 1)), ((0, 4, 0, ⟨#[98]⟩), (2, 1))] [(1, ⟨a1, c1, txt ⟨#[97]⟩, 2, 1⟩), (2, ⟨a2, c2, txt ⟨#[98]⟩, 1, 2⟩)] 2 2) := hO2
  clear hO2 HO1
  go_wp2_with (go_at_call 31; refine (tx _ _).mono ?_; rintro e w' ⟨rfl, rfl⟩)
  refine (AddT_sum ⟨#[97]⟩ 3 1 ⟨a1, c1, txt ⟨#[97]⟩, 2, 1⟩ HO2.out hR may_a rfl rfl (by decide) (by decide) (show (0 : Int) ≤ 2 by decide) (show (2 : Int) ≤ 9 by decide)).mono ?_
  rintro e w6 ⟨rfl, hO3⟩
  have HO3 : Hid (Own w0 w6 M [((0, 4, 0, ⟨#[97]⟩), (1, 1)), ((0, 4, 0, ⟨#[98]⟩), (2, 1))] [(1, ⟨a1, c1, txt ⟨#[97]⟩, 5, 1⟩), (2, ⟨a2, c2, txt ⟨#[98]⟩, 1, 2⟩)] 2 2) := hO3
  clear hO3 HO2
  have e5 : (2 : Int) + 3 = 5 := rfl
  go_wp2_with (go_at_call 31; refine (tx _ _).mono ?_; rintro e w' ⟨rfl, rfl⟩)
  refine (GetT ⟨#[97]⟩ HO3.out).mono ?_
  rintro e w7 ⟨he, hO4⟩
  have he' : e = .returned (.tuple #[.int .i64 5, .bool true]) := he
  subst he'
  have HO4 : Hid (Own w0 w7 M [((0, 4, 0, ⟨#[97]⟩), (1, 1)), ((0, 4, 0, ⟨#[98]⟩), (2, 1))] [(1, ⟨a1, c1, txt ⟨#[97]⟩, 5, 1⟩), (2, ⟨a2, c2, txt ⟨#[98]⟩, 1, 2⟩)] 2 2) := hO4
  clear hO4 HO3 he
  go_wp2_with fail
  have hrr := RowsT HO4.out (by unfold Rising; simp) (by simp) (by simp [txt])
  refine hrr.mono ?_
  rintro e w8 ⟨g, cap, he, hRs, hO5⟩
  have he' : e = .returned (.slice (some ⟨g, 0, none⟩) 2 cap) := he
  subst he'
  have HO5 : Hid (Own w0 w8 M [((0, 4, 0, ⟨#[97]⟩), (1, 1)), ((0, 4, 0, ⟨#[98]⟩), (2, 1))] [(1, ⟨a1, c1, txt ⟨#[97]⟩, 5, 1⟩), (2, ⟨a2, c2, txt ⟨#[98]⟩, 1, 2⟩)] 2 2) := hO5
  have HRs : Hid (RsAt w8 (some ⟨g, 0, none⟩) [txt ⟨#[97]⟩, txt ⟨#[98]⟩]) := hRs
  clear hO5 HO4 he hRs hrr
  go_wp2_with (go_at_call 31; refine (tx _ _).mono ?_; rintro e w' ⟨rfl, rfl⟩)
  have hsm : Calls Tryd.prog 23 #[.slice (some ⟨g, 0, none⟩) 2 cap, .slice (some ⟨w8.heap.size + 1 + 1, 0, none⟩) 2 2] _ (fun e w' => e = .returned (.bool true) ∧ Below _ _ w') := sameT HRs.out (txt2_at ⟨#[97]⟩ ⟨#[98]⟩ w8)
  refine hsm.mono ?_
  rintro e w9 ⟨rfl, hbs⟩
  have HO6 : Hid (Own w0 w9 M [((0, 4, 0, ⟨#[97]⟩), (1, 1)), ((0, 4, 0, ⟨#[98]⟩), (2, 1))] [(1, ⟨a1, c1, txt ⟨#[97]⟩, 5, 1⟩), (2, ⟨a2, c2, txt ⟨#[98]⟩, 1, 2⟩)] 2 2) := (((HO5.out.alloc _).alloc _).alloc _).below hbs
  clear hsm hbs HRs HO5
  go_wp2_with (go_at_call 31; refine (tx _ _).mono ?_; rintro e w' ⟨rfl, rfl⟩)
  refine (RemT_yes ⟨#[97]⟩ 1 HO6.out (few_c rfl) rfl).mono ?_
  rintro e w10 ⟨rfl, hO7⟩
  have HO7 : Hid (Own w0 w10 M [((0, 4, 0, ⟨#[98]⟩), (2, 1))] [(2, ⟨a2, c2, txt ⟨#[98]⟩, 1, 2⟩)] 2 2) := hO7
  clear hO7 HO6
  go_wp2_with (go_at_call 31; refine (tx _ _).mono ?_; rintro e w' ⟨rfl, rfl⟩)
  refine (RemT_no ⟨#[97]⟩ HO7.out rfl).mono ?_
  rintro e w11 ⟨rfl, hO8⟩
  have HO8 : Hid (Own w0 w11 M [((0, 4, 0, ⟨#[98]⟩), (2, 1))] [(2, ⟨a2, c2, txt ⟨#[98]⟩, 1, 2⟩)] 2 2) := hO8
  clear hO8 HO7
  go_wp2_with (go_at_call 31; refine (tx _ _).mono ?_; rintro e w' ⟨rfl, rfl⟩)
  refine (AddT_new ⟨#[97]⟩ 1 HO8.out hR may_a rfl (few_c rfl) (by decide) (by decide) (by decide) (by decide)).mono ?_
  rintro e w12 ⟨rfl, a3, c3, hO9⟩
  have HO9 : Hid (Own w0 w12 M [((0, 4, 0, ⟨#[98]⟩), (2, 1)), ((0, 4, 0, ⟨#[97]⟩), (3, 1))] [(2, ⟨a2, c2, txt ⟨#[98]⟩, 1, 2⟩), (3, ⟨a3, c3, txt ⟨#[97]⟩, 1, 3⟩)] 3 3) := hO9
  clear hO9 HO8
  go_wp2_with fail
  have hrr := RowsT HO9.out (by unfold Rising; simp) (by simp) (by simp [txt])
  refine hrr.mono ?_
  rintro e w13 ⟨g', cap', he, hRs, hO10⟩
  have he' : e = .returned (.slice (some ⟨g', 0, none⟩) 2 cap') := he
  subst he'
  have HO10 : Hid (Own w0 w13 M [((0, 4, 0, ⟨#[98]⟩), (2, 1)), ((0, 4, 0, ⟨#[97]⟩), (3, 1))] [(2, ⟨a2, c2, txt ⟨#[98]⟩, 1, 2⟩), (3, ⟨a3, c3, txt ⟨#[97]⟩, 1, 3⟩)] 3 3) := hO10
  have HRs : Hid (RsAt w13 (some ⟨g', 0, none⟩) [txt ⟨#[98]⟩, txt ⟨#[97]⟩]) := hRs
  clear hO10 HO9 he hRs hrr
  go_wp2_with (go_at_call 31; refine (tx _ _).mono ?_; rintro e w' ⟨rfl, rfl⟩)
  have hsm : Calls Tryd.prog 23 #[.slice (some ⟨g', 0, none⟩) 2 cap', .slice (some ⟨w13.heap.size + 1 + 1, 0, none⟩) 2 2] _ (fun e w' => e = .returned (.bool true) ∧ Below _ _ w') := sameT HRs.out (txt2_at ⟨#[98]⟩ ⟨#[97]⟩ w13)
  refine hsm.mono ?_
  rintro e w14 ⟨rfl, hbs⟩
  have HO11 : Hid (Own w0 w14 M [((0, 4, 0, ⟨#[98]⟩), (2, 1)), ((0, 4, 0, ⟨#[97]⟩), (3, 1))] [(2, ⟨a2, c2, txt ⟨#[98]⟩, 1, 2⟩), (3, ⟨a3, c3, txt ⟨#[97]⟩, 1, 3⟩)] 3 3) := (((HO10.out.alloc _).alloc _).alloc _).below hbs
  clear hsm hbs HRs HO10
  go_wp2_with fail
  refine (LenT HO11.out).mono ?_
  rintro e w15 ⟨he, hO12⟩
  have he' : e = .returned (.int .i64 2) := he
  subst he'
  have HB : Hid (Below w0.heap.size w0 w15) := hO12.bel
  clear hO12 HO11 he
  go_wp2
  go_ret
  exact ⟨rfl, HB.out⟩
end Go.Proofs.YtbfodpmlmhkikaaDoor
