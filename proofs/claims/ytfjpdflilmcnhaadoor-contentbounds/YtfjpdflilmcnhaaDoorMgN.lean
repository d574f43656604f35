/- What a view holds (holds), kind by kind. -/
import Derived.Test.YtfjpdflilmcnhaaDoorSee
import Derived.Test.YtfjpdflilmcnhaaDoorMgK
import Derived.Test.YtfjpdflilmcnhaaDoorMgL
import Derived.Test.YtfjpdflilmcnhaaDoorLoe
import Derived.Test.YtfjpdflilmcnhaaDoorMgH
import Derived.Test.YtfjpdflilmcnhaaDoorPik
namespace Go.Proofs.YtfjpdflilmcnhaaDoor
open Go.ChangeShapes Go.WideShapes Go.ChangeAt Go.RowKit

/-- What a view has to look at. -/
structure HdOk (w : World) (a : Option Addr) (zs : List Int) (la : Option Addr) (l : List Arv) : Prop where
  ars : ArsAt w la l
  ns : NsAt w a zs
  len : l.length ≤ 200
  tms : Tms l
  rng : Rng l
  ranks : Ranks w
  wide : ∀ x ∈ l, x.row.length * 32 ≤ 140737488355328
theorem HdOk.below {w w' : World} {a : Option Addr} {zs : List Int} {la : Option Addr} {l : List Arv} (h : HdOk w a zs la l) (hb : Below w.heap.size w w') : HdOk w' a zs la l :=
  ⟨h.ars.below hb, h.ns.below hb, h.len, h.tms, h.rng, tabBelow h.ranks hb, h.wide⟩
/-- The places that a view of a kind holds. -/
def hdC (c : Nat) (n : Int) (zs : List Int) (d : Bool) (l : List Arv) (now : Int) : List Nat :=
  if c = 1 then List.range' 0 l.length
  else if c = 2 then List.range' (l.length - n.toNat) (l.length - (l.length - n.toNat))
  else if c = 3 then ysP (fun i => decide ((aAt l i).time + n > now)) l.length
  else if c = 4 then List.range' (l.length / n.toNat * n.toNat - n.toNat) (l.length / n.toNat * n.toNat - (l.length / n.toNat * n.toNat - n.toNat))
  else if c = 5 then ysP (fun i => decide (bgI (aAt l 0).time n (aAt l i) ≤ now ∧ now < bgI (aAt l 0).time n (aAt l i) + n)) l.length
  else if c = 6 then ueP (fun i => keyP (aAt l i).row zs) l.length
  else if c = 7 then ksP n l (zs.getD 0 0).toNat d
  else if c = 8 then List.range' (l.length - 1) 1
  else if c = 9 then List.range' 0 1
  else []
theorem few_below : ∀ (C : Nat) (zs : List Int), zs.Nodup → (∀ z ∈ zs, 0 ≤ z ∧ z < C) → zs.length ≤ C
  | 0, zs, _, h => by
    cases zs with
    | nil => simp
    | cons z zs => have := h z (by simp); omega
  | C + 1, zs, hn, h => by
    have h1 := few_below C (zs.erase (C : Int)) (hn.erase _) (fun z hz => by
      have h2 := (hn.mem_erase_iff).1 hz
      have := h z h2.2
      have := h2.1
      omega)
    rw [List.length_erase] at h1
    split at h1 <;> omega
theorem arB_facts {zs : List Int} {C : Nat} (h : arB zs C = true) : 0 < zs.length ∧ zs.length ≤ C ∧ ∀ z ∈ zs, 0 ≤ z ∧ z < C := by
  unfold arB at h
  obtain ⟨h1, h2, h3⟩ := of_decide_eq_true h
  exact ⟨List.length_pos_iff.2 h1, few_below C zs h3 h2, h2⟩
set_option maxRecDepth 20000 in
set_option maxHeartbeats 4000000 in
theorem held_any (c : Nat) (hc : c < 10) (n : Int) (a : Option Addr) (cc : Nat) (d : Bool) (la : Option Addr) (lc : Nat) (now : Int) (zs : List Int) (l : List Arv) (w : World) (hO : c ≠ 0 → HdOk w a zs la l ∧ 0 < l.length ∧ evB (kM c) n zs d ((aAt l 0).row.length : Nat) = true) :
    Calls Tryd.prog (kH c) #[vvV (kM c) (kH c) (kT c) n a zs.length cc d la l.length lc now] w (HsP w (hdC c n zs d l now)) := by
  have h : c = 0 ∨ c = 1 ∨ c = 2 ∨ c = 3 ∨ c = 4 ∨ c = 5 ∨ c = 6 ∨ c = 7 ∨ c = 8 ∨ c = 9 := by omega
  rcases h with rfl | h
  · exact nothing_any _ _ _ n a zs.length cc d la l.length lc now w
  obtain ⟨hH, h0, hm⟩ := hO (by omega)
  have hcel := hH.ars.cels
  rcases h with rfl | rfl | rfl | rfl | rfl | rfl | rfl | rfl | rfl
  · exact (all_any _ _ _ n a zs.length cc d la l.length lc now w hH.len).mono fun e w' h => sp_hs h
  · have hn : 1 ≤ n ∧ n ≤ 65536 := by
      have : (utB n 65536 && plB zs.length d) = true := hm
      unfold utB at this; simp at this; omega
    obtain ⟨M, rfl⟩ : ∃ M : Nat, n = M := ⟨n.toNat, by omega⟩
    exact newest_any _ _ _ M a zs.length cc d la l.length lc now w hH.len (by omega)
  · have hn : 1 ≤ n ∧ n ≤ 1099511627776 := by
      have : (utB n 1099511627776 && plB zs.length d) = true := hm
      unfold utB at this; simp at this; omega
    exact young_any _ _ _ n a zs.length cc d la lc now l w hcel hH.len hH.tms hn.1 hn.2
  · have hn : 1 ≤ n ∧ n ≤ 65536 := by
      have : (utB n 65536 && plB zs.length d) = true := hm
      unfold utB at this; simp at this; omega
    obtain ⟨M, rfl⟩ : ∃ M : Nat, n = M := ⟨n.toNat, by omega⟩
    exact full_any _ _ _ M a zs.length cc d la l.length lc now w hH.len (by omega) (by omega)
  · have hn : 1 ≤ n ∧ n ≤ 1099511627776 := by
      have : (utB n 1099511627776 && plB zs.length d) = true := hm
      unfold utB at this; simp at this; omega
    exact past_any _ _ _ n a zs.length cc d la lc now l w hcel hH.len hH.tms hn.1 hn.2
  · have hz : arB zs ((aAt l 0).row.length : Nat) = true := by
      have : (((n == 0) && !d) && arB zs ((aAt l 0).row.length : Nat)) = true := hm
      simp at this; exact this.2
    obtain ⟨z1, z2, z3⟩ := arB_facts hz
    have hw := hH.wide (aAt l 0) (by unfold aAt; rw [List.getD_eq_getElem?_getD, List.getElem?_eq_getElem h0]; exact List.getElem_mem _)
    obtain ⟨lb, lo, rfl⟩ : ∃ lb lo, la = some ⟨lb, lo, none⟩ := by
      rcases hcel with h | ⟨b, off, h, _⟩
      · rw [h] at h0; exact absurd h0 (by simp)
      · exact ⟨b, off, h⟩
    exact lastOf_any _ _ _ n a cc d lb lo lc now zs l w hH.ars hH.ns h0 hH.len (fun z hz => by have := z3 z hz; omega) (by omega) z1
  · have hz : (1 ≤ n ∧ n ≤ 65536) ∧ zs.length = 1 ∧ arB zs ((aAt l 0).row.length : Nat) = true := by
      have : ((utB n 65536 && ((zs.length : Int) == 1)) && arB zs ((aAt l 0).row.length : Nat)) = true := hm
      unfold utB at this; simp at this
      exact ⟨⟨this.1.1.1, this.1.1.2⟩, by omega, this.2⟩
    obtain ⟨hn, h1, hz⟩ := hz
    obtain ⟨_, _, z3⟩ := arB_facts hz
    have hw := hH.wide (aAt l 0) (by unfold aAt; rw [List.getD_eq_getElem?_getD, List.getElem?_eq_getElem h0]; exact List.getElem_mem _)
    obtain ⟨z, rfl⟩ := List.length_eq_one_iff.1 h1
    have hzz := z3 z (by simp)
    obtain ⟨col, rfl⟩ : ∃ col : Nat, z = col := ⟨z.toNat, by omega⟩
    rcases hH.ns with h | ⟨cb, co, rfl, hc0⟩
    · cases h
    have hc1 := hc0 0 (by simp)
    refine (least_any _ _ _ n cb co cc col d la lc now l w hn.1 (by omega) hc1 hH.ars h0 hH.len hH.rng hH.ranks).mono ?_
    rintro e w' ⟨⟨g, cap, he, hp⟩, hb⟩
    exact ⟨⟨_, _, he, hp⟩, hb⟩
  · exact (last_any _ _ _ n a zs.length cc d la l.length lc now w hH.len h0).mono fun e w' h => sp_hs h
  · exact (first_any _ _ _ n a zs.length cc d la l.length lc now w).mono fun e w' h => sp_hs h
theorem kH_enters (c : Nat) (hc : c < 10) (args : Array Value) (w : World) : (callFunc (kH c) args).run Tryd.prog w = .ok (.enter (kH c) args) w := by
  have : c = 0 ∨ c = 1 ∨ c = 2 ∨ c = 3 ∨ c = 4 ∨ c = 5 ∨ c = 6 ∨ c = 7 ∨ c = 8 ∨ c = 9 := by omega
  rcases this with rfl | rfl | rfl | rfl | rfl | rfl | rfl | rfl | rfl | rfl
  · exact enters_of Tryd.func29 (by kernel_rfl) rfl args w
  · exact enters_of Tryd.func32 (by kernel_rfl) rfl args w
  · exact enters_of Tryd.func34 (by kernel_rfl) rfl args w
  · exact enters_of Tryd.func36 (by kernel_rfl) rfl args w
  · exact enters_of Tryd.func38 (by kernel_rfl) rfl args w
  · exact enters_of Tryd.func39 (by kernel_rfl) rfl args w
  · exact enters_of Tryd.func42 (by kernel_rfl) rfl args w
  · exact enters_of Tryd.func44 (by kernel_rfl) rfl args w
  · exact enters_of Tryd.func45 (by kernel_rfl) rfl args w
  · exact enters_of Tryd.func46 (by kernel_rfl) rfl args w
set_option maxRecDepth 20000 in
set_option maxHeartbeats 8000000 in
theorem holds_any (c : Nat) (hc : c < 10) (n : Int) (a : Option Addr) (cc : Nat) (d : Bool) (la : Option Addr) (lc : Nat) (now : Int) (zs : List Int) (l : List Arv) (w : World) (hO : c ≠ 0 → HdOk w a zs la l ∧ 0 < l.length ∧ evB (kM c) n zs d ((aAt l 0).row.length : Nat) = true) :
    Calls Tryd.prog 24 #[vvV (kM c) (kH c) (kT c) n a zs.length cc d la l.length lc now] w (HsP w (hdC c n zs d l now)) := by
  have hE := fun wx (hb : Below w.heap.size w wx) => held_any c hc n a cc d la lc now zs l wx (fun h => by obtain ⟨q1, q2⟩ := hO h; exact ⟨q1.below hb, q2⟩)
  have eg := kH_enters c hc
  generalize hdC c n zs d l now = ps at *
  clear hO
  generalize l.length = ln at *
  generalize zs.length = zn at *
  unfold vvV at hE ⊢
  generalize kM c = f0 at *
  generalize kH c = f1 at *
  generalize kT c = f2 at *
  go_enter Tryd.func24, Tryd.ntmps24
  go_wp2_with fail
  refine (hE _ (Bel.out (by repeat (first | exact Bel.refl _ | assumption | refine Bel.drew ?_ | refine Bel.drewN ?_ _ | refine Bel.alloc ?_ _ | refine Bel.setCell ?_ (by simp <;> omega) _ | refine Bel.step ?_ (by assumption))))).mono ?_
  rintro e w1 ⟨⟨pa, pc, rfl, hp⟩, hb1⟩
  have HP : Hid (PsAt w1 pa ps) := hp
  clear hE eg hp
  go_wp2
  go_ret
  exact ⟨⟨pa, pc, rfl, HP.out⟩, (Bel.out (by repeat (first | exact Bel.refl _ | assumption | refine Bel.drew ?_ | refine Bel.drewN ?_ _ | refine Bel.alloc ?_ _ | refine Bel.setCell ?_ (by simp <;> omega) _ | refine Bel.step ?_ (by assumption))))⟩
theorem hd_lt {c : Nat} {n : Int} {zs : List Int} {d : Bool} {l : List Arv} {now : Int} (h0 : 0 < l.length) : ∀ p ∈ hdC c n zs d l now, p < l.length := by
  intro p hp
  unfold hdC at hp
  repeat' split at hp
  · rw [List.mem_range'_1] at hp; omega
  · rw [List.mem_range'_1] at hp; omega
  · exact ysP_lt p hp
  · rw [List.mem_range'_1] at hp
    have := Nat.div_mul_le_self l.length n.toNat
    omega
  · exact ysP_lt p hp
  · unfold ueP at hp; have := (List.mem_filter.1 hp).1; simpa using this
  · unfold ksP at hp; have := (List.mem_filter.1 hp).1; simpa using this
  · rw [List.mem_range'_1] at hp; omega
  · rw [List.mem_range'_1] at hp; omega
  · simp at hp
theorem hd_len {c : Nat} {n : Int} {zs : List Int} {d : Bool} {l : List Arv} {now : Int} (h0 : 0 < l.length) : (hdC c n zs d l now).length ≤ l.length := by
  unfold hdC
  repeat' split
  · rw [List.length_range']; exact Nat.le_refl _
  · rw [List.length_range']; omega
  · exact ysP_len _ _
  · rw [List.length_range']
    have := Nat.div_mul_le_self l.length n.toNat
    omega
  · exact ysP_len _ _
  · exact ueP_len _ _
  · unfold ksP
    have h := List.length_filter_le (fun p => decide (Stb.rank (Stb.ltO (ovV l (zs.getD 0 0).toNat d)) l.length p < min n.toNat l.length)) (List.range l.length)
    rw [List.length_range] at h; exact h
  · rw [List.length_range']; omega
  · rw [List.length_range']; omega
  · simp
end Go.Proofs.YtfjpdflilmcnhaaDoor

/- What one view holds (One). -/
namespace Go.Proofs.YtfjpdflilmcnhaaDoor
open Go.ChangeShapes Go.WideShapes Go.ChangeAt Go.RowKit

/-- The places that a view holds. -/
def hlP (k n : Int) (zs : List Int) (d : Bool) (l : List Arv) (now : Int) : List Nat :=
  if 0 < l.length ∧ mayB k n zs d ((aAt l 0).row.length : Nat) = true then hdC (clsI k) n zs d l now else []
theorem hl_lt {k n : Int} {zs : List Int} {d : Bool} {l : List Arv} {now : Int} : ∀ p ∈ hlP k n zs d l now, p < l.length := by
  intro p hp
  unfold hlP at hp
  split at hp
  · exact hd_lt (by omega) p hp
  · simp at hp
theorem hl_len {k n : Int} {zs : List Int} {d : Bool} {l : List Arv} {now : Int} : (hlP k n zs d l now).length ≤ l.length := by
  unfold hlP
  split
  · exact hd_len (by omega)
  · simp
theorem seen_holds (k n : Int) (a : Option Addr) (cap : Nat) (d : Bool) (la : Option Addr) (lc : Nat) (now : Int) (zs : List Int) (l : List Arv) (w : World) (hO : HdOk w a zs la l) :
    Calls Tryd.prog 24 #[sV (decide (0 < l.length) && mayB k n zs d ((aAt l 0).row.length : Nat)) k n a zs.length cap d la l.length lc now] w (HsP w (hlP k n zs d l now)) := by
  unfold sV hlP
  by_cases hp : 0 < l.length
  · cases hm : mayB k n zs d ((aAt l 0).row.length : Nat)
    · simp only [hp, decide_true, Bool.true_and, Bool.false_eq_true, and_false, if_false]
      exact holds_any 0 (by decide) 0 none 0 false none 0 0 [] [] w (fun h => absurd rfl h)
    · simp only [hp, decide_true, Bool.true_and, and_self, if_true]
      exact holds_any (clsI k) (cls_lt k) n a cap d la lc now zs l w (fun _ => ⟨hO, hp, hm⟩)
  · have h0 : l.length = 0 := by omega
    simp only [hp, decide_false, Bool.false_and, Bool.false_eq_true, false_and, if_false]
    exact holds_any 0 (by decide) 0 none 0 false none 0 0 [] [] w (fun h => absurd rfl h)
def OneP (w : World) (l : List Arv) (ps : List Nat) (e : Ending) (w' : World) : Prop := ∃ a' o, e = .returned (.slice a' o.length o.length) ∧ o.map kA = ps.map (fun p => kA (aAt l p)) ∧ ArsAt w' a' o ∧ Below w.heap.size w w'
set_option maxRecDepth 20000 in
set_option maxHeartbeats 8000000 in
theorem One_any (k n : Int) (a : Option Addr) (cap : Nat) (d : Bool) (la : Option Addr) (lc : Nat) (now : Int) (zs : List Int) (l : List Arv) (w : World) (hreach : zs.length * 8 ≤ 140737488351232) (hO : HdOk w a zs la l) :
    Calls Tryd.prog 15 #[vwV k n a zs.length cap d, .slice la l.length lc, .int .i64 now] w (OneP w l (hlP k n zs d l now)) := by
  have hsee := fun wx (hb : Below w.heap.size w wx) => see_any k n a cap d la lc now zs l wx hreach (hO.ns.below hb) (hO.ars.cels.below hb) hO.len
  have hhol := fun wx (hb : Below w.heap.size w wx) => seen_holds k n a cap d la lc now zs l wx (hO.below hb)
  have hpk := fun wx pa pc (hb : Below w.heap.size w wx) (hp : PsAt wx pa (hlP k n zs d l now)) => pick_any la pa lc pc l (hlP k n zs d l now) wx (Nat.le_trans hl_len (by have := hO.len; omega)) (by have := hO.len; omega) hl_lt hO.wide (hO.ars.below hb) hp
  have hpl : (hlP k n zs d l now).length ≤ 200 := Nat.le_trans hl_len hO.len
  generalize hlP k n zs d l now = ps at *
  generalize sV (decide (0 < l.length) && mayB k n zs d ((aAt l 0).row.length : Nat)) k n a zs.length cap d la l.length lc now = sv at *
  have HO : Hid (HdOk w a zs la l) := hO
  clear hO
  generalize zs.length = zn at *
  unfold vwV at hsee ⊢
  go_enter Tryd.func15, Tryd.ntmps15
  go_wp2_with fail
  refine (hsee _ (Bel.out (by repeat (first | exact Bel.refl _ | assumption | refine Bel.drew ?_ | refine Bel.drewN ?_ _ | refine Bel.alloc ?_ _ | refine Bel.setCell ?_ (by simp <;> omega) _ | refine Bel.step ?_ (by assumption))))).mono ?_
  rintro e w1 ⟨rfl, hb1⟩
  go_wp2_with fail
  refine (hhol _ (Bel.out (by repeat (first | exact Bel.refl _ | assumption | refine Bel.drew ?_ | refine Bel.drewN ?_ _ | refine Bel.alloc ?_ _ | refine Bel.setCell ?_ (by simp <;> omega) _ | refine Bel.step ?_ (by assumption))))).mono ?_
  rintro e w2 ⟨⟨pa, pc, rfl, hp⟩, hb2⟩
  have HP : Hid (PsAt w2 pa ps) := hp
  clear hp
  go_wp2_with fail
  refine (hpk _ pa pc (Bel.out (by repeat (first | exact Bel.refl _ | assumption | refine Bel.drew ?_ | refine Bel.drewN ?_ _ | refine Bel.alloc ?_ _ | refine Bel.setCell ?_ (by simp <;> omega) _ | refine Bel.step ?_ (by assumption)))) HP.out).mono ?_
  rintro e w3 ⟨a', o, rfl, q1, q2, q3, hb3⟩
  have HQ : Hid (o.map kA = ps.map (fun p => kA (aAt l p)) ∧ ArsAt w3 a' o) := ⟨q1, q2⟩
  clear q1 q2 q3 hsee hhol hpk
  go_wp2
  go_ret
  exact ⟨a', o, rfl, HQ.out.1, HQ.out.2, (Bel.out (by repeat (first | exact Bel.refl _ | assumption | refine Bel.drew ?_ | refine Bel.drewN ?_ _ | refine Bel.alloc ?_ _ | refine Bel.setCell ?_ (by simp <;> omega) _ | refine Bel.step ?_ (by assumption))))⟩
end Go.Proofs.YtfjpdflilmcnhaaDoor

/- How many are of a rank below a number. -/
namespace Go.Proofs.YtfjpdflilmcnhaaDoor
open Go.ChangeShapes Go.WideShapes Go.ChangeAt Go.RowKit

theorem few_nat (C : Nat) (zs : List Nat) (hn : zs.Nodup) (h : ∀ z ∈ zs, z < C) : zs.length ≤ C := by
  have h1 := few_below C (zs.map fun k => ((k : Nat) : Int)) (by
    rw [List.nodup_iff_pairwise_ne] at hn ⊢
    rw [List.pairwise_map]
    exact hn.imp (fun hne e => hne (by omega))) (fun z hz => by
    obtain ⟨k, hk, rfl⟩ := List.mem_map.1 hz
    have := h k hk; omega)
  simpa using h1
/-- Of unlike numbers below n, as many as n, those below m are m. -/
theorem few_part {n m : Nat} {zs : List Nat} (hn : zs.Nodup) (h : ∀ z ∈ zs, z < n) (hl : zs.length = n) (hm : m ≤ n) : (zs.filter fun z => decide (z < m)).length = m := by
  have h1 : (zs.filter fun z => decide (z < m)).length ≤ m := few_nat m _ (hn.filter _) (fun z hz => by simpa using (List.mem_filter.1 hz).2)
  have h2 : ((zs.filter fun z => !decide (z < m)).map fun z => z - m).length ≤ n - m := by
    refine few_nat (n - m) _ ?_ (fun z hz => ?_)
    · have h3 := hn.filter (fun z => !decide (z < m))
      refine List.nodup_iff_pairwise_ne.2 (List.pairwise_map.2 ?_)
      refine (List.nodup_iff_pairwise_ne.1 h3).imp_of_mem ?_
      intro a b ha hb hne he
      have := (List.mem_filter.1 ha).2
      have := (List.mem_filter.1 hb).2
      simp at *
      omega
    · obtain ⟨k, hk, rfl⟩ := List.mem_map.1 hz
      have h4 := List.mem_filter.1 hk
      have := h k h4.1
      have h5 := h4.2
      simp at h5
      omega
  have h3 : zs.length = (zs.filter fun z => decide (z < m)).length + (zs.filter fun z => !decide (z < m)).length := by
    induction zs with
    | nil => rfl
    | cons z zs ih =>
      have h0 : ∀ (l : List Nat), l.length = (l.filter fun z => decide (z < m)).length + (l.filter fun z => !decide (z < m)).length := by
        intro l
        induction l with
        | nil => rfl
        | cons x l ih2 =>
          rw [List.filter_cons, List.filter_cons]
          by_cases hx : x < m
          · simp [hx]; omega
          · simp [hx]; omega
      exact h0 _
  rw [List.length_map] at h2
  omega
theorem rank_less {lt : Nat → Nat → Bool} {n p q : Nat} (hL : Stb.Lin lt n) (hp : p < n) (hq : q < n) (h : lt p q = true) : Stb.rank lt n p < Stb.rank lt n q := by
  unfold Stb.rank
  have e : (List.range n).filter (fun x => lt x p) = ((List.range n).filter (fun x => lt x q)).filter (fun x => lt x p) := by
    rw [List.filter_filter]
    apply List.filter_congr
    intro x hx
    have hxn : x < n := by simpa using hx
    cases h1 : lt x p
    · simp
    · simp [hL.tr x p q hxn hp hq h1 h]
  rw [e]
  exact List.length_filter_lt_length_iff_exists.2 ⟨p, List.mem_filter.2 ⟨by simpa using hp, h⟩, by rw [hL.irr p hp]; simp⟩
theorem rank_count {lt : Nat → Nat → Bool} {n m : Nat} (hL : Stb.Lin lt n) (hm : m ≤ n) : ((List.range n).filter fun p => decide (Stb.rank lt n p < m)).length = m := by
  have hr : ∀ p, p < n → Stb.rank lt n p < n := by
    intro p hp
    unfold Stb.rank
    have : ((List.range n).filter fun x => lt x p).length < (List.range n).length := List.length_filter_lt_length_iff_exists.2 ⟨p, by simpa using hp, by rw [hL.irr p hp]; simp⟩
    simpa using this
  have h := few_part (n := n) (m := m) (zs := (List.range n).map fun p => Stb.rank lt n p) (by
      rw [List.nodup_iff_pairwise_ne, List.pairwise_map]
      refine List.Pairwise.imp_of_mem ?_ (List.nodup_iff_pairwise_ne.1 List.nodup_range)
      intro a b ha hb hne he
      have ha' : a < n := by simpa using ha
      have hb' : b < n := by simpa using hb
      rcases hL.tot a b ha' hb' hne with h | h
      · have := rank_less hL ha' hb' h; omega
      · have := rank_less hL hb' ha' h; omega) (fun z hz => by
      obtain ⟨p, hp, rfl⟩ := List.mem_map.1 hz
      exact hr p (by simpa using hp)) (by simp) hm
  rw [List.filter_map, List.length_map] at h
  exact h
theorem ks_len {N : Int} {l : List Arv} {col : Nat} {d : Bool} : (ksP N l col d).length = min N.toNat l.length := by
  unfold ksP
  exact rank_count ovV_cmp.lin (Nat.min_le_right _ _)
end Go.Proofs.YtfjpdflilmcnhaaDoor
