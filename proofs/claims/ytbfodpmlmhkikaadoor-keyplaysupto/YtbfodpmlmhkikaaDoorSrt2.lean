/- What a map holds, in the order of its births (slices.SortedFunc over maps.Values). -/
import Derived.Test.YtbfodpmlmhkikaaDoorSrt
namespace Go.Proofs.YtbfodpmlmhkikaaDoor
open Go.ChangeShapes Go.WideShapes Go.ChangeAt Go.RowKit Go.Shelf Go.Sort
open Go.RowKit (Below)
/-- What is held stands in the order of its births. -/
def Rising (HL : List (Int × Ent)) : Prop := HL.Pairwise fun x y => x.2.born < y.2.born
theorem SortFunc_xs (g cap B : Nat) (xs : List Ent) (HL : List (Int × Ent)) (w1 : World) (hp : xs.Perm (HL.map (·.2))) (hR : Rising HL) (hH : HoldsK enP 3 w1 g 0 (xs.map ep).toArray) (hgl : g < w1.heap.size) (hbg : B ≤ g) (hl : xs.length < 4611686018427387904) :
    Calls Tryd.prog 49 #[.slice (some ⟨g, 0, none⟩) xs.length cap, .func (.func 39) #[] #[]] w1 fun e w2 => e = .returned (.tuple #[]) ∧ EntsAt w2 (some ⟨g, 0, none⟩) (HL.map (·.2)) ∧ Below B w1 w2 := by
  have hsz : (xs.map ep).toArray.size = xs.length := by simp
  have eg : ∀ args w, (callFunc 39 args).run Tryd.prog w = .ok (.enter 39 args) w := enters_of Tryd.func39 (by kernel_rfl) rfl
  have hs := AnyQ.slices_SortFunc Tryd.sortEn 3 Tryd.isAgg78 Tryd.sizeOf78 enP (fun _ => rfl) (fun x v hv => by simp only [enP, List.mem_cons, List.not_mem_nil, or_false] at hv; rcases hv with rfl | rfl | rfl <;> rfl) cfP swoP 39 #[] g 0 cap (xs.map ep).toArray w1 eg (cmpLays39 _ _ _ _) hH hgl (by rw [hsz]; exact hl)
  change Calls Tryd.prog 49 #[.slice (some ⟨g, 0, none⟩) (xs.map ep).toArray.size cap, .func (.func 39) #[] #[]] w1 _ at hs
  have hs' : Calls Tryd.prog 49 #[.slice (some ⟨g, 0, none⟩) xs.length cap, .func (.func 39) #[] #[]] w1 _ := hsz ▸ hs
  refine hs'.mono ?_
  rintro e w2 ⟨rfl, d', q, os, hpm, hso, hw2⟩
  have hd'sz : d'.size = xs.length := by have := hpm.1; rw [hsz] at this; exact this
  have hperm : d'.toList.Perm (xs.map ep) := by
    have := hpm.2.2
    rw [← hd'sz] at this
    have e1 : d'.extract 0 d'.size = d' := by simp
    rw [e1] at this
    have e2 : (xs.map ep).toArray.extract 0 d'.size = (xs.map ep).toArray := by rw [hd'sz]; simp [List.take_of_length_le]
    rw [e2] at this
    simpa using this
  have hsorted : d'.toList.Pairwise fun x y => bnP x ≤ bnP y := by
    rw [List.pairwise_iff_getElem]
    intro i j hi hj hij
    have h := hso i j (Nat.zero_le _) hij (by rw [← hd'sz]; simpa using hj)
    rw [ltP] at h
    have hi' : i < d'.size := by simpa using hi
    have hj' : j < d'.size := by simpa using hj
    rw [getElem!_pos d' i hi', getElem!_pos d' j hj'] at h
    simp only [decide_eq_false_iff_not, Int.not_lt] at h
    simpa using h
  have hperm2 : (xs.map ep).Perm ((HL.map (·.2)).map ep) := hp.map _
  have heq : d'.toList = (HL.map (·.2)).map ep := sorted_is (hperm.trans hperm2) (by rw [List.map_map, List.pairwise_map]; exact hR) hsorted
  have hHd : HoldsK enP 3 w2 g 0 d'.toList.toArray := by
    rw [hw2]; exact holdsK_sortWorldK_c enP 3 w1 g 0 _ _ q os hH hgl (by rw [hsz]; simpa using hd'sz)
  rw [heq] at hHd
  refine ⟨rfl, ?_, by rw [hw2]; exact below_sortK hbg (by omega)⟩
  have := ents_of_holds hHd
  rw [List.map_map] at this
  have e3 : (HL.map (·.2)).map (pe ∘ ep) = HL.map (·.2) := by rw [show (pe ∘ ep) = id from funext pe_ep]; simp
  rw [e3] at this
  exact this
set_option maxHeartbeats 4000000 in
theorem SortedFunc_any (Bm b : Nat) (HL : List (Int × Ent)) (es : Array MapEntry) (clk : Nat) (w : World) (hlen : HL.length * 40 ≤ 140737488355328) (hR : Rising HL) (hm : w.cell? ⟨Bm, 0, none⟩ = some (.map (some b))) (hown : MapIs itE enE w b HL es clk) :
    Calls Tryd.prog 37 #[.func (.func 50) #[] #[.pointer (some ⟨Bm, 0, none⟩)], .func (.func 39) #[] #[]] w fun e W' => ∃ a cap, e = .returned (.slice a HL.length cap) ∧ EntsAt W' a (HL.map (·.2)) ∧ Below w.heap.size w W' := by
  have hC := Collect_any Bm b HL es clk w hlen hm hown
  clear hown
  have HR : Hid (Rising HL) := hR
  clear hR
  go_enter Tryd.func37, Tryd.ntmps37
  go_wp2_with fail
  refine hC.mono ?_
  rintro e w1 ⟨v, xs, rfl, hp, ho, hb⟩
  have hxl : xs.length = HL.length := by have := hp.length_eq; simpa using this
  have HP : Hid _ := hp
  clear hp
  have ho' := ho
  obtain ⟨_, ⟨rfl, h0⟩ | ⟨g, cap, cur, rfl, hbg, hgb, hcap, hcm, hcs, htake⟩⟩ := ho
  · have hn0 : HL = [] := List.length_eq_zero_iff.1 (by omega)
    subst hn0
    have hs := AnyF.slices_SortFunc_none Tryd.sortEn none 0 (.func (.func 39) #[] #[])
    change ∀ w, Calls Tryd.prog 49 _ _ _ at hs
    clear ho' HP
    go_wp2_with (go_at_call 49; refine (hs _).mono ?_; rintro e w2 ⟨rfl, rfl⟩)
    go_ret
    exact ⟨none, 0, rfl, Or.inl rfl, hb⟩
  · have HX : Hid (xs.length = HL.length) := hxl
    have hxb : xs.length < 4611686018427387904 := by omega
    clear hxl
    have hH := holds_of_owns rfl ho'
    have hgl := heap_lt hgb
    have hs := SortFunc_xs g cap w.heap.size xs HL w1 HP.out HR.out hH hgl hbg hxb
    clear ho' hgb hcs htake hH HP HR hC
    go_wp2_with fail
    refine hs.mono ?_
    rintro e w2 ⟨rfl, hE, hb2⟩
    have HE : Hid _ := hE
    clear hE hs
    go_wp2
    go_ret
    exact ⟨_, cap, by rw [← HX.out]; rfl, HE.out, hb.trans hb2⟩
end Go.Proofs.YtbfodpmlmhkikaaDoor
