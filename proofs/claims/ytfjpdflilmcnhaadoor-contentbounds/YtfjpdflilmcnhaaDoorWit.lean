/- Arrivals whose number is none of others (without). -/
import Derived.Test.YtfjpdflilmcnhaaDoorPik
namespace Go.Proofs.YtfjpdflilmcnhaaDoor
open Go.ChangeShapes Go.WideShapes Go.ChangeAt Go.RowKit

open Go.ChangeMaps (setBlock)
theorem lk_nil {α β : Type} [DecidableEq α] (k : α) : lk ([] : List (α × β)) k = none := rfl
theorem lk_up {α β : Type} [DecidableEq α] {L : List (α × β)} {k k' : α} {v : β} : lk (up L k v) k' = if k = k' then some v else lk L k' := by
  induction L with
  | nil => simp only [up, lk_cons, lk_nil]
  | cons x L ih =>
    by_cases h : x.1 = k
    · simp only [up, if_pos h, lk_cons]
      by_cases e : k = k'
      · rw [if_pos e, if_pos e]
      · rw [if_neg e, if_neg e, if_neg (by rw [h]; exact e)]
    · simp only [up, if_neg h, lk_cons, ih]
      by_cases e : x.1 = k'
      · rw [if_pos e, if_neg (fun e2 => h (e.trans e2.symm))]; rw [if_pos e]
      · rw [if_neg e, if_neg e]
def uE (_ : Unit) : Value := .agg #[]
theorem under73 : Tryd.prog.underlying 73 = some (.map 3 74) := by kernel_rfl
theorem zero74 (u : World) : (zeroValue 74).run Tryd.prog u = .ok (.agg #[]) u := by kernel_rfl
theorem new_at (w : World) (o : Obj) : (w.alloc o).heap[w.heap.size]? = some o := by show (w.heap.push o)[w.heap.size]? = _; simp
theorem make_hint (n : Nat) (w : World) : (Instr.makeMap 73 (some (.int .i64 n))).run Tryd.prog w = .ok (.map (some w.heap.size)) (w.alloc (.map #[] 0)) := by
  simp [Instr.makeMap, asInt, go_sem, Result.andThen]
theorem hasS_take {l : List Arv} {m : Nat} {s : Int} (h : m < l.length) : hasS (l.take (m + 1)) s = (hasS (l.take m) s || (aAt l m).seq == s) := by
  unfold hasS
  rw [aAt_take h, List.any_append]
  simp
/-- The places of those whose number is none of the others'. -/
def plF (l gone : List Arv) (m : Nat) : List Nat := (List.range m).filter fun i => !hasS gone (aAt l i).seq
theorem plF_succ (l gone : List Arv) (m : Nat) : plF l gone (m + 1) = if hasS gone (aAt l m).seq then plF l gone m else plF l gone m ++ [m] := by
  unfold plF
  rw [List.range_succ, List.filter_append]
  cases h : hasS gone (aAt l m).seq <;> simp [h]
theorem plF_lt {l gone : List Arv} {m : Nat} : ∀ p ∈ plF l gone m, p < m := fun p hp => by
  unfold plF at hp
  exact List.mem_range.1 (List.mem_filter.1 hp).1
theorem plF_len (l gone : List Arv) (m : Nat) : (plF l gone m).length ≤ m := by
  unfold plF
  exact Nat.le_trans (List.length_filter_le _ _) (by simp)
theorem plF_kA (l gone : List Arv) : (plF l gone l.length).map (fun p => kA (aAt l p)) = (l.filter fun x => !hasS gone x.seq).map kA := by
  have e : ∀ m, m ≤ l.length → (plF l gone m).map (fun p => aAt l p) = (l.take m).filter fun x => !hasS gone x.seq := by
    intro m
    induction m with
    | zero => intro _; simp [plF]
    | succ m ih =>
      intro hm
      rw [plF_succ, aAt_take (by omega), List.filter_append, ← ih (by omega)]
      cases h : hasS gone (aAt l m).seq <;> simp [h]
  have h := congrArg (List.map kA) (e l.length (Nat.le_refl _))
  rw [List.take_of_length_le (Nat.le_refl _), List.map_map] at h
  exact h
def inC (ps : List Nat) : List Value := ps.map fun (p : Nat) => Value.int .i64 (p : Int)
theorem info3 : (Tryd.prog.info? 3).map (fun i => (i.zero, i.size, i.bytes)) = some (some (.int .i64 0), 1, 8) := by kernel_rfl
theorem ps_of_owns {w : World} {base : Nat} {vv : Value} {ps : List Nat} (h : w.ownsRow base 3 1 vv ps.length (inC ps)) : ∃ a cap, vv = .slice a ps.length cap ∧ PsAt w a ps := by
  have h' := h
  obtain ⟨hlen, ⟨rfl, h0⟩ | ⟨g, cap, cur, rfl, hbg, hg, hcap, hcm, hcs, htake⟩⟩ := h
  · exact ⟨none, 0, by rw [h0], Or.inl (List.length_eq_zero_iff.1 h0)⟩
  refine ⟨_, cap, rfl, Or.inr ⟨g, 0, rfl, fun i hi => ?_⟩⟩
  have hc := h'.cells (g := g) rfl i (.int .i64 (ps.getD i 0 : Nat)) (by
    unfold inC
    rw [List.getElem?_map, List.getElem?_eq_getElem hi, List.getD_eq_getElem?_getD, List.getElem?_eq_getElem hi]; rfl)
  rw [add_plain] at hc
  exact hc
/-- The map that without makes: its keys are the numbers of those. -/
def NumM (w : World) (g : Nat) (gone : List Arv) : Prop := ∃ L es clk, MapIs itE uE w g L es clk ∧ ∀ s, (lk L s).isSome = hasS gone s
theorem NumM.below {w w' : World} {g : Nat} {gone : List Arv} (h : NumM w g gone) (hb : Below w.heap.size w w') : NumM w' g gone := by
  obtain ⟨L, es, clk, h1, h2⟩ := h
  exact ⟨L, es, clk, h1.below hb, h2⟩
theorem NumM.lt {w : World} {g : Nat} {gone : List Arv} (h : NumM w g gone) : g < w.heap.size := by
  obtain ⟨L, es, clk, h1, _⟩ := h
  exact heap_lt h1.at_
theorem NumM.put {w : World} {g : Nat} {gone : List Arv} (h : NumM w g gone) (x : Arv) :
    ∃ es clk, (Instr.mapUpdate 73 (.map (some g)) (.int .i64 x.seq) (.agg #[])).run Tryd.prog w = .ok () (setBlock w g (.map es clk)) ∧ NumM (setBlock w g (.map es clk)) g (gone ++ [x]) := by
  have hlt := h.lt
  obtain ⟨L, es, clk, h1, h2⟩ := h
  obtain ⟨es', clk', h3, h4⟩ := h1.store under73 keys3 x.seq ()
  refine ⟨es', clk', h3, _, es', clk', h4 _ (by simp [setBlock, hlt]), fun s => ?_⟩
  rw [lk_up]
  unfold hasS at h2 ⊢
  rw [List.any_append, ← h2 s]
  by_cases e : x.seq = s <;> simp [e]
theorem NumM.look {w : World} {g : Nat} {gone : List Arv} (h : NumM w g gone) (s : Int) : (Instr.lookup 73 (.map (some g)) (.int .i64 s) true).run Tryd.prog w = .ok (.tuple #[.agg #[], .bool (hasS gone s)]) w := by
  obtain ⟨L, es, clk, h1, h2⟩ := h
  have h3 := h1.lookOk under73 keys3 _ zero74 s
  rw [h2 s] at h3
  have e : ((lk L s).map uE).getD (.agg #[]) = .agg #[] := by cases lk L s <;> rfl
  rw [e] at h3
  exact h3
set_option maxRecDepth 20000 in
set_option maxHeartbeats 8000000 in
theorem without_any (a ga : Option Addr) (cap gcap : Nat) (l gone : List Arv) (w : World) (hn : l.length ≤ 4000000) (hn2 : gone.length ≤ 4000000) (hby : ∀ x ∈ l, x.row.length * 32 ≤ 140737488355328)
    (hl : ArsAt w a l) (hgo : CelsAt w ga gone) :
    Calls Tryd.prog 27 #[.slice a l.length cap, .slice ga gone.length gcap] w fun e w' => ∃ a' o, e = .returned (.slice a' o.length o.length) ∧ o.map kA = (l.filter fun x => !hasS gone x.seq).map kA ∧ ArsAt w' a' o ∧ FromA w.heap.size a' o ∧ Below w.heap.size w w' := by
  have HL : Hid (ArsAt w a l) := hl
  have HGO : Hid (CelsAt w ga gone) := hgo
  clear hl hgo
  have hmk := make_hint gone.length
  go_enter Tryd.func27, Tryd.ntmps27
  go_upto_region 2 with (fail)
  have HN : Hid (NumM (w.alloc (.map #[] 0)) w.heap.size []) := ⟨[], #[], 0, ⟨new_at _ _, rfl, fun e he => by simp at he, by simp⟩, fun _ => rfl⟩
  have HF : Hid (Fr (fun k => k = w.heap.size) w (w.alloc (.map #[] 0))) := (Fr.refl _ w).alloc _
  obtain ⟨g, hg⟩ : ∃ g, w.heap.size = g := ⟨_, rfl⟩
  have HG : Hid (w.heap.size = g) := hg
  rw [hg] at HN HF
  rw [hg]
  clear hg hmk
  generalize (w.alloc (.map #[] 0)) = w1 at *
  go_wp2
  go_loopw [18] (fun i wr => ∃ m : Nat, m ≤ gone.length ∧ i = .int .i64 m ∧ NumM wr g (gone.take m) ∧ Fr (fun k => k = g) w wr) (fun i _ => gone.length - (intOf i).toNat)
  case atStart => exact ⟨0, Nat.zero_le _, rfl, HN.out, HF.out⟩
  case round =>
    obtain ⟨m, hm, rfl, hN, hF⟩ := hrel
    have HN : Hid (NumM wr g (gone.take m)) := hN
    have HF : Hid (Fr (fun k => k = g) w wr) := hF
    clear hN
    rcases Nat.lt_or_ge m gone.length with hlt | hge
    · obtain ⟨b, off, rfl, hc⟩ : ∃ b off, ga = some ⟨b, off, none⟩ ∧ ∀ i, i < gone.length → w.cell? ⟨b, off + i * 3, none⟩ = some (.int .i64 (aAt gone i).seq) ∧ w.cell? ⟨b, off + i * 3 + 1, none⟩ = some (.int .i64 (aAt gone i).time) ∧ w.cell? ⟨b, off + i * 3 + 2, none⟩ = some (.slice (aAt gone i).a (aAt gone i).row.length (aAt gone i).cap) := by
        rcases HGO.out with h | h
        · rw [h] at hlt; cases hlt
        · exact h
      have hg := HG.out
      have hnb : ¬ b = g := by have := cell_lt (hc m hlt).1; omega
      have c0 := hF.cell hnb (hc m hlt).1
      have c1 := hF.cell hnb (hc m hlt).2.1
      have c2 := hF.cell hnb (hc m hlt).2.2
      clear hc hF
      have hxt := aAt_take hlt
      generalize hx : aAt gone m = x at *
      have hb1 : Below wr.heap.size wr (wr.alloc (.cells #[.int .i64 x.seq, .int .i64 x.time, .slice x.a x.row.length x.cap] 40)) := (Below.refl _ _).alloc (Nat.le_refl _) _
      obtain ⟨es, clk, hput, hN2⟩ := (HN.out.below hb1).put x
      rw [← hxt] at hN2
      have HN2 : Hid _ := hN2
      have HF2 : Hid (Fr (fun k => k = g) w (setBlock (wr.alloc (.cells #[.int .i64 x.seq, .int .i64 x.time, .slice x.a x.row.length x.cap] 40)) g (.map es clk))) := (HF.out.step hb1).setBlock rfl _
      clear hN2 HN HF hxt hx hb1
      go_wp2
      go_roundw
      case rel => exact ⟨m + 1, by omega, by go_num, HN2.out, HF2.out⟩
      case measure => simp [intOf]; omega
    · obtain rfl : m = gone.length := by omega
      have HN3 : Hid (NumM wr g gone) := by have := HN.out; rw [List.take_of_length_le (Nat.le_refl _)] at this; exact this
      clear HN hm hge
      go_upto_region 8 with (fail)
      obtain ⟨w2, rfl⟩ : ∃ w2, w2 = wr := ⟨_, rfl⟩
      have hB0 : Below w.heap.size w w2 := hF.below (a := w) (B := w.heap.size) (Nat.le_refl _) (fun k hk => by have := HG.out; omega) (Below.refl _ _)
      have HLr : Hid (ArsAt w2 a l) := HL.out.below hB0
      have HB0 : Hid (Below w.heap.size w w2) := hB0
      obtain ⟨i0, hi, hz0⟩ := Option.map_eq_some_iff.1 info3
      simp only [Prod.mk.injEq] at hz0
      obtain ⟨hz, hs, hb3⟩ := hz0
      clear hF HF hB0 HL HGO HG
      go_wp2
      go_loopw [8, 29] (fun v i wr => ∃ (m : Nat) (v1 : Value), m ≤ l.length ∧ v = v1 ∧ i = .int .i64 m ∧ wr.ownsRow w2.heap.size 3 1 v1 (plF l gone m).length (inC (plF l gone m)) ∧ Bel w2.heap.size w2 wr) (fun _ i _ => l.length - (intOf i).toNat)
      case atStart => exact ⟨0, _, Nat.zero_le _, rfl, rfl, World.ownsRow_nil _ _ _ _, Bel.refl _⟩
      case round =>
        obtain ⟨m, v1, hm, hv, rfl, hO, HB⟩ := hrel
        have hv2 := hv.symm
        clear hv
        subst hv2
        have HO : Hid (wr.ownsRow w2.heap.size 3 1 v1 (plF l gone m).length (inC (plF l gone m))) := hO
        have HLq : Hid (ArsAt wr a l) := HLr.out.below HB.out
        have HNq : Hid (NumM wr g gone) := HN3.out.below HB.out
        clear hO
        rcases Nat.lt_or_ge m l.length with hlt | hge
        · obtain ⟨b, off, rfl, hc⟩ : ∃ b off, a = some ⟨b, off, none⟩ ∧ ∀ i, i < l.length → wr.cell? ⟨b, off + i * 3, none⟩ = some (.int .i64 (aAt l i).seq) ∧ wr.cell? ⟨b, off + i * 3 + 1, none⟩ = some (.int .i64 (aAt l i).time) ∧ wr.cell? ⟨b, off + i * 3 + 2, none⟩ = some (.slice (aAt l i).a (aAt l i).row.length (aAt l i).cap) := by
            rcases HLq.out.cels with h | h
            · rw [h] at hlt; cases hlt
            · exact h
          obtain ⟨c0, c1, c2⟩ := hc m hlt
          clear hc
          have hps := plF_succ l gone m
          have hpl := plF_len l gone m
          generalize hx : aAt l m = x at *
          have hlk := fun wx (hb : Below wr.heap.size wr wx) => (HNq.out.below hb).look x.seq
          go_upto_region 11 with (fail)
          have hlk1 := hlk _ ((Below.refl wr.heap.size wr).alloc (Nat.le_refl _) (.cells #[.int .i64 x.seq, .int .i64 x.time, .slice x.a x.row.length x.cap] 40))
          generalize hhb : hasS gone x.seq = hb at *
          go_upto_region 12 with (fail)
          have HB3 : Hid (Bel w2.heap.size w2 ((wr.alloc (.cells #[.int .i64 x.seq, .int .i64 x.time, .slice x.a x.row.length x.cap] 40)).alloc (.cells #[] 74))) := (HB.alloc _).alloc _
          have HO3 : Hid (World.ownsRow ((wr.alloc (.cells #[.int .i64 x.seq, .int .i64 x.time, .slice x.a x.row.length x.cap] 40)).alloc (.cells #[] 74)) w2.heap.size 3 1 v1 (plF l gone m).length (inC (plF l gone m))) := (HO.out.alloc _).alloc _
          clear HB HO HLq HNq c0 c1 c2 hlk1 hlk
          generalize ((wr.alloc (.cells #[.int .i64 x.seq, .int .i64 x.time, .slice x.a x.row.length x.cap] 40)).alloc (.cells #[] 74)) = w3 at *
          cases hb
          · have hps2 : plF l gone (m + 1) = plF l gone m ++ [m] := by rw [hps]; rfl
            have hrow : Hid ((w3.alloc (.cells #[.int .i64 m] 3)).ownsRow w2.heap.size 3 1 v1 (plF l gone m).length (inC (plF l gone m))) := HO3.out.alloc _
            have hcel : Hid (∀ j u, ([Value.int .i64 m])[j]? = some u → (w3.alloc (.cells #[.int .i64 m] 3)).cell? ((⟨w3.heap.size, 0, none⟩ : Addr).add j) = some u) := by
              intro j u hj
              rw [add_plain]
              match j, hj with
              | 0, hj => simp only [List.getElem?_cons_zero, Option.some.injEq] at hj; subst hj; simp only [Nat.zero_add]; go_simp
              | j + 1, hj => simp at hj
            have hone : Hid (∀ u ∈ [Value.int .i64 m], u.oneCell' = true) := by intro u hu; simp only [List.mem_singleton] at hu; subst hu; rfl
            have hnl : (plF l gone m).length + 1 ≤ maxLen := by unfold maxLen; omega
            have hby1 : ((plF l gone m).length + 1) * 8 ≤ 140737488355328 := by omega
            have hbw2 : w2.heap.size ≤ (w3.alloc (.cells #[.int .i64 m] 3)).heap.size := by rw [World.size_alloc]; have := HB3.out.le; omega
            have hvl : Hid (([Value.int .i64 m]).length = 1 * 1) := rfl
            go_wp2_with (at_builtin; refine wpList_append_own _ rfl _ _ 22 rfl w2.heap.size 3 i0 (.int .i64 0) 1 8 Tryd.underlying22 hi hz hs hb3 rfl (by decide) _ _ _ rfl hrow.out ⟨w3.heap.size, 0, none⟩ 1 1 [Value.int .i64 m] rfl hvl.out hcel.out hone.out hnl hby1 hbw2 ?_)
            intro v4 w4 hown4 hgrow4 hi4
            clear hi4
            have HO4 : Hid (w4.ownsRow w2.heap.size 3 1 v4 (plF l gone (m + 1)).length (inC (plF l gone (m + 1)))) := by
              show World.ownsRow _ _ _ _ _ _ _
              have e : inC (plF l gone m ++ [m]) = inC (plF l gone m) ++ [Value.int .i64 m] := by simp [inC]
              rw [hps2, e, List.length_append, List.length_singleton]; exact hown4
            have hB4 : Bel w2.heap.size w2 w4 := by
              have h2 := (HB3.out.alloc (.cells #[.int .i64 m] 3)).out.grown hgrow4 hbw2 (fun j hj => (hrow.out.lt j hj).1)
              exact ⟨h2, h2.size⟩
            clear hown4 hgrow4 hrow hcel hone hvl HO3 HB3 hps hps2
            go_wp2
            go_roundw
            case rel => exact ⟨m + 1, v4, by omega, rfl, by go_num, HO4.out, hB4⟩
            case measure => simp [intOf]; omega
          · have hps2 : plF l gone (m + 1) = plF l gone m := by rw [hps]; rfl
            have HO4 : Hid (w3.ownsRow w2.heap.size 3 1 v1 (plF l gone (m + 1)).length (inC (plF l gone (m + 1)))) := by
              show World.ownsRow _ _ _ _ _ _ _
              rw [hps2]; exact HO3.out
            clear HO3 hps hps2
            go_wp2
            go_roundw
            case rel => exact ⟨m + 1, v1, by omega, rfl, by go_num, HO4.out, HB3.out⟩
            case measure => simp [intOf]; omega
        · obtain rfl : m = l.length := by omega
          obtain ⟨pa, pcap, rfl, hpa⟩ := ps_of_owns HO.out
          have hpl := plF_len l gone l.length
          have hkk := plF_kA l gone
          have hpick := fun wx (hb : Below wr.heap.size wr wx) => pick_any a pa cap pcap l (plF l gone l.length) wx (by omega) (by omega) plF_lt hby (HLq.out.below hb) (hpa.below hb)
          have HKK : Hid _ := hkk
          have HBB : Hid (Below w.heap.size w wr) := HB0.out.trans (HB.out.mono HB0.out.size)
          clear HO HLq HNq hpa hkk HB HB0 hby
          generalize hpf : (plF l gone l.length) = ps at *
          go_wp2_with fail
          refine (hpick _ (Bel.out (by repeat (first | exact Bel.refl _ | assumption | refine Bel.drew ?_ | refine Bel.drewN ?_ _ | refine Bel.alloc ?_ _ | refine Bel.setCell ?_ (by simp <;> omega) _ | refine Bel.step ?_ (by assumption))))).mono ?_
          rintro e w5 ⟨a', o, rfl, hk, hA, hFA, hb5⟩
          have HFA : Hid (FromA w.heap.size a' o) := ⟨fun g f e => Nat.le_trans HBB.out.size (hFA.1 g f e), fun x hx g f e => Nat.le_trans HBB.out.size (hFA.2 x hx g f e)⟩
          have HK : Hid _ := hk
          have HA : Hid _ := hA
          have HB5 : Hid (Below w.heap.size w w5) := HBB.out.trans (hb5.mono HBB.out.size)
          clear hk hA hb5 hpick hFA
          go_wp2
          go_ret
          exact ⟨a', o, rfl, HK.out.trans HKK.out, HA.out, HFA.out, HB5.out⟩
end Go.Proofs.YtfjpdflilmcnhaaDoor
