/- What came and what went, of the code (Diff). -/
import Derived.Test.YtfjpdflilmcnhaaDoorWit
namespace Go.Proofs.YtfjpdflilmcnhaaDoor
open Go.ChangeShapes Go.WideShapes Go.ChangeAt Go.RowKit

def mns (l gone : List Arv) : List Arv := l.filter fun x => !hasS gone x.seq
theorem info49 : (Tryd.prog.info? 49).map (fun i => (i.zero, i.size, i.bytes)) = some (some (.agg #[.slice none 0 0, .slice none 0 0]), 2, 48) := by kernel_rfl
theorem fr_set (w : World) (g j : Nat) (v : Value) : Fr (fun k => k = g) w (w.setCell ⟨g, j, none⟩ v) := (Fr.refl (fun k => k = g) w).setCell (p := ⟨g, j, none⟩) (Or.inl rfl) _
theorem ars_fr {w w' : World} {g B : Nat} {a : Option Addr} {o : List Arv} (h : ArsAt w a o) (hF : Fr (fun k => k = g) w w') (hf : FromA B a o) (hg : g < B) : ArsAt w' a o := by
  refine ⟨?_, fun x hx => hF.vals (h.rows x hx) (fun g' f e => fun e2 => by have := hf.2 x hx g' f e; omega)⟩
  rcases h.cels with h | ⟨b, off, ha, hc⟩
  · exact Or.inl h
  · have hb : ¬ b = g := by have := hf.1 b off ha; omega
    exact Or.inr ⟨b, off, ha, fun i hi => ⟨hF.cell hb (hc i hi).1, hF.cell hb (hc i hi).2.1, hF.cell hb (hc i hi).2.2⟩⟩
set_option maxHeartbeats 8000000 in
theorem Diff_any (a b : Option Addr) (cap bcap : Nat) (l k : List Arv) (w : World) (hn : l.length ≤ 4000000) (hn2 : k.length ≤ 4000000) (hby : ∀ x ∈ l, x.row.length * 32 ≤ 140737488355328) (hby2 : ∀ x ∈ k, x.row.length * 32 ≤ 140737488355328)
    (hl : ArsAt w a l) (hk : ArsAt w b k) :
    Calls Tryd.prog 16 #[.slice a l.length cap, .slice b k.length bcap] w fun e w' => ∃ a' o b' q, e = .returned (.agg #[.slice a' o.length o.length, .slice b' q.length q.length]) ∧ o.map kA = (mns k l).map kA ∧ q.map kA = (mns l k).map kA ∧ ArsAt w' a' o ∧ ArsAt w' b' q ∧ Below w.heap.size w w' := by
  have h1 := fun wx (hb : Below w.heap.size w wx) => without_any b a bcap cap k l wx hn2 hn hby2 (hk.below hb) (hl.below hb).cels
  have h2 := fun wx (hb : Below w.heap.size w wx) => without_any a b cap bcap l k wx hn hn2 hby (hl.below hb) (hk.below hb).cels
  clear hl hk hby hby2
  go_enter Tryd.func16, Tryd.ntmps16
  go_wp2_with fail
  refine (h1 _ (Bel.out (by repeat (first | exact Bel.refl _ | assumption | refine Bel.drew ?_ | refine Bel.drewN ?_ _ | refine Bel.alloc ?_ _ | refine Bel.setCell ?_ (by simp <;> omega) _ | refine Bel.step ?_ (by assumption))))).mono ?_
  rintro e w1 ⟨a', o, rfl, hk1, hA1, hF1, hb1⟩
  have HF1 : Hid (FromA (w.heap.size + 1) a' o) := by have h := hF1; rw [World.size_alloc] at h; exact h
  have HK1 : Hid _ := hk1
  have HA1 : Hid _ := hA1
  have HB1 : Hid (Below w.heap.size w w1) := ((Below.refl w.heap.size w).alloc (Nat.le_refl _) _).trans (hb1.mono (by simp))
  have x0 : w1.cell? ⟨w.heap.size, 0, none⟩ = some (.slice none 0 0) := cell_below hb1 (by go_simp)
  have x1 : w1.cell? ⟨w.heap.size, 1, none⟩ = some (.slice none 0 0) := cell_below hb1 (by go_simp)
  have f0 : w1.frozen? ⟨w.heap.size, 0, none⟩ = false := (hb1.frozen (p := ⟨w.heap.size, 0, none⟩) (by simp)).trans (by go_simp)
  have f1 : w1.frozen? ⟨w.heap.size, 1, none⟩ = false := (hb1.frozen (p := ⟨w.heap.size, 1, none⟩) (by simp)).trans (by go_simp)
  have HGE : Hid (w.heap.size < w1.heap.size) := cell_lt x0
  obtain ⟨g, hg⟩ : ∃ g, w.heap.size = g := ⟨_, rfl⟩
  have HG : Hid (w.heap.size = g) := hg
  clear hk1 hA1 hb1 h1 hF1
  rw [hg] at x0 x1 f0 f1 HF1 HGE ⊢
  clear hg
  go_wp2_with fail
  refine (h2 _ HB1.out).mono ?_
  rintro e w2 ⟨b', q, rfl, hk2, hA2, hF2, hb2⟩
  have HF2 : Hid (FromA w1.heap.size b' q) := hF2
  have HK2 : Hid _ := hk2
  have HA2 : Hid _ := hA2
  have y0 := cell_below hb2 x0
  have y1 := cell_below hb2 x1
  have e0 : w2.frozen? ⟨g, 0, none⟩ = false := (hb2.frozen (p := ⟨g, 0, none⟩) (cell_lt x0)).trans f0
  have e1 : w2.frozen? ⟨g, 1, none⟩ = false := (hb2.frozen (p := ⟨g, 1, none⟩) (cell_lt x1)).trans f1
  have HA1' : Hid (ArsAt w2 a' o) := HA1.out.below hb2
  have HB2 : Hid (Below w.heap.size w w2) := HB1.out.trans (hb2.mono HB1.out.size)
  clear hk2 hA2 hb2 hF2 x0 x1 f0 f1 h2 HA1 HB1
  go_wp2
  have hFr := (fr_set w2 g 0 (Value.slice a' o.length o.length)).trans (fr_set (w2.setCell ⟨g, 0, none⟩ (Value.slice a' o.length o.length)) g 1 (Value.slice b' q.length q.length))
  have t0 : ((w2.setCell ⟨g, 0, none⟩ (Value.slice a' o.length o.length)).setCell ⟨g, 1, none⟩ (Value.slice b' q.length q.length)).cell? ⟨g, 0, none⟩ = some (.slice a' o.length o.length) := by go_simp
  have t1 : ((w2.setCell ⟨g, 0, none⟩ (Value.slice a' o.length o.length)).setCell ⟨g, 1, none⟩ (Value.slice b' q.length q.length)).cell? ⟨g, 1, none⟩ = some (.slice b' q.length q.length) := by go_simp
  refine bodyPost_ret (v := .agg #[.slice a' o.length o.length, .slice b' q.length q.length]) (by simp [results, Tryd.results16, go_sem, t0, t1]) rfl ⟨a', o, b', q, rfl, HK1.out, HK2.out, ars_fr HA1'.out hFr HF1.out (by omega), ars_fr HA2.out hFr HF2.out HGE.out, hFr.below (a := w) (B := w.heap.size) HB2.out.size (fun k hk => by have := HG.out; omega) HB2.out⟩
end Go.Proofs.YtfjpdflilmcnhaaDoor
