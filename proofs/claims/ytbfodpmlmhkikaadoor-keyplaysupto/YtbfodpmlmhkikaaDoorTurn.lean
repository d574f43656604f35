/- What a store into one of a map's blocks leaves of it. -/
import Derived.Test.YtbfodpmlmhkikaaDoorGet
namespace Go.Proofs.YtbfodpmlmhkikaaDoor
open Go.ChangeShapes Go.WideShapes Go.ChangeAt Go.RowKit
open Go.ChangeMaps (setBlock)

variable {w w' : World} {M : Mb} {WL : List (Pce × Way)} {HL : List (Int × Ent)} {pl bi : Int}
theorem cell_not_map {b c : Nat} {o : Nat} {v : Value} {es : Array MapEntry} {clk : Nat} (h : w.cell? ⟨b, o, none⟩ = some v) (hm : w.heap[c]? = some (.map es clk)) : b ≠ c := by
  rintro rfl
  unfold World.cell? at h
  simp [hm] at h
theorem MpAt.mw (h : MpAt w M WL HL pl bi) : M.m ≠ M.w := by
  obtain ⟨es, clk, hw⟩ := h.ways
  exact cell_not_map h.c0 hw.at_
theorem MpAt.mh (h : MpAt w M WL HL pl bi) : M.m ≠ M.h := by
  obtain ⟨es, clk, hw⟩ := h.held
  exact cell_not_map h.c0 hw.at_
theorem RowAt.of {a : Option Addr} {r : List Val} {S : Nat → Prop} (h : RowAt w a r) (hf : Fr S w w') (hS : ∀ k o, a = some ⟨k, o, none⟩ → ∀ v, w.cell? ⟨k, o, none⟩ = some v → ¬ S k) : RowAt w' a r := by
  rcases h with h | ⟨b, off, ha, hc⟩
  · exact Or.inl h
  · rcases Nat.eq_zero_or_pos r.length with h0 | h0
    · exact Or.inl h0
    · have hn := hS b off ha _ (by simpa using (hc 0 h0).1)
      exact Or.inr ⟨b, off, ha, fun i hi => ⟨hf.cell hn (hc i hi).1, hf.cell hn (hc i hi).2.1, hf.cell hn (hc i hi).2.2⟩⟩
theorem setBlock_at {b : Nat} (o : Obj) (hb : b < w.heap.size) : (setBlock w b o).heap[b]? = some o := by
  simp [setBlock, hb]
/-- The ways were turned. -/
theorem MpAt.turnW (h : MpAt w M WL HL pl bi) {WL' : List (Pce × Way)} {es : Array MapEntry} {clk : Nat} (hf : Fr (fun k => k = M.w) w w') (hn : MapIs pcE wyE w' M.w WL' es clk) : MpAt w' M WL' HL pl bi := by
  obtain ⟨es0, clk0, hw⟩ := h.ways
  obtain ⟨es1, clk1, hh⟩ := h.held
  exact {
    c0 := hf.cell h.mw h.c0
    c1 := hf.cell h.mw h.c1
    c2 := hf.cell h.mw h.c2
    c3 := hf.cell h.mw h.c3
    f2 := (hf.frozen (cell_lt h.c2) h.mw).trans h.f2
    f3 := (hf.frozen (cell_lt h.c3) h.mw).trans h.f3
    ways := ⟨es, clk, hn⟩
    held := ⟨es1, clk1, ⟨(hf.block M.h (heap_lt hh.at_) (fun e => h.ne e.symm)).trans hh.at_, hh.same, hh.old, hh.once⟩⟩
    rows := fun x hx => ⟨(h.rows x hx).1.of hf (fun k o _ v hv => cell_not_map hv hw.at_), (h.rows x hx).2⟩
    ne := h.ne }
/-- What is held was turned. -/
theorem MpAt.turnH (h : MpAt w M WL HL pl bi) {HL' : List (Int × Ent)} {es : Array MapEntry} {clk : Nat} (hf : Fr (fun k => k = M.h) w w') (hn : MapIs itE enE w' M.h HL' es clk) (hr : ∀ x ∈ HL', RowAt w x.2.a x.2.row ∧ ∀ g o, x.2.a = some ⟨g, o, none⟩ → g ≠ M.m) : MpAt w' M WL HL' pl bi := by
  obtain ⟨es0, clk0, hw⟩ := h.ways
  obtain ⟨es1, clk1, hh⟩ := h.held
  exact {
    c0 := hf.cell h.mh h.c0
    c1 := hf.cell h.mh h.c1
    c2 := hf.cell h.mh h.c2
    c3 := hf.cell h.mh h.c3
    f2 := (hf.frozen (cell_lt h.c2) h.mh).trans h.f2
    f3 := (hf.frozen (cell_lt h.c3) h.mh).trans h.f3
    ways := ⟨es0, clk0, ⟨(hf.block M.w (heap_lt hw.at_) h.ne).trans hw.at_, hw.same, hw.old, hw.once⟩⟩
    held := ⟨es, clk, hn⟩
    rows := fun x hx => ⟨(hr x hx).1.of hf (fun k o _ v hv => cell_not_map hv hh.at_), (hr x hx).2⟩
    ne := h.ne }
/-- One of the counters was turned. -/
theorem MpAt.turnC (h : MpAt w M WL HL pl bi) {pl' bi' : Int} (hf : Fr (fun k => k = M.m) w w') (c0 : w'.cell? ⟨M.m, 0, none⟩ = some (.map (some M.w))) (c1 : w'.cell? ⟨M.m, 1, none⟩ = some (.map (some M.h))) (c2 : w'.cell? ⟨M.m, 2, none⟩ = some (.int .i64 pl')) (c3 : w'.cell? ⟨M.m, 3, none⟩ = some (.int .i64 bi'))
    (f2 : w'.frozen? ⟨M.m, 2, none⟩ = false) (f3 : w'.frozen? ⟨M.m, 3, none⟩ = false) : MpAt w' M WL HL pl' bi' := by
  obtain ⟨es0, clk0, hw⟩ := h.ways
  obtain ⟨es1, clk1, hh⟩ := h.held
  exact {
    c0, c1, c2, c3, f2, f3
    ways := ⟨es0, clk0, ⟨(hf.block M.w (heap_lt hw.at_) (fun e => h.mw e.symm)).trans hw.at_, hw.same, hw.old, hw.once⟩⟩
    held := ⟨es1, clk1, ⟨(hf.block M.h (heap_lt hh.at_) (fun e => h.mh e.symm)).trans hh.at_, hh.same, hh.old, hh.once⟩⟩
    rows := fun x hx => ⟨(h.rows x hx).1.of hf (fun k o ha v _ => (h.rows x hx).2 k o ha), (h.rows x hx).2⟩
    ne := h.ne }
theorem Fr.mono {S S' : Nat → Prop} (h : Fr S w w') (hs : ∀ k, S k → S' k) : Fr S' w w' := ⟨h.os, h.tape, h.output, h.size, fun k hk hS => h.block k hk (fun e => hS (hs k e))⟩
end Go.Proofs.YtbfodpmlmhkikaaDoor
