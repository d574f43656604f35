/- The arrivals at places, in new memory (pick). -/
import Derived.Test.YtfjpdflilmcnhaaDoorSmq
namespace Go.Proofs.YtfjpdflilmcnhaaDoor
open Go.ChangeShapes Go.WideShapes Go.ChangeAt Go.RowKit

def arT (x : Arv) : List Value := [.int .i64 x.seq, .int .i64 x.time, .slice x.a x.row.length x.cap]
theorem arC_flat (l : List Arv) : arC l = l.flatMap arT := by
  have e : l = (List.range l.length).map (aAt l) := by
    apply List.ext_getElem?
    intro i
    rw [List.getElem?_map]
    rcases Nat.lt_or_ge i l.length with h | h
    · rw [List.getElem?_range h, List.getElem?_eq_getElem h]
      show some l[i] = some (aAt l i)
      unfold aAt
      rw [List.getD_eq_getElem?_getD, List.getElem?_eq_getElem h]; rfl
    · rw [List.getElem?_eq_none h, List.getElem?_eq_none (by simpa using h)]; rfl
  have e2 : (((List.range l.length).map (aAt l)).flatMap arT) = arC l := by
    rw [List.flatMap_map]; rfl
  rw [← e2, ← e]
theorem arC_cons (x : Arv) (l : List Arv) : arC (x :: l) = .int .i64 x.seq :: .int .i64 x.time :: .slice x.a x.row.length x.cap :: arC l := by
  rw [arC_flat, arC_flat]; rfl
/-- Another arrival at a place: three cells. -/
theorem arC_set (l : List Arv) (i : Nat) (h : i < l.length) (x : Arv) : arC (l.set i x) = (((arC l).set (i * 3) (.int .i64 x.seq)).set (i * 3 + 1) (.int .i64 x.time)).set (i * 3 + 2) (.slice x.a x.row.length x.cap) := by
  induction l generalizing i with
  | nil => simp at h
  | cons y l ih =>
    cases i with
    | zero => rw [List.set_cons_zero, arC_cons, arC_cons]; rfl
    | succ i =>
      rw [List.set_cons_succ, arC_cons, arC_cons, ih i (by simpa using h), show (i + 1) * 3 = i * 3 + 1 + 1 + 1 by omega, show i * 3 + 1 + 1 + 1 + 1 = (i * 3 + 1) + 1 + 1 + 1 by omega, show i * 3 + 1 + 1 + 1 + 2 = (i * 3 + 2) + 1 + 1 + 1 by omega]
      simp only [List.set_cons_succ]
/-- The row of an arrival elsewhere: one cell. -/
theorem arC_row (l : List Arv) (i : Nat) (h : i < l.length) (a : Option Addr) (c : Nat) (r : List Val) : (arC l).set (i * 3 + 2) (.slice a r.length c) = arC (l.set i ⟨(aAt l i).seq, (aAt l i).time, a, c, r⟩) := by
  induction l generalizing i with
  | nil => simp at h
  | cons y l ih =>
    cases i with
    | zero => rw [List.set_cons_zero, arC_cons, arC_cons]; rfl
    | succ i =>
      have hp : aAt (y :: l) (i + 1) = aAt l i := rfl
      rw [List.set_cons_succ, arC_cons, arC_cons, hp, ← ih i (by simpa using h), show (i + 1) * 3 + 2 = (i * 3 + 2) + 1 + 1 + 1 by omega]
      simp only [List.set_cons_succ]
theorem arC_made (n : Nat) : (madeCells #[.int .i64 0, .int .i64 0, .slice none 0 0] (n * 3)).toList = arC (List.replicate n arZ) := by
  rw [arC_flat]
  induction n with
  | zero => simp [madeCells]
  | succ n ih =>
    rw [List.replicate_succ', List.flatMap_append, ← ih]
    unfold madeCells
    rw [show (n + 1) * 3 = n * 3 + 1 + 1 + 1 by omega]
    simp only [Array.toList_map, Array.toList_range, List.range_succ, List.map_append, List.map_cons, List.map_nil, List.append_assoc]
    congr 1
    have e0 : (n * 3) % (#[Value.int .i64 0, .int .i64 0, .slice none 0 0] : Array Value).size = 0 := by show n * 3 % 3 = 0; omega
    have e1 : (n * 3 + 1) % (#[Value.int .i64 0, .int .i64 0, .slice none 0 0] : Array Value).size = 1 := by show (n * 3 + 1) % 3 = 1; omega
    have e2 : (n * 3 + 1 + 1) % (#[Value.int .i64 0, .int .i64 0, .slice none 0 0] : Array Value).size = 2 := by show (n * 3 + 1 + 1) % 3 = 2; omega
    rw [e0, e1, e2]; rfl
theorem aAt_set_same {l : List Arv} {i : Nat} (h : i < l.length) (x : Arv) : aAt (l.set i x) i = x := by
  unfold aAt; rw [List.getD_eq_getElem?_getD, List.getElem?_set_self h]; rfl
theorem aAt_set_ne {l : List Arv} {i j : Nat} (h : i ≠ j) (x : Arv) : aAt (l.set i x) j = aAt l j := by
  unfold aAt; rw [List.getD_eq_getElem?_getD, List.getElem?_set_ne h, ← List.getD_eq_getElem?_getD]
theorem owns_view {w : World} {base g cap : Nat} {l : List Arv} (h : w.ownsRow base 40 3 (.slice (some ⟨g, 0, none⟩) l.length cap) l.length (arC l)) : CelsAt w (some ⟨g, 0, none⟩) l := by
  obtain ⟨a, c, e, hc, _⟩ := ars_of_owns h
  injection e with e1 _ _
  rw [e1]; exact hc
/-- A slice of places. -/
def PsAt (w : World) (a : Option Addr) (ps : List Nat) : Prop := ps = [] ∨ ∃ b off, a = some ⟨b, off, none⟩ ∧ ∀ i, i < ps.length → w.cell? ⟨b, off + i, none⟩ = some (.int .i64 (ps.getD i 0 : Nat))
theorem PsAt.below {w w' : World} {a : Option Addr} {ps : List Nat} (h : PsAt w a ps) (hb : Below w.heap.size w w') : PsAt w' a ps := by
  rcases h with h | ⟨b, off, ha, hc⟩
  · exact Or.inl h
  · exact Or.inr ⟨b, off, ha, fun i hi => cell_below hb (hc i hi)⟩
/-- What pick has laid behind m rounds. -/
structure PkI (w : World) (g n m : Nat) (K : List (Int × Int × List Val)) (o : List Arv) : Prop where
  own : w.ownsRow g 40 3 (.slice (some ⟨g, 0, none⟩) n n) n (arC o)
  len : o.length = n
  keys : (o.take m).map kA = K.take m
  rows : ∀ x ∈ o.take m, RowAt w x.a x.row ∧ ∀ g' f, x.a = some ⟨g', f, none⟩ → g < g'
theorem rowAt_set {w : World} {a : Option Addr} {r : List Val} (h : RowAt w a r) {g j : Nat} {v : Value} (hg : ∀ g' f, a = some ⟨g', f, none⟩ → g' ≠ g) : RowAt (w.setCell ⟨g, j, none⟩ v) a r := by
  have hF : Fr (fun k => k = g) w (w.setCell ⟨g, j, none⟩ v) := (Fr.refl (fun k => k = g) w).setCell (p := ⟨g, j, none⟩) (Or.inl rfl) _
  exact hF.vals h (fun g' f e => hg g' f e)
theorem rowAt_lt {w : World} {a : Option Addr} {r : List Val} (h : RowAt w a r) {g f : Nat} (ha : a = some ⟨g, f, none⟩) : r = [] ∨ g < w.heap.size := by
  rcases h with h | ⟨b, off, e, hc⟩
  · exact Or.inl (List.length_eq_zero_iff.1 h)
  · rw [e] at ha
    injection ha with ha
    injection ha with h1 _ _
    subst h1
    rcases Nat.eq_zero_or_pos r.length with h0 | h0
    · exact Or.inl (List.length_eq_zero_iff.1 h0)
    · exact Or.inr (cell_lt (hc 0 h0).1)
theorem rowAt_old {w w' : World} {a : Option Addr} {r : List Val} {g : Nat} (h : RowAt w a r) (hF : Fr (fun k => k = g) w w') (hg : w.heap.size ≤ g) : RowAt w' a r := by
  by_cases h0 : r = []
  · exact Or.inl (by rw [h0]; rfl)
  · exact hF.vals h (fun g' f e => fun e2 => by rcases rowAt_lt h e with h1 | h1; exact h0 h1; omega)
theorem gt_ne {a : Option Addr} {g : Nat} (h : ∀ g' f, a = some ⟨g', f, Option.none⟩ → g < g') : ∀ g' f, a = some ⟨g', f, Option.none⟩ → g' ≠ g := fun g' f e => by have := h g' f e; omega
/-- The blocks of arrivals stand from B on. -/
def FromA (B : Nat) (a : Option Addr) (o : List Arv) : Prop := (∀ g f, a = some ⟨g, f, Option.none⟩ → B ≤ g) ∧ ∀ x ∈ o, ∀ g f, x.a = some ⟨g, f, Option.none⟩ → B ≤ g
/-- One arrival is laid at its place. -/
theorem PkI.step {w2 w3 : World} {g n m : Nat} {K : List (Int × Int × List Val)} {o : List Arv} {x : Arv} {a' : Option Addr} {cap' : Nat} (hm : m < n) (hlen : o.length = n)
    (hkeys : (o.take m).map kA = K.take m) (hrows : ∀ x ∈ o.take m, RowAt w2 x.a x.row ∧ ∀ g' f, x.a = some ⟨g', f, none⟩ → g < g')
    (hown : w2.ownsRow g 40 3 (.slice (some ⟨g, 0, none⟩) n n) n (arC (o.set m x)))
    (hb : Below w2.heap.size w2 w3) (hr : RowAt w3 a' x.row) (ha : ∀ g' f, a' = some ⟨g', f, none⟩ → g < g') (hK : K[m]? = some (kA x)) :
    PkI (w3.setCell ⟨g, m * 3 + 2, none⟩ (.slice a' x.row.length cap')) g n (m + 1) K (o.set m ⟨x.seq, x.time, a', cap', x.row⟩) := by
  have h3 := owns_below hown hb
  have h4 := (h3.stored (m * 3 + 2) (.slice a' x.row.length cap')).1
  have hml : m < (o.set m x).length := by rw [List.length_set]; omega
  rw [arC_row (o.set m x) m hml a' cap' x.row, aAt_set_same (by omega), List.set_set] at h4
  have ht : (o.set m ⟨x.seq, x.time, a', cap', x.row⟩).take (m + 1) = o.take m ++ [⟨x.seq, x.time, a', cap', x.row⟩] := by
    rw [aAt_take (by rw [List.length_set]; omega), aAt_set_same (by omega), List.take_set_of_le (Nat.le_refl _)]
  refine ⟨h4, by rw [List.length_set]; exact hlen, ?_, ?_⟩
  · rw [ht, List.map_append, hkeys]
    have hmk : m < K.length := (List.getElem?_eq_some_iff.1 hK).1
    rw [List.take_succ_eq_append_getElem hmk]
    have := (List.getElem?_eq_some_iff.1 hK).2
    rw [this]; rfl
  · intro y hy
    rw [ht, List.mem_append] at hy
    rcases hy with hy | hy
    · have := hrows y hy
      exact ⟨rowAt_set (this.1.below hb) (gt_ne this.2), this.2⟩
    · simp only [List.mem_singleton] at hy
      subst hy
      exact ⟨rowAt_set hr (gt_ne ha), ha⟩
set_option maxRecDepth 20000 in
set_option maxHeartbeats 8000000 in
theorem pick_any (a pa : Option Addr) (cap pcap : Nat) (l : List Arv) (ps : List Nat) (w : World) (hn : ps.length ≤ 4000000) (_hlen : l.length ≤ 9223372036854775807) (hp : ∀ p ∈ ps, p < l.length) (hby : ∀ x ∈ l, x.row.length * 32 ≤ 140737488355328)
    (hl : ArsAt w a l) (hps : PsAt w pa ps) :
    Calls Tryd.prog 25 #[.slice a l.length cap, .slice pa ps.length pcap] w fun e w' => ∃ a' o, e = .returned (.slice a' o.length o.length) ∧ o.map kA = ps.map (fun p => kA (aAt l p)) ∧ ArsAt w' a' o ∧ FromA w.heap.size a' o ∧ Below w.heap.size w w' := by
  obtain ⟨i0, hi, hz0⟩ := Option.map_eq_some_iff.1 info40
  simp only [Prod.mk.injEq] at hz0
  obtain ⟨hz, hs, hb3⟩ := hz0
  generalize hnn : ps.length = n at hn ⊢
  have HL : Hid (ArsAt w a l) := hl
  have HP : Hid (PsAt w pa ps) := hps
  clear hl hps
  go_enter Tryd.func25, Tryd.ntmps25
  go_wp2_with (at_make; refine wpList_make_full _ rfl _ _ 31 rfl w.heap.size 40 i0 (.agg #[.int .i64 0, .int .i64 0, .slice none 0 0]) 3 Tryd.underlying31 hi hz hs .i64 .i64 _ _ n rfl rfl rfl rfl (by rw [hb3]; omega) (by unfold maxLen; omega) (Nat.le_refl _) ?_)
  intro w1 hown hgrow
  have HO : Hid (PkI w1 w.heap.size n 0 (ps.map fun p => kA (aAt l p)) (List.replicate n arZ)) := by
    rw [arC_made] at hown
    exact ⟨hown, by simp, by simp, fun x hx => by simp at hx⟩
  have HB1 : Bel w.heap.size w w1 := by
    have h := (Below.refl w.heap.size w).grown hgrow (Nat.le_refl _) (fun _ h => by cases h)
    exact ⟨h, h.size⟩
  have hF1 : Hid (Fr (fun k => k = w.heap.size) w w1) := Fr.of HB1.out
  have hlt1 : Hid (w.heap.size < w1.heap.size) := by
    have := hown.lt w.heap.size rfl
    exact this.2
  clear hown hgrow hi hz hs hb3 i0
  obtain ⟨g, hg⟩ : ∃ g, w.heap.size = g := ⟨_, rfl⟩
  have HG : Hid (w.heap.size = g) := hg
  rw [hg] at HO hF1 hlt1 HB1
  rw [hg]
  clear hg
  go_wp2
  go_loopw [13] (fun i wr => ∃ (m : Nat) (o : List Arv), m ≤ n ∧ i = .int .i64 m ∧ PkI wr g n m (ps.map fun p => kA (aAt l p)) o ∧ Fr (fun k => k = g) w wr ∧ g < wr.heap.size) (fun i _ => n - (intOf i).toNat)
  case atStart => exact ⟨0, _, Nat.zero_le _, rfl, HO.out, hF1.out, hlt1.out⟩
  case round =>
    obtain ⟨m, o, hm, rfl, hI, hF, hgl⟩ := hrel
    have HI : Hid (PkI wr g n m (ps.map fun p => kA (aAt l p)) o) := hI
    have HF : Hid (Fr (fun k => k = g) w wr) := hF
    clear hI hF hF1 HO HB1
    rcases Nat.lt_or_ge m n with hlt | hge
    · have hI := HI.out
      have hF := HF.out
      have hg := HG.out
      have hml : m < ps.length := by omega
      obtain ⟨p, hpe⟩ : ∃ p, ps.getD m 0 = p := ⟨_, rfl⟩
      have hpm : p ∈ ps := by rw [← hpe, List.getD_eq_getElem?_getD, List.getElem?_eq_getElem hml]; exact List.getElem_mem hml
      have hpl := hp p hpm
      obtain ⟨pb, poff, rfl, hpc⟩ : ∃ b off, pa = some ⟨b, off, none⟩ ∧ ∀ i, i < ps.length → w.cell? ⟨b, off + i, none⟩ = some (.int .i64 (ps.getD i 0 : Nat)) := by
        rcases HP.out with h | h
        · rw [h] at hml; cases hml
        · exact h
      obtain ⟨b, off, rfl, hc⟩ : ∃ b off, a = some ⟨b, off, none⟩ ∧ ∀ i, i < l.length → w.cell? ⟨b, off + i * 3, none⟩ = some (.int .i64 (aAt l i).seq) ∧ w.cell? ⟨b, off + i * 3 + 1, none⟩ = some (.int .i64 (aAt l i).time) ∧ w.cell? ⟨b, off + i * 3 + 2, none⟩ = some (.slice (aAt l i).a (aAt l i).row.length (aAt l i).cap) := by
        rcases HL.out.cels with h | h
        · rw [h] at hpl; cases hpl
        · exact h
      have q0 := hpc m hml
      rw [hpe] at q0
      obtain ⟨k0, k1, k2⟩ := hc p hpl
      have hnp : ¬ pb = g := by have := cell_lt q0; omega
      have hnb : ¬ b = g := by have := cell_lt k0; omega
      have hrx := HL.out.rows _ (aAt_mem hpl)
      have hxb := hby _ (aAt_mem hpl)
      have hKm : (ps.map fun p => kA (aAt l p))[m]? = some (kA (aAt l p)) := by
        rw [List.getElem?_map, List.getElem?_eq_getElem hml, ← hpe, List.getD_eq_getElem?_getD, List.getElem?_eq_getElem hml]; rfl
      generalize hx : aAt l p = x at *
      have q0 := hF.cell hnp q0
      have c0 := hF.cell hnb k0
      have c1 := hF.cell hnb k1
      have c2 := hF.cell hnb k2
      have hv : CelsAt wr (some ⟨g, 0, none⟩) o := by
        refine owns_view (base := g) (cap := n) ?_
        rw [hI.len]; exact hI.own
      obtain ⟨v0, v1, v2⟩ : wr.cell? ⟨g, m * 3, none⟩ = some (.int .i64 (aAt o m).seq) ∧ wr.cell? ⟨g, m * 3 + 1, none⟩ = some (.int .i64 (aAt o m).time) ∧ wr.cell? ⟨g, m * 3 + 2, none⟩ = some (.slice (aAt o m).a (aAt o m).row.length (aAt o m).cap) := by
        rcases hv with h | ⟨b', off', e, h⟩
        · have := hI.len; rw [h] at this; simp at this; omega
        · injection e with e
          injection e with e1 e2 _
          subst e1 e2
          have := h m (by have := hI.len; omega)
          simpa using this
      have f0 : wr.frozen? ⟨g, m * 3, none⟩ = false := hI.own.frozenAt _
      have f1 : wr.frozen? ⟨g, m * 3 + 1, none⟩ = false := hI.own.frozenAt _
      have f2 : wr.frozen? ⟨g, m * 3 + 2, none⟩ = false := hI.own.frozenAt _
      clear hv hc hpc hI hF k0 k1 k2 HL HP hp hby
      go_upto_region 6 with (fail)
      have hO2 : World.ownsRow (((wr.setCell ⟨g, m * 3, none⟩ (.int .i64 x.seq)).setCell ⟨g, m * 3 + 1, none⟩ (.int .i64 x.time)).setCell ⟨g, m * 3 + 2, none⟩ (.slice x.a x.row.length x.cap)) g 40 3 (.slice (some ⟨g, 0, none⟩) n n) n (arC (o.set m x)) := by
        have h := (((HI.out.own.stored (m * 3) (.int .i64 x.seq)).1.stored (m * 3 + 1) (.int .i64 x.time)).1.stored (m * 3 + 2) (.slice x.a x.row.length x.cap)).1
        rw [← arC_set o m (by have := HI.out.len; omega) x] at h
        exact h
      have hF2 : Fr (fun k => k = g) w (((wr.setCell ⟨g, m * 3, none⟩ (.int .i64 x.seq)).setCell ⟨g, m * 3 + 1, none⟩ (.int .i64 x.time)).setCell ⟨g, m * 3 + 2, none⟩ (.slice x.a x.row.length x.cap)) := ((HF.out.setCell (p := ⟨g, m * 3, none⟩) (Or.inl rfl) _).setCell (p := ⟨g, m * 3 + 1, none⟩) (Or.inl rfl) _).setCell (p := ⟨g, m * 3 + 2, none⟩) (Or.inl rfl) _
      have hwk : ∀ y ∈ o.take m, RowAt (((wr.setCell ⟨g, m * 3, none⟩ (.int .i64 x.seq)).setCell ⟨g, m * 3 + 1, none⟩ (.int .i64 x.time)).setCell ⟨g, m * 3 + 2, none⟩ (.slice x.a x.row.length x.cap)) y.a y.row ∧ ∀ g' f, y.a = some ⟨g', f, none⟩ → g < g' := fun y hy => by
        have h := HI.out.rows y hy
        exact ⟨rowAt_set (rowAt_set (rowAt_set h.1 (gt_ne h.2)) (gt_ne h.2)) (gt_ne h.2), h.2⟩
      have hr2 : RowAt (((wr.setCell ⟨g, m * 3, none⟩ (.int .i64 x.seq)).setCell ⟨g, m * 3 + 1, none⟩ (.int .i64 x.time)).setCell ⟨g, m * 3 + 2, none⟩ (.slice x.a x.row.length x.cap)) x.a x.row := rowAt_old hrx hF2 (by omega)
      have y2 : World.cell? (((wr.setCell ⟨g, m * 3, none⟩ (.int .i64 x.seq)).setCell ⟨g, m * 3 + 1, none⟩ (.int .i64 x.time)).setCell ⟨g, m * 3 + 2, none⟩ (.slice x.a x.row.length x.cap)) ⟨b, off + p * 3 + 2, none⟩ = some (.slice x.a x.row.length x.cap) := by
        have hF' : Fr (fun k => k = g) wr (((wr.setCell ⟨g, m * 3, none⟩ (.int .i64 x.seq)).setCell ⟨g, m * 3 + 1, none⟩ (.int .i64 x.time)).setCell ⟨g, m * 3 + 2, none⟩ (.slice x.a x.row.length x.cap)) := (((Fr.refl (fun k => k = g) wr).setCell (p := ⟨g, m * 3, none⟩) (Or.inl rfl) _).setCell (p := ⟨g, m * 3 + 1, none⟩) (Or.inl rfl) _).setCell (p := ⟨g, m * 3 + 2, none⟩) (Or.inl rfl) _
        exact hF'.cell hnb c2
      have z2 : ∃ u, World.cell? (((wr.setCell ⟨g, m * 3, none⟩ (.int .i64 x.seq)).setCell ⟨g, m * 3 + 1, none⟩ (.int .i64 x.time)).setCell ⟨g, m * 3 + 2, none⟩ (.slice x.a x.row.length x.cap)) ⟨g, m * 3 + 2, none⟩ = some u := ⟨_, World.cell?_setCell_same _ _ _ (by
        rw [World.cell?_setCell_other _ _ _ _ (by simp), World.cell?_setCell_other _ _ _ _ (by simp)]; exact v2)⟩
      have hf2 : World.frozen? (((wr.setCell ⟨g, m * 3, none⟩ (.int .i64 x.seq)).setCell ⟨g, m * 3 + 1, none⟩ (.int .i64 x.time)).setCell ⟨g, m * 3 + 2, none⟩ (.slice x.a x.row.length x.cap)) ⟨g, m * 3 + 2, none⟩ = false := hO2.frozenAt _
      have hsz : g < (World.heap (((wr.setCell ⟨g, m * 3, none⟩ (.int .i64 x.seq)).setCell ⟨g, m * 3 + 1, none⟩ (.int .i64 x.time)).setCell ⟨g, m * 3 + 2, none⟩ (.slice x.a x.row.length x.cap))).size := by simpa [World.setCell] using hgl
      have HO2 : Hid _ := hO2
      have HF2 : Hid _ := hF2
      have HWK : Hid _ := hwk
      have HR2 : Hid _ := hr2
      have HLEN : Hid (o.length = n) := HI.out.len
      have HKEY : Hid ((o.take m).map kA = (ps.map fun p => kA (aAt l p)).take m) := HI.out.keys
      have HKM : Hid _ := hKm
      have HK2 : Hid (g < (World.heap (((wr.setCell ⟨g, m * 3, none⟩ (.int .i64 x.seq)).setCell ⟨g, m * 3 + 1, none⟩ (.int .i64 x.time)).setCell ⟨g, m * 3 + 2, none⟩ (.slice x.a x.row.length x.cap))).size) := hsz
      clear hO2 hF2 hwk hr2 c0 c1 c2 v0 v1 v2 f0 f1 f2 HI HF hrx q0 hKm hsz hgl
      obtain ⟨z, z2⟩ := z2
      generalize (((wr.setCell ⟨g, m * 3, none⟩ (.int .i64 x.seq)).setCell ⟨g, m * 3 + 1, none⟩ (.int .i64 x.time)).setCell ⟨g, m * 3 + 2, none⟩ (.slice x.a x.row.length x.cap)) = w2 at *
      have hcall := fun wx (hb : Below w2.heap.size w2 wx) => Clone_any x.a x.cap x.row wx hxb (HR2.out.below hb)
      go_wp2_with fail
      refine (hcall _ (Bel.out (by repeat (first | exact Bel.refl _ | assumption | refine Bel.drew ?_ | refine Bel.drewN ?_ _ | refine Bel.alloc ?_ _ | refine Bel.setCell ?_ (by simp <;> omega) _ | refine Bel.step ?_ (by assumption))))).mono ?_
      rintro e w3 ⟨a', cap', rfl, hr3, ha3, hb3⟩
      have hb23 : Below w2.heap.size w2 w3 := by first | exact hb3 | exact ((Bel.out (by repeat (first | exact Bel.refl _ | assumption | refine Bel.drew ?_ | refine Bel.drewN ?_ _ | refine Bel.alloc ?_ _ | refine Bel.setCell ?_ (by simp <;> omega) _ | refine Bel.step ?_ (by assumption)))) : Below w2.heap.size w2 _).trans (hb3.mono (by first | exact Nat.le_refl _ | simp))
      have z3 := cell_below hb23 z2
      have hf3 : w3.frozen? ⟨g, m * 3 + 2, none⟩ = false := (hb23.frozen (p := ⟨g, m * 3 + 2, none⟩) (cell_lt z2)).trans hf2
      have HR3 : Hid (RowAt w3 a' x.row) := hr3
      have HA3 : Hid (∀ g' f, a' = some ⟨g', f, none⟩ → g < g') := fun g' f e => by have := (ha3 g' f e).1; have := HK2.out; omega
      have HB3 : Hid _ := hb23
      clear hb3 hb23 hr3 ha3 hcall y2 z2 hf2
      go_wp2
      go_roundw
      case rel =>
        refine ⟨m + 1, _, by omega, by go_num, PkI.step hlt HLEN.out HKEY.out HWK.out HO2.out HB3.out HR3.out HA3.out HKM.out, ?_, ?_⟩
        · exact (HF2.out.step HB3.out).setCell (p := ⟨g, m * 3 + 2, none⟩) (Or.inl rfl) _
        · have h1 := HK2.out
          have h2 := HB3.out.size
          simp [World.setCell]; omega
      case measure => simp [intOf]; omega
    · obtain rfl : m = n := by omega
      have hF := HF.out
      have hI := HI.out
      have hlen := hI.len
      have hB : Below w.heap.size w wr := (hF.below (a := w) (B := w.heap.size) (Nat.le_refl _) (fun k hk => by have := HG.out; omega) (Below.refl _ _))
      have hrows : RowsIn wr o := fun y hy => (hI.rows y (by rw [List.take_of_length_le (by omega)]; exact hy)).1
      have hkey : o.map kA = ps.map fun p => kA (aAt l p) := by
        have h := hI.keys
        rw [List.take_of_length_le (by omega), List.take_of_length_le (by rw [List.length_map]; omega)] at h
        exact h
      have hcv : CelsAt wr (some ⟨g, 0, none⟩) o := owns_view (base := g) (cap := m) (by rw [hlen]; exact hI.own)
      have hfrom : FromA w.heap.size (some ⟨g, 0, none⟩) o := ⟨fun g' f e => by injection e with e; injection e with e1 _ _; have := HG.out; omega, fun y hy g' f e => by have := (hI.rows y (by rw [List.take_of_length_le (by omega)]; exact hy)).2 g' f e; have := HG.out; omega⟩
      have HQ6 : Hid _ := hfrom
      have HQ : Hid _ := hB
      have HQ2 : Hid _ := hrows
      have HQ3 : Hid _ := hkey
      have HQ4 : Hid _ := hcv
      have HQ5 : Hid _ := hlen
      clear HL HP hF hI HF HI hlen hB hrows hkey hcv hfrom
      go_wp2
      go_ret
      exact ⟨some ⟨g, 0, none⟩, o, (by rw [HQ5.out]; rfl), HQ3.out, ⟨HQ4.out, HQ2.out⟩, HQ6.out, HQ.out⟩
end Go.Proofs.YtfjpdflilmcnhaaDoor
