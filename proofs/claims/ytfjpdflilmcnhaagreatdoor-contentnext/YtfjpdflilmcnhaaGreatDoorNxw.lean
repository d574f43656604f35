/- When the views turn next. -/
import Derived.Test.YtfjpdflilmcnhaaGreatDoorSee
import Derived.Test.YtfjpdflilmcnhaaGreatDoorNxn
import Derived.Test.YtfjpdflilmcnhaaGreatDoorFit
import Derived.Test.YtfjpdflilmcnhaaGreatDoorAwk
namespace Go.Proofs.YtfjpdflilmcnhaaGreatDoor
open Go.ChangeShapes Go.WideShapes Go.ChangeAt Go.RowKit

/-- A view as it lies in memory. -/
structure Vwd where
  k : Int
  n : Int
  a : Option Addr
  cap : Nat
  d : Bool
  zs : List Int
def vAt (vs : List Vwd) (i : Nat) : Vwd := vs.getD i ⟨0, 0, none, 0, false, []⟩
def VwsAt (w : World) (a : Option Addr) (vs : List Vwd) : Prop := vs.length = 0 ∨ ∃ b off, a = some ⟨b, off, none⟩ ∧ ∀ i, i < vs.length →
  w.cell? ⟨b, off + i * 4, none⟩ = some (.int .i64 (vAt vs i).k) ∧ w.cell? ⟨b, off + i * 4 + 1, none⟩ = some (.int .i64 (vAt vs i).n) ∧ w.cell? ⟨b, off + i * 4 + 2, none⟩ = some (.slice (vAt vs i).a (vAt vs i).zs.length (vAt vs i).cap) ∧ w.cell? ⟨b, off + i * 4 + 3, none⟩ = some (.bool (vAt vs i).d) ∧ NsAt w (vAt vs i).a (vAt vs i).zs ∧ (vAt vs i).zs.length * 8 ≤ 140737488351232
theorem VwsAt.below {w w' : World} (hb : Below w.heap.size w w') {a : Option Addr} {vs : List Vwd} (h : VwsAt w a vs) : VwsAt w' a vs := by
  rcases h with h | ⟨b, off, rfl, h⟩
  · exact Or.inl h
  · refine Or.inr ⟨b, off, rfl, fun i hi => ?_⟩
    obtain ⟨h0, h1, h2, h3, h4, h5⟩ := h i hi
    exact ⟨cell_below hb h0, cell_below hb h1, cell_below hb h2, cell_below hb h3, h4.below hb, h5⟩
def nxS (acc : Int × Bool) (o : Option Int) : Int × Bool :=
  match o with
  | none => acc
  | some t => if acc.2 = false ∨ t < acc.1 then (t, true) else acc
def nxF (vs : List Vwd) (l : List Arv) (now : Int) (m : Nat) : Int × Bool := (vs.take m).foldl (fun acc v => nxS acc (nxV v.k v.n v.zs v.d l now)) (0, false)
theorem nxF_succ {vs : List Vwd} {l : List Arv} {now : Int} {m : Nat} (h : m < vs.length) : nxF vs l now (m + 1) = nxS (nxF vs l now m) (nxV (vAt vs m).k (vAt vs m).n (vAt vs m).zs (vAt vs m).d l now) := by
  unfold nxF vAt
  rw [List.take_add_one, List.getElem?_eq_getElem h, List.foldl_append]
  simp [List.getD, List.getElem?_eq_getElem h]
set_option maxRecDepth 20000 in
set_option maxHeartbeats 8000000 in
theorem Next_any (va : Option Addr) (vc : Nat) (vs : List Vwd) (la : Option Addr) (lc : Nat) (now : Int) (l : List Arv) (w : World) (hlen : vs.length ≤ 9223372036854775807) (hv : VwsAt w va vs) (hl : CelsAt w la l) (hll : l.length ≤ 200) (ht : Tms l) :
    Calls Tryz.prog 13 #[.slice va vs.length vc, .slice la l.length lc, .int .i64 now] w fun e w' => e = .returned (.tuple #[.int .i64 (nxF vs l now vs.length).1, .bool (nxF vs l now vs.length).2]) ∧ Below w.heap.size w w' := by
  have hsee := fun (v : Vwd) wx (hb : Below w.heap.size w wx) (h1 : NsAt wx v.a v.zs) (h2 : v.zs.length * 8 ≤ 140737488351232) => see_any v.k v.n v.a v.cap v.d la lc now v.zs l wx h2 h1 (hl.below hb) hll
  have htrn := fun (v : Vwd) wx (hb : Below w.heap.size w wx) => seen_turns v.k v.n v.a v.cap v.d la lc now v.zs l wx (hl.below hb) hll ht
  have HSEE : Hid _ := hsee
  have HTRN : Hid _ := htrn
  clear hsee htrn hl hll ht
  go_enter Tryz.func13, Tryz.ntmps13
  go_wp2
  go_loopw [8, 9, 16] (fun x y i wr => ∃ m : Nat, m ≤ vs.length ∧ x = .int .i64 (nxF vs l now m).1 ∧ y = .bool (nxF vs l now m).2 ∧ i = .int .i64 m ∧ Bel w.heap.size w wr) (fun _ _ i _ => vs.length - (intOf i).toNat)
  case atStart => exact ⟨0, Nat.zero_le _, rfl, rfl, rfl, Bel.refl _⟩
  case round =>
    obtain ⟨m, hm, rfl, rfl, rfl, HB⟩ := hrel
    rcases Nat.lt_or_ge m vs.length with hlt | hge
    · obtain ⟨b, off, rfl, hc⟩ : ∃ b off, va = some ⟨b, off, none⟩ ∧ _ := by
        rcases VwsAt.below HB.out hv with h | h
        · omega
        · exact h
      obtain ⟨c0, c1, c2, c3, c4, c5⟩ := hc m hlt
      clear hc hv
      generalize hve : vAt vs m = v at c0 c1 c2 c3 c4 c5
      generalize hac : nxF vs l now m = ac at *
      obtain ⟨x, f⟩ := ac
      have hs := HSEE.out v (wr.alloc (Obj.cells #[.int .i64 v.k, .int .i64 v.n, .slice v.a v.zs.length v.cap, .bool v.d] 32)) (HB.out.alloc HB.le _) (c4.below ((Below.refl _ _).alloc (Nat.le_refl _) _)) c5
      clear c4 c5
      have HB' : Hid (Bel w.heap.size w (wr.alloc (Obj.cells #[.int .i64 v.k, .int .i64 v.n, .slice v.a v.zs.length v.cap, .bool v.d] 32))) := HB.alloc _
      have hlt' : ((m : Int) < (vs.length : Int)) = True := by simp; omega
      unfold vwV at hs
      have ht := fun wx (hb : Below w.heap.size w wx) => HTRN.out v wx hb
      go_wp2_with fail
      refine hs.mono ?_
      rintro e w1 ⟨rfl, hb1⟩
      have HB1 : Bel w.heap.size w w1 := Bel.step HB'.out hb1
      have ht1 := ht w1 HB1.out
      clear hs ht c0 c1 c2 c3 hb1
      generalize hsv : sV (decide (0 < l.length) && mayB v.k v.n v.zs v.d ((aAt l 0).row.length : Nat)) v.k v.n v.a v.zs.length v.cap v.d la l.length lc now = sv at ht1
      clear hsv
      go_wp2_with fail
      refine ht1.mono ?_
      rintro e w2 ⟨rfl, hb2⟩
      have HQ : Hid (Bel w.heap.size w w2) := Bel.step HB1 hb2
      clear ht1 hb2 HB1 HB'
      have HV : Hid (nxV v.k v.n v.zs v.d l now = nxV v.k v.n v.zs v.d l now) := rfl
      obtain ⟨o, ho⟩ : ∃ o, nxV v.k v.n v.zs v.d l now = o := ⟨_, rfl⟩
      have HV : Hid (nxV v.k v.n v.zs v.d l now = o) := ho
      rw [ho]
      have HA : Hid (nxF vs l now m = (x, f)) := hac
      clear ho hac
      unfold oT
      cases o with
      | none =>
        simp only [Option.getD_none, Option.isSome_none]
        go_wp2
        go_roundw
        case rel => exact ⟨m + 1, by omega, by rw [nxF_succ hlt, hve, HV.out, HA.out]; rfl, by rw [nxF_succ hlt, hve, HV.out, HA.out]; rfl, by go_num, HQ.out⟩
        case measure => simp [intOf]; omega
      | some t =>
        simp only [Option.getD_some, Option.isSome_some]
        cases f with
        | false =>
          go_wp2
          go_roundw
          case rel => exact ⟨m + 1, by omega, by rw [nxF_succ hlt, hve, HV.out, HA.out]; rfl, by rw [nxF_succ hlt, hve, HV.out, HA.out]; rfl, by go_num, HQ.out⟩
          case measure => simp [intOf]; omega
        | true =>
          by_cases htx : t < x
          · go_wp2
            go_roundw
            case rel => exact ⟨m + 1, by omega, by rw [nxF_succ hlt, hve, HV.out, HA.out]; simp [nxS, htx], by rw [nxF_succ hlt, hve, HV.out, HA.out]; simp [nxS, htx], by go_num, HQ.out⟩
            case measure => simp [intOf]; omega
          · go_wp2
            go_roundw
            case rel => exact ⟨m + 1, by omega, by rw [nxF_succ hlt, hve, HV.out, HA.out]; simp [nxS, htx], by rw [nxF_succ hlt, hve, HV.out, HA.out]; simp [nxS, htx], by go_num, HQ.out⟩
            case measure => simp [intOf]; omega
    · obtain rfl : m = vs.length := by omega
      clear HSEE HTRN hv
      go_wp2
      go_ret2
      exact ⟨rfl, HB.out⟩
end Go.Proofs.YtfjpdflilmcnhaaGreatDoor
/- The document: when the views turn next. -/
namespace Go.Proofs.YtfjpdflilmcnhaaGreatDoor
open Go.ChangeShapes Go.WideShapes Go.ChangeAt Go.RowKit

def rnS (acc r now : Int) : Int := if r ≥ 0 then lsP acc r now else acc
def rnF (vs : List Vwd) (l : List Arv) (now : Int) (m : Nat) : Int := (vs.take m).foldl (fun acc v => rnS acc (nxR v.k v.n v.zs v.d l now) now) (-1)
theorem rnF_succ {vs : List Vwd} {l : List Arv} {now : Int} {m : Nat} (h : m < vs.length) : rnF vs l now (m + 1) = rnS (rnF vs l now m) (nxR (vAt vs m).k (vAt vs m).n (vAt vs m).zs (vAt vs m).d l now) now := by
  unfold rnF vAt
  rw [List.take_add_one, List.getElem?_eq_getElem h, Option.toList_some, List.foldl_append]
  simp [List.getD, List.getElem?_eq_getElem h]
def rnV (b : Int) : Value := if b < 0 then .tuple #[.int .i64 0, .bool false] else .tuple #[.int .i64 b, .bool true]
set_option maxRecDepth 20000 in
set_option maxHeartbeats 8000000 in
theorem rNext_any (va : Option Addr) (vc : Nat) (vs : List Vwd) (la : Option Addr) (lc : Nat) (now : Int) (l : List Arv) (w : World) (hlen : vs.length ≤ 9223372036854775807) (hv : VwsAt w va vs) (hl : CelsAt w la l) (hll : l.length ≤ 200) (ht : Tms l) (hA : 0 < l.length → (aAt l 0).time ≤ now) (hA2 : now ≤ 1099511627776) :
    Calls Tryz.prog 14 #[.slice va vs.length vc, .slice la l.length lc, .int .i64 now] w fun e w' => e = .returned (rnV (rnF vs l now vs.length)) ∧ Below w.heap.size w w' := by
  have hnx := fun (v : Vwd) wx (hb : Below w.heap.size w wx) (h1 : NsAt wx v.a v.zs) (h2 : v.zs.length * 8 ≤ 140737488351232) => rnext_any v.k v.n v.a v.cap v.d v.zs la lc l now wx (by omega) h1 (hl.below hb) hll ht hA hA2
  have HNX : Hid _ := hnx
  clear hnx hl ht
  go_enter Tryz.func14, Tryz.ntmps14
  go_wp2
  go_loopw [8, 9] (fun x i wr => ∃ m : Nat, m ≤ vs.length ∧ x = .int .i64 (rnF vs l now m) ∧ i = .int .i64 m ∧ Bel w.heap.size w wr) (fun _ i _ => vs.length - (intOf i).toNat)
  case atStart => exact ⟨0, Nat.zero_le _, rfl, rfl, Bel.refl _⟩
  case round =>
    obtain ⟨m, hm, rfl, rfl, HB⟩ := hrel
    rcases Nat.lt_or_ge m vs.length with hlt | hge
    · obtain ⟨b, off, rfl, hc⟩ : ∃ b off, va = some ⟨b, off, none⟩ ∧ _ := by
        rcases VwsAt.below HB.out hv with h | h
        · omega
        · exact h
      obtain ⟨c0, c1, c2, c3, c4, c5⟩ := hc m hlt
      clear hc hv
      have HS : Hid _ := rnF_succ (l := l) (now := now) hlt
      generalize hve : vAt vs m = v at c0 c1 c2 c3 c4 c5 HS
      have hs := HNX.out v wr HB.out c4 c5
      clear c4 c5 hve
      generalize rnF vs l now m = ac at *
      have HBB : Hid (Bel w.heap.size w wr) := HB
      clear HB
      generalize nxR v.k v.n v.zs v.d l now = r at *
      go_wp2_with fail
      refine hs.mono ?_
      rintro e w1 ⟨rfl, hb1⟩
      have HB1 : Hid (Bel w.heap.size w w1) := HBB.out.step hb1
      clear hs c0 c1 c2 c3 hb1 HBB
      by_cases hr : r ≥ 0
      · have HE : Hid (rnS ac r now = lsP ac r now) := by show _ = _; unfold rnS; rw [if_pos hr]
        go_wp2_with fail
        refine (rleast_any _ _ _ _).mono ?_
        rintro e w2 ⟨rfl, hb2⟩
        have HB2 : Hid (Bel w.heap.size w w2) := HB1.out.step hb2
        clear hb2 HB1
        go_wp2
        go_roundw
        case rel => exact ⟨m + 1, by omega, by rw [HS.out, HE.out], by go_num, HB2.out⟩
        case measure => simp [intOf]; omega
      · have HE : Hid (rnS ac r now = ac) := by show _ = _; unfold rnS; rw [if_neg hr]
        go_wp2
        go_roundw
        case rel => exact ⟨m + 1, by omega, by rw [HS.out, HE.out], by go_num, HB1.out⟩
        case measure => simp [intOf]; omega
    · obtain rfl : m = vs.length := by omega
      clear HNX hv
      obtain ⟨ac, hac⟩ : ∃ ac, rnF vs l now vs.length = ac := ⟨_, rfl⟩
      by_cases h : ac < 0
      · have HR : Hid (rnV (rnF vs l now vs.length) = .tuple #[.int .i64 0, .bool false]) := by show _ = _; rw [hac]; exact if_pos h
        rw [hac]
        clear hac
        go_wp2
        go_ret2
        exact ⟨congrArg Ending.returned HR.out.symm, HB.out⟩
      · have HR : Hid (rnV (rnF vs l now vs.length) = .tuple #[.int .i64 ac, .bool true]) := by show _ = _; rw [hac]; exact if_neg h
        rw [hac]
        clear hac
        go_wp2
        go_ret2
        exact ⟨congrArg Ending.returned HR.out.symm, HB.out⟩
end Go.Proofs.YtfjpdflilmcnhaaGreatDoor
/- The code and the document reckon the same border. -/
namespace Go.Proofs.YtfjpdflilmcnhaaGreatDoor
open Go.ChangeShapes Go.WideShapes Go.ChangeAt Go.RowKit

theorem ls_stay {acc t now : Int} (h0 : 0 ≤ acc) (h : acc ≤ t) : lsP acc t now = acc := by
  unfold lsP; rw [if_neg (by omega)]
theorem ls_first {t now : Int} (h : t > now) : lsP (-1) t now = t := by
  unfold lsP; rw [if_pos ⟨h, Or.inl (by omega)⟩]
theorem ls_none {acc t now : Int} (h : ¬ t > now) : lsP acc t now = acc := by
  unfold lsP; rw [if_neg (fun q => h q.1)]
theorem f3_stay {n now acc : Int} (h0 : 0 ≤ acc) : ∀ k : List Arv, (∀ x ∈ k, acc ≤ x.time + n) → k.foldl (fun acc x => lsP acc (x.time + n) now) acc = acc
  | [], _ => rfl
  | x :: k, h => by
    rw [List.foldl_cons, ls_stay h0 (h x (List.mem_cons_self ..))]
    exact f3_stay h0 k (fun y hy => h y (List.mem_cons_of_mem _ hy))
theorem f3_is {n now : Int} (h0 : 0 ≤ now) : ∀ k : List Arv, (k.Pairwise fun x y => x.time ≤ y.time) → k.foldl (fun acc x => lsP acc (x.time + n) now) (-1) = (lvP n now k).getD (-1)
  | [], _ => rfl
  | x :: k, h => by
    rw [List.pairwise_cons] at h
    unfold lvP
    by_cases hx : x.time + n > now
    · rw [List.foldl_cons, ls_first hx, if_pos hx]
      exact f3_stay (by omega) k (fun y hy => by have := h.1 y hy; omega)
    · rw [List.foldl_cons, ls_none hx, if_neg hx]
      exact f3_is h0 k h.2
theorem lv_some {n now b : Int} : ∀ k : List Arv, lvP n now k = some b → b > now
  | [], h => by cases h
  | x :: k, h => by
    unfold lvP at h
    split at h
    · cases h; assumption
    · exact lv_some k h
theorem div_lt {a b n r s : Int} (hn : 1 ≤ n) (h1 : a * n ≤ r) (h2 : s < b * n + n) (h : r ≤ s) : a ≤ b := by
  rcases Int.lt_or_le b a with hlt | hge
  · exfalso
    have h3 : (b + 1) * n ≤ a * n := Int.mul_le_mul_of_nonneg_right (by omega) (by omega)
    rw [Int.add_mul, Int.one_mul] at h3
    omega
  · exact hge
theorem bg_eq (t n : Int) (x : Arv) : bgI t n x = t + ((x.time - t).tdiv n * n + n) := by
  unfold bgI; rw [Int.add_mul, Int.one_mul]
theorem bg_mono {t n : Int} {x y : Arv} (hn : 1 ≤ n) (hx : t ≤ x.time) (h : x.time ≤ y.time) : bgI t n x ≤ bgI t n y ∧ (bgI t n x < bgI t n y → bgI t n x + n ≤ bgI t n y) := by
  obtain ⟨a1, a2, a3⟩ := bg_rng hx hn
  obtain ⟨b1, b2, b3⟩ := bg_rng (show t ≤ y.time by omega) hn
  rw [bg_eq, bg_eq]
  generalize (x.time - t).tdiv n = p at *
  generalize (y.time - t).tdiv n = q at *
  have hpq : p ≤ q := div_lt hn a2 b3 (by omega)
  have h1 : p * n ≤ q * n := Int.mul_le_mul_of_nonneg_right hpq (by omega)
  refine ⟨by omega, fun h2 => ?_⟩
  have h3 : p < q := by
    rcases Int.lt_or_le p q with h | h
    · exact h
    · have : p = q := by omega
      rw [this] at h2; omega
  have h4 : (p + 1) * n ≤ q * n := Int.mul_le_mul_of_nonneg_right (by omega) (by omega)
  rw [Int.add_mul, Int.one_mul] at h4
  omega
theorem hd_iff {t n A : Int} {x : Arv} (hA : t ≤ A) (hn : 1 ≤ n) (hx : t ≤ x.time) : hdP t n A x = true ↔ bgI t n x ≤ A ∧ A < bgI t n x + n := by
  obtain ⟨a1, a2, a3⟩ := bg_rng hx hn
  obtain ⟨b1, b2, b3⟩ := at_rng hA hn
  unfold hdP
  rw [bg_eq]
  generalize (x.time - t).tdiv n = p at *
  generalize (A - t).tdiv n = q at *
  have hq : (q - 1) * n = q * n - n := by rw [Int.sub_mul, Int.one_mul]
  rw [hq]
  simp only [Bool.and_eq_true, decide_eq_true_eq]
  constructor
  · rintro ⟨h1, h2, h3⟩
    have e1 : p ≤ q - 1 := div_lt hn a2 (s := x.time - t) (by omega) (Int.le_refl _)
    have e2 : q - 1 ≤ p := div_lt hn (r := x.time - t) (by omega) a3 (Int.le_refl _)
    have e3 : p = q - 1 := by omega
    subst e3
    rw [hq] at *
    omega
  · rintro ⟨h1, h2⟩
    have e0 : (p + 1) * n = p * n + n := by rw [Int.add_mul, Int.one_mul]
    have e1 : p + 1 ≤ q := div_lt hn (r := A - t) (by omega) b3 (Int.le_refl _)
    have e2 : q ≤ p + 1 := div_lt hn b2 (s := A - t) (by omega) (Int.le_refl _)
    have e3 : q = p + 1 := by omega
    subst e3
    rw [e0]
    omega
theorem seq_one {l : List Arv} (h : l.Pairwise fun x y => x.seq < y.seq) {x y : Arv} (hx : x ∈ l) (hy : y ∈ l) (he : x.seq = y.seq) : x = y := by
  obtain ⟨i, hi, rfl⟩ := List.getElem_of_mem hx
  obtain ⟨j, hj, rfl⟩ := List.getElem_of_mem hy
  rw [List.pairwise_iff_getElem] at h
  rcases Nat.lt_trichotomy i j with hij | hij | hij
  · have := h i j hi hj hij; omega
  · subst hij; rfl
  · have := h j i hj hi hij; omega
theorem fl_ne {t n A B : Int} {l : List Arv} (h : l.Pairwise fun x y => x.seq < y.seq) {x : Arv} (hx : x ∈ l) (h1 : hdP t n A x = true) (h2 : ¬ hdP t n B x = true) : (flP t n A l).map Arv.seq ≠ (flP t n B l).map Arv.seq := by
  intro he
  have h3 : x.seq ∈ (flP t n A l).map Arv.seq := List.mem_map.2 ⟨x, List.mem_filter.2 ⟨hx, h1⟩, rfl⟩
  rw [he] at h3
  obtain ⟨y, hy, hs⟩ := List.mem_map.1 h3
  obtain ⟨hy1, hy2⟩ := List.mem_filter.1 hy
  rw [seq_one h hy1 hx hs] at hy2
  exact h2 hy2
theorem st_stay {t n now acc A : Int} {l : List Arv} (h0 : 0 ≤ acc) (h : ¬ A > now ∨ acc ≤ A) : stP t n now l acc A = acc := by
  unfold stP
  split
  · next hc => exact ls_stay h0 (h.resolve_left (fun q => q hc.1))
  · rfl
theorem st_none {t n now acc A : Int} {l : List Arv} (h : ¬ A > now) : stP t n now l acc A = acc := by
  unfold stP; rw [if_neg (fun q => h q.1)]
theorem f5_stay {t n now acc : Int} {l : List Arv} (h0 : 0 ≤ acc) : ∀ k : List Arv, (∀ x ∈ k, (¬ bgI t n x > now ∨ acc ≤ bgI t n x) ∧ acc ≤ bgI t n x + n) →
    k.foldl (fun acc x => stP t n now l (stP t n now l acc (bgI t n x)) (bgI t n x + n)) acc = acc
  | [], _ => rfl
  | x :: k, h => by
    obtain ⟨h1, h2⟩ := h x (List.mem_cons_self ..)
    rw [List.foldl_cons, st_stay h0 h1, st_stay h0 (Or.inr h2)]
    exact f5_stay h0 k (fun y hy => h y (List.mem_cons_of_mem _ hy))
theorem f5_is {t n now : Int} {l : List Arv} (hn : 1 ≤ n) (h0 : 0 ≤ now) (htn : t ≤ now) (hs : l.Pairwise fun x y => x.seq < y.seq) (ht : ∀ x ∈ l, t ≤ x.time) : ∀ k : List Arv, (∀ x ∈ k, x ∈ l) → (k.Pairwise fun x y => x.time ≤ y.time) →
    (∀ x ∈ l, x ∈ k ∨ bgI t n x + n ≤ now) → k.foldl (fun acc x => stP t n now l (stP t n now l acc (bgI t n x)) (bgI t n x + n)) (-1) = (btP t n now k).getD (-1)
  | [], _, _, _ => rfl
  | x :: k, hk, hp, ho => by
    rw [List.pairwise_cons] at hp
    have hx := hk x (List.mem_cons_self ..)
    have htx := ht x hx
    have hmono := fun y (hy : y ∈ k) => bg_mono hn htx (hp.1 y hy)
    unfold btP
    rw [List.foldl_cons]
    by_cases h1 : bgI t n x > now
    · have hne : (flP t n (bgI t n x) l).map Arv.seq ≠ (flP t n now l).map Arv.seq := fl_ne hs hx ((hd_iff (by omega) hn htx).2 ⟨Int.le_refl _, by omega⟩) (fun q => by have := (hd_iff htn hn htx).1 q; omega)
      have e1 : stP t n now l (-1) (bgI t n x) = bgI t n x := by unfold stP; rw [if_pos ⟨h1, hne⟩, ls_first h1]
      rw [if_pos h1, e1, st_stay (by omega) (Or.inr (by omega))]
      exact f5_stay (by omega) k (fun y hy => by have := (hmono y hy).1; exact ⟨Or.inr this, by omega⟩)
    · rw [if_neg h1, st_none h1]
      by_cases h2 : bgI t n x + n > now
      · have hne : (flP t n (bgI t n x + n) l).map Arv.seq ≠ (flP t n now l).map Arv.seq := fun q => fl_ne hs hx ((hd_iff htn hn htx).2 ⟨by omega, h2⟩) (fun q => by have := (hd_iff (by omega) hn htx).1 q; omega) q.symm
        have e1 : stP t n now l (-1) (bgI t n x + n) = bgI t n x + n := by unfold stP; rw [if_pos ⟨h2, hne⟩, ls_first h2]
        rw [if_pos h2, e1]
        refine f5_stay (by omega) k (fun y hy => ?_)
        obtain ⟨m1, m2⟩ := hmono y hy
        refine ⟨?_, by omega⟩
        by_cases h3 : bgI t n y > now
        · exact Or.inr (m2 (by omega))
        · exact Or.inl h3
      · rw [if_neg h2, st_none h2]
        refine f5_is hn h0 htn hs ht k (fun y hy => hk y (List.mem_cons_of_mem _ hy)) hp.2 (fun y hy => ?_)
        rcases ho y hy with h | h
        · rcases List.mem_cons.1 h with rfl | h
          · exact Or.inr (by omega)
          · exact Or.inl h
        · exact Or.inr h
theorem bt_some {t n now b : Int} : ∀ k : List Arv, btP t n now k = some b → b > now
  | [], h => by cases h
  | x :: k, h => by
    unfold btP at h
    split at h
    · cases h; assumption
    · split at h
      · cases h; assumption
      · exact bt_some k h
end Go.Proofs.YtfjpdflilmcnhaaGreatDoor
/- When content turns, by the code and by the document (the walk of ContentNext). -/
namespace Go.Proofs.YtfjpdflilmcnhaaGreatDoor
open Go.ChangeShapes Go.WideShapes Go.ChangeAt Go.RowKit

theorem cls_is (k : Int) : (clsI k = 3 ↔ k = 3) ∧ (clsI k = 5 ↔ k = 5) := by
  unfold clsI
  split <;> constructor <;> constructor <;> intro h <;> omega
theorem nx_same {k n : Int} {zs : List Int} {d : Bool} {l : List Arv} {now : Int} (h0 : 0 ≤ now) (hs : l.Pairwise fun x y => x.seq < y.seq) (hp : l.Pairwise fun x y => x.time ≤ y.time) (ht : Tms l) (hA : 0 < l.length → (aAt l 0).time ≤ now) :
    nxR k n zs d l now = (nxV k n zs d l now).getD (-1) ∧ ∀ b, nxV k n zs d l now = some b → b > now := by
  unfold nxR nxV
  split
  · next hc =>
    obtain ⟨hl, hm⟩ := hc
    unfold nxD tC
    by_cases h3 : k = 3
    · rw [if_pos h3, if_pos ((cls_is k).1.2 h3)]
      exact ⟨f3_is h0 l hp, fun b hb => lv_some l hb⟩
    · rw [if_neg h3, if_neg (fun q => h3 ((cls_is k).1.1 q))]
      by_cases h5 : k = 5
      · rw [if_pos h5, if_pos ((cls_is k).2.2 h5)]
        have hn := (mayB_n hm (Or.inr ((cls_is k).2.2 h5))).1
        exact ⟨f5_is hn h0 (hA hl) hs (fun x hx => (ht x hx).2.2) l (fun x hx => hx) hp (fun x hx => Or.inl hx), fun b hb => bt_some l hb⟩
      · rw [if_neg h5, if_neg (fun q => h5 ((cls_is k).2.1 q))]
        exact ⟨rfl, fun b hb => by cases hb⟩
  · exact ⟨rfl, fun b hb => by cases hb⟩
def Lk (now : Int) (p : Int × Bool) (b : Int) : Prop := (p.2 = false ∧ p.1 = 0 ∧ b = -1) ∨ (p.2 = true ∧ b = p.1 ∧ b > now)
theorem nxS_f (x t : Int) : nxS (x, false) (some t) = (t, true) := by simp [nxS]
theorem nxS_t (x t : Int) : nxS (x, true) (some t) = if t < x then (t, true) else (x, true) := by simp [nxS]
theorem Lk.step {now : Int} {p : Int × Bool} {b r : Int} {o : Option Int} (h0 : 0 ≤ now) (h : Lk now p b) (hr : r = o.getD (-1)) (ho : ∀ t, o = some t → t > now) : Lk now (nxS p o) (rnS b r now) := by
  subst hr
  cases o with
  | none =>
    have : rnS b ((none : Option Int).getD (-1)) now = b := by unfold rnS; rw [if_neg (by simp)]
    rw [this]; exact h
  | some t =>
    have ht := ho t rfl
    have e : rnS b ((some t).getD (-1)) now = lsP b t now := by unfold rnS; rw [if_pos (by simp; omega)]; rfl
    rw [e]
    obtain ⟨x, f⟩ := p
    unfold lsP
    rcases h with ⟨h1, h2, h3⟩ | ⟨h1, h2, h3⟩
    · simp only at h1 h2
      subst h1 h2 h3
      rw [nxS_f, if_pos ⟨ht, Or.inl (by omega)⟩]
      exact Or.inr ⟨rfl, rfl, ht⟩
    · simp only at h1 h2
      subst h1 h2
      by_cases hlt : t < b
      · rw [nxS_t, if_pos hlt, if_pos ⟨ht, Or.inr hlt⟩]
        exact Or.inr ⟨rfl, rfl, ht⟩
      · rw [nxS_t, if_neg hlt, if_neg (by omega)]
        exact Or.inr ⟨rfl, rfl, h3⟩
theorem folds {vs : List Vwd} {l : List Arv} {now : Int} (h0 : 0 ≤ now) (hs : l.Pairwise fun x y => x.seq < y.seq) (hp : l.Pairwise fun x y => x.time ≤ y.time) (ht : Tms l) (hA : 0 < l.length → (aAt l 0).time ≤ now) : ∀ m, m ≤ vs.length → Lk now (nxF vs l now m) (rnF vs l now m)
  | 0, _ => Or.inl ⟨rfl, rfl, rfl⟩
  | m + 1, h => by
    rw [nxF_succ (by omega), rnF_succ (by omega)]
    obtain ⟨h1, h2⟩ := nx_same (k := (vAt vs m).k) (n := (vAt vs m).n) (zs := (vAt vs m).zs) (d := (vAt vs m).d) h0 hs hp ht hA
    exact Lk.step h0 (folds h0 hs hp ht hA m (by omega)) h1 h2
theorem Lk.tup {now : Int} {p : Int × Bool} {b : Int} (h0 : 0 ≤ now) (h : Lk now p b) : rnV b = .tuple #[.int .i64 p.1, .bool p.2] := by
  unfold rnV
  rcases h with ⟨h1, h2, h3⟩ | ⟨h1, h2, h3⟩
  · rw [h1, h2, h3, if_pos (by omega)]
  · rw [h1, ← h2, if_neg (by omega)]
set_option maxRecDepth 20000 in
set_option maxHeartbeats 8000000 in
theorem next_walk (va : Option Addr) (vc : Nat) (vs : List Vwd) (a : Option Addr) (cap : Nat) (l : List Arv) (now : Int) (w : World) (hvn : vs.length ≤ 9223372036854775807) (hlen : l.length ≤ 9223372036854775807) (hv : VwsAt w va vs) (hl : CelsAt w a l) :
    Calls Tryz.prog 4 #[.slice va vs.length vc, .slice a l.length cap, .int .i64 now] w fun e w' => e = .returned (.bool true) ∧ Below w.heap.size w w' := by
  have HV : Hid (VwsAt w va vs) := hv
  have hft := Fit_any a cap l now w hlen hl
  clear hl hv hlen
  go_enter Tryz.func4, Tryz.ntmps4
  go_wp2_with fail
  refine hft.mono ?_
  rintro e w1 ⟨a', cap', o, sq, tm, nw, rfl, ht1, ht2, hok, hcel, hb1⟩
  have HB1 : Hid (Bel w.heap.size w w1) := Bel.of hb1
  have hol := hok.len
  have HOK : Hid _ := hok
  have HC : Hid (CelsAt w1 a' o) := hcel
  clear hft hok hcel hb1
  by_cases h8 : vs.length > 8
  · have h8' : (8 : Int) < (vs.length : Int) := by omega
    go_wp2_with fail
    refine (awake_any _).mono ?_
    rintro e w2 ⟨rfl, hb2⟩
    have HB2 : Hid (Bel w.heap.size w w2) := HB1.out.step hb2
    clear hb2
    go_wp2
    go_ret
    exact ⟨rfl, HB2.out.out⟩
  · have h8' : ¬ (8 : Int) < (vs.length : Int) := by omega
    have htm := HOK.out.tm0
    have HT : Hid (Tms o) := by
      show Tms o
      intro x hx
      obtain ⟨-, -, e1, e2, -⟩ := HOK.out.each x hx
      refine ⟨e1, by omega, ?_⟩
      obtain ⟨i, hi, rfl⟩ := List.getElem_of_mem hx
      rcases Nat.eq_zero_or_pos i with h | h
      · subst h; rw [aAt_get hi]; exact Int.le_refl _
      · have := (List.pairwise_iff_getElem.1 HOK.out.times) 0 i (by omega) hi h
        rw [aAt_get (show 0 < o.length by omega)]; exact this
    have hA : 0 < o.length → (aAt o 0).time ≤ nw := fun h => by
      rw [aAt_get h]
      obtain ⟨-, -, -, e2, -⟩ := HOK.out.each o[0] (List.getElem_mem h)
      omega
    have h0 : 0 ≤ nw := by omega
    have HE : Hid _ := (folds h0 HOK.out.seqs HOK.out.times HT.out hA vs.length (Nat.le_refl _)).tup h0
    have hn1 := Next_any va vc vs a' cap' nw o w1 hvn (HV.out.below HB1.out.out) HC.out hol HT.out
    have hn2 := fun wx (hb : Below w1.heap.size w1 wx) => rNext_any va vc vs a' cap' nw o wx hvn ((HV.out.below HB1.out.out).below hb) (HC.out.below hb) hol HT.out hA ht2
    have haw := fun wx => awake_any wx
    rw [HE.out] at hn2
    clear HE hA htm HT
    generalize nxF vs o nw vs.length = p at *
    obtain ⟨x, f⟩ := p
    go_wp2_with fail
    refine hn1.mono ?_
    rintro e w2 ⟨rfl, hb2⟩
    have HB2 : Hid (Bel w.heap.size w w2) := HB1.out.step hb2
    have hn3 := hn2 w2 hb2
    clear hn1 hn2 hb2
    go_wp2_with fail
    refine hn3.mono ?_
    rintro e w3 ⟨rfl, hb3⟩
    have HB3 : Hid (Bel w.heap.size w w3) := HB2.out.step hb3
    clear hn3 hb3
    have ef : (f == f) = true := by simp
    go_wp2_with fail
    refine (haw _).mono ?_
    rintro e w4 ⟨rfl, hb4⟩
    have HB4 : Hid (Bel w.heap.size w w4) := HB3.out.step hb4
    clear haw hb4
    go_wp2
    go_ret
    exact ⟨rfl, HB4.out.out⟩
end Go.Proofs.YtfjpdflilmcnhaaGreatDoor
