/- The document's heights. -/
import Derived.Test.YtmadofpbfgbdkaaGreatDoorAsk
import Derived.Test.YtmadofpbfgbdkaaGreatDoorMay
import Derived.Test.YtmadofpbfgbdkaaGreatDoorGhy
namespace Go.Proofs.YtmadofpbfgbdkaaGreatDoor
open Go.ChangeShapes Go.WideShapes Go.ChangeAt Go.RowKit
set_option linter.unusedSimpArgs false
set_option maxRecDepth 20000
set_option maxHeartbeats 40000000

/-- Where an instruction leads. -/
def nxP (q : Oq) (i : Nat) : List Nat := (if q.1.1 = 7 then [] else [i + 1]) ++ (if q.1.1 = 7 ∨ q.1.1 = 8 then [q.1.2.1.toNat] else [])
def cms (H : List Int) (g : Int) : List Nat → Option (List Int)
  | [] => some H
  | t :: l => match cmP H t g with
    | none => none
    | some H1 => cms H1 g l
theorem st_nx {q : Oq} {i : Nat} {n f a h : Int} {H : List Int} (hh : H[i]? = some h) : stP q i n f a H = if mayP q i n f a = true then (if h < needP q ∨ 1024 < h - needP q + leftP q then none else match cms H (h - needP q + leftP q) (nxP q i) with
    | none => none
    | some H2 => some (h - needP q + leftP q, H2)) else none := by
  unfold stP
  rw [hh]
  by_cases hm : mayP q i n f a = true
  · rw [if_pos hm, if_pos hm]
    dsimp only
    by_cases hb : h < needP q ∨ 1024 < h - needP q + leftP q
    · rw [if_pos hb, if_pos hb]
    · rw [if_neg hb, if_neg hb]
      unfold nxP
      generalize h - needP q + leftP q = gg
      by_cases h7 : q.1.1 = 7
      · simp only [h7, if_true, true_or, List.nil_append, cms]
        cases cmP H q.1.2.1.toNat gg <;> rfl
      · by_cases h8 : q.1.1 = 8
        · have c7 : (q.1.1 = 7) = False := eq_false h7
          have c8 : (q.1.1 = 8) = True := eq_true h8
          simp only [c7, c8, if_false, or_true, if_true, List.cons_append, List.nil_append, cms]
          cases e1 : cmP H (i + 1) gg with
          | none => rfl
          | some H1 =>
            dsimp only
            cases cmP H1 q.1.2.1.toNat gg <;> rfl
        · have c7 : (q.1.1 = 7) = False := eq_false h7
          have c8 : (q.1.1 = 8) = False := eq_false h8
          simp only [c7, c8, if_false, or_false, List.append_nil, cms]
          cases cmP H (i + 1) gg <;> rfl
  · rw [if_neg hm, if_neg hm]
theorem rowI_of {w : World} {base n : Nat} {v : Value} {H : List Int} (hn : H.length = n) (hp : 0 < n) (h : w.ownsRow base 3 1 v n (hiC H)) : ∃ g cap, v = .slice (some ⟨g, 0, none⟩) n cap ∧ RowI w base g cap H := by
  have h' := h
  obtain ⟨hlen, ⟨rfl, h0⟩ | ⟨g, cap, cur, rfl, hbg, hg, hcap, hcm, hcs, htake⟩⟩ := h
  · omega
  · refine ⟨g, cap, rfl, ?_⟩
    unfold RowI
    rw [hn]
    exact h'
theorem RowI.keep {w w' : World} {base g cap B : Nat} {H : List Int} (h : RowI w base g cap H) (hb : Below B w w') (hg : g < B) : RowI w' base g cap H := by
  obtain ⟨h1, h2⟩ := h
  refine ⟨h1, ?_⟩
  rcases h2 with h2 | ⟨g', cap', cur, hv, hg', hh, r⟩
  · exact Or.inl h2
  · have e : g' = g := by
      injection hv with hv
      injection hv with hv
      injection hv with hv
      exact hv.symm
    refine Or.inr ⟨g', cap', cur, hv, hg', ?_, r⟩
    rw [hb.block g' (by rw [e]; exact hg)]
    exact hh
theorem one_hi (H : List Int) : ∀ u ∈ hiC H, u.oneCell' = true := by
  intro u hu
  unfold hiC at hu
  rw [List.mem_map] at hu
  obtain ⟨x, _, rfl⟩ := hu
  rfl
theorem hi_snoc (H : List Int) (x : Int) : hiC (H ++ [x]) = hiC H ++ [.int .i64 x] := by unfold hiC; rw [List.map_append]; rfl
theorem one_new (w : World) (x : Int) : ∀ j u, ([.int .i64 x] : List Value)[j]? = some u → (w.alloc (.cells #[.int .i64 x] 3)).cell? ((⟨w.heap.size, 0, none⟩ : Addr).add j) = some u := by
  intro j u hj
  match j, hj with
  | 0, hj =>
    simp only [List.getElem?_cons_zero, Option.some.injEq] at hj
    subst hj
    simp [Addr.add]
  | j + 1, hj => simp at hj
theorem one_one (x : Int) : ∀ u ∈ ([.int .i64 x] : List Value), u.oneCell' = true := fun u hu => by simp only [List.mem_singleton] at hu; subst hu; rfl
theorem hts_any (r : List Oq) (oa : Option Addr) (ocap : Nat) (f a : Int) (w : World) (hr : OpsAt w oa r) (hlen : r.length ≤ 9223372036854775807) :
    Calls Tryz.prog 11 #[.slice oa r.length ocap, .int .i64 f, .int .i64 a] w fun e w' => e = .returned (.int .i64 ((htP r f a).getD 0)) ∧ Below w.heap.size w w' := by
  have HHT : Hid (htP r f a = if 4096 < r.length then none else match ckF r.length f a r 0 (0 :: List.replicate r.length (-1)) 0 with
    | none => none
    | some (H, m) => if H[r.length]? = some 1 then some m else none) := rfl
  have HR : Hid (OpsAt w oa r) := hr
  generalize htP r f a = res at HHT ⊢
  obtain ⟨n, hn⟩ : ∃ n, r.length = n := ⟨_, rfl⟩
  have HN : Hid (r.length = n) := hn
  rw [hn] at HHT hlen ⊢
  clear hr hn
  obtain ⟨i0, hi, hz⟩ := Option.map_eq_some_iff.1 info3
  simp only [Prod.mk.injEq] at hz
  obtain ⟨hz0, hz1, hz2⟩ := hz
  by_cases h0 : n = 0
  · subst h0
    have HP : Hid (Ending.returned (.int .i64 0) = Ending.returned (.int .i64 (res.getD 0))) := by
      show _ = _
      rw [HHT.out]
      have hr0 : r = [] := List.length_eq_zero_iff.1 HN.out
      rw [hr0]
      simp [ckF]
    clear HHT
    go_enter Tryz.func11, Tryz.ntmps11
    go_wp2
    refine bodyPost_ret (v := .int .i64 0) (by simp [results, Tryz.results11, go_sem]) rfl ⟨HP.out, Below.refl _ _⟩
  have hne : ((n : Int) == 0) = false := by simpa using h0
  by_cases hbig : 4096 < n
  · have HP : Hid (Ending.returned (.int .i64 0) = Ending.returned (.int .i64 (res.getD 0))) := by
      show _ = _
      rw [HHT.out, if_pos hbig]
      rfl
    have hbi : (4096 : Int) < (n : Int) := by omega
    clear HHT
    go_enter Tryz.func11, Tryz.ntmps11
    go_wp2
    refine bodyPost_ret (v := .int .i64 0) (by simp [results, Tryz.results11, go_sem]) rfl ⟨HP.out, Below.refl _ _⟩
  · have hsm : ((4096 : Int) < (n : Int)) = False := eq_false (by omega)
    have hnl : n ≤ 4096 := by omega
    have hn0 : 0 < n := by omega
    have HHT2 : Hid (res = match ckF n f a r 0 (0 :: List.replicate n (-1)) 0 with
      | none => none
      | some (H, m) => if H[n]? = some 1 then some m else none) := by show _ = _; rw [HHT.out, if_neg hbig]
    clear HHT hbig h0
    obtain ⟨base, hbase⟩ : ∃ base, w.heap.size = base := ⟨_, rfl⟩
    have HBA : Hid (w.heap.size = base) := hbase
    rw [hbase]
    clear hbase hlen
    go_enter Tryz.func11, Tryz.ntmps11
    go_wp2
    go_loopw [8, 9] (fun y x wr => ∃ (j : Nat) (v1 : Value), j ≤ n + 1 ∧ y = v1 ∧ x = .int .i64 j ∧ wr.ownsRow base 3 1 v1 j (hiC (List.replicate j (-1))) ∧ Below base w wr) (fun _ x _ => n + 1 - (intOf x).toNat)
    case atStart => exact ⟨0, _, Nat.zero_le _, rfl, rfl, World.ownsRow_nil _ _ _ _, by rw [← HBA.out]; exact Below.refl _ _⟩
    case round =>
      obtain ⟨j, v1, hj, hy1, rfl, hO, hB⟩ := hrel
      have hy2 := hy1.symm
      clear hy1
      subst hy2
      have HO : Hid (wr.ownsRow base 3 1 v1 j (hiC (List.replicate j (-1)))) := hO
      have HB : Hid (Below base w wr) := hB
      have hsz : base ≤ wr.heap.size := by have := hB.size; have := HBA.out; omega
      clear hO hB
      rcases Nat.lt_or_ge j (n + 1) with hlt | hge
      · have HS : Hid (hiC (List.replicate (j + 1) (-1)) = hiC (List.replicate j (-1)) ++ [.int .i64 (-1)]) := by show _ = _; rw [List.replicate_succ', hi_snoc]
        have hrow : Hid ((wr.alloc (.cells #[.int .i64 (-1)] 3)).ownsRow base 3 1 v1 j (hiC (List.replicate j (-1)))) := HO.out.alloc _
        have hlt' : (j : Int) ≤ (n : Int) := by omega
        clear HO
        go_wp2_with (at_builtin; refine wpList_append_own _ rfl _ _ 45 rfl base 3 i0 (.int .i64 0) 1 8 Tryz.underlying45 hi hz0 hz1 hz2 rfl (by decide) _ _ _ rfl hrow.out ⟨wr.heap.size, 0, none⟩ 1 1 [.int .i64 (-1)] rfl rfl (one_new wr (-1)) (one_one (-1)) (by unfold maxLen; omega) (by omega) (by rw [World.size_alloc]; omega) ?_)
        intro v3 w3 hown3 hgrow3 hi3
        clear hi3
        have HO3 : Hid (w3.ownsRow base 3 1 v3 (j + 1) (hiC (List.replicate (j + 1) (-1)))) := by
          show World.ownsRow _ _ _ _ _ _ _
          rw [HS.out]; exact hown3
        have HB4 : Hid (Below base w w3) := (HB.out.alloc hsz (.cells #[.int .i64 (-1)] 3)).grown hgrow3 (by rw [World.size_alloc]; omega) (fun j hj => (hrow.out.lt j hj).1)
        clear hown3 hgrow3 hrow
        go_wp2
        go_roundw
        case rel => exact ⟨j + 1, v3, by omega, rfl, by go_num, HO3.out, HB4.out⟩
        case measure => simp [intOf]; omega
      · have hjn : j = n + 1 := by omega
        have hgt : ((j : Int) ≤ (n : Int)) = False := eq_false (by omega)
        have hgt2 : (j ≤ n) = False := eq_false (by omega)
        obtain ⟨g, cap, hv, hrow⟩ := rowI_of (H := List.replicate (n + 1) (-1)) (n := j) (by simp [hjn]) (by omega) (by rw [← hjn]; exact HO.out)
        rw [hjn] at hv
        subst hv
        have hbg : base ≤ g := hrow.lt.1
        have c9 := hrow.get (i := 0) (x := -1) (by simp)
        have f9 := hrow.fr 0
        have HO2 : Hid (RowI (wr.setCell ⟨g, 0, none⟩ (.int .i64 0)) base g cap (0 :: List.replicate n (-1))) := by
          have h := hrow.put 0 0
          rw [List.replicate_succ, List.set_cons_zero] at h
          exact h
        have HB2 : Hid (Below base w (wr.setCell ⟨g, 0, none⟩ (.int .i64 0))) := HB.out.setCell hbg _
        have HI0 : Hid (HtI (0 :: List.replicate n (-1)) 0) := HtI.start n
        have HL0 : Hid ((0 :: List.replicate n (-1) : List Int).length = n + 1) := by show _ = _; simp
        have HK0 : Hid (ckF n f a (r.drop 0) 0 (0 :: List.replicate n (-1)) 0 = ckF n f a r 0 (0 :: List.replicate n (-1)) 0) := by show _ = _; rw [List.drop_zero]
        generalize ckF n f a r 0 (0 :: List.replicate n (-1)) 0 = K at HHT2 HK0
        generalize (0 :: List.replicate n (-1) : List Int) = H0 at HO2 HI0 HL0 HK0
        clear hrow HO HB hge hj hsz hjn
        go_wp2
        go_loopw [10, 11] (fun x y wr => ∃ (i : Nat) (m : Int) (H : List Int), i ≤ n ∧ x = .int .i64 m ∧ y = .int .i64 i ∧ RowI wr base g cap H ∧ H.length = n + 1 ∧ HtI H m ∧ ckF n f a (r.drop i) i H m = K ∧ Below base w wr) (fun _ y _ => n - (intOf y).toNat)
        case atStart => exact ⟨0, 0, H0, Nat.zero_le _, rfl, rfl, HO2.out, HL0.out, HI0.out, HK0.out, HB2.out⟩
        case round =>
          clear HO2 HB2 HI0 HL0 HK0 c9 f9
          obtain ⟨i, m, H, hin, rfl, rfl, hO, hHl, hI, hK, hB⟩ := hrel
          have HO : Hid (RowI wr base g cap H) := hO
          have HHL : Hid (H.length = n + 1) := hHl
          have HI : Hid (HtI H m) := hI
          have HK : Hid (ckF n f a (r.drop i) i H m = K) := hK
          have HB : Hid (Below base w wr) := hB
          have HRr : Hid (OpsAt wr oa r) := HR.out.below (by rw [HBA.out]; exact hB)
          clear hO hHl hI hK hB
          rcases Nat.lt_or_ge i n with hlt | hge
          · have hlr : i < r.length := by have := HN.out; omega
            obtain ⟨q, hq⟩ : ∃ q, r[i]? = some q := ⟨_, List.getElem?_eq_getElem hlr⟩
            obtain ⟨h, hh⟩ : ∃ h, H[i]? = some h := ⟨_, List.getElem?_eq_getElem (by have := HHL.out; omega)⟩
            have hhb := HI.out.all h (List.mem_of_getElem? hh)
            have hmh := HI.out.hi
            have hmlo := HI.out.lo
            have ch := HO.out.get hh
            have HST0 : Hid _ := st_nx (q := q) (i := i) (n := n) (f := f) (a := a) hh
            have HKS : Hid (K = match stP q i n f a H with
              | none => none
              | some (g', H') => ckF n f a (r.drop (i + 1)) (i + 1) H' (max m g')) := by
              have hk := HK.out
              obtain ⟨_, hqe⟩ := List.getElem?_eq_some_iff.1 hq
              rw [List.drop_eq_getElem_cons hlr, hqe] at hk
              exact hk.symm
            obtain ⟨b, off, hoa, hcs⟩ : ∃ b off, oa = some ⟨b, off, none⟩ ∧ OqAt wr b (off + i * 6) q := by
              rcases HRr.out with h | ⟨b, off, ha, hc⟩
              · rw [h] at hlr; simp at hlr
              · exact ⟨b, off, ha, hc i q hq⟩
            subst hoa
            have hc1 := asks_any q
            have hc2 := may_any q i n f a
            have hnd := @need_le q i n f a
            have hlf := left_le q
            have hkn := @may_knd q i n f a
            have hmn : mayP q i n f a = true → (q.1.1 = 7 ∨ q.1.1 = 8) → (i : Int) < q.1.2.1 ∧ q.1.2.1 ≤ n := fun hm h78 => by
              unfold mayP at hm
              rcases h78 with h7 | h7 <;> simp [h7] at hm <;> omega
            have HAK : Hid (kndP q.1.1 = true → askP q = (needP q, leftP q)) := fun hk => by unfold askP; rw [if_pos hk]
            obtain ⟨q0, hq0⟩ : ∃ q0, q0 = q := ⟨_, rfl⟩
            rw [← hq0] at HST0 HKS hc1 hc2 hnd hlf hkn hmn HAK
            obtain ⟨⟨k, nn, t⟩, vk, vn, vt⟩ := q
            obtain ⟨c0, c1, c2, c3, c4, c5⟩ := hcs
            dsimp only at c0 c1 c2 c3 c4 c5
            have hqv : oqV q0 = .agg #[.int .i64 k, .int .i64 nn, .string t, .int .i64 vk, .int .i64 vn, .string vt] := by rw [hq0]; rfl
            have hq1 : q0.1.1 = k := by rw [hq0]
            have hq2 : q0.1.2.1 = nn := by rw [hq0]
            rw [hqv] at hc1 hc2
            rw [hq1, hq2] at hmn
            have HMN0 : Hid (mayP q0 i n f a = true → (k = 7 ∨ k = 8) → (i : Int) < nn ∧ nn ≤ n) := hmn
            have HQ1 : Hid (q0.1.1 = k) := hq1
            generalize askP q0 = ak at hc1 HAK
            obtain ⟨nd, lf⟩ := ak
            dsimp only at hc1
            have HND : Hid (mayP q0 i n f a = true → (nd, lf) = (needP q0, leftP q0) ∧ 0 ≤ nd ∧ nd ≤ 1024 ∧ 0 ≤ lf ∧ lf ≤ 1) := fun hm => by
              have e := HAK.out (hkn hm)
              injection e with e1 e2
              subst e1; subst e2
              exact ⟨rfl, (hnd hm).1, (hnd hm).2, hlf.1, hlf.2⟩
            have HQ0 : Hid (q0 = ((k, nn, t), vk, vn, vt)) := hq0
            clear hq hh hlr HK hnd hlf hkn HAK hqv hq1 hq2 hmn hq0
            go_wp2_with fail
            refine (hc1 _).mono ?_
            rintro e w3 ⟨rfl, hb3⟩
            clear hc1
            replace c0 := cell_bel hb3 c0
            replace c1 := cell_bel hb3 c1
            replace c2 := cell_bel hb3 c2
            replace c3 := cell_bel hb3 c3
            replace c4 := cell_bel hb3 c4
            replace c5 := cell_bel hb3 c5
            have HO3 : Hid (RowI w3 base g cap H) := HO.out.below hb3
            have HB3 : Hid (Below base w w3) := HB.out.trans (hb3.mono (by have := HB.out.size; have := HBA.out; omega))
            have HR3 : Hid (OpsAt w3 (some ⟨b, off, none⟩) r) := HRr.out.below hb3
            clear hb3 HO HB HRr ch
            go_wp2_with fail
            refine (hc2 _).mono ?_
            rintro e w5 ⟨rfl, hb5⟩
            clear hc2
            replace c0 := cell_bel hb5 c0
            replace c1 := cell_bel hb5 c1
            have HO5 : Hid (RowI w5 base g cap H) := HO3.out.below hb5
            have HB5 : Hid (Below base w w5) := HB3.out.trans (hb5.mono (by have := HB3.out.size; have := HBA.out; omega))
            have HR5 : Hid (OpsAt w5 (some ⟨b, off, none⟩) r) := HR3.out.below hb5
            clear hb5 HO3 HB3 HR3 c2 c3 c4 c5
            cases hmay : mayP q0 i n f a with
            | false =>
              rw [hmay] at HST0
              have HP : Hid (Ending.returned (.int .i64 0) = Ending.returned (.int .i64 (res.getD 0))) := by
                show _ = _
                rw [HHT2.out, HKS.out, HST0.out]
                rfl
              clear HST0 HKS HND HMN0 hmay
              go_wp2
              refine bodyPost_ret (v := .int .i64 0) (by simp [results, Tryz.results11, go_sem]) rfl ⟨HP.out, HB5.out⟩
            | true =>
              obtain ⟨hnl2, hn1, hn2, hl1, hl2⟩ := HND.out hmay
              injection hnl2 with e1 e2
              have HMN : Hid ((k = 7 ∨ k = 8) → (i : Int) < nn ∧ nn ≤ n) := HMN0.out hmay
              have HST1 : Hid (stP q0 i n f a H = if h < nd ∨ 1024 < h - nd + lf then none else match cms H (h - nd + lf) (nxP q0 i) with
                | none => none
                | some H2 => some (h - nd + lf, H2)) := by
                show _ = _
                rw [HST0.out, hmay, if_pos rfl, e1, e2]
              clear HST0 HND HMN0 hmay e1 e2
              by_cases hlow : h < nd
              · have HP : Hid (Ending.returned (.int .i64 0) = Ending.returned (.int .i64 (res.getD 0))) := by
                  show _ = _
                  rw [HHT2.out, HKS.out, HST1.out, if_pos (Or.inl hlow)]
                  rfl
                clear HST1 HKS HMN
                go_wp2
                refine bodyPost_ret (v := .int .i64 0) (by simp [results, Tryz.results11, go_sem]) rfl ⟨HP.out, HB5.out⟩
              have hlow' : nd ≤ h := by omega
              by_cases hhigh : 1024 < h - nd + lf
              · have HP : Hid (Ending.returned (.int .i64 0) = Ending.returned (.int .i64 (res.getD 0))) := by
                  show _ = _
                  rw [HHT2.out, HKS.out, HST1.out, if_pos (Or.inr hhigh)]
                  rfl
                clear HST1 HKS HMN hlow
                go_wp2
                refine bodyPost_ret (v := .int .i64 0) (by simp [results, Tryz.results11, go_sem]) rfl ⟨HP.out, HB5.out⟩
              have hhigh' : h - nd + lf ≤ 1024 := by omega
              obtain ⟨gh, hgh⟩ : ∃ gh, h - nd + lf = gh := ⟨_, rfl⟩
              have HST : Hid (stP q0 i n f a H = match cms H gh (nxP q0 i) with
                | none => none
                | some H2 => some (gh, H2)) := by
                show _ = _
                rw [HST1.out, if_neg (by omega), hgh]
              have hgh0 : 0 ≤ gh := by omega
              have hgh1 : gh ≤ 1024 := by omega
              have hq0 := HQ0.out
              clear HST1 hlow hhigh
              by_cases hk7 : k = 7
              · have hk := hk7
                clear hk7
                rcases Int.lt_or_le m gh with hmg | hmg
                · have HQX : Hid (max m gh = gh) := by show _ = _; omega
                  subst hk
                  obtain ⟨N', rfl⟩ : ∃ N' : Nat, nn = (N' : Int) := ⟨nn.toNat, by have := HMN.out (by decide); omega⟩
                  have hN := HMN.out (by decide)
                  have HNX0 : Hid (nxP q0 i = [N']) := by show _ = _; rw [hq0]; simp [nxP]
                  obtain ⟨B2, hB2⟩ : ∃ B2, B2 = w5.heap.size := ⟨_, rfl⟩
                  have hgB2 : g < B2 := by rw [hB2]; exact HO5.out.lt.2
                  have hB5 : base ≤ B2 := by omega
                  have HB25 : Hid (B2 = w5.heap.size) := hB2
                  have hb25 : B2 ≤ w5.heap.size := by omega
                  have HE0 : Hid (∀ wq : World, wq.ownsRow B2 3 1 (.slice none 0 0) 0 []) := fun wq => World.ownsRow_nil _ _ _ _
                  clear hB2 hq0
                  have hrow1 : Hid ((w5.alloc (.cells #[.int .i64 (N' : Int)] 3)).ownsRow B2 3 1 (.slice none 0 0) 0 []) := HE0.out _
                  go_wp2_with (at_builtin; refine wpList_append_own _ rfl _ _ 45 rfl B2 3 i0 (.int .i64 0) 1 8 Tryz.underlying45 hi hz0 hz1 hz2 rfl (by decide) _ _ _ rfl hrow1.out ⟨w5.heap.size, 0, none⟩ 1 1 [.int .i64 (N' : Int)] rfl rfl (one_new w5 (N' : Int)) (one_one (N' : Int)) (by unfold maxLen; omega) (by omega) (by rw [World.size_alloc]; omega) ?_)
                  intro v3 w6 hown3 hgrow3 hi3
                  clear hi3
                  have HNV1 : Hid (w6.ownsRow B2 3 1 v3 1 (hiC [(N' : Int)])) := hown3
                  have hB6a : Below B2 w5 w6 := ((Below.refl B2 w5).alloc hb25 _).grown hgrow3 (by rw [World.size_alloc]; omega) (fun j hj => (hrow1.out.lt j hj).1)
                  have hB6b : Below w5.heap.size w5 w6 := by rw [← HB25.out]; exact hB6a
                  have HO6 : Hid (RowI w6 base g cap H) := HO5.out.below hB6b
                  have HB6 : Hid (Below base w w6) := HB5.out.trans (hB6a.mono hB5)
                  have HR6 : Hid (OpsAt w6 (some ⟨b, off, none⟩) r) := HR5.out.below hB6b
                  have c0 := cell_bel hB6b c0
                  have c1 := cell_bel hB6b c1
                  have hs6 : w5.heap.size ≤ w6.heap.size := hB6b.size
                  clear hown3 hgrow3 hrow1 hB6a hB6b HE0 HO5 HB5 HR5
                  have HNV : Hid (w6.ownsRow B2 3 1 v3 1 (hiC ([N'].map fun (t : Nat) => (t : Int)))) := by
                    show World.ownsRow _ _ _ _ _ _ _
                    have e : hiC ([N'].map fun (t : Nat) => (t : Int)) = hiC [(N' : Int)] := by simp [hiC]
                    rw [e]; exact HNV1.out
                  clear HNV1
                  have HNX : Hid (nxP q0 i = [N']) := HNX0.out
                  have HKK : Hid (cms H gh [N'] = cms H gh (nxP q0 i)) := by show _ = _; rw [HNX.out]
                  have HBO : Hid (∀ t ∈ ([N'] : List Nat), t < n + 1) := fun t ht => by simp only [List.mem_cons, List.not_mem_nil, or_false] at ht; omega
                  obtain ⟨NL, hNL⟩ : ∃ NL : List Nat, NL = [N'] := ⟨_, rfl⟩
                  have HLL : Hid (NL.length = 1) := by show _ = _; rw [hNL]; rfl
                  have HNV' : Hid (w6.ownsRow B2 3 1 v3 1 (hiC (NL.map fun (t : Nat) => (t : Int)))) := by show World.ownsRow _ _ _ _ _ _ _; rw [hNL]; exact HNV.out
                  rw [← hNL] at HKK HBO
                  clear hNL HNV HNX HNX0
                  generalize cms H gh (nxP q0 i) = KK at HKK HST
                  obtain ⟨g2, cap2, hv3, HRN0⟩ := rowI_of (by rw [List.length_map]; exact HLL.out) (by omega) HNV'.out
                  have HRN : Hid (RowI w6 B2 g2 cap2 (NL.map fun (t : Nat) => (t : Int))) := HRN0
                  subst hv3
                  clear HRN0 HNV'
                  have hgB := HRN.out.lt
                  go_wp2
                  go_loopw [16] (fun x wr => ∃ (j : Nat) (Hj : List Int), j ≤ 1 ∧ x = .int .i64 j ∧ RowI wr base g cap Hj ∧ Hj.length = n + 1 ∧ (∀ y ∈ Hj, -1 ≤ y) ∧ cms Hj gh (NL.drop j) = KK ∧ RowI wr B2 g2 cap2 (NL.map fun (t : Nat) => (t : Int)) ∧ Below base w wr) (fun x _ => 1 - (intOf x).toNat)
                  case atStart => exact ⟨0, H, Nat.zero_le _, rfl, HO6.out, HHL.out, fun y hy => (HI.out.all y hy).1, by rw [List.drop_zero]; exact HKK.out, HRN.out, HB6.out⟩
                  case round =>
                    clear HRN HKK HO6 HB6
                    obtain ⟨j, Hj, hj, rfl, hO, hHl2, hge1, hK2, hRN, hB⟩ := hrel
                    have HO : Hid (RowI wr base g cap Hj) := hO
                    have HL2 : Hid (Hj.length = n + 1) := hHl2
                    have HGE : Hid (∀ y ∈ Hj, -1 ≤ y) := hge1
                    have HK2 : Hid (cms Hj gh (NL.drop j) = KK) := hK2
                    have HRN : Hid (RowI wr B2 g2 cap2 (NL.map fun (t : Nat) => (t : Int))) := hRN
                    have HB : Hid (Below base w wr) := hB
                    clear hO hHl2 hge1 hK2 hRN hB
                    rcases Nat.lt_or_ge j 1 with hltj | hgej
                    · have hjl : j < NL.length := by have := HLL.out; omega
                      obtain ⟨t, ht⟩ : ∃ t, NL[j]? = some t := ⟨_, List.getElem?_eq_getElem hjl⟩
                      have htn := HBO.out t (List.mem_of_getElem? ht)
                      have ct : wr.cell? ⟨g2, j, none⟩ = some (.int .i64 t) := HRN.out.get (by rw [List.getElem?_map, ht]; rfl)
                      obtain ⟨x, hx⟩ : ∃ x, Hj[t]? = some x := ⟨_, List.getElem?_eq_getElem (by have := HL2.out; omega)⟩
                      have cx := HO.out.get hx
                      have fx := HO.out.fr t
                      have hxge := HGE.out x (List.mem_of_getElem? hx)
                      have HCM : Hid (cmP Hj t gh = if x = -1 ∨ x = gh then some (Hj.set t gh) else none) := by show _ = _; unfold cmP; rw [hx]
                      have HDR : Hid (KK = match cmP Hj t gh with
                        | none => none
                        | some H1 => cms H1 gh (NL.drop (j + 1))) := by
                        have hk := HK2.out
                        obtain ⟨_, hte⟩ := List.getElem?_eq_some_iff.1 ht
                        rw [List.drop_eq_getElem_cons hjl, hte] at hk
                        exact hk.symm
                      clear hx ht hjl HK2
                      have hset : ∀ (hc : cmP Hj t gh = some (Hj.set t gh)), Hid (cms (Hj.set t gh) gh (NL.drop (j + 1)) = KK) := fun hc => by show _ = _; rw [HDR.out, hc]
                      have HO2 : Hid (RowI (wr.setCell ⟨g, t, none⟩ (.int .i64 gh)) base g cap (Hj.set t gh)) := HO.out.put t gh
                      have HRN2 : Hid (RowI (wr.setCell ⟨g, t, none⟩ (.int .i64 gh)) B2 g2 cap2 (NL.map fun (t : Nat) => (t : Int))) := ownsRow_setCell_below HRN.out (by simpa using hgB2) _
                      have HB2' : Hid (Below base w (wr.setCell ⟨g, t, none⟩ (.int .i64 gh))) := HB.out.setCell hbg _
                      have HL3 : Hid ((Hj.set t gh).length = n + 1) := by show _ = _; rw [List.length_set]; exact HL2.out
                      have HGE2 : Hid (∀ y ∈ Hj.set t gh, -1 ≤ y) := fun y hy => by
                        rcases List.mem_or_eq_of_mem_set hy with h | h
                        · exact HGE.out y h
                        · omega
                      have dt : (wr.setCell ⟨g, t, none⟩ (.int .i64 gh)).cell? ⟨g2, j, none⟩ = some (.int .i64 t) := (World.cell?_setCell_other _ _ _ _ (fun e => by injection e; omega)).trans ct
                      by_cases q1 : x = -1
                      · subst q1
                        have HC := hset (by rw [HCM.out, if_pos (Or.inl rfl)])
                        clear hset HCM HDR HO HRN HB HL2 HGE
                        go_wp2
                        go_roundw
                        case rel => exact ⟨j + 1, _, by omega, by go_num, HO2.out, HL3.out, HGE2.out, HC.out, HRN2.out, HB2'.out⟩
                        case measure => simp [intOf]; omega
                      · have q2 : 0 ≤ x := by omega
                        by_cases q3 : x = gh
                        · subst q3
                          have HC := hset (by rw [HCM.out, if_pos (Or.inr rfl)])
                          clear hset HCM HDR HO HRN HB HL2 HGE
                          go_wp2
                          go_roundw
                          case rel => exact ⟨j + 1, _, by omega, by go_num, HO2.out, HL3.out, HGE2.out, HC.out, HRN2.out, HB2'.out⟩
                          case measure => simp [intOf]; omega
                        · have q4 : (x != gh) = true := by simpa using q3
                          have HKN : Hid (KK = none) := by show _ = _; rw [HDR.out, HCM.out, if_neg (by omega)]
                          have HP : Hid (Ending.returned (.int .i64 0) = Ending.returned (.int .i64 (res.getD 0))) := by
                            show _ = _
                            rw [HHT2.out, HKS.out, HST.out, HKN.out]
                            rfl
                          clear hset HCM HDR HO HRN HL2 HGE HO2 HRN2 HB2' HL3 HGE2 dt q3
                          go_wp2
                          refine bodyPost_ret (v := .int .i64 0) (by simp [results, Tryz.results11, go_sem]) rfl ⟨HP.out, HB.out⟩
                    · obtain rfl : j = 1 := by omega
                      have hke := HK2.out
                      rw [List.drop_eq_nil_of_le (by have := HLL.out; omega)] at hke
                      have hke2 : KK = some Hj := hke.symm
                      have hs2 : stP q0 i n f a H = some (gh, Hj) := by rw [HST.out, hke2]
                      have HI2 : Hid (HtI Hj gh) := by have h := HtI.step HI.out hs2; rw [HQX.out] at h; exact h
                      have HKF : Hid (ckF n f a (r.drop (i + 1)) (i + 1) Hj gh = K) := by show _ = _; rw [HKS.out, hs2]; dsimp only; rw [HQX.out]
                      clear hke hke2 hs2 HK2 HST HKS HI HHL HRN HGE
                      go_wp2
                      go_roundw
                      case rel => exact ⟨i + 1, gh, Hj, by omega, rfl, by go_num, HO.out, HL2.out, HI2.out, HKF.out, HB.out⟩
                      case measure => simp [intOf]; omega
                · have HQX : Hid (max m gh = m) := by show _ = _; omega
                  subst hk
                  obtain ⟨N', rfl⟩ : ∃ N' : Nat, nn = (N' : Int) := ⟨nn.toNat, by have := HMN.out (by decide); omega⟩
                  have hN := HMN.out (by decide)
                  have HNX0 : Hid (nxP q0 i = [N']) := by show _ = _; rw [hq0]; simp [nxP]
                  obtain ⟨B2, hB2⟩ : ∃ B2, B2 = w5.heap.size := ⟨_, rfl⟩
                  have hgB2 : g < B2 := by rw [hB2]; exact HO5.out.lt.2
                  have hB5 : base ≤ B2 := by omega
                  have HB25 : Hid (B2 = w5.heap.size) := hB2
                  have hb25 : B2 ≤ w5.heap.size := by omega
                  have HE0 : Hid (∀ wq : World, wq.ownsRow B2 3 1 (.slice none 0 0) 0 []) := fun wq => World.ownsRow_nil _ _ _ _
                  clear hB2 hq0
                  have hrow1 : Hid ((w5.alloc (.cells #[.int .i64 (N' : Int)] 3)).ownsRow B2 3 1 (.slice none 0 0) 0 []) := HE0.out _
                  go_wp2_with (at_builtin; refine wpList_append_own _ rfl _ _ 45 rfl B2 3 i0 (.int .i64 0) 1 8 Tryz.underlying45 hi hz0 hz1 hz2 rfl (by decide) _ _ _ rfl hrow1.out ⟨w5.heap.size, 0, none⟩ 1 1 [.int .i64 (N' : Int)] rfl rfl (one_new w5 (N' : Int)) (one_one (N' : Int)) (by unfold maxLen; omega) (by omega) (by rw [World.size_alloc]; omega) ?_)
                  intro v3 w6 hown3 hgrow3 hi3
                  clear hi3
                  have HNV1 : Hid (w6.ownsRow B2 3 1 v3 1 (hiC [(N' : Int)])) := hown3
                  have hB6a : Below B2 w5 w6 := ((Below.refl B2 w5).alloc hb25 _).grown hgrow3 (by rw [World.size_alloc]; omega) (fun j hj => (hrow1.out.lt j hj).1)
                  have hB6b : Below w5.heap.size w5 w6 := by rw [← HB25.out]; exact hB6a
                  have HO6 : Hid (RowI w6 base g cap H) := HO5.out.below hB6b
                  have HB6 : Hid (Below base w w6) := HB5.out.trans (hB6a.mono hB5)
                  have HR6 : Hid (OpsAt w6 (some ⟨b, off, none⟩) r) := HR5.out.below hB6b
                  have c0 := cell_bel hB6b c0
                  have c1 := cell_bel hB6b c1
                  have hs6 : w5.heap.size ≤ w6.heap.size := hB6b.size
                  clear hown3 hgrow3 hrow1 hB6a hB6b HE0 HO5 HB5 HR5
                  have HNV : Hid (w6.ownsRow B2 3 1 v3 1 (hiC ([N'].map fun (t : Nat) => (t : Int)))) := by
                    show World.ownsRow _ _ _ _ _ _ _
                    have e : hiC ([N'].map fun (t : Nat) => (t : Int)) = hiC [(N' : Int)] := by simp [hiC]
                    rw [e]; exact HNV1.out
                  clear HNV1
                  have HNX : Hid (nxP q0 i = [N']) := HNX0.out
                  have HKK : Hid (cms H gh [N'] = cms H gh (nxP q0 i)) := by show _ = _; rw [HNX.out]
                  have HBO : Hid (∀ t ∈ ([N'] : List Nat), t < n + 1) := fun t ht => by simp only [List.mem_cons, List.not_mem_nil, or_false] at ht; omega
                  obtain ⟨NL, hNL⟩ : ∃ NL : List Nat, NL = [N'] := ⟨_, rfl⟩
                  have HLL : Hid (NL.length = 1) := by show _ = _; rw [hNL]; rfl
                  have HNV' : Hid (w6.ownsRow B2 3 1 v3 1 (hiC (NL.map fun (t : Nat) => (t : Int)))) := by show World.ownsRow _ _ _ _ _ _ _; rw [hNL]; exact HNV.out
                  rw [← hNL] at HKK HBO
                  clear hNL HNV HNX HNX0
                  generalize cms H gh (nxP q0 i) = KK at HKK HST
                  obtain ⟨g2, cap2, hv3, HRN0⟩ := rowI_of (by rw [List.length_map]; exact HLL.out) (by omega) HNV'.out
                  have HRN : Hid (RowI w6 B2 g2 cap2 (NL.map fun (t : Nat) => (t : Int))) := HRN0
                  subst hv3
                  clear HRN0 HNV'
                  have hgB := HRN.out.lt
                  go_wp2
                  go_loopw [16] (fun x wr => ∃ (j : Nat) (Hj : List Int), j ≤ 1 ∧ x = .int .i64 j ∧ RowI wr base g cap Hj ∧ Hj.length = n + 1 ∧ (∀ y ∈ Hj, -1 ≤ y) ∧ cms Hj gh (NL.drop j) = KK ∧ RowI wr B2 g2 cap2 (NL.map fun (t : Nat) => (t : Int)) ∧ Below base w wr) (fun x _ => 1 - (intOf x).toNat)
                  case atStart => exact ⟨0, H, Nat.zero_le _, rfl, HO6.out, HHL.out, fun y hy => (HI.out.all y hy).1, by rw [List.drop_zero]; exact HKK.out, HRN.out, HB6.out⟩
                  case round =>
                    clear HRN HKK HO6 HB6
                    obtain ⟨j, Hj, hj, rfl, hO, hHl2, hge1, hK2, hRN, hB⟩ := hrel
                    have HO : Hid (RowI wr base g cap Hj) := hO
                    have HL2 : Hid (Hj.length = n + 1) := hHl2
                    have HGE : Hid (∀ y ∈ Hj, -1 ≤ y) := hge1
                    have HK2 : Hid (cms Hj gh (NL.drop j) = KK) := hK2
                    have HRN : Hid (RowI wr B2 g2 cap2 (NL.map fun (t : Nat) => (t : Int))) := hRN
                    have HB : Hid (Below base w wr) := hB
                    clear hO hHl2 hge1 hK2 hRN hB
                    rcases Nat.lt_or_ge j 1 with hltj | hgej
                    · have hjl : j < NL.length := by have := HLL.out; omega
                      obtain ⟨t, ht⟩ : ∃ t, NL[j]? = some t := ⟨_, List.getElem?_eq_getElem hjl⟩
                      have htn := HBO.out t (List.mem_of_getElem? ht)
                      have ct : wr.cell? ⟨g2, j, none⟩ = some (.int .i64 t) := HRN.out.get (by rw [List.getElem?_map, ht]; rfl)
                      obtain ⟨x, hx⟩ : ∃ x, Hj[t]? = some x := ⟨_, List.getElem?_eq_getElem (by have := HL2.out; omega)⟩
                      have cx := HO.out.get hx
                      have fx := HO.out.fr t
                      have hxge := HGE.out x (List.mem_of_getElem? hx)
                      have HCM : Hid (cmP Hj t gh = if x = -1 ∨ x = gh then some (Hj.set t gh) else none) := by show _ = _; unfold cmP; rw [hx]
                      have HDR : Hid (KK = match cmP Hj t gh with
                        | none => none
                        | some H1 => cms H1 gh (NL.drop (j + 1))) := by
                        have hk := HK2.out
                        obtain ⟨_, hte⟩ := List.getElem?_eq_some_iff.1 ht
                        rw [List.drop_eq_getElem_cons hjl, hte] at hk
                        exact hk.symm
                      clear hx ht hjl HK2
                      have hset : ∀ (hc : cmP Hj t gh = some (Hj.set t gh)), Hid (cms (Hj.set t gh) gh (NL.drop (j + 1)) = KK) := fun hc => by show _ = _; rw [HDR.out, hc]
                      have HO2 : Hid (RowI (wr.setCell ⟨g, t, none⟩ (.int .i64 gh)) base g cap (Hj.set t gh)) := HO.out.put t gh
                      have HRN2 : Hid (RowI (wr.setCell ⟨g, t, none⟩ (.int .i64 gh)) B2 g2 cap2 (NL.map fun (t : Nat) => (t : Int))) := ownsRow_setCell_below HRN.out (by simpa using hgB2) _
                      have HB2' : Hid (Below base w (wr.setCell ⟨g, t, none⟩ (.int .i64 gh))) := HB.out.setCell hbg _
                      have HL3 : Hid ((Hj.set t gh).length = n + 1) := by show _ = _; rw [List.length_set]; exact HL2.out
                      have HGE2 : Hid (∀ y ∈ Hj.set t gh, -1 ≤ y) := fun y hy => by
                        rcases List.mem_or_eq_of_mem_set hy with h | h
                        · exact HGE.out y h
                        · omega
                      have dt : (wr.setCell ⟨g, t, none⟩ (.int .i64 gh)).cell? ⟨g2, j, none⟩ = some (.int .i64 t) := (World.cell?_setCell_other _ _ _ _ (fun e => by injection e; omega)).trans ct
                      by_cases q1 : x = -1
                      · subst q1
                        have HC := hset (by rw [HCM.out, if_pos (Or.inl rfl)])
                        clear hset HCM HDR HO HRN HB HL2 HGE
                        go_wp2
                        go_roundw
                        case rel => exact ⟨j + 1, _, by omega, by go_num, HO2.out, HL3.out, HGE2.out, HC.out, HRN2.out, HB2'.out⟩
                        case measure => simp [intOf]; omega
                      · have q2 : 0 ≤ x := by omega
                        by_cases q3 : x = gh
                        · subst q3
                          have HC := hset (by rw [HCM.out, if_pos (Or.inr rfl)])
                          clear hset HCM HDR HO HRN HB HL2 HGE
                          go_wp2
                          go_roundw
                          case rel => exact ⟨j + 1, _, by omega, by go_num, HO2.out, HL3.out, HGE2.out, HC.out, HRN2.out, HB2'.out⟩
                          case measure => simp [intOf]; omega
                        · have q4 : (x != gh) = true := by simpa using q3
                          have HKN : Hid (KK = none) := by show _ = _; rw [HDR.out, HCM.out, if_neg (by omega)]
                          have HP : Hid (Ending.returned (.int .i64 0) = Ending.returned (.int .i64 (res.getD 0))) := by
                            show _ = _
                            rw [HHT2.out, HKS.out, HST.out, HKN.out]
                            rfl
                          clear hset HCM HDR HO HRN HL2 HGE HO2 HRN2 HB2' HL3 HGE2 dt q3
                          go_wp2
                          refine bodyPost_ret (v := .int .i64 0) (by simp [results, Tryz.results11, go_sem]) rfl ⟨HP.out, HB.out⟩
                    · obtain rfl : j = 1 := by omega
                      have hke := HK2.out
                      rw [List.drop_eq_nil_of_le (by have := HLL.out; omega)] at hke
                      have hke2 : KK = some Hj := hke.symm
                      have hs2 : stP q0 i n f a H = some (gh, Hj) := by rw [HST.out, hke2]
                      have HI2 : Hid (HtI Hj m) := by have h := HtI.step HI.out hs2; rw [HQX.out] at h; exact h
                      have HKF : Hid (ckF n f a (r.drop (i + 1)) (i + 1) Hj m = K) := by show _ = _; rw [HKS.out, hs2]; dsimp only; rw [HQX.out]
                      clear hke hke2 hs2 HK2 HST HKS HI HHL HRN HGE
                      go_wp2
                      go_roundw
                      case rel => exact ⟨i + 1, m, Hj, by omega, rfl, by go_num, HO.out, HL2.out, HI2.out, HKF.out, HB.out⟩
                      case measure => simp [intOf]; omega
              by_cases hk8 : k = 8
              · have hk := hk8
                clear hk7 hk8
                rcases Int.lt_or_le m gh with hmg | hmg
                · have HQX : Hid (max m gh = gh) := by show _ = _; omega
                  subst hk
                  obtain ⟨N', rfl⟩ : ∃ N' : Nat, nn = (N' : Int) := ⟨nn.toNat, by have := HMN.out (by decide); omega⟩
                  have hN := HMN.out (by decide)
                  have HNX0 : Hid (nxP q0 i = [i + 1, N']) := by show _ = _; rw [hq0]; simp [nxP]
                  obtain ⟨B2, hB2⟩ : ∃ B2, B2 = w5.heap.size := ⟨_, rfl⟩
                  have hgB2 : g < B2 := by rw [hB2]; exact HO5.out.lt.2
                  have hB5 : base ≤ B2 := by omega
                  have HB25 : Hid (B2 = w5.heap.size) := hB2
                  have hb25 : B2 ≤ w5.heap.size := by omega
                  have HE0 : Hid (∀ wq : World, wq.ownsRow B2 3 1 (.slice none 0 0) 0 []) := fun wq => World.ownsRow_nil _ _ _ _
                  clear hB2 hq0
                  have hrow1 : Hid ((w5.alloc (.cells #[.int .i64 ((i : Int) + 1)] 3)).ownsRow B2 3 1 (.slice none 0 0) 0 []) := HE0.out _
                  go_wp2_with (at_builtin; refine wpList_append_own _ rfl _ _ 45 rfl B2 3 i0 (.int .i64 0) 1 8 Tryz.underlying45 hi hz0 hz1 hz2 rfl (by decide) _ _ _ rfl hrow1.out ⟨w5.heap.size, 0, none⟩ 1 1 [.int .i64 ((i : Int) + 1)] rfl rfl (one_new w5 ((i : Int) + 1)) (one_one ((i : Int) + 1)) (by unfold maxLen; omega) (by omega) (by rw [World.size_alloc]; omega) ?_)
                  intro v3 w6 hown3 hgrow3 hi3
                  clear hi3
                  have HNV1 : Hid (w6.ownsRow B2 3 1 v3 1 (hiC [((i : Int) + 1)])) := hown3
                  have hB6a : Below B2 w5 w6 := ((Below.refl B2 w5).alloc hb25 _).grown hgrow3 (by rw [World.size_alloc]; omega) (fun j hj => (hrow1.out.lt j hj).1)
                  have hB6b : Below w5.heap.size w5 w6 := by rw [← HB25.out]; exact hB6a
                  have HO6 : Hid (RowI w6 base g cap H) := HO5.out.below hB6b
                  have HB6 : Hid (Below base w w6) := HB5.out.trans (hB6a.mono hB5)
                  have HR6 : Hid (OpsAt w6 (some ⟨b, off, none⟩) r) := HR5.out.below hB6b
                  have c0 := cell_bel hB6b c0
                  have c1 := cell_bel hB6b c1
                  have hs6 : w5.heap.size ≤ w6.heap.size := hB6b.size
                  clear hown3 hgrow3 hrow1 hB6a hB6b HE0 HO5 HB5 HR5
                  have hrow2 : Hid ((w6.alloc (.cells #[.int .i64 (N' : Int)] 3)).ownsRow B2 3 1 v3 1 (hiC [((i : Int) + 1)])) := HNV1.out.alloc _
                  go_wp2_with (at_builtin; refine wpList_append_own _ rfl _ _ 45 rfl B2 3 i0 (.int .i64 0) 1 8 Tryz.underlying45 hi hz0 hz1 hz2 rfl (by decide) _ _ _ rfl hrow2.out ⟨w6.heap.size, 0, none⟩ 1 1 [.int .i64 (N' : Int)] rfl rfl (one_new w6 (N' : Int)) (one_one (N' : Int)) (by unfold maxLen; omega) (by omega) (by rw [World.size_alloc]; omega) ?_)
                  intro v4 w7 hown4 hgrow4 hi4
                  clear hi4
                  have HNV : Hid (w7.ownsRow B2 3 1 v4 2 (hiC ([i + 1, N'].map fun (t : Nat) => (t : Int)))) := by
                    show World.ownsRow _ _ _ _ _ _ _
                    have e : hiC ([i + 1, N'].map fun (t : Nat) => (t : Int)) = hiC [(i : Int) + 1] ++ [.int .i64 (N' : Int)] := by simp [hiC]
                    rw [e]; exact hown4
                  have hB7a : Below B2 w6 w7 := ((Below.refl B2 w6).alloc (by omega) _).grown hgrow4 (by rw [World.size_alloc]; omega) (fun j hj => (hrow2.out.lt j hj).1)
                  have HO7 : Hid (RowI w7 base g cap H) := HO6.out.keep hB7a hgB2
                  have HB7 : Hid (Below base w w7) := HB6.out.trans (hB7a.mono hB5)
                  clear hown4 hgrow4 hrow2 hB7a HNV1 HO6 HB6
                  have HNX : Hid (nxP q0 i = [i + 1, N']) := HNX0.out
                  have HKK : Hid (cms H gh [i + 1, N'] = cms H gh (nxP q0 i)) := by show _ = _; rw [HNX.out]
                  have HBO : Hid (∀ t ∈ ([i + 1, N'] : List Nat), t < n + 1) := fun t ht => by simp only [List.mem_cons, List.not_mem_nil, or_false] at ht; omega
                  obtain ⟨NL, hNL⟩ : ∃ NL : List Nat, NL = [i + 1, N'] := ⟨_, rfl⟩
                  have HLL : Hid (NL.length = 2) := by show _ = _; rw [hNL]; rfl
                  have HNV' : Hid (w7.ownsRow B2 3 1 v4 2 (hiC (NL.map fun (t : Nat) => (t : Int)))) := by show World.ownsRow _ _ _ _ _ _ _; rw [hNL]; exact HNV.out
                  rw [← hNL] at HKK HBO
                  clear hNL HNV HNX HNX0
                  generalize cms H gh (nxP q0 i) = KK at HKK HST
                  obtain ⟨g2, cap2, hv4, HRN0⟩ := rowI_of (by rw [List.length_map]; exact HLL.out) (by omega) HNV'.out
                  have HRN : Hid (RowI w7 B2 g2 cap2 (NL.map fun (t : Nat) => (t : Int))) := HRN0
                  subst hv4
                  clear HRN0 HNV'
                  have hgB := HRN.out.lt
                  go_wp2
                  go_loopw [16] (fun x wr => ∃ (j : Nat) (Hj : List Int), j ≤ 2 ∧ x = .int .i64 j ∧ RowI wr base g cap Hj ∧ Hj.length = n + 1 ∧ (∀ y ∈ Hj, -1 ≤ y) ∧ cms Hj gh (NL.drop j) = KK ∧ RowI wr B2 g2 cap2 (NL.map fun (t : Nat) => (t : Int)) ∧ Below base w wr) (fun x _ => 2 - (intOf x).toNat)
                  case atStart => exact ⟨0, H, Nat.zero_le _, rfl, HO7.out, HHL.out, fun y hy => (HI.out.all y hy).1, by rw [List.drop_zero]; exact HKK.out, HRN.out, HB7.out⟩
                  case round =>
                    clear HRN HKK HO7 HB7
                    obtain ⟨j, Hj, hj, rfl, hO, hHl2, hge1, hK2, hRN, hB⟩ := hrel
                    have HO : Hid (RowI wr base g cap Hj) := hO
                    have HL2 : Hid (Hj.length = n + 1) := hHl2
                    have HGE : Hid (∀ y ∈ Hj, -1 ≤ y) := hge1
                    have HK2 : Hid (cms Hj gh (NL.drop j) = KK) := hK2
                    have HRN : Hid (RowI wr B2 g2 cap2 (NL.map fun (t : Nat) => (t : Int))) := hRN
                    have HB : Hid (Below base w wr) := hB
                    clear hO hHl2 hge1 hK2 hRN hB
                    rcases Nat.lt_or_ge j 2 with hltj | hgej
                    · have hjl : j < NL.length := by have := HLL.out; omega
                      obtain ⟨t, ht⟩ : ∃ t, NL[j]? = some t := ⟨_, List.getElem?_eq_getElem hjl⟩
                      have htn := HBO.out t (List.mem_of_getElem? ht)
                      have ct : wr.cell? ⟨g2, j, none⟩ = some (.int .i64 t) := HRN.out.get (by rw [List.getElem?_map, ht]; rfl)
                      obtain ⟨x, hx⟩ : ∃ x, Hj[t]? = some x := ⟨_, List.getElem?_eq_getElem (by have := HL2.out; omega)⟩
                      have cx := HO.out.get hx
                      have fx := HO.out.fr t
                      have hxge := HGE.out x (List.mem_of_getElem? hx)
                      have HCM : Hid (cmP Hj t gh = if x = -1 ∨ x = gh then some (Hj.set t gh) else none) := by show _ = _; unfold cmP; rw [hx]
                      have HDR : Hid (KK = match cmP Hj t gh with
                        | none => none
                        | some H1 => cms H1 gh (NL.drop (j + 1))) := by
                        have hk := HK2.out
                        obtain ⟨_, hte⟩ := List.getElem?_eq_some_iff.1 ht
                        rw [List.drop_eq_getElem_cons hjl, hte] at hk
                        exact hk.symm
                      clear hx ht hjl HK2
                      have hset : ∀ (hc : cmP Hj t gh = some (Hj.set t gh)), Hid (cms (Hj.set t gh) gh (NL.drop (j + 1)) = KK) := fun hc => by show _ = _; rw [HDR.out, hc]
                      have HO2 : Hid (RowI (wr.setCell ⟨g, t, none⟩ (.int .i64 gh)) base g cap (Hj.set t gh)) := HO.out.put t gh
                      have HRN2 : Hid (RowI (wr.setCell ⟨g, t, none⟩ (.int .i64 gh)) B2 g2 cap2 (NL.map fun (t : Nat) => (t : Int))) := ownsRow_setCell_below HRN.out (by simpa using hgB2) _
                      have HB2' : Hid (Below base w (wr.setCell ⟨g, t, none⟩ (.int .i64 gh))) := HB.out.setCell hbg _
                      have HL3 : Hid ((Hj.set t gh).length = n + 1) := by show _ = _; rw [List.length_set]; exact HL2.out
                      have HGE2 : Hid (∀ y ∈ Hj.set t gh, -1 ≤ y) := fun y hy => by
                        rcases List.mem_or_eq_of_mem_set hy with h | h
                        · exact HGE.out y h
                        · omega
                      have dt : (wr.setCell ⟨g, t, none⟩ (.int .i64 gh)).cell? ⟨g2, j, none⟩ = some (.int .i64 t) := (World.cell?_setCell_other _ _ _ _ (fun e => by injection e; omega)).trans ct
                      by_cases q1 : x = -1
                      · subst q1
                        have HC := hset (by rw [HCM.out, if_pos (Or.inl rfl)])
                        clear hset HCM HDR HO HRN HB HL2 HGE
                        go_wp2
                        go_roundw
                        case rel => exact ⟨j + 1, _, by omega, by go_num, HO2.out, HL3.out, HGE2.out, HC.out, HRN2.out, HB2'.out⟩
                        case measure => simp [intOf]; omega
                      · have q2 : 0 ≤ x := by omega
                        by_cases q3 : x = gh
                        · subst q3
                          have HC := hset (by rw [HCM.out, if_pos (Or.inr rfl)])
                          clear hset HCM HDR HO HRN HB HL2 HGE
                          go_wp2
                          go_roundw
                          case rel => exact ⟨j + 1, _, by omega, by go_num, HO2.out, HL3.out, HGE2.out, HC.out, HRN2.out, HB2'.out⟩
                          case measure => simp [intOf]; omega
                        · have q4 : (x != gh) = true := by simpa using q3
                          have HKN : Hid (KK = none) := by show _ = _; rw [HDR.out, HCM.out, if_neg (by omega)]
                          have HP : Hid (Ending.returned (.int .i64 0) = Ending.returned (.int .i64 (res.getD 0))) := by
                            show _ = _
                            rw [HHT2.out, HKS.out, HST.out, HKN.out]
                            rfl
                          clear hset HCM HDR HO HRN HL2 HGE HO2 HRN2 HB2' HL3 HGE2 dt q3
                          go_wp2
                          refine bodyPost_ret (v := .int .i64 0) (by simp [results, Tryz.results11, go_sem]) rfl ⟨HP.out, HB.out⟩
                    · obtain rfl : j = 2 := by omega
                      have hke := HK2.out
                      rw [List.drop_eq_nil_of_le (by have := HLL.out; omega)] at hke
                      have hke2 : KK = some Hj := hke.symm
                      have hs2 : stP q0 i n f a H = some (gh, Hj) := by rw [HST.out, hke2]
                      have HI2 : Hid (HtI Hj gh) := by have h := HtI.step HI.out hs2; rw [HQX.out] at h; exact h
                      have HKF : Hid (ckF n f a (r.drop (i + 1)) (i + 1) Hj gh = K) := by show _ = _; rw [HKS.out, hs2]; dsimp only; rw [HQX.out]
                      clear hke hke2 hs2 HK2 HST HKS HI HHL HRN HGE
                      go_wp2
                      go_roundw
                      case rel => exact ⟨i + 1, gh, Hj, by omega, rfl, by go_num, HO.out, HL2.out, HI2.out, HKF.out, HB.out⟩
                      case measure => simp [intOf]; omega
                · have HQX : Hid (max m gh = m) := by show _ = _; omega
                  subst hk
                  obtain ⟨N', rfl⟩ : ∃ N' : Nat, nn = (N' : Int) := ⟨nn.toNat, by have := HMN.out (by decide); omega⟩
                  have hN := HMN.out (by decide)
                  have HNX0 : Hid (nxP q0 i = [i + 1, N']) := by show _ = _; rw [hq0]; simp [nxP]
                  obtain ⟨B2, hB2⟩ : ∃ B2, B2 = w5.heap.size := ⟨_, rfl⟩
                  have hgB2 : g < B2 := by rw [hB2]; exact HO5.out.lt.2
                  have hB5 : base ≤ B2 := by omega
                  have HB25 : Hid (B2 = w5.heap.size) := hB2
                  have hb25 : B2 ≤ w5.heap.size := by omega
                  have HE0 : Hid (∀ wq : World, wq.ownsRow B2 3 1 (.slice none 0 0) 0 []) := fun wq => World.ownsRow_nil _ _ _ _
                  clear hB2 hq0
                  have hrow1 : Hid ((w5.alloc (.cells #[.int .i64 ((i : Int) + 1)] 3)).ownsRow B2 3 1 (.slice none 0 0) 0 []) := HE0.out _
                  go_wp2_with (at_builtin; refine wpList_append_own _ rfl _ _ 45 rfl B2 3 i0 (.int .i64 0) 1 8 Tryz.underlying45 hi hz0 hz1 hz2 rfl (by decide) _ _ _ rfl hrow1.out ⟨w5.heap.size, 0, none⟩ 1 1 [.int .i64 ((i : Int) + 1)] rfl rfl (one_new w5 ((i : Int) + 1)) (one_one ((i : Int) + 1)) (by unfold maxLen; omega) (by omega) (by rw [World.size_alloc]; omega) ?_)
                  intro v3 w6 hown3 hgrow3 hi3
                  clear hi3
                  have HNV1 : Hid (w6.ownsRow B2 3 1 v3 1 (hiC [((i : Int) + 1)])) := hown3
                  have hB6a : Below B2 w5 w6 := ((Below.refl B2 w5).alloc hb25 _).grown hgrow3 (by rw [World.size_alloc]; omega) (fun j hj => (hrow1.out.lt j hj).1)
                  have hB6b : Below w5.heap.size w5 w6 := by rw [← HB25.out]; exact hB6a
                  have HO6 : Hid (RowI w6 base g cap H) := HO5.out.below hB6b
                  have HB6 : Hid (Below base w w6) := HB5.out.trans (hB6a.mono hB5)
                  have HR6 : Hid (OpsAt w6 (some ⟨b, off, none⟩) r) := HR5.out.below hB6b
                  have c0 := cell_bel hB6b c0
                  have c1 := cell_bel hB6b c1
                  have hs6 : w5.heap.size ≤ w6.heap.size := hB6b.size
                  clear hown3 hgrow3 hrow1 hB6a hB6b HE0 HO5 HB5 HR5
                  have hrow2 : Hid ((w6.alloc (.cells #[.int .i64 (N' : Int)] 3)).ownsRow B2 3 1 v3 1 (hiC [((i : Int) + 1)])) := HNV1.out.alloc _
                  go_wp2_with (at_builtin; refine wpList_append_own _ rfl _ _ 45 rfl B2 3 i0 (.int .i64 0) 1 8 Tryz.underlying45 hi hz0 hz1 hz2 rfl (by decide) _ _ _ rfl hrow2.out ⟨w6.heap.size, 0, none⟩ 1 1 [.int .i64 (N' : Int)] rfl rfl (one_new w6 (N' : Int)) (one_one (N' : Int)) (by unfold maxLen; omega) (by omega) (by rw [World.size_alloc]; omega) ?_)
                  intro v4 w7 hown4 hgrow4 hi4
                  clear hi4
                  have HNV : Hid (w7.ownsRow B2 3 1 v4 2 (hiC ([i + 1, N'].map fun (t : Nat) => (t : Int)))) := by
                    show World.ownsRow _ _ _ _ _ _ _
                    have e : hiC ([i + 1, N'].map fun (t : Nat) => (t : Int)) = hiC [(i : Int) + 1] ++ [.int .i64 (N' : Int)] := by simp [hiC]
                    rw [e]; exact hown4
                  have hB7a : Below B2 w6 w7 := ((Below.refl B2 w6).alloc (by omega) _).grown hgrow4 (by rw [World.size_alloc]; omega) (fun j hj => (hrow2.out.lt j hj).1)
                  have HO7 : Hid (RowI w7 base g cap H) := HO6.out.keep hB7a hgB2
                  have HB7 : Hid (Below base w w7) := HB6.out.trans (hB7a.mono hB5)
                  clear hown4 hgrow4 hrow2 hB7a HNV1 HO6 HB6
                  have HNX : Hid (nxP q0 i = [i + 1, N']) := HNX0.out
                  have HKK : Hid (cms H gh [i + 1, N'] = cms H gh (nxP q0 i)) := by show _ = _; rw [HNX.out]
                  have HBO : Hid (∀ t ∈ ([i + 1, N'] : List Nat), t < n + 1) := fun t ht => by simp only [List.mem_cons, List.not_mem_nil, or_false] at ht; omega
                  obtain ⟨NL, hNL⟩ : ∃ NL : List Nat, NL = [i + 1, N'] := ⟨_, rfl⟩
                  have HLL : Hid (NL.length = 2) := by show _ = _; rw [hNL]; rfl
                  have HNV' : Hid (w7.ownsRow B2 3 1 v4 2 (hiC (NL.map fun (t : Nat) => (t : Int)))) := by show World.ownsRow _ _ _ _ _ _ _; rw [hNL]; exact HNV.out
                  rw [← hNL] at HKK HBO
                  clear hNL HNV HNX HNX0
                  generalize cms H gh (nxP q0 i) = KK at HKK HST
                  obtain ⟨g2, cap2, hv4, HRN0⟩ := rowI_of (by rw [List.length_map]; exact HLL.out) (by omega) HNV'.out
                  have HRN : Hid (RowI w7 B2 g2 cap2 (NL.map fun (t : Nat) => (t : Int))) := HRN0
                  subst hv4
                  clear HRN0 HNV'
                  have hgB := HRN.out.lt
                  go_wp2
                  go_loopw [16] (fun x wr => ∃ (j : Nat) (Hj : List Int), j ≤ 2 ∧ x = .int .i64 j ∧ RowI wr base g cap Hj ∧ Hj.length = n + 1 ∧ (∀ y ∈ Hj, -1 ≤ y) ∧ cms Hj gh (NL.drop j) = KK ∧ RowI wr B2 g2 cap2 (NL.map fun (t : Nat) => (t : Int)) ∧ Below base w wr) (fun x _ => 2 - (intOf x).toNat)
                  case atStart => exact ⟨0, H, Nat.zero_le _, rfl, HO7.out, HHL.out, fun y hy => (HI.out.all y hy).1, by rw [List.drop_zero]; exact HKK.out, HRN.out, HB7.out⟩
                  case round =>
                    clear HRN HKK HO7 HB7
                    obtain ⟨j, Hj, hj, rfl, hO, hHl2, hge1, hK2, hRN, hB⟩ := hrel
                    have HO : Hid (RowI wr base g cap Hj) := hO
                    have HL2 : Hid (Hj.length = n + 1) := hHl2
                    have HGE : Hid (∀ y ∈ Hj, -1 ≤ y) := hge1
                    have HK2 : Hid (cms Hj gh (NL.drop j) = KK) := hK2
                    have HRN : Hid (RowI wr B2 g2 cap2 (NL.map fun (t : Nat) => (t : Int))) := hRN
                    have HB : Hid (Below base w wr) := hB
                    clear hO hHl2 hge1 hK2 hRN hB
                    rcases Nat.lt_or_ge j 2 with hltj | hgej
                    · have hjl : j < NL.length := by have := HLL.out; omega
                      obtain ⟨t, ht⟩ : ∃ t, NL[j]? = some t := ⟨_, List.getElem?_eq_getElem hjl⟩
                      have htn := HBO.out t (List.mem_of_getElem? ht)
                      have ct : wr.cell? ⟨g2, j, none⟩ = some (.int .i64 t) := HRN.out.get (by rw [List.getElem?_map, ht]; rfl)
                      obtain ⟨x, hx⟩ : ∃ x, Hj[t]? = some x := ⟨_, List.getElem?_eq_getElem (by have := HL2.out; omega)⟩
                      have cx := HO.out.get hx
                      have fx := HO.out.fr t
                      have hxge := HGE.out x (List.mem_of_getElem? hx)
                      have HCM : Hid (cmP Hj t gh = if x = -1 ∨ x = gh then some (Hj.set t gh) else none) := by show _ = _; unfold cmP; rw [hx]
                      have HDR : Hid (KK = match cmP Hj t gh with
                        | none => none
                        | some H1 => cms H1 gh (NL.drop (j + 1))) := by
                        have hk := HK2.out
                        obtain ⟨_, hte⟩ := List.getElem?_eq_some_iff.1 ht
                        rw [List.drop_eq_getElem_cons hjl, hte] at hk
                        exact hk.symm
                      clear hx ht hjl HK2
                      have hset : ∀ (hc : cmP Hj t gh = some (Hj.set t gh)), Hid (cms (Hj.set t gh) gh (NL.drop (j + 1)) = KK) := fun hc => by show _ = _; rw [HDR.out, hc]
                      have HO2 : Hid (RowI (wr.setCell ⟨g, t, none⟩ (.int .i64 gh)) base g cap (Hj.set t gh)) := HO.out.put t gh
                      have HRN2 : Hid (RowI (wr.setCell ⟨g, t, none⟩ (.int .i64 gh)) B2 g2 cap2 (NL.map fun (t : Nat) => (t : Int))) := ownsRow_setCell_below HRN.out (by simpa using hgB2) _
                      have HB2' : Hid (Below base w (wr.setCell ⟨g, t, none⟩ (.int .i64 gh))) := HB.out.setCell hbg _
                      have HL3 : Hid ((Hj.set t gh).length = n + 1) := by show _ = _; rw [List.length_set]; exact HL2.out
                      have HGE2 : Hid (∀ y ∈ Hj.set t gh, -1 ≤ y) := fun y hy => by
                        rcases List.mem_or_eq_of_mem_set hy with h | h
                        · exact HGE.out y h
                        · omega
                      have dt : (wr.setCell ⟨g, t, none⟩ (.int .i64 gh)).cell? ⟨g2, j, none⟩ = some (.int .i64 t) := (World.cell?_setCell_other _ _ _ _ (fun e => by injection e; omega)).trans ct
                      by_cases q1 : x = -1
                      · subst q1
                        have HC := hset (by rw [HCM.out, if_pos (Or.inl rfl)])
                        clear hset HCM HDR HO HRN HB HL2 HGE
                        go_wp2
                        go_roundw
                        case rel => exact ⟨j + 1, _, by omega, by go_num, HO2.out, HL3.out, HGE2.out, HC.out, HRN2.out, HB2'.out⟩
                        case measure => simp [intOf]; omega
                      · have q2 : 0 ≤ x := by omega
                        by_cases q3 : x = gh
                        · subst q3
                          have HC := hset (by rw [HCM.out, if_pos (Or.inr rfl)])
                          clear hset HCM HDR HO HRN HB HL2 HGE
                          go_wp2
                          go_roundw
                          case rel => exact ⟨j + 1, _, by omega, by go_num, HO2.out, HL3.out, HGE2.out, HC.out, HRN2.out, HB2'.out⟩
                          case measure => simp [intOf]; omega
                        · have q4 : (x != gh) = true := by simpa using q3
                          have HKN : Hid (KK = none) := by show _ = _; rw [HDR.out, HCM.out, if_neg (by omega)]
                          have HP : Hid (Ending.returned (.int .i64 0) = Ending.returned (.int .i64 (res.getD 0))) := by
                            show _ = _
                            rw [HHT2.out, HKS.out, HST.out, HKN.out]
                            rfl
                          clear hset HCM HDR HO HRN HL2 HGE HO2 HRN2 HB2' HL3 HGE2 dt q3
                          go_wp2
                          refine bodyPost_ret (v := .int .i64 0) (by simp [results, Tryz.results11, go_sem]) rfl ⟨HP.out, HB.out⟩
                    · obtain rfl : j = 2 := by omega
                      have hke := HK2.out
                      rw [List.drop_eq_nil_of_le (by have := HLL.out; omega)] at hke
                      have hke2 : KK = some Hj := hke.symm
                      have hs2 : stP q0 i n f a H = some (gh, Hj) := by rw [HST.out, hke2]
                      have HI2 : Hid (HtI Hj m) := by have h := HtI.step HI.out hs2; rw [HQX.out] at h; exact h
                      have HKF : Hid (ckF n f a (r.drop (i + 1)) (i + 1) Hj m = K) := by show _ = _; rw [HKS.out, hs2]; dsimp only; rw [HQX.out]
                      clear hke hke2 hs2 HK2 HST HKS HI HHL HRN HGE
                      go_wp2
                      go_roundw
                      case rel => exact ⟨i + 1, m, Hj, by omega, rfl, by go_num, HO.out, HL2.out, HI2.out, HKF.out, HB.out⟩
                      case measure => simp [intOf]; omega
              · skip
                rcases Int.lt_or_le m gh with hmg | hmg
                · have HQX : Hid (max m gh = gh) := by show _ = _; omega
                  have k7 : (k != 7) = true := by simpa using hk7
                  have k7' : (k == 7) = false := by simpa using hk7
                  have k8' : (k == 8) = false := by simpa using hk8
                  have HNX0 : Hid (nxP q0 i = [i + 1]) := by show _ = _; rw [hq0]; simp [nxP, hk7, hk8]
                  clear hk7 hk8
                  obtain ⟨B2, hB2⟩ : ∃ B2, B2 = w5.heap.size := ⟨_, rfl⟩
                  have hgB2 : g < B2 := by rw [hB2]; exact HO5.out.lt.2
                  have hB5 : base ≤ B2 := by omega
                  have HB25 : Hid (B2 = w5.heap.size) := hB2
                  have hb25 : B2 ≤ w5.heap.size := by omega
                  have HE0 : Hid (∀ wq : World, wq.ownsRow B2 3 1 (.slice none 0 0) 0 []) := fun wq => World.ownsRow_nil _ _ _ _
                  clear hB2 hq0
                  have hrow1 : Hid ((w5.alloc (.cells #[.int .i64 ((i : Int) + 1)] 3)).ownsRow B2 3 1 (.slice none 0 0) 0 []) := HE0.out _
                  go_wp2_with (at_builtin; refine wpList_append_own _ rfl _ _ 45 rfl B2 3 i0 (.int .i64 0) 1 8 Tryz.underlying45 hi hz0 hz1 hz2 rfl (by decide) _ _ _ rfl hrow1.out ⟨w5.heap.size, 0, none⟩ 1 1 [.int .i64 ((i : Int) + 1)] rfl rfl (one_new w5 ((i : Int) + 1)) (one_one ((i : Int) + 1)) (by unfold maxLen; omega) (by omega) (by rw [World.size_alloc]; omega) ?_)
                  intro v3 w6 hown3 hgrow3 hi3
                  clear hi3
                  have HNV1 : Hid (w6.ownsRow B2 3 1 v3 1 (hiC [((i : Int) + 1)])) := hown3
                  have hB6a : Below B2 w5 w6 := ((Below.refl B2 w5).alloc hb25 _).grown hgrow3 (by rw [World.size_alloc]; omega) (fun j hj => (hrow1.out.lt j hj).1)
                  have hB6b : Below w5.heap.size w5 w6 := by rw [← HB25.out]; exact hB6a
                  have HO6 : Hid (RowI w6 base g cap H) := HO5.out.below hB6b
                  have HB6 : Hid (Below base w w6) := HB5.out.trans (hB6a.mono hB5)
                  have HR6 : Hid (OpsAt w6 (some ⟨b, off, none⟩) r) := HR5.out.below hB6b
                  have c0 := cell_bel hB6b c0
                  have c1 := cell_bel hB6b c1
                  have hs6 : w5.heap.size ≤ w6.heap.size := hB6b.size
                  clear hown3 hgrow3 hrow1 hB6a hB6b HE0 HO5 HB5 HR5
                  have HNV : Hid (w6.ownsRow B2 3 1 v3 1 (hiC ([i + 1].map fun (t : Nat) => (t : Int)))) := by
                    show World.ownsRow _ _ _ _ _ _ _
                    have e : hiC ([i + 1].map fun (t : Nat) => (t : Int)) = hiC [((i : Int) + 1)] := by simp [hiC]
                    rw [e]; exact HNV1.out
                  clear HNV1
                  have HNX : Hid (nxP q0 i = [i + 1]) := HNX0.out
                  have HKK : Hid (cms H gh [i + 1] = cms H gh (nxP q0 i)) := by show _ = _; rw [HNX.out]
                  have HBO : Hid (∀ t ∈ ([i + 1] : List Nat), t < n + 1) := fun t ht => by simp only [List.mem_cons, List.not_mem_nil, or_false] at ht; omega
                  obtain ⟨NL, hNL⟩ : ∃ NL : List Nat, NL = [i + 1] := ⟨_, rfl⟩
                  have HLL : Hid (NL.length = 1) := by show _ = _; rw [hNL]; rfl
                  have HNV' : Hid (w6.ownsRow B2 3 1 v3 1 (hiC (NL.map fun (t : Nat) => (t : Int)))) := by show World.ownsRow _ _ _ _ _ _ _; rw [hNL]; exact HNV.out
                  rw [← hNL] at HKK HBO
                  clear hNL HNV HNX HNX0
                  generalize cms H gh (nxP q0 i) = KK at HKK HST
                  obtain ⟨g2, cap2, hv3, HRN0⟩ := rowI_of (by rw [List.length_map]; exact HLL.out) (by omega) HNV'.out
                  have HRN : Hid (RowI w6 B2 g2 cap2 (NL.map fun (t : Nat) => (t : Int))) := HRN0
                  subst hv3
                  clear HRN0 HNV'
                  have hgB := HRN.out.lt
                  go_wp2
                  go_loopw [16] (fun x wr => ∃ (j : Nat) (Hj : List Int), j ≤ 1 ∧ x = .int .i64 j ∧ RowI wr base g cap Hj ∧ Hj.length = n + 1 ∧ (∀ y ∈ Hj, -1 ≤ y) ∧ cms Hj gh (NL.drop j) = KK ∧ RowI wr B2 g2 cap2 (NL.map fun (t : Nat) => (t : Int)) ∧ Below base w wr) (fun x _ => 1 - (intOf x).toNat)
                  case atStart => exact ⟨0, H, Nat.zero_le _, rfl, HO6.out, HHL.out, fun y hy => (HI.out.all y hy).1, by rw [List.drop_zero]; exact HKK.out, HRN.out, HB6.out⟩
                  case round =>
                    clear HRN HKK HO6 HB6
                    obtain ⟨j, Hj, hj, rfl, hO, hHl2, hge1, hK2, hRN, hB⟩ := hrel
                    have HO : Hid (RowI wr base g cap Hj) := hO
                    have HL2 : Hid (Hj.length = n + 1) := hHl2
                    have HGE : Hid (∀ y ∈ Hj, -1 ≤ y) := hge1
                    have HK2 : Hid (cms Hj gh (NL.drop j) = KK) := hK2
                    have HRN : Hid (RowI wr B2 g2 cap2 (NL.map fun (t : Nat) => (t : Int))) := hRN
                    have HB : Hid (Below base w wr) := hB
                    clear hO hHl2 hge1 hK2 hRN hB
                    rcases Nat.lt_or_ge j 1 with hltj | hgej
                    · have hjl : j < NL.length := by have := HLL.out; omega
                      obtain ⟨t, ht⟩ : ∃ t, NL[j]? = some t := ⟨_, List.getElem?_eq_getElem hjl⟩
                      have htn := HBO.out t (List.mem_of_getElem? ht)
                      have ct : wr.cell? ⟨g2, j, none⟩ = some (.int .i64 t) := HRN.out.get (by rw [List.getElem?_map, ht]; rfl)
                      obtain ⟨x, hx⟩ : ∃ x, Hj[t]? = some x := ⟨_, List.getElem?_eq_getElem (by have := HL2.out; omega)⟩
                      have cx := HO.out.get hx
                      have fx := HO.out.fr t
                      have hxge := HGE.out x (List.mem_of_getElem? hx)
                      have HCM : Hid (cmP Hj t gh = if x = -1 ∨ x = gh then some (Hj.set t gh) else none) := by show _ = _; unfold cmP; rw [hx]
                      have HDR : Hid (KK = match cmP Hj t gh with
                        | none => none
                        | some H1 => cms H1 gh (NL.drop (j + 1))) := by
                        have hk := HK2.out
                        obtain ⟨_, hte⟩ := List.getElem?_eq_some_iff.1 ht
                        rw [List.drop_eq_getElem_cons hjl, hte] at hk
                        exact hk.symm
                      clear hx ht hjl HK2
                      have hset : ∀ (hc : cmP Hj t gh = some (Hj.set t gh)), Hid (cms (Hj.set t gh) gh (NL.drop (j + 1)) = KK) := fun hc => by show _ = _; rw [HDR.out, hc]
                      have HO2 : Hid (RowI (wr.setCell ⟨g, t, none⟩ (.int .i64 gh)) base g cap (Hj.set t gh)) := HO.out.put t gh
                      have HRN2 : Hid (RowI (wr.setCell ⟨g, t, none⟩ (.int .i64 gh)) B2 g2 cap2 (NL.map fun (t : Nat) => (t : Int))) := ownsRow_setCell_below HRN.out (by simpa using hgB2) _
                      have HB2' : Hid (Below base w (wr.setCell ⟨g, t, none⟩ (.int .i64 gh))) := HB.out.setCell hbg _
                      have HL3 : Hid ((Hj.set t gh).length = n + 1) := by show _ = _; rw [List.length_set]; exact HL2.out
                      have HGE2 : Hid (∀ y ∈ Hj.set t gh, -1 ≤ y) := fun y hy => by
                        rcases List.mem_or_eq_of_mem_set hy with h | h
                        · exact HGE.out y h
                        · omega
                      have dt : (wr.setCell ⟨g, t, none⟩ (.int .i64 gh)).cell? ⟨g2, j, none⟩ = some (.int .i64 t) := (World.cell?_setCell_other _ _ _ _ (fun e => by injection e; omega)).trans ct
                      by_cases q1 : x = -1
                      · subst q1
                        have HC := hset (by rw [HCM.out, if_pos (Or.inl rfl)])
                        clear hset HCM HDR HO HRN HB HL2 HGE
                        go_wp2
                        go_roundw
                        case rel => exact ⟨j + 1, _, by omega, by go_num, HO2.out, HL3.out, HGE2.out, HC.out, HRN2.out, HB2'.out⟩
                        case measure => simp [intOf]; omega
                      · have q2 : 0 ≤ x := by omega
                        by_cases q3 : x = gh
                        · subst q3
                          have HC := hset (by rw [HCM.out, if_pos (Or.inr rfl)])
                          clear hset HCM HDR HO HRN HB HL2 HGE
                          go_wp2
                          go_roundw
                          case rel => exact ⟨j + 1, _, by omega, by go_num, HO2.out, HL3.out, HGE2.out, HC.out, HRN2.out, HB2'.out⟩
                          case measure => simp [intOf]; omega
                        · have q4 : (x != gh) = true := by simpa using q3
                          have HKN : Hid (KK = none) := by show _ = _; rw [HDR.out, HCM.out, if_neg (by omega)]
                          have HP : Hid (Ending.returned (.int .i64 0) = Ending.returned (.int .i64 (res.getD 0))) := by
                            show _ = _
                            rw [HHT2.out, HKS.out, HST.out, HKN.out]
                            rfl
                          clear hset HCM HDR HO HRN HL2 HGE HO2 HRN2 HB2' HL3 HGE2 dt q3
                          go_wp2
                          refine bodyPost_ret (v := .int .i64 0) (by simp [results, Tryz.results11, go_sem]) rfl ⟨HP.out, HB.out⟩
                    · obtain rfl : j = 1 := by omega
                      have hke := HK2.out
                      rw [List.drop_eq_nil_of_le (by have := HLL.out; omega)] at hke
                      have hke2 : KK = some Hj := hke.symm
                      have hs2 : stP q0 i n f a H = some (gh, Hj) := by rw [HST.out, hke2]
                      have HI2 : Hid (HtI Hj gh) := by have h := HtI.step HI.out hs2; rw [HQX.out] at h; exact h
                      have HKF : Hid (ckF n f a (r.drop (i + 1)) (i + 1) Hj gh = K) := by show _ = _; rw [HKS.out, hs2]; dsimp only; rw [HQX.out]
                      clear hke hke2 hs2 HK2 HST HKS HI HHL HRN HGE
                      go_wp2
                      go_roundw
                      case rel => exact ⟨i + 1, gh, Hj, by omega, rfl, by go_num, HO.out, HL2.out, HI2.out, HKF.out, HB.out⟩
                      case measure => simp [intOf]; omega
                · have HQX : Hid (max m gh = m) := by show _ = _; omega
                  have k7 : (k != 7) = true := by simpa using hk7
                  have k7' : (k == 7) = false := by simpa using hk7
                  have k8' : (k == 8) = false := by simpa using hk8
                  have HNX0 : Hid (nxP q0 i = [i + 1]) := by show _ = _; rw [hq0]; simp [nxP, hk7, hk8]
                  clear hk7 hk8
                  obtain ⟨B2, hB2⟩ : ∃ B2, B2 = w5.heap.size := ⟨_, rfl⟩
                  have hgB2 : g < B2 := by rw [hB2]; exact HO5.out.lt.2
                  have hB5 : base ≤ B2 := by omega
                  have HB25 : Hid (B2 = w5.heap.size) := hB2
                  have hb25 : B2 ≤ w5.heap.size := by omega
                  have HE0 : Hid (∀ wq : World, wq.ownsRow B2 3 1 (.slice none 0 0) 0 []) := fun wq => World.ownsRow_nil _ _ _ _
                  clear hB2 hq0
                  have hrow1 : Hid ((w5.alloc (.cells #[.int .i64 ((i : Int) + 1)] 3)).ownsRow B2 3 1 (.slice none 0 0) 0 []) := HE0.out _
                  go_wp2_with (at_builtin; refine wpList_append_own _ rfl _ _ 45 rfl B2 3 i0 (.int .i64 0) 1 8 Tryz.underlying45 hi hz0 hz1 hz2 rfl (by decide) _ _ _ rfl hrow1.out ⟨w5.heap.size, 0, none⟩ 1 1 [.int .i64 ((i : Int) + 1)] rfl rfl (one_new w5 ((i : Int) + 1)) (one_one ((i : Int) + 1)) (by unfold maxLen; omega) (by omega) (by rw [World.size_alloc]; omega) ?_)
                  intro v3 w6 hown3 hgrow3 hi3
                  clear hi3
                  have HNV1 : Hid (w6.ownsRow B2 3 1 v3 1 (hiC [((i : Int) + 1)])) := hown3
                  have hB6a : Below B2 w5 w6 := ((Below.refl B2 w5).alloc hb25 _).grown hgrow3 (by rw [World.size_alloc]; omega) (fun j hj => (hrow1.out.lt j hj).1)
                  have hB6b : Below w5.heap.size w5 w6 := by rw [← HB25.out]; exact hB6a
                  have HO6 : Hid (RowI w6 base g cap H) := HO5.out.below hB6b
                  have HB6 : Hid (Below base w w6) := HB5.out.trans (hB6a.mono hB5)
                  have HR6 : Hid (OpsAt w6 (some ⟨b, off, none⟩) r) := HR5.out.below hB6b
                  have c0 := cell_bel hB6b c0
                  have c1 := cell_bel hB6b c1
                  have hs6 : w5.heap.size ≤ w6.heap.size := hB6b.size
                  clear hown3 hgrow3 hrow1 hB6a hB6b HE0 HO5 HB5 HR5
                  have HNV : Hid (w6.ownsRow B2 3 1 v3 1 (hiC ([i + 1].map fun (t : Nat) => (t : Int)))) := by
                    show World.ownsRow _ _ _ _ _ _ _
                    have e : hiC ([i + 1].map fun (t : Nat) => (t : Int)) = hiC [((i : Int) + 1)] := by simp [hiC]
                    rw [e]; exact HNV1.out
                  clear HNV1
                  have HNX : Hid (nxP q0 i = [i + 1]) := HNX0.out
                  have HKK : Hid (cms H gh [i + 1] = cms H gh (nxP q0 i)) := by show _ = _; rw [HNX.out]
                  have HBO : Hid (∀ t ∈ ([i + 1] : List Nat), t < n + 1) := fun t ht => by simp only [List.mem_cons, List.not_mem_nil, or_false] at ht; omega
                  obtain ⟨NL, hNL⟩ : ∃ NL : List Nat, NL = [i + 1] := ⟨_, rfl⟩
                  have HLL : Hid (NL.length = 1) := by show _ = _; rw [hNL]; rfl
                  have HNV' : Hid (w6.ownsRow B2 3 1 v3 1 (hiC (NL.map fun (t : Nat) => (t : Int)))) := by show World.ownsRow _ _ _ _ _ _ _; rw [hNL]; exact HNV.out
                  rw [← hNL] at HKK HBO
                  clear hNL HNV HNX HNX0
                  generalize cms H gh (nxP q0 i) = KK at HKK HST
                  obtain ⟨g2, cap2, hv3, HRN0⟩ := rowI_of (by rw [List.length_map]; exact HLL.out) (by omega) HNV'.out
                  have HRN : Hid (RowI w6 B2 g2 cap2 (NL.map fun (t : Nat) => (t : Int))) := HRN0
                  subst hv3
                  clear HRN0 HNV'
                  have hgB := HRN.out.lt
                  go_wp2
                  go_loopw [16] (fun x wr => ∃ (j : Nat) (Hj : List Int), j ≤ 1 ∧ x = .int .i64 j ∧ RowI wr base g cap Hj ∧ Hj.length = n + 1 ∧ (∀ y ∈ Hj, -1 ≤ y) ∧ cms Hj gh (NL.drop j) = KK ∧ RowI wr B2 g2 cap2 (NL.map fun (t : Nat) => (t : Int)) ∧ Below base w wr) (fun x _ => 1 - (intOf x).toNat)
                  case atStart => exact ⟨0, H, Nat.zero_le _, rfl, HO6.out, HHL.out, fun y hy => (HI.out.all y hy).1, by rw [List.drop_zero]; exact HKK.out, HRN.out, HB6.out⟩
                  case round =>
                    clear HRN HKK HO6 HB6
                    obtain ⟨j, Hj, hj, rfl, hO, hHl2, hge1, hK2, hRN, hB⟩ := hrel
                    have HO : Hid (RowI wr base g cap Hj) := hO
                    have HL2 : Hid (Hj.length = n + 1) := hHl2
                    have HGE : Hid (∀ y ∈ Hj, -1 ≤ y) := hge1
                    have HK2 : Hid (cms Hj gh (NL.drop j) = KK) := hK2
                    have HRN : Hid (RowI wr B2 g2 cap2 (NL.map fun (t : Nat) => (t : Int))) := hRN
                    have HB : Hid (Below base w wr) := hB
                    clear hO hHl2 hge1 hK2 hRN hB
                    rcases Nat.lt_or_ge j 1 with hltj | hgej
                    · have hjl : j < NL.length := by have := HLL.out; omega
                      obtain ⟨t, ht⟩ : ∃ t, NL[j]? = some t := ⟨_, List.getElem?_eq_getElem hjl⟩
                      have htn := HBO.out t (List.mem_of_getElem? ht)
                      have ct : wr.cell? ⟨g2, j, none⟩ = some (.int .i64 t) := HRN.out.get (by rw [List.getElem?_map, ht]; rfl)
                      obtain ⟨x, hx⟩ : ∃ x, Hj[t]? = some x := ⟨_, List.getElem?_eq_getElem (by have := HL2.out; omega)⟩
                      have cx := HO.out.get hx
                      have fx := HO.out.fr t
                      have hxge := HGE.out x (List.mem_of_getElem? hx)
                      have HCM : Hid (cmP Hj t gh = if x = -1 ∨ x = gh then some (Hj.set t gh) else none) := by show _ = _; unfold cmP; rw [hx]
                      have HDR : Hid (KK = match cmP Hj t gh with
                        | none => none
                        | some H1 => cms H1 gh (NL.drop (j + 1))) := by
                        have hk := HK2.out
                        obtain ⟨_, hte⟩ := List.getElem?_eq_some_iff.1 ht
                        rw [List.drop_eq_getElem_cons hjl, hte] at hk
                        exact hk.symm
                      clear hx ht hjl HK2
                      have hset : ∀ (hc : cmP Hj t gh = some (Hj.set t gh)), Hid (cms (Hj.set t gh) gh (NL.drop (j + 1)) = KK) := fun hc => by show _ = _; rw [HDR.out, hc]
                      have HO2 : Hid (RowI (wr.setCell ⟨g, t, none⟩ (.int .i64 gh)) base g cap (Hj.set t gh)) := HO.out.put t gh
                      have HRN2 : Hid (RowI (wr.setCell ⟨g, t, none⟩ (.int .i64 gh)) B2 g2 cap2 (NL.map fun (t : Nat) => (t : Int))) := ownsRow_setCell_below HRN.out (by simpa using hgB2) _
                      have HB2' : Hid (Below base w (wr.setCell ⟨g, t, none⟩ (.int .i64 gh))) := HB.out.setCell hbg _
                      have HL3 : Hid ((Hj.set t gh).length = n + 1) := by show _ = _; rw [List.length_set]; exact HL2.out
                      have HGE2 : Hid (∀ y ∈ Hj.set t gh, -1 ≤ y) := fun y hy => by
                        rcases List.mem_or_eq_of_mem_set hy with h | h
                        · exact HGE.out y h
                        · omega
                      have dt : (wr.setCell ⟨g, t, none⟩ (.int .i64 gh)).cell? ⟨g2, j, none⟩ = some (.int .i64 t) := (World.cell?_setCell_other _ _ _ _ (fun e => by injection e; omega)).trans ct
                      by_cases q1 : x = -1
                      · subst q1
                        have HC := hset (by rw [HCM.out, if_pos (Or.inl rfl)])
                        clear hset HCM HDR HO HRN HB HL2 HGE
                        go_wp2
                        go_roundw
                        case rel => exact ⟨j + 1, _, by omega, by go_num, HO2.out, HL3.out, HGE2.out, HC.out, HRN2.out, HB2'.out⟩
                        case measure => simp [intOf]; omega
                      · have q2 : 0 ≤ x := by omega
                        by_cases q3 : x = gh
                        · subst q3
                          have HC := hset (by rw [HCM.out, if_pos (Or.inr rfl)])
                          clear hset HCM HDR HO HRN HB HL2 HGE
                          go_wp2
                          go_roundw
                          case rel => exact ⟨j + 1, _, by omega, by go_num, HO2.out, HL3.out, HGE2.out, HC.out, HRN2.out, HB2'.out⟩
                          case measure => simp [intOf]; omega
                        · have q4 : (x != gh) = true := by simpa using q3
                          have HKN : Hid (KK = none) := by show _ = _; rw [HDR.out, HCM.out, if_neg (by omega)]
                          have HP : Hid (Ending.returned (.int .i64 0) = Ending.returned (.int .i64 (res.getD 0))) := by
                            show _ = _
                            rw [HHT2.out, HKS.out, HST.out, HKN.out]
                            rfl
                          clear hset HCM HDR HO HRN HL2 HGE HO2 HRN2 HB2' HL3 HGE2 dt q3
                          go_wp2
                          refine bodyPost_ret (v := .int .i64 0) (by simp [results, Tryz.results11, go_sem]) rfl ⟨HP.out, HB.out⟩
                    · obtain rfl : j = 1 := by omega
                      have hke := HK2.out
                      rw [List.drop_eq_nil_of_le (by have := HLL.out; omega)] at hke
                      have hke2 : KK = some Hj := hke.symm
                      have hs2 : stP q0 i n f a H = some (gh, Hj) := by rw [HST.out, hke2]
                      have HI2 : Hid (HtI Hj m) := by have h := HtI.step HI.out hs2; rw [HQX.out] at h; exact h
                      have HKF : Hid (ckF n f a (r.drop (i + 1)) (i + 1) Hj m = K) := by show _ = _; rw [HKS.out, hs2]; dsimp only; rw [HQX.out]
                      clear hke hke2 hs2 HK2 HST HKS HI HHL HRN HGE
                      go_wp2
                      go_roundw
                      case rel => exact ⟨i + 1, m, Hj, by omega, rfl, by go_num, HO.out, HL2.out, HI2.out, HKF.out, HB.out⟩
                      case measure => simp [intOf]; omega
          · obtain rfl : i = n := by omega
            have hKe := HK.out
            rw [List.drop_eq_nil_of_le (by have := HN.out; omega)] at hKe
            have hKe2 : K = some (H, m) := hKe.symm
            obtain ⟨x, hx⟩ : ∃ x, H[i]? = some x := ⟨_, List.getElem?_eq_getElem (by have := HHL.out; omega)⟩
            have HRES : Hid (res = if some x = some 1 then some m else none) := by
              show _ = _
              rw [HHT2.out, hKe2]
              dsimp only
              rw [hx]
            have cx := HO.out.get hx
            have HBf : Hid (Below base w wr) := HB.out
            clear hKe hKe2 hx HK HHT2 HO HB
            by_cases hx1 : x = 1
            · subst hx1
              have HP : Hid (Ending.returned (.int .i64 m) = Ending.returned (.int .i64 (res.getD 0))) := by
                show _ = _
                rw [HRES.out, if_pos rfl]
                rfl
              clear HRES
              go_wp2
              refine bodyPost_ret (v := .int .i64 m) (by simp [results, Tryz.results11, go_sem]) rfl ⟨HP.out, HBf.out⟩
            · have HP : Hid (Ending.returned (.int .i64 0) = Ending.returned (.int .i64 (res.getD 0))) := by
                show _ = _
                rw [HRES.out, if_neg (by simpa using hx1)]
                rfl
              have bx1 : (x != 1) = true := by simpa using hx1
              clear HRES
              go_wp2
              refine bodyPost_ret (v := .int .i64 0) (by simp [results, Tryz.results11, go_sem]) rfl ⟨HP.out, HBf.out⟩
end Go.Proofs.YtmadofpbfgbdkaaGreatDoor
