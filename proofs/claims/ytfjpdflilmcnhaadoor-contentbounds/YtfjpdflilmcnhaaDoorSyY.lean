/- A symbolic run of a program: rows that are made, texts and bytes; all operations that write nothing old. -/
import Derived.Test.YtfjpdflilmcnhaaDoorMgO
namespace Go.Sy

theorem rep_len (z : List Value) (n : Nat) : (rep z n).length = n * z.length := by
  induction n with
  | zero => simp [rep]
  | succ n ih => simp [rep, ih, Nat.succ_mul, Nat.add_comm]
theorem rep_mem {z : List Value} {n : Nat} {v : Value} (h : v ∈ rep z n) : v ∈ z := by
  induction n with
  | zero => simp [rep] at h
  | succ n ih => simp only [rep, List.mem_append] at h; exact h.elim id ih
theorem rep_rns {E : Env} {z : List Value} (h : Rns E z z) (n : Nat) : Rns E (rep z n) (rep z n) := by
  induction n with
  | zero => exact .nil
  | succ n ih => exact h.append ih
theorem rep_get (z : List Value) (sz : Nat) (hz : z.length = sz) : ∀ n i, i < n * sz → (rep z n)[i]? = z[i % sz]? := by
  intro n
  induction n with
  | zero => intro i hi; omega
  | succ n ih =>
    intro i hi
    simp only [rep]
    by_cases h : i < sz
    · rw [List.getElem?_append_left (by omega), Nat.mod_eq_of_lt h]
    · rw [List.getElem?_append_right (by omega), hz, ih (i - sz) (by rw [Nat.succ_mul] at hi; omega), ← Nat.mod_eq_sub_mod (by omega)]
theorem rep_eq (z : Array Value) (sz n : Nat) (hz : z.size = sz) : (Array.range (n * sz)).map (fun i => z[i % z.size]!) = ⟨rep z.toList n⟩ := by
  apply Array.ext'
  simp only [Array.toList_map, Array.toList_range]
  apply List.ext_getElem?
  intro i
  by_cases hi : i < n * sz
  · have h0 : 0 < sz := by
      rcases Nat.eq_zero_or_pos sz with h | h
      · subst h; omega
      · exact h
    rw [rep_get z.toList sz (by simpa using hz) n i hi]
    have hm : i % sz < z.size := by rw [hz]; exact Nat.mod_lt _ h0
    simp [hi, hz]
    rw [getElem!_pos z (i % sz) hm]
    simp [hm]
  · rw [List.getElem?_eq_none (by simpa using hi), List.getElem?_eq_none (by rw [rep_len]; simp [hz]; omega)]

theorem buildSlice_ok {P : Program} {E : Env} {nx : Nat} {w : World} {ty : TypeId} {len : Nat} {l l' : List (Nat × Value)} {v : Value} {en : Option Ent} (hn : en.isSome = true → E.pl nx = none) (hl : RnsP E l l') (h : evBuildSlice P ty nx len l = some (v, en)) : FlPost P E nx w (Instr.buildSlice ty len ⟨l'⟩) v en := by
  unfold evBuildSlice at h
  split at h
  · rename_i elem hu
    split at h
    · rename_i sz z hz hzz
      split at h
      · rename_i hc
        simp only [Bool.and_eq_true] at hc
        split at h
        · rename_i cells hf
          simp only [Option.some.injEq, Prod.mk.injEq] at h; obtain ⟨rfl, rfl⟩ := h
          obtain ⟨zv, hzv, hze, hfl, h1, htu⟩ := zeros_ok hzz
          have hlen : len * sz ≤ 4096 := Nat.le_of_ble_eq_true hc.1.1
          have hzl : z.length = sz := Nat.eq_of_beq_eq_true hc.1.2
          have hall := List.all_eq_true.1 hc.2
          have hrr : Rns E (rep z len) (rep z len) := rep_rns (zeros_rns hzz) len
          obtain ⟨out', g1, g2⟩ := fill_rel (E := E) l l' ⟨rep z len⟩ ⟨rep z len⟩ _ hl (List.all_eq_true.2 fun p hp => by have := hall p hp; simp only [Bool.and_eq_true] at this; exact this.1) hrr hf
          have hones : ∀ u ∈ cells.toList, u.oneCell' = true := by
            have key : ∀ (l : List (Nat × Value)) (cs out : Array Value), (∀ p ∈ l, ones p.2.cells.toList = true) → (∀ u ∈ cs.toList, u.oneCell' = true) → Instr.fill (fun i => some (i * sz, sz)) cs l = some out → ∀ u ∈ out.toList, u.oneCell' = true := by
              intro l
              induction l with
              | nil => intro cs out _ hcs hh; simp only [Instr.fill, Option.some.injEq] at hh; subst hh; exact hcs
              | cons p l ih =>
                intro cs out hp hcs hh
                obtain ⟨i, q⟩ := p
                simp only [Instr.fill] at hh
                split at hh
                · cases hh
                · refine ih _ out (fun p hq => hp p (by simp [hq])) ?_ hh
                  have hq := ones_iff.1 (hp (i, q) (by simp))
                  rw [← Array.foldl_toList, Array.toList_zipIdx]
                  have key2 : ∀ (m : List Value) (k : Nat) (cs : Array Value), (∀ u ∈ m, u.oneCell' = true) → (∀ u ∈ cs.toList, u.oneCell' = true) → ∀ u ∈ ((m.zipIdx k).foldl (fun cs (x : Value × Nat) => match x with | (c, j) => cs.setIfInBounds (i * sz + j) c) cs).toList, u.oneCell' = true := by
                    intro m
                    induction m with
                    | nil => intro k cs _ hc; exact hc
                    | cons c m ihm =>
                      intro k cs hm hcs
                      simp only [List.zipIdx_cons, List.foldl_cons]
                      refine ihm (k + 1) _ (fun u hu => hm u (by simp [hu])) ?_
                      intro u hu
                      simp only [Array.toList_setIfInBounds] at hu
                      rcases List.mem_or_eq_of_mem_set hu with h | h
                      · exact hcs u h
                      · rw [h]; exact hm c (by simp)
                  exact key2 _ 0 cs hq hcs
            exact key l _ _ (fun p hp => by have := hall p hp; simp only [Bool.and_eq_true] at this; exact this.2) (fun u hu => h1 u (rep_mem hu)) hf
          obtain ⟨a, b, c⟩ := newRow_ok (P := P) (w := w) elem cells.toList out' 0 (fun h => (h rfl).elim) (hn rfl) g2 hones
          refine ⟨.slice (some ⟨w.heap.size, 0, none⟩) len len, _, (w.heap.size, 0, 0), ?_, b, rn_slice.2 ⟨_, add_self _ _ _, rfl⟩, c, fun _ => Nat.le_refl _⟩
          have hcond : ¬ (len * sz > 2 ^ 24) := by omega
          simp only [Instr.buildSlice, Sem.run_bind, run_underlying hu, Result.andThen_ok, peel_run hz, Sem.run_ite, hcond, if_false, Sem.run_pure]
          by_cases h0 : len * sz = 0
          · have hr0 : rep z len = [] := List.eq_nil_of_length_eq_zero (by rw [rep_len, hzl]; exact h0)
            rw [hr0] at g1
            simp only [h0, if_true]
            have : (Array.range 0).map (fun x => (#[] : Array Value)[x % (#[] : Array Value).size]!) = ⟨[]⟩ := by simp
            rw [this, g1]
            simp only [Sem.run_bind, a, Result.andThen_ok, Sem.run_pure]
          · have hre := rep_eq zv.cells sz len (by rw [← hzl, hze]; simp)
            rw [← hze] at hre
            simp only [h0, if_false, peel_run hzv, Result.andThen_ok]
            rw [hre, g1]
            simp only [Sem.run_bind, a, Result.andThen_ok, Sem.run_pure]
        · cases h
      · cases h
    · cases h
  · cases h

theorem makeSlice_ok {P : Program} {E : Env} {nx : Nat} {w : World} {ty : TypeId} {x x' y y' : Value} {v : Value} {en : Option Ent} (hn : en.isSome = true → E.pl nx = none) (hx : Rn E x x') (hy : Rn E y y') (h : evMakeSlice P ty nx x y = some (v, en)) : FlPost P E nx w (Instr.makeSlice ty x' y') v en := by
  unfold evMakeSlice at h
  split at h
  · rename_i elem l c hu
    split at h
    · rename_i sz z info hz hzz hinfo
      split at h
      · rename_i hc
        simp only [Bool.and_eq_true] at hc
        simp only [Option.some.injEq, Prod.mk.injEq] at h; obtain ⟨rfl, rfl⟩ := h
        obtain ⟨zv, hzv, hze, hfl, h1, htu⟩ := zeros_ok hzz
        have hlc : l ≤ c := Nat.le_of_ble_eq_true hc.1.1.1
        have hc1 : c ≤ 65536 := Nat.le_of_ble_eq_true hc.1.1.2
        have hc2 : c * info.bytes ≤ 16777216 := Nat.le_of_ble_eq_true hc.1.2
        have hzl : z.length = sz := Nat.eq_of_beq_eq_true hc.2
        rw [rn_int.1 hx, rn_int.1 hy]
        obtain ⟨a, b, d⟩ := newRow_ok (P := P) (w := w) elem (rep z c) ⟨rep z c⟩ 0 (fun h => (h rfl).elim) (hn rfl) (rep_rns (zeros_rns hzz) c) (fun u hu => h1 u (rep_mem hu))
        refine ⟨.slice (some ⟨w.heap.size, 0, none⟩) l c, _, (w.heap.size, 0, 0), ?_, b, rn_slice.2 ⟨_, add_self _ _ _, rfl⟩, d, fun _ => Nat.le_refl _⟩
        have w1 : IntKind.i64.wrap (Int.ofNat l) = (l : Int) := by rw [IntKind.wrap_i64]; simp only [Int.ofNat_eq_natCast]; omega
        have w2 : IntKind.i64.wrap (Int.ofNat c) = (c : Int) := by rw [IntKind.wrap_i64]; simp only [Int.ofNat_eq_natCast]; omega
        have hb2 : ¬ ((info.bytes : Int) * (c : Int) > 2 ^ 48) := by
          have : (info.bytes : Int) * (c : Int) = ((c * info.bytes : Nat) : Int) := by rw [Int.natCast_mul]; exact Int.mul_comm _ _
          rw [this]; omega
        have hb0 : ¬ ((c : Int) < 0) := by omega
        have hl0 : ¬ ((l : Int) < 0) := by omega
        have hlc' : ¬ ((l : Int) > (c : Int)) := by omega
        have hti : (typeInfo elem).run P w = .ok info w := run_typeInfo w hinfo
        simp only [Instr.makeSlice, Sem.run_bind, run_underlying hu, Result.andThen_ok, asInt, asIntOf, Sem.run_pure, hti, w1, w2, hb2, hb0, hl0, hlc', decide_false, Bool.or_false, Bool.false_eq_true, if_false, run_askRoom, peel_run hz, Int.toNat_natCast]
        by_cases h0 : c * sz = 0
        · have hr0 : rep z c = [] := List.eq_nil_of_length_eq_zero (by rw [rep_len, hzl]; exact h0)
          rw [hr0] at a b d ⊢
          have : (Array.range 0).map (fun x => (#[] : Array Value)[x % (#[] : Array Value).size]!) = ⟨[]⟩ := by simp
          simp only [h0, if_true, Sem.run_bind, Sem.run_pure, Result.andThen_ok, this, a]
        · have hre := rep_eq zv.cells sz c (by rw [← hzl, hze]; simp)
          rw [← hze] at hre
          simp only [h0, if_false, Sem.run_bind, peel_run hzv, Result.andThen_ok, Sem.run_pure, hre, a]
      · cases h
    · cases h
  · cases h

theorem conv_ok {P : Program} {E : Env} {nx : Nat} {w : World} {h : Hp} {src dst : TypeId} {x x' v : Value} {en : Option Ent} (hs : Sat E (hget h) w) (hx : Rn E x x') (hv : evConv P src dst h nx x = some (v, en)) : FlPost P E nx w (convert src dst x') v en := by
  unfold evConv at hv
  split at hv
  · rename_i d k k0 n hu1 hu2
    simp only [Option.some.injEq, Prod.mk.injEq] at hv; obtain ⟨rfl, rfl⟩ := hv
    rw [rn_int.1 hx]
    exact ⟨_, by simp [convert, run_underlying hu1, run_underlying hu2, Conv.intToInt, wrapF_eq], rn_int.2 rfl⟩
  · rename_i e s hu1 hu2
    split at hv
    · rename_i hue
      split at hv
      · rename_i hl
        simp only [Option.some.injEq, Prod.mk.injEq] at hv; obtain ⟨rfl, rfl⟩ := hv
        rw [rn_string.1 hx]
        have hl' : s.size ≤ 1048576 := Nat.le_of_ble_eq_true hl
        obtain ⟨cap, hcap, hge⟩ : ∃ cap, (choose (.appendCap s.size 0 e)).run P w = .ok cap { w with drawn := w.drawn + 1 } ∧ s.size ≤ cap :=
          ⟨_, by simp only [run_choose, Question.forced, Bool.false_eq_true, if_false]; rfl, by simp [Question.cut]⟩
        let cells : Array Value := (s.data.map fun b => Value.int .u8 b.toNat) ++ Array.replicate (cap - s.size) (.int .u8 0)
        have hsz : cells.size = cap := by
          have : s.data.size = s.size := rfl
          simp [cells, this]; omega
        let w1 : World := { w with heap := w.heap.push (.cells cells e), drawn := w.drawn + 1 }
        let w2 : World := w1.freeze { block := w.heap.size, off := cap } 1
        have hobj : w2.heap[w.heap.size]? = some (.cells cells e (cap, cap + 1)) := by
          simp only [w2, World.freeze, Nat.one_ne_zero, if_false, Array.getElem?_modify, if_true, w1, Array.getElem?_push_size, Option.map_some]
          simp
        refine ⟨.slice (some ⟨w.heap.size, 0, none⟩) s.size cap, w2, (w.heap.size, 0, cap - s.size), ?_, ?_, ?_, ?_, fun _ => Nat.le_refl _⟩
        · have hshape : w1.shape? w.heap.size = some (e, cap) := by simp [World.shape?, w1, hsz]
          simp only [convert, Sem.run_bind, run_underlying hu1, run_underlying hu2, run_underlying hue, Result.andThen_ok, Conv.stringToBytes, hcap, newRow, run_newObj, Sem.run_pure, markStringish, run_shape]
          show ((Sem.run P (match w1.shape? w.heap.size with
            | some (_, n) => freeze { block := w.heap.size, off := n } 1
            | _ => pure ()) w1).andThen _) = _
          rw [hshape]
          rfl
        · refine ⟨rfl, rfl, rfl, ?_, fun k hk => ?_⟩
          · simp [w2, World.freeze, w1]
          · simp only [w2, World.freeze, Nat.one_ne_zero, if_false, Array.getElem?_modify, w1]
            rw [if_neg (by omega)]
            simp [Array.getElem?_push]; omega
        · refine rn_slice.2 ⟨_, add_self _ _ _, ?_⟩
          have : s.data.size = s.size := rfl
          simp only [Nat.zero_add, this]
          congr 1; omega
        · refine .cells (fun h => by cases h) (fun h => by cases h) (fun h => (h rfl).elim) ⟨cells, e, (cap, cap + 1), hobj, fun i v hv => ?_, fun _ i hi => by omega, fun _ => ?_, fun h => by cases h⟩
          · have hi : i < s.data.toList.length := by have := (List.getElem?_eq_some_iff.1 hv).1; simpa using this
            have hi' : i < s.data.size := by simpa using hi
            have hv' : v = .int .u8 (s.data[i]).toNat := by
              rw [List.getElem?_map, List.getElem?_eq_getElem hi] at hv; simpa using hv.symm
            refine ⟨v, ?_, by rw [hv']; exact rn_int.2 rfl, by rw [hv']; rfl⟩
            rw [hv']
            show cells[0 + i]? = _
            rw [Nat.zero_add]
            simp only [cells]
            rw [Array.getElem?_append_left (by simpa using hi'), Array.getElem?_map, Array.getElem?_eq_getElem hi']
            rfl
          · have : s.data.size = s.size := rfl
            simp [hsz, this]; omega
      · cases hv
    · cases hv
  · rename_i e l c hu1 hu2
    split at hv
    · rename_i hue
      simp only [Option.some.injEq, Prod.mk.injEq] at hv; obtain ⟨rfl, rfl⟩ := hv
      rw [rn_snil.1 hx]
      refine ⟨_, ?_, rn_string.2 rfl⟩
      rw [run_convert_bytes_string w src dst e none l c hu1 hue hu2]
      simp [Conv.bytesToString]
    · cases hv
  · rename_i e b off len cap hu1 hu2
    split at hv
    · rename_i hue
      split at hv
      · rename_i en' he
        split at hv
        · rename_i hl
          split at hv
          · rename_i bs hbs
            rw [fbytes_eq] at hv
            simp only [Option.some.injEq, Prod.mk.injEq] at hv; obtain ⟨rfl, rfl⟩ := hv
            obtain ⟨p, hp, _⟩ := hs.ent b en' he
            obtain ⟨p', hp', rfl⟩ := rn_slice.1 hx
            rw [hp] at hp'; cases hp'
            have hl' := Nat.eq_of_beq_eq_true hl
            obtain ⟨cs', x1, x2, x3⟩ := hs.cells he hp off len hl'
            have key : ∀ (l l' : List Value) (bs : List UInt8), strOf l = some bs → Rns E l l' → ∃ ns : List Int, l' = ns.map (Value.int .u8) ∧ bs = ns.map fun n => UInt8.ofNat n.toNat := by
              intro l
              induction l with
              | nil => intro l' bs h1 h2; simp only [strOf, Option.some.injEq] at h1; subst h1; exact ⟨[], by rw [h2.inv_nil]; rfl, rfl⟩
              | cons v l ih =>
                intro l' bs h1 h2
                obtain ⟨v', m, rfl, r1, r2⟩ := h2.inv_cons
                unfold strOf at h1
                split at h1
                · cases ‹v :: l = []›
                · rename_i n l0 heq
                  cases heq
                  split at h1
                  · rename_i m0 hm0
                    simp only [Option.some.injEq] at h1; subst h1
                    obtain ⟨ns, e1, e2⟩ := ih m m0 hm0 r2
                    exact ⟨n :: ns, by rw [rn_int.1 r1, e1]; rfl, by rw [e2]; rfl⟩
                  · cases h1
                · cases h1
            obtain ⟨ns, e1, e2⟩ := key _ _ _ hbs x1
            have hlen : cs'.length = len := by rw [← x1.1]; exact hl'
            have hload := run_loadCells_list (P := P) w ⟨p.1, p.2.1 + off, none⟩ cs' (fun j u hu => by rw [add_cell]; exact x2 j u hu)
            rw [hlen, e1] at hload
            refine ⟨_, ?_, rn_string.2 rfl⟩
            rw [run_convert_bytes_string w src dst e _ len _ hu1 hue hu2, run_bytesToString w _ len _ ns hload]
            congr 2
            have kf : ∀ (ns : List Int) (r : ByteArray), ns.foldl (fun r n => r.push (UInt8.ofNat n.toNat)) r = ⟨⟨r.data.toList ++ ns.map fun n => UInt8.ofNat n.toNat⟩⟩ := by
              intro ns
              induction ns with
              | nil => intro r; simp
              | cons n ns ih => intro r; rw [List.foldl_cons, ih]; simp [ByteArray.push]
            rw [kf, e2]
            rfl
          · cases hv
        · cases hv
      · cases hv
    · cases hv
  · cases hv
end Go.Sy
