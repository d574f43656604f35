/- A symbolic run of a program: an append. -/
import Derived.Test.YtfjpdflilmcnhaaDoorMgP
namespace Go.Sy

theorem news_ok {P : Program} {E : Env} {h : Hp} {w : World} {sz n : Nat} {q : Bool} {tx : TypeId} {x x' : Value} {news : List Value} (hs : Sat E (hget h) w) (hx : Rn E x x') (hq : isStr P (some tx) = some q) (he : newsOf h sz q x = some (news, n)) :
    ∃ news', Rns E news news' ∧ Src P sz tx x' n news' w := by
  have hty : (q = true ∧ P.underlying tx = some .string) ∨ (q = false ∧ ∃ e, P.underlying tx = some (.slice e)) := by
    unfold isStr at hq
    simp only [Option.bind_some] at hq
    split at hq
    · simp only [Option.some.injEq] at hq; exact .inl ⟨hq.symm, by assumption⟩
    · simp only [Option.some.injEq] at hq; exact .inr ⟨hq.symm, _, by assumption⟩
    · cases hq
  unfold newsOf at he
  split at he
  · rename_i b
    split at he
    · simp only [Option.some.injEq, Prod.mk.injEq] at he; obtain ⟨rfl, rfl⟩ := he
      rw [rn_string.1 hx]
      rcases hty with ⟨_, hu⟩ | ⟨hf, _⟩
      · exact ⟨_, rns_refl_of (fun v hv => by obtain ⟨c, _, rfl⟩ := List.mem_map.1 hv; exact rn_int.2 rfl), Src.ofString w hu b⟩
      · cases hf
    · cases he
  · split at he
    · cases he
    · simp only [Option.some.injEq, Prod.mk.injEq] at he; obtain ⟨rfl, rfl⟩ := he
      rw [rn_snil.1 hx]
      rcases hty with ⟨hf, _⟩ | ⟨_, e, hu⟩
      · cases hf
      · exact ⟨[], .nil, Src.ofNil w hu _⟩
  · rename_i b off n' c
    split at he
    · rename_i en hen
      split at he
      · rename_i hl
        simp only [Option.some.injEq, Prod.mk.injEq] at he; obtain ⟨rfl, rfl⟩ := he
        obtain ⟨p, hp, _⟩ := hs.ent b en hen
        obtain ⟨p', hp', rfl⟩ := rn_slice.1 hx
        rw [hp] at hp'; cases hp'
        have hl' := Nat.eq_of_beq_eq_true hl
        obtain ⟨cs', x1, x2, x3⟩ := hs.cells hen hp off (n' * sz) hl'
        rcases hty with ⟨hf, _⟩ | ⟨_, e, hu⟩
        · cases hf
        · exact ⟨cs', x1, Src.ofSlice w hu _ n' _ cs' (by rw [← x1.1]; exact hl') (fun j u hj => by rw [add_cell]; exact x2 j u hj) x3⟩
      · cases he
    · cases he
  · cases he

theorem growBy_le (n : Nat) : ∀ r c, Builtin.growBy n r c ≤ 2 ^ r * (c + 256) := by
  intro r
  induction r with
  | zero => intro c; simp [Builtin.growBy]
  | succ r ih =>
    intro c
    unfold Builtin.growBy
    split
    · have : 1 ≤ 2 ^ (r + 1) := Nat.one_le_two_pow
      calc c ≤ 1 * (c + 256) := by omega
        _ ≤ _ := Nat.mul_le_mul_right _ this
    · refine Nat.le_trans (ih _) ?_
      rw [Nat.pow_succ, Nat.mul_assoc]
      exact Nat.mul_le_mul_left _ (by omega)
theorem nextcap_le {need old : Nat} (h : old < need) : Builtin.nextslicecap need old ≤ 16 * (need + 256) := by
  unfold Builtin.nextslicecap
  split
  · omega
  · split
    · omega
    · have := growBy_le need 4 old
      rw [show (2 : Nat) ^ 4 = 16 from rfl] at this
      exact Nat.le_trans this (Nat.mul_le_mul_left 16 (Nat.add_le_add_right (Nat.le_of_lt h) 256))

theorem Post.drop {E : Env} {h h' : Nat → Option Ent} {nx : Nat} {w : World} (hs : Sat E h w) (hh : ∀ i e, h' i = some e → h i = some e) : Post E h h' nx nx w w E :=
  ⟨Le.refl E, rfl, ⟨fun i e hi => hs.ent i e (hh i e hi), fun i j e f p q a b c d x y z => hs.sep i j e f p q (hh _ _ a) (hh _ _ b) c d x y z⟩, ⟨rfl, rfl, rfl, Nat.le_refl _, fun _ _ _ => rfl⟩, Nat.le_refl _, fun _ h => .inl h, fun i e p a b c => .inr ⟨i, e, p, hh _ _ a, b, id, c, rfl⟩⟩

/-- Sizes as the type's row says them. -/
theorem size_of {P : Program} {ty : TypeId} {i : TypeInfo} {sz : Nat} (hi : P.info? ty = some i) (h : peel P (sizeOf ty) = some sz) : i.size = sz := by
  have := peel_run h default
  simp [sizeOf, typeInfo, hi] at this; exact this
theorem zero_of {P : Program} {ty : TypeId} {i : TypeInfo} {z : Value} (hi : P.info? ty = some i) (h : peel P (zeroValue ty) = some z) : i.zero = some z := by
  have := peel_run h default
  simp only [zeroValue, typeInfo, Sem.run_bind, run_program, Result.andThen_ok, hi, Sem.run_pure] at this
  cases hz : i.zero with
  | none => rw [hz] at this; simp at this
  | some u => rw [hz] at this; simp at this; rw [this]

/-- A row that is grown into a new block. -/
theorem grow_post {E : Env} {g : Nat → Option Ent} {nx : Nat} {w : World} {el : TypeId} {zv : Value} {sz need cap : Nat} {cs cs' : List Value} (hs : Sat E g w) (hn : E.pl nx = none) (hr : Rns E cs cs') (h1 : ∀ v ∈ cs', v.oneCell' = true) (hz : zv.cells.size = sz) :
    Post E g (fun i => if nx = i then some ⟨2, sz, cs, []⟩ else g i) nx (nx + 1) w (w.drew.alloc (.cells (cs'.toArray ++ Builtin.zeroCells zv.cells (cap - need)) el)) (E.add nx (w.heap.size, 0, cap - need)) := by
  have hsz : w.drew.heap.size = w.heap.size := rfl
  refine Post.add hs hn ⟨rfl, rfl, rfl, by simp [World.alloc], fun k hk => by simp only [World.alloc]; rw [Array.getElem?_push, if_neg (by rw [hsz]; omega)]; rfl⟩ (.cells (fun h => by cases h) (fun h => by cases h) (fun h => (h rfl).elim) ⟨cs'.toArray ++ Builtin.zeroCells zv.cells (cap - need), el, (0, 0), ?_, fun i v hv => ?_, fun _ i _ => by omega, fun _ => ?_, fun h => by cases h⟩) (fun _ => Nat.le_refl _)
  · show (w.drew.heap.push _)[w.drew.heap.size]? = _
    rw [Array.getElem?_push_size]
  · obtain ⟨v', a, b⟩ := hr.2 i v hv
    refine ⟨v', ?_, b.up (le_add hn), h1 v' (List.mem_of_getElem? a)⟩
    have hi : i < cs'.length := (List.getElem?_eq_some_iff.1 a).1
    show (cs'.toArray ++ _)[0 + i]? = _
    rw [Nat.zero_add, Array.getElem?_append_left (by simpa using hi)]
    simpa using a
  · simp only [Array.size_append, List.size_toArray, size_zeroCells, hz, ← hr.1]; omega

/-- A row that grows where it lies: the name b is no more, nx is the row with what came behind it. -/
theorem inplace_post {E : Env} {h : Nat → Option Ent} {nx b off len sz n : Nat} {w : World} {e : Ent} {p : Nat × Nat × Nat} {news news' : List Value} (hs : Sat E h w) (hn : E.pl nx = none) (hb : h b = some e) (hp : E.pl b = some p) (hk : e.kd = 2)
    (hesz : e.sz = sz) (hcs : e.cs.length = off + len * sz) (hl : news'.length = n * sz) (hr : Rns E news news') (h1 : ∀ v ∈ news', v.oneCell' = true) (hroom : n ≤ p.2.2) :
    Post E h (fun i => if nx = i then some ⟨2, sz, (e.cs.drop off).take (len * sz) ++ news, []⟩ else if b = i then none else h i) nx (nx + 1) w (w.setCells p.1 (p.2.1 + off + len * sz) news') (E.add nx (p.1, p.2.1 + off, p.2.2 - n)) := by
  have hk3 : e.kd ≠ 3 := by rw [hk]; decide
  have hown : own e := .inr (.inl hk)
  have hk4 : e.kd ≠ 4 := by rw [hk]; decide
  obtain ⟨p', hp', ok⟩ := hs.ent b e hb
  rw [hp] at hp'; cases hp'
  obtain ⟨c, el, fr, hobj, hcell, hfro, hspare, _⟩ := ok.obj hk3 hk4
  have hsp := hspare hk
  rw [hcs, hesz] at hsp
  have hmul : n * sz ≤ p.2.2 * sz := Nat.mul_le_mul_right _ hroom
  obtain ⟨c', o1, o2, o3, o4⟩ := setCells_obj news' (p.2.1 + off + len * sz) w c hobj
  have hother : ∀ k, k ≠ p.1 → (w.setCells p.1 (p.2.1 + off + len * sz) news').heap[k]? = w.heap[k]? := fun k hk => setCells_other p.1 _ _ w k hk
  obtain ⟨s1, s2, s3⟩ := setCells_os p.1 news' (p.2.1 + off + len * sz) w
  have hne : ∀ {i f}, h i = some f → nx ≠ i := fun hi e => by
    obtain ⟨q, hq, _⟩ := hs.ent _ _ hi
    rw [← e, hn] at hq; cases hq
  have hpl : ∀ {i q}, nx ≠ i → (E.add nx (p.1, p.2.1 + off, p.2.2 - n)).pl i = some q → E.pl i = some q := fun {i q} hi hq => by
    have : (if i = nx then some (p.1, p.2.1 + off, p.2.2 - n) else E.pl i) = some q := hq
    rwa [if_neg (fun e => hi e.symm)] at this
  have hself : ∀ {q}, (E.add nx (p.1, p.2.1 + off, p.2.2 - n)).pl nx = some q → q = (p.1, p.2.1 + off, p.2.2 - n) := fun hq => by rw [add_self] at hq; exact (Option.some.inj hq).symm
  have hlo : ((e.cs.drop off).take (len * sz)).length = len * sz := by simp [hcs]
  refine ⟨le_add hn, rfl, ⟨fun i f hi => ?_, fun i j f g q r hi hj hij ho hk' hq hr' => ?_⟩, ⟨s1, s2, s3, by rw [setCells_size]; exact Nat.le_refl _, fun k hk hne' => hother k fun e' => hne' b e p hb hown hp e'.symm⟩, by omega, fun i hi => ?_, fun i f q hi hk' hq => ?_⟩
  · by_cases hi' : nx = i
    · simp only [hi', if_true, Option.some.injEq] at hi; subst hi
      refine ⟨(p.1, p.2.1 + off, p.2.2 - n), by rw [← hi']; exact add_self _ _ _, .cells (fun h => by cases h) (fun h => by cases h) (fun h => (h rfl).elim) ⟨c', el, fr, o1, fun i u hu => ?_, fun _ i hi => hfro hown i (by omega), fun _ => ?_, fun h => by cases h⟩⟩
      · by_cases hio : i < len * sz
        · rw [List.getElem?_append_left (by rw [hlo]; exact hio), List.getElem?_take, if_pos hio, List.getElem?_drop] at hu
          obtain ⟨x, hx, r1, r2⟩ := hcell (off + i) u hu
          refine ⟨x, ?_, r1.up (le_add hn), r2⟩
          show c'[p.2.1 + off + i]? = _
          rw [o3 _ (by omega), Nat.add_assoc]; exact hx
        · rw [List.getElem?_append_right (by rw [hlo]; omega), hlo] at hu
          obtain ⟨x, hx, r1⟩ := hr.2 _ u hu
          refine ⟨x, ?_, r1.up (le_add hn), h1 x (List.mem_of_getElem? hx)⟩
          have hj : i - len * sz < news'.length := (List.getElem?_eq_some_iff.1 hx).1
          have := o4 (i - len * sz) x hx (by rw [hl] at hj; omega)
          show c'[p.2.1 + off + i]? = _
          rwa [show p.2.1 + off + len * sz + (i - len * sz) = p.2.1 + off + i by omega] at this
      · show p.2.1 + off + _ + (p.2.2 - n) * sz ≤ c'.size
        have hms : (p.2.2 - n) * sz = p.2.2 * sz - n * sz := Nat.sub_mul _ _ _
        have hnl : news.length = n * sz := by rw [hr.1]; exact hl
        rw [List.length_append, hlo, o2, hms, hnl]; omega
    · simp only [hi', if_false] at hi
      by_cases hbi : b = i
      · simp [hbi] at hi
      · simp only [hbi, if_false] at hi
        obtain ⟨q, hq, o⟩ := hs.ent i f hi
        refine ⟨q, (le_add hn).pl i q hq, ?_⟩
        by_cases h3 : f.kd = 3
        · exact o.gone h3
        · exact (o.up (le_add hn)).ext (hother _ fun e' => hs.sep b i e f p q hb hi hbi hown h3 hp hq e'.symm)
  · by_cases hi' : nx = i
    · by_cases hj' : nx = j
      · omega
      · simp only [hj', if_false] at hj
        by_cases hbj : b = j
        · simp [hbj] at hj
        · simp only [hbj, if_false] at hj
          subst hi'
          rw [hself hq]
          exact hs.sep b j e g p r hb hj hbj hown hk' hp (hpl hj' hr')
    · simp only [hi', if_false] at hi
      by_cases hbi : b = i
      · simp [hbi] at hi
      · simp only [hbi, if_false] at hi
        by_cases hj' : nx = j
        · subst hj'
          rw [hself hr']
          have h3 : f.kd ≠ 3 := own_ne ho
          exact fun e' => hs.sep b i e f p q hb hi hbi hown h3 hp (hpl hi' hq) e'.symm
        · simp only [hj', if_false] at hj
          by_cases hbj : b = j
          · simp [hbj] at hj
          · simp only [hbj, if_false] at hj
            exact hs.sep i j f g q r hi hj hij ho hk' (hpl hi' hq) (hpl hj' hr')
  · by_cases hi' : nx = i
    · exact .inr ⟨by omega, by omega⟩
    · refine .inl fun e => hi ?_
      show (if i = nx then _ else E.pl i) = none
      rw [if_neg (fun e => hi' e.symm)]; exact e
  · by_cases hi' : nx = i
    · subst hi'
      rw [hself hq]
      exact .inr ⟨b, e, p, hb, hk3, fun _ => hown, hp, rfl⟩
    · simp only [hi', if_false] at hi
      by_cases hbi : b = i
      · simp [hbi] at hi
      · simp only [hbi, if_false] at hi
        exact .inr ⟨i, f, q, hi, hk', id, hpl hi' hq, rfl⟩

theorem append_args {argTypes : Array TypeId} {args : Array Value} {t tx ty : TypeId} {s x : Value} (h0 : argTypes[0]? = some t) (h1 : argTypes[1]? = some tx) (ha : args = #[s, x]) : Builtin.append_ argTypes ty args = Builtin.append_ #[t, tx] ty #[s, x] := by
  subst ha
  simp [Builtin.append_, h0, h1]

theorem append_ok {P : Program} {E : Env} {h h' : Hp} {nx nx' : Nat} {w : World} {t tx ty : TypeId} {q : Bool} {s s' x x' v : Value} (hs : Sat E (hget h) w) (hfr : ∀ i, nx ≤ i → i < nx' → E.pl i = none) (hsr : Rn E s s') (hxr : Rn E x x') (hq : isStr P (some tx) = some q)
    (he : evAppend P h nx t s x q = some (v, h', nx')) : ∃ v' w' E', (Builtin.append_ #[t, tx] ty #[s', x']).run P w = .ok v' w' ∧ Rn E' v v' ∧ Post E (hget h) (hget h') nx nx' w w' E' := by
  unfold evAppend at he
  split at he
  · rename_i elem hu
    split at he
    · rename_i sz info z hsz hinfo hz
      split at he
      · cases he
      · rename_i news n hnews
        split at he
        · cases he
        · rename_i hc
          simp only [Bool.and_eq_true] at hc
          obtain ⟨⟨⟨hzl, hsz0⟩, hn16⟩, hby⟩ := hc
          have hzl' := Nat.eq_of_beq_eq_true hzl
          have hsz0' := blt_iff.1 hsz0
          have hn16' := Nat.le_of_ble_eq_true hn16
          have hby' := Nat.le_of_ble_eq_true hby
          obtain ⟨zv, hzv, hze, _, _, _⟩ := zeros_ok hz
          have hisz := size_of hinfo hsz
          have hiz := zero_of hinfo hzv
          have hzsz : zv.cells.size = sz := by rw [← hzl', hze]; simp
          obtain ⟨news', hnr, hsrc⟩ := news_ok hs hxr hq hnews
          rw [← hisz] at hsrc
          -- growing into a new block, out of a map g that holds what is kept
          have grow : ∀ (g : Hp) (base : Option Addr) (len scap : Nat) (old old' : List Value), Sat E (hget g) w → (∀ i e, hget g i = some e → hget h i = some e) → Rns E old old' → (∀ u ∈ old', u.oneCell' = true) → (Builtin.firstCells info.size len (.slice base len scap)).run P w.drew = .ok old'.toArray w.drew → scap < len + n → len ≤ 65536 →
              grown g nx sz (len + n) (old ++ news) = some (v, h', nx') → s' = .slice base len scap → ∃ v' w' E', (Builtin.append_ #[t, tx] ty #[s', x']).run P w = .ok v' w' ∧ Rn E' v v' ∧ Post E (hget h) (hget h') nx nx' w w' E' := by
            intro g base len scap old old' hsg hsub hor ho1 hold hlt hlen hg hs'
            unfold grown at hg
            split at hg
            · rename_i hnx
              rw [fent_eq, hsetK_eq, fnat_eq] at hg
              simp only [Option.some.injEq, Prod.mk.injEq] at hg
              obtain ⟨rfl, rfl, rfl⟩ := hg
              have hnx' := blt_iff.1 hnx
              have hnn : E.pl nx = none := hfr nx (Nat.le_refl _) (by omega)
              have hfit : Builtin.nextslicecap (len + n) scap * info.bytes ≤ 281474976710656 := by
                refine Nat.le_trans (Nat.mul_le_mul (nextcap_le hlt) hby') ?_
                refine Nat.le_trans (Nat.mul_le_mul_right 4096 (Nat.mul_le_mul_left 16 (show len + n + 256 ≤ 131328 by omega))) (by decide)
              have hrun := run_append_grow_src (P := P) w t tx ty elem info zv hu hinfo hiz base len scap old' hold x' n news' hsrc hlt (by omega) hfit
              have hpost := grow_post (E := E) (nx := nx) (el := elem) (zv := zv) (sz := sz) (need := len + n) (cap := grownCap w (len + n) scap elem) hsg hnn (hor.append hnr) (fun u hu' => by rcases List.mem_append.1 hu' with a | a; exact ho1 u a; exact hsrc.one u a) hzsz
              refine ⟨_, _, E.add nx (w.heap.size, 0, grownCap w (len + n) scap elem - (len + n)), by rw [hs']; exact hrun, ?_, ?_⟩
              · refine rn_slice.2 ⟨_, add_self _ _ _, ?_⟩
                have := grownCap_ge w (len + n) scap elem
                simp only [Nat.zero_add]
                congr 1; omega
              · rw [hget_add hnx']
                exact (Post.drop hs hsub).trans hpost
            · cases hg
          split at he
          · -- s is nil
            have hs' := rn_snil.1 hsr
            split at he
            · simp only [Option.some.injEq, Prod.mk.injEq] at he; obtain ⟨rfl, rfl, rfl⟩ := he
              refine ⟨.slice none 0 0, w, E, ?_, rn_snil.2 rfl, Post.refl hs⟩
              rw [hs']
              have hnil : news'.toArray = #[] := by
                have := hsrc.newsLen; simp at this; rw [this]
              rcases hsrc.kind with ⟨e', hk⟩ | hk <;> simp [Builtin.append_, run_underlying hu, run_underlying hk, sizeOf, typeInfo, hinfo, hsrc.len, hsrc.cells, hnil]
            · refine grow h none 0 0 [] [] hs (fun _ _ a => a) .nil (fun _ h => by cases h) ?_ (by omega) (by omega) (by simpa using he) hs'
              exact run_firstCells_none w.drew info.size 0 0 0
          · rename_i b off len cap
            split at he
            · rename_i en hen
              obtain ⟨p, hp, ok⟩ := hs.ent b en hen
              obtain ⟨p', hp', hs'⟩ := rn_slice.1 hsr
              rw [hp] at hp'; cases hp'
              split at he
              · split at he
                · rename_i hlc
                  simp only [Option.some.injEq, Prod.mk.injEq] at he; obtain ⟨rfl, rfl, rfl⟩ := he
                  have hlc' := Nat.le_of_ble_eq_true hlc
                  have hnil : news' = [] := List.eq_nil_of_length_eq_zero (by rw [hsrc.newsLen]; simp)
                  subst hnil
                  refine ⟨_, w, E, ?_, hsr, Post.refl hs⟩
                  have := run_append_room_src (P := P) w t tx ty elem info hu hinfo p.1 (p.2.1 + off) len (cap + p.2.2) x' 0 [] hsrc (by omega) (fun j hj => by simp at hj) (fun j hj => by simp at hj)
                  rw [hs']; simpa [World.setCells] using this
                · cases he
              · rename_i n
                split at he
                · cases he
                · rename_i hgt
                  have hgt' : cap < len + (n + 1) := by
                    rcases Nat.lt_or_ge cap (len + (n + 1)) with a | a
                    · exact a
                    · rw [Nat.ble_eq_true_of_le a] at hgt; cases hgt
                  split at he
                  · cases he
                  · rename_i hold
                    simp only [Bool.and_eq_true] at hold
                    have hl1 := Nat.eq_of_beq_eq_true hold.1
                    have hl2 := Nat.le_of_ble_eq_true hold.2
                    obtain ⟨old', x1, x2, x3⟩ := hs.cells hen hp off (len * sz) hl1
                    have hfc : ∀ c, (Builtin.firstCells info.size len (.slice (some ⟨p.1, p.2.1 + off, none⟩) len c)).run P w.drew = .ok old'.toArray w.drew := fun c =>
                      run_firstCells_some w.drew info.size len ⟨p.1, p.2.1 + off, none⟩ len c old' (by rw [← x1.1, hl1, hisz]) (fun j u hj => by rw [add_cell]; exact x2 j u hj)
                    split at he
                    · rename_i hk2
                      split at he
                      · rename_i hc2
                        simp only [Bool.and_eq_true] at hc2
                        have hcsl := Nat.eq_of_beq_eq_true hc2.1.1
                        have hesz := Nat.eq_of_beq_eq_true hc2.1.2
                        have hlcap := Nat.eq_of_beq_eq_true hc2.2
                        rw [hsetK_eq] at he
                        have hblt := hget_lt hen
                        have hsub : ∀ i e, hget (hset h b none) i = some e → hget h i = some e := fun i e hi => by
                          rw [hget_hset h b i _ hblt] at hi
                          by_cases hbi : b = i
                          · simp [hbi] at hi
                          · simpa [hbi] using hi
                        by_cases hroom : n + 1 ≤ p.2.2
                        · -- it grows where it lies
                          unfold grown at he
                          split at he
                          · rename_i hnx
                            rw [fent_eq, hsetK_eq, fnat_eq] at he
                            simp only [Option.some.injEq, Prod.mk.injEq] at he
                            obtain ⟨rfl, rfl, rfl⟩ := he
                            have hnx' := blt_iff.1 hnx
                            have hnn : E.pl nx = none := hfr nx (Nat.le_refl _) (by omega)
                            obtain ⟨c, el, fr, hobj, hcell, hfro, hspare, _⟩ := ok.obj (by rw [hk2]; decide) (by rw [hk2]; decide)
                            have hsp := hspare hk2
                            rw [hcsl, hesz] at hsp
                            have hnl : news'.length = (n + 1) * sz := by rw [hsrc.newsLen, hisz]
                            have hmul : (n + 1) * sz ≤ p.2.2 * sz := Nat.mul_le_mul_right _ hroom
                            have hpost := inplace_post (len := len) hs hnn hen hp hk2 hesz hcsl hnl hnr hsrc.one hroom
                            have hrun := run_append_room_src (P := P) w t tx ty elem info hu hinfo p.1 (p.2.1 + off) len (cap + p.2.2) x' (n + 1) news' hsrc (by omega) (fun j hj => by
                              have : p.2.1 + off + len * info.size + j < c.size := by rw [hisz]; omega
                              simp [World.cell?, hobj]; omega) (fun j hj => by
                              have h1 : p.2.1 + off + len * info.size + j < c.size := by rw [hisz]; omega
                              have h2 := hfro (.inr (.inl hk2)) _ h1
                              simp only [World.frozen?, hobj]
                              rw [Bool.eq_false_iff]
                              simp only [ne_eq, Bool.and_eq_true, decide_eq_true_eq]
                              exact h2)
                            refine ⟨_, _, E.add nx (p.1, p.2.1 + off, p.2.2 - (n + 1)), by rw [hs']; exact hrun, ?_, ?_⟩
                            · refine rn_slice.2 ⟨_, add_self _ _ _, ?_⟩
                              show Value.slice (some ⟨p.1, p.2.1 + off, none⟩) (len + (n + 1)) (cap + p.2.2) = .slice (some ⟨p.1, p.2.1 + off + 0, none⟩) _ (len + (n + 1) + (p.2.2 - (n + 1)))
                              rw [Nat.add_zero]
                              congr 1; omega
                            · rw [hisz]
                              have : hget (hset (hset h b none) nx (some ⟨2, sz, (en.cs.drop off).take (len * sz) ++ news, []⟩)) = fun i => if nx = i then some ⟨2, sz, (en.cs.drop off).take (len * sz) ++ news, []⟩ else if b = i then none else hget h i := by
                                rw [hget_add hnx']
                                funext i
                                rw [hget_hset h b i _ hblt]
                              rw [this]
                              exact hpost
                          · cases he
                        · exact grow (hset h b none) _ len (cap + p.2.2) _ old' ((Post.drop hs hsub : Post _ _ _ nx _ _ _ _).sat) hsub x1 x3 (hfc _) (by omega) hl2 he hs'
                      · cases he
                    · rename_i hk1
                      have h0 : p.2.2 = 0 := ok.spare (by rw [hk1]; decide) (by rw [hk1]; decide)
                      exact grow h _ len (cap + p.2.2) _ old' hs (fun _ _ a => a) x1 x3 (hfc _) (by omega) hl2 he hs'
                    · rename_i hk1
                      have h0 : p.2.2 = 0 := ok.spare (by rw [hk1]; decide) (by rw [hk1]; decide)
                      exact grow h _ len (cap + p.2.2) _ old' hs (fun _ _ a => a) x1 x3 (hfc _) (by omega) hl2 he hs'
                    · cases he
            · cases he
          · cases he
    · cases he
  · cases he
end Go.Sy
