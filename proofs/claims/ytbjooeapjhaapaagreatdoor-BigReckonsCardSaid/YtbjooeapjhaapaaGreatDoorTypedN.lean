/- A region of whatever order, walked by types of the slots (TypedG), where some operations answer structs with new rows: the rows differ from one another. No program stands in it. -/
import Derived.Test.YtbjooeapjhaapaaGreatDoorTypedF
import Derived.Test.YtbjooeapjhaapaaGreatDoorMathU
namespace Go.Proofs.YtbjooeapjhaapaaGreatDoor
open Go Go.RowKit

/-- The block that a number's limbs lie in. -/
def bkV (v : Value) : Option Nat := match v with | .agg #[_, .slice A _ _] => blk A | _ => none
/-- The rows that were answered differ from one another. -/
def ApartN (fl : List Nat) (l : List Oper) (v : Nat → Value) : Prop := ∀ (i j : Nat) (o o' : Oper), i ≠ j → l[i]? = some o → l[j]? = some o' → dstD o ∈ fl → dstD o' ∈ fl → bkV (v (dstD o)) = none ∨ bkV (v (dstD o)) ≠ bkV (v (dstD o'))
/-- What is typed as a new row lies in memory that is there. -/
def NewLt (E : List (Nat × STy)) (fl : List Nat) (l : List Oper) : Prop := ∀ o ∈ l, dstD o ∈ fl → ∀ w v, (slotTy E (dstD o)).holds w v → ∀ g, bkV v = some g → g < w.heap.size
/-- A step that answers a new row. -/
def OpNew (P : Program) (E : List (Nat × STy)) (w0 : World) (o : Oper) : Prop :=
  (∀ T, o.op = .alloc T → False) ∧ ∀ (ρ : Operand → Value) (w : World), (∀ c, ρ (.const c) = c) → (∀ f, ρ (.func f) = .func (.func f) #[] #[]) → Below w0.heap.size w0 w → SlotsHold E w ρ o.op.operands.toList →
    Yields P o ρ w fun v w' => ((slotTy E (dstD o)).holds w' v ∧ Below w.heap.size w w') ∧ ∀ g, bkV v = some g → w.heap.size ≤ g
def NewOk (P : Program) (E : List (Nat × STy)) (w0 : World) (fl : List Nat) (l : List Oper) : Prop := ∀ o ∈ l, dstD o ∈ fl → OpNew P E w0 o
theorem OpNew.step {P : Program} {E : List (Nat × STy)} {w0 : World} {o : Oper} (h : OpNew P E w0 o) : OpStep P E w0 o := by
  intro ρ w h1 h2 h3 h4
  have h := h.2 ρ w h1 h2 h3 h4
  unfold Yields at h ⊢
  generalize (execOp ρ o).run P w = rr at h ⊢
  split at h
  · exact h.1
  · refine Calls.mono h ?_
    rintro e w'' ⟨v, rfl, hk, _⟩
    exact ⟨v, rfl, hk⟩
  · exact h.elim
section
variable {P : Program} {ops : Array Oper} {Q : Exit → Act → World → Prop} {E : List (Nat × STy)} {w0 : World} {a0 : Act} {start : List Nat} {gs : List (Nat × Bool)} {us fl : List Nat} {n m : Nat}
/-- In the midst of the first m. -/
structure RegN (ops : Array Oper) (E : List (Nat × STy)) (w0 : World) (a0 : Act) (start fl : List Nat) (n m : Nat) (listed : Array Bool) (a : Act) (w : World) : Prop where
  size : a.tmps.size = n
  defers : a.defers = a0.defers
  below : Below w0.heap.size w0 w
  rest : ∀ s, s ∉ (ops.toList.take m).map dstD → a.tmps.getD s undef = a0.tmps.getD s undef
  start : ∀ s ∈ start, (slotTy E s).holds w (a.tmps.getD s undef)
  done : ∀ (i : Nat) (o : Oper), i < m → ops[i]? = some o → listed.getD i false = true → (slotTy E (dstD o)).holds w (a.tmps.getD (dstD o) undef)
  len : listed.size = ops.size
  last : ∀ i, m ≤ i → i < ops.size → listed.getD i true = false
  closed : ∀ (i : Nat) (o : Oper), i < m → ops[i]? = some o → listed.getD i false = true → ∀ e ∈ o.after.toList, Region.binds .any e = true → listed.getD e.on false = true
  fresh : ∀ (i : Nat) (o : Oper) (T : TypeId), i < m → ops[i]? = some o → o.op = .alloc T → o.guard = none → listed.getD i false = true → ∃ r, a.tmps.getD (dstD o) undef = .pointer (some ⟨r, 0, none⟩) ∧ r < w.heap.size
  apart : ∀ (i j : Nat) (o o' : Oper) (T T' : TypeId), i < m → j < m → i ≠ j → ops[i]? = some o → ops[j]? = some o' → o.op = .alloc T → o'.op = .alloc T' → o.guard = none → o'.guard = none → listed.getD i false = true → listed.getD j false = true → a.tmps.getD (dstD o) undef ≠ a.tmps.getD (dstD o') undef
  apart2 : ∀ (i j : Nat) (o o' : Oper), i < m → j < m → i ≠ j → ops[i]? = some o → ops[j]? = some o' → dstD o ∈ fl → dstD o' ∈ fl → listed.getD i false = true → listed.getD j false = true → bkV (a.tmps.getD (dstD o) undef) = none ∨ bkV (a.tmps.getD (dstD o) undef) ≠ bkV (a.tmps.getD (dstD o') undef)
theorem wpAny_new (hck : chainU ops (E.map Prod.fst) start gs us n m = true) (hus : UndefHold E us) (hgs : GuardsHold E gs) (hok : OpStepsG P ops gs E w0 (ops.toList.take m)) (hal : AllocsOk P (ops.toList.take m)) (hnl : NewLt E fl (ops.toList.take m)) (hnw : NewOk P E w0 fl (ops.toList.take m)) (hn : a0.tmps.size = n)
    (hfin : ∀ v w', (∀ o ∈ ops.toList.take m, (slotTy E (dstD o)).holds w' (v (dstD o))) → ApartV (ops.toList.take m) v → ApartN fl (ops.toList.take m) v → Below w0.heap.size w0 w' → wpList P ops Q (ops.toList.drop m) (putAll a0 v ((ops.toList.take m).map dstD)) w') :
    ∀ (fuel : Nat) (listed : Array Bool) (a : Act) (w : World), RegN ops E w0 a0 start fl n m listed a w → openN listed.toList ≤ fuel → wpAny P .any ops Q fuel listed a w := by
  unfold chainU at hck
  simp only [Bool.and_eq_true, List.all_eq_true] at hck
  obtain ⟨⟨⟨⟨hfr, hdis⟩, htl⟩, hmle⟩, _⟩ := hck
  have hms : m ≤ ops.size := Nat.le_of_ble_eq_true hmle
  have hop : ∀ (i : Nat) (o : Oper), i < m → ops[i]? = some o → frontOpU ops (E.map Prod.fst) start gs us n i o = true ∧ ∃ j, i < j ∧ j ≤ m ∧ waitsB ops j i = true := by
    intro i o hi ho
    have := hfr i (by simpa using hi)
    rw [ho] at this
    simp only [Bool.and_eq_true, List.any_eq_true, List.mem_range] at this
    obtain ⟨h1, j, hj, h2, h3⟩ := this
    exact ⟨h1, j, by rw [← Nat.blt_eq]; exact h2, by omega, h3⟩
  have hch : ∀ j, m ≤ j → j < ops.size → ∃ o, ops[j]? = some o ∧ (∀ e ∈ o.after.toList, Region.binds .any e = true → e.on < j) ∧ (j = m ∨ waitsB ops j (j - 1) = true) := by
    intro j hj hjs
    have := htl j (by simpa using hjs)
    obtain ⟨o, ho⟩ : ∃ o, ops[j]? = some o := ⟨_, Array.getElem?_eq_getElem hjs⟩
    rw [ho] at this
    simp only [Bool.or_eq_true, Bool.and_eq_true, List.all_eq_true, Bool.not_eq_true'] at this
    rcases this with h | ⟨⟨_, h1⟩, h2⟩
    · have : j < m := by rw [← Nat.blt_eq]; exact h
      omega
    · refine ⟨o, ho, fun e he hb => ?_, ?_⟩
      · rcases h1 e he with h | h
        · rw [hb] at h; cases h
        · rw [← Nat.blt_eq]; exact h
      · rcases h2 with h | h
        · exact .inl (Nat.eq_of_beq_eq_true h)
        · exact .inr h
  have hd : ∀ (i : Nat) (o : Oper), i < m → ops[i]? = some o → ∃ d, o.dst = some d ∧ d < n ∧ d ∉ start ∧ dstD o = d := by
    intro i o hi ho
    have := (hop i o hi ho).1
    unfold frontOpU at this
    simp only [Bool.and_eq_true] at this
    obtain ⟨⟨⟨h1, _⟩, _⟩, _⟩ := this
    cases hdo : o.dst with
    | none => rw [hdo] at h1; simp at h1
    | some d =>
      rw [hdo] at h1
      simp only [Bool.and_eq_true, Bool.not_eq_true', List.elem_eq_mem, decide_eq_false_iff_not] at h1
      exact ⟨d, rfl, by rw [← Nat.blt_eq]; exact h1.1, h1.2, by unfold dstD; rw [hdo]; rfl⟩
  have hdist : ∀ (i j : Nat) (o o' : Oper), i < m → j < m → ops[i]? = some o → ops[j]? = some o' → dstD o = dstD o' → i = j := by
    intro i j o o' hi hj ho ho' he
    refine distinctB_ne hdis i j (dstD o) ?_ ?_
    · rw [List.getElem?_map, List.getElem?_take, if_pos hi, Array.getElem?_toList, ho]; rfl
    · rw [List.getElem?_map, List.getElem?_take, if_pos hj, Array.getElem?_toList, ho', he]; rfl
  have hon : ∀ (i : Nat) (o : Oper), i < m → ops[i]? = some o → ∀ e ∈ o.after.toList, Region.binds .any e = true → e.on < i := by
    intro i o hi ho e he hb
    have := (hop i o hi ho).1
    unfold frontOpU at this
    simp only [Bool.and_eq_true, List.all_eq_true] at this
    have := this.2 e he
    simp only [Bool.or_eq_true, Bool.not_eq_true'] at this
    rcases this with h | h
    · rw [hb] at h; cases h
    · rw [← Nat.blt_eq]; exact h
  have hend : ∀ (fuel : Nat) (listed : Array Bool) (a : Act) (w : World), RegN ops E w0 a0 start fl n m listed a w → (∀ i, i < m → listed.getD i false = true) → openN listed.toList ≤ fuel → wpAny P .any ops Q fuel listed a w := by
    intro fuel listed a w hI hall hf
    have hds : ∀ d ∈ (ops.toList.take m).map dstD, d < a0.tmps.size := by
      intro d hdm
      obtain ⟨o, ho, rfl⟩ := List.mem_map.1 hdm
      obtain ⟨j, hj, hoj⟩ := mem_frontG.1 ho
      obtain ⟨d, _, h2, _, h4⟩ := hd j o hj hoj
      rw [h4, hn]; exact h2
    have he : a = putAll a0 (fun s => a.tmps.getD s undef) ((ops.toList.take m).map dstD) := by
      refine act_ext (by rw [putAll_size, hI.size, hn]) (by rw [putAll_defers, hI.defers]) fun s => ?_
      by_cases hs : s ∈ (ops.toList.take m).map dstD
      · rw [putAll_in _ _ _ _ hds (.inl hs)]
      · rw [putAll_out _ _ _ _ hds hs, hI.rest s hs]
    have hlast := hfin (fun s => a.tmps.getD s undef) w (fun o ho => by
      obtain ⟨j, hj, hoj⟩ := mem_frontG.1 ho
      exact hI.done j o hj hoj (hall j hj)) (fun i j o o' T T' hne hi hj hT hT' hg hg' => by
        have hi' : i < m ∧ ops[i]? = some o := by
          rw [List.getElem?_take] at hi
          split at hi
          · exact ⟨by assumption, by rw [← Array.getElem?_toList]; exact hi⟩
          · cases hi
        have hj' : j < m ∧ ops[j]? = some o' := by
          rw [List.getElem?_take] at hj
          split at hj
          · exact ⟨by assumption, by rw [← Array.getElem?_toList]; exact hj⟩
          · cases hj
        exact hI.apart i j o o' T T' hi'.1 hj'.1 hne hi'.2 hj'.2 hT hT' hg hg' (hall i hi'.1) (hall j hj'.1)) (fun i j o o' hne hi hj hT hT' => by
        have hi' : i < m ∧ ops[i]? = some o := by
          rw [List.getElem?_take] at hi
          split at hi
          · exact ⟨by assumption, by rw [← Array.getElem?_toList]; exact hi⟩
          · cases hi
        have hj' : j < m ∧ ops[j]? = some o' := by
          rw [List.getElem?_take] at hj
          split at hj
          · exact ⟨by assumption, by rw [← Array.getElem?_toList]; exact hj⟩
          · cases hj
        exact hI.apart2 i j o o' hi'.1 hj'.1 hne hi'.2 hj'.2 hT hT' (hall i hi'.1) (hall j hj'.1)) hI.below
    rw [← he] at hlast
    exact wpAny_chain hch fuel m listed a w (Nat.le_refl _) hms hI.len hall hI.last hf hlast
  intro fuel
  induction fuel with
  | zero =>
    intro listed a w hI hf
    by_cases hall : ∀ i, i < m → listed.getD i false = true
    · exact hend 0 listed a w hI hall hf
    · exfalso
      refine hall fun i hi => ?_
      have hls : i < listed.size := by rw [hI.len]; omega
      cases h : listed.getD i true with
      | true => exact getD_tf hls h
      | false =>
        have := openN_pos _ _ (openN_at hls h)
        omega
  | succ fuel ih =>
    intro listed a w hI hf
    by_cases hall : ∀ i, i < m → listed.getD i false = true
    · exact hend (fuel + 1) listed a w hI hall hf
    · refine ⟨fun hr => ?_, fun i hi => ?_⟩
      · exfalso
        refine hall fun i => ?_
        induction i using Nat.strongRecOn with
        | _ i ihh =>
          intro hi
          have hls : i < listed.size := by rw [hI.len]; omega
          cases h : listed.getD i true with
          | true => exact getD_tf hls h
          | false =>
            exfalso
            obtain ⟨o, ho⟩ : ∃ o, ops[i]? = some o := ⟨_, Array.getElem?_eq_getElem (by omega)⟩
            have := ready_of ho h (fun e he hb => ihh e.on (hon i o hi ho e he hb) (by have := hon i o hi ho e he hb; omega))
            rw [hr] at this
            cases this
      · obtain ⟨hlt, hl, haf⟩ := ready_spec hI.len hi
        have hi' : i < listed.size := by rw [hI.len]; exact hlt
        obtain ⟨o, ho⟩ : ∃ o, ops[i]? = some o := ⟨_, Array.getElem?_eq_getElem hlt⟩
        have hilt : i < m := by
          rcases Nat.lt_or_ge i m with h | h
          · exact h
          · exfalso
            rcases Nat.lt_or_eq_of_le h with h | h
            · obtain ⟨o', ho', _, hor⟩ := hch i (by omega) hlt
              rcases hor with h' | h'
              · omega
              · obtain ⟨o2, ho2, e, he, hb, heon⟩ := waitsB_spec h'
                have := haf o2 ho2 e he hb
                rw [heon, getD_ff (hI.last (i - 1) (by omega) (by omega))] at this
                cases this
            · subst h
              refine hall ?_
              have key : ∀ d i, i < m → m - i ≤ d → listed.getD i false = true := by
                intro d
                induction d with
                | zero => intro i hi hd; omega
                | succ d ihd =>
                  intro i hi hd
                  obtain ⟨oi, hoi⟩ : ∃ oi, ops[i]? = some oi := ⟨_, Array.getElem?_eq_getElem (by omega)⟩
                  obtain ⟨_, j, hij, hjm, hw⟩ := hop i oi hi hoi
                  obtain ⟨oj, hoj, e, he, hb, heon⟩ := waitsB_spec hw
                  rw [← heon]
                  rcases Nat.lt_or_eq_of_le hjm with h | h
                  · exact hI.closed j oj h hoj (ihd j h (by omega)) e he hb
                  · subst h
                    exact haf oj hoj e he hb
              exact fun i hi => key (m - i) i hi (Nat.le_refl _)
        have hchk := (hop i o hilt ho).1
        unfold frontOpU at hchk
        simp only [Bool.and_eq_true] at hchk
        obtain ⟨⟨⟨hc1, hc2⟩, hc3⟩, hc4⟩ := hchk
        have hwait : ∀ e ∈ o.after.toList, Region.binds .any e = true → ∀ oe, ops[e.on]? = some oe → (slotTy E (dstD oe)).holds w (a.tmps.getD (dstD oe) undef) := by
          intro e he hb oe hoe
          exact hI.done _ _ (by have := hon i o hilt ho e he hb; omega) hoe (haf o ho e he hb)
        obtain ⟨d, hd1, hd2, hd3, hd4⟩ := hd i o hilt ho
        have hsz : d < a.tmps.size := by rw [hI.size]; exact hd2
        have hof : o ∈ ops.toList.take m := mem_frontG.2 ⟨i, hilt, ho⟩
        have hnext : ∀ (v : Value) (w' : World), (slotTy E d).holds w' v → Below w.heap.size w w' → (∀ T, o.op = .alloc T → o.guard = none → v = .pointer (some ⟨w.heap.size, 0, none⟩) ∧ w.heap.size < w'.heap.size) → (dstD o ∈ fl → ∀ g, bkV v = some g → w.heap.size ≤ g) → wpAny P .any ops Q fuel (listed.setIfInBounds i true) (a.put (some d) v) w' := by
          intro v w' hT hB hA hN
          have hold : ∀ (j : Nat) (oj : Oper), j < m → j ≠ i → ops[j]? = some oj → (a.put (some d) v).tmps.getD (dstD oj) undef = a.tmps.getD (dstD oj) undef := by
            intro j oj hjm hji hj
            have hne : dstD oj ≠ d := fun h => hji (hdist j i oj o hjm hilt hj ho (by rw [h, hd4]))
            rw [put_getD _ _ _ _ hsz, if_neg hne]
          have hself : (a.put (some d) v).tmps.getD (dstD o) undef = v := by rw [hd4, put_getD _ _ _ _ hsz, if_pos rfl]
          refine ih _ _ _ ⟨?_, ?_, ?_, ?_, ?_, ?_, ?_, ?_, ?_, ?_, ?_, ?_⟩ ?_
          · simp [Act.put, hI.size]
          · exact hI.defers
          · exact hI.below.trans (hB.mono hI.below.size)
          · intro s hs
            rw [put_getD _ _ _ _ hsz, if_neg, hI.rest s hs]
            rintro rfl
            exact hs (List.mem_map.2 ⟨o, hof, hd4⟩)
          · intro s hs
            rw [put_getD _ _ _ _ hsz, if_neg]
            · exact (slotTy E s).stable (hI.start s hs) hB
            · rintro rfl
              exact hd3 hs
          · intro j oj hjm hj hlj
            by_cases hji : j = i
            · subst hji
              rw [ho] at hj
              injection hj with hj
              subst hj
              rw [hd4, put_getD _ _ _ _ hsz, if_pos rfl]
              exact hT
            · have hne : dstD oj ≠ d := fun h => hji (hdist j i oj o hjm hilt hj ho (by rw [h, hd4]))
              rw [put_getD _ _ _ _ hsz, if_neg hne]
              refine (slotTy E _).stable (hI.done j oj hjm hj ?_) hB
              rw [getD_ne hji] at hlj
              exact hlj
          · simp [hI.len]
          · intro j hj hjs
            rw [getD_ne (by omega)]
            exact hI.last j hj hjs
          · intro j oj hjm hj hlj e he hb
            by_cases hji : j = i
            · subst hji
              rw [ho] at hj
              injection hj with hj
              subst hj
              have h1 := hon j o hjm ho e he hb
              rw [getD_ne (by omega)]
              exact haf o ho e he hb
            · rw [getD_ne hji] at hlj
              have h1 := hI.closed j oj hjm hj hlj e he hb
              by_cases hei : e.on = i
              · rw [hei]; exact getD_eq hi'
              · rw [getD_ne hei]; exact h1
          · intro j oj T hjm hj hop hgd hlj
            by_cases hji : j = i
            · subst hji
              rw [ho] at hj
              injection hj with hj
              subst hj
              obtain ⟨e1, e2⟩ := hA T hop hgd
              exact ⟨_, hself.trans e1, e2⟩
            · rw [getD_ne hji] at hlj
              obtain ⟨r, e1, e2⟩ := hI.fresh j oj T hjm hj hop hgd hlj
              exact ⟨r, (hold j oj hjm hji hj).trans e1, Nat.lt_of_lt_of_le e2 hB.size⟩
          · intro j k oj ok T T' hjm hkm hjk hj hk hop hop' hgd hgd' hlj hlk
            by_cases hji : j = i
            · subst hji
              rw [ho] at hj
              injection hj with hj
              subst hj
              have hkj : k ≠ j := fun h => hjk h.symm
              rw [getD_ne hkj] at hlk
              obtain ⟨r, e1, e2⟩ := hI.fresh k ok T' hkm hk hop' hgd' hlk
              rw [hself, hold k ok hkm hkj hk, e1, (hA T hop hgd).1]
              intro h
              injection h with h
              injection h with h
              injection h with h
              omega
            · by_cases hki : k = i
              · subst hki
                rw [ho] at hk
                injection hk with hk
                subst hk
                rw [getD_ne hji] at hlj
                obtain ⟨r, e1, e2⟩ := hI.fresh j oj T hjm hj hop hgd hlj
                rw [hself, hold j oj hjm hji hj, e1, (hA T' hop' hgd').1]
                intro h
                injection h with h
                injection h with h
                injection h with h
                omega
              · rw [getD_ne hji] at hlj
                rw [getD_ne hki] at hlk
                rw [hold j oj hjm hji hj, hold k ok hkm hki hk]
                exact hI.apart j k oj ok T T' hjm hkm hjk hj hk hop hop' hgd hgd' hlj hlk
          · intro j k oj ok hjm hkm hjk hj hk hfj hfk hlj hlk
            by_cases hji : j = i
            · subst hji
              rw [ho] at hj
              injection hj with hj
              subst hj
              have hkj : k ≠ j := fun h => hjk h.symm
              rw [getD_ne hkj] at hlk
              rw [hself, hold k ok hkm hkj hk]
              have h1 := hnl ok (mem_frontG.2 ⟨k, hkm, hk⟩) hfk w _ (hI.done k ok hkm hk hlk)
              have h2 := hN hfj
              cases e : bkV v with
              | none => exact .inl rfl
              | some g => exact .inr fun h => by have := h1 g h.symm; have := h2 g e; omega
            · by_cases hki : k = i
              · subst hki
                rw [ho] at hk
                injection hk with hk
                subst hk
                rw [getD_ne hji] at hlj
                rw [hself, hold j oj hjm hji hj]
                have h1 := hnl oj (mem_frontG.2 ⟨j, hjm, hj⟩) hfj w _ (hI.done j oj hjm hj hlj)
                have h2 := hN hfk
                cases e : bkV (a.tmps.getD (dstD oj) undef) with
                | none => exact .inl rfl
                | some g => exact .inr fun h => by have := h1 g e; have := h2 g h.symm; omega
              · rw [getD_ne hji] at hlj
                rw [getD_ne hki] at hlk
                rw [hold j oj hjm hji hj, hold k ok hkm hki hk]
                exact hI.apart2 j k oj ok hjm hkm hjk hj hk hfj hfk hlj hlk
          · have := openN_set _ _ (openN_at hi' hl)
            rw [Array.toList_setIfInBounds]
            omega
        have hgv : ∀ g want, o.guard = some (g, want) → (∃ og dg, ops[g]? = some og ∧ og.dst = some dg ∧ a.tmps[dg]? = some (.bool want) ∧ gs.elem (dg, want) = true) ∨ (Region.wanted o (yielded ops a.tmps) = false ∧ ∀ W, (slotTy E (dstD o)).holds W undef) := by
          intro g want hg
          rw [hg] at hc3
          simp only [Bool.and_eq_true, List.any_eq_true] at hc3
          obtain ⟨h1, e, he, hb, heg⟩ := hc3
          have heg' : e.on = g := Nat.eq_of_beq_eq_true heg
          have hgi := hon i o hilt ho e he hb
          cases hog : ops[g]? with
          | none => rw [hog] at h1; simp at h1
          | some og =>
            rw [hog] at h1
            obtain ⟨dg, hdg1, hdg2, _, hdg4⟩ := hd g og (by omega) hog
            rw [Option.bind_some, hdg1] at h1
            simp only [Bool.or_eq_true, Bool.and_eq_true, Bool.not_eq_true'] at h1
            have hv := hwait e he hb og (by rw [heg']; exact hog)
            rw [hdg4] at hv
            have hsg : dg < a.tmps.size := by rw [hI.size]; exact hdg2
            have hval : ∀ b, gs.elem (dg, b) = true → a.tmps[dg]? = some (.bool b) := by
              intro b hb'
              have := hgs.mem (dg, b) (by simpa using hb') _ _ hv
              rw [Array.getD_eq_getD_getElem?, Array.getElem?_eq_getElem hsg] at this
              rw [Array.getElem?_eq_getElem hsg]
              simpa using this
            rcases h1 with h1 | ⟨h1, h2⟩
            · exact .inl ⟨og, dg, rfl, hdg1, hval _ h1, h1⟩
            · refine .inr ⟨?_, fun W => ?_⟩
              · rcases h1 with h1 | h1
                · have hget := hval _ h1
                  unfold Region.wanted; rw [hg]; simp [yielded, hog, hdg1, hget]
                · have hu := hus.mem dg (by simpa using h1)
                  rw [hu] at hv
                  have hget : a.tmps[dg]? = some undef := by
                    have hv' : a.tmps.getD dg undef = undef := hv
                    rw [Array.getD_eq_getD_getElem?, Array.getElem?_eq_getElem hsg] at hv'
                    rw [Array.getElem?_eq_getElem hsg]
                    simpa using hv'
                  unfold Region.wanted; rw [hg]; simp [yielded, hog, hdg1, hget, undef]
              · rcases h2 with h2 | h2
                · rw [slotTy_any h2]; trivial
                · rw [hus.mem _ (by simpa using h2)]; rfl
        have hrun : runsB ops gs o = true → Region.wanted o (yielded ops a.tmps) = true → wpOp P ops Q i (wpAny P .any ops Q fuel (listed.setIfInBounds i true)) a w := by
          intro hr hw
          unfold wpOp
          simp only [ho]
          rw [if_pos hw]
          left
          have hslots : SlotsHold E w a.eval o.op.operands.toList := by
            refine SlotsHold.of fun s hs => ?_
            have := List.all_eq_true.1 hc2 _ hs
            simp only [Bool.or_eq_true, List.any_eq_true, Bool.and_eq_true, Bool.not_eq_true'] at this
            rcases this with (h | h) | ⟨e, he, hb, heq⟩
            · rw [slotTy_any h]; trivial
            · exact hI.start s (by simpa using h)
            · have heq' : (ops[e.on]?).bind (·.dst) = some s := by simpa using heq
              cases hoe : ops[e.on]? with
              | none => rw [hoe] at heq'; cases heq'
              | some oe =>
                rw [hoe] at heq'
                have h1 := hwait e he hb oe hoe
                obtain ⟨d', hd1', _, _, hd4'⟩ := hd _ oe (by have := hon i o hilt ho e he hb; omega) hoe
                have : d' = s := by
                  have h2 : oe.dst = some s := heq'
                  rw [hd1'] at h2
                  injection h2
                subst this
                rw [hd4'] at h1
                exact h1
          have hy := (hok.mem o hof hr) a.eval w (fun _ => rfl) (fun _ => rfl) hI.below hslots
          have hy2 : Yields P o a.eval w fun v w' => ((slotTy E (dstD o)).holds w' v ∧ Below w.heap.size w w') ∧ ∀ T, o.op = .alloc T → v = .pointer (some ⟨w.heap.size, 0, none⟩) ∧ w.heap.size < w'.heap.size := by
            by_cases hex : ∃ T, o.op = .alloc T
            · obtain ⟨T, hT⟩ := hex
              obtain ⟨w1, hr1, hz1⟩ := hal.mem o hof T hT a.eval w
              have h := hy.alloc hr1 hz1
              unfold Yields at h ⊢
              rw [hr1] at h ⊢
              exact ⟨h.1, fun _ _ => h.2⟩
            · have hno : ∀ T, o.op = .alloc T → False := fun T h => hex ⟨T, h⟩
              unfold Yields at hy ⊢
              generalize (execOp a.eval o).run P w = rr at hy ⊢
              split at hy
              · exact ⟨hy, fun T h => (hno T h).elim⟩
              · refine Calls.mono hy ?_
                rintro e w'' ⟨v, rfl, hk⟩
                exact ⟨v, rfl, hk, fun T h => (hno T h).elim⟩
              · exact hy.elim
          have hy3 : Yields P o a.eval w fun v w' => (((slotTy E (dstD o)).holds w' v ∧ Below w.heap.size w w') ∧ ∀ T, o.op = .alloc T → v = .pointer (some ⟨w.heap.size, 0, none⟩) ∧ w.heap.size < w'.heap.size) ∧ (dstD o ∈ fl → ∀ g, bkV v = some g → w.heap.size ≤ g) := by
            by_cases hfo : dstD o ∈ fl
            · obtain ⟨hna, hstep⟩ := hnw o hof hfo
              have h := hstep a.eval w (fun _ => rfl) (fun _ => rfl) hI.below hslots
              unfold Yields at h ⊢
              generalize (execOp a.eval o).run P w = rr at h ⊢
              split at h
              · exact ⟨⟨h.1, fun T hT => (hna T hT).elim⟩, fun _ => h.2⟩
              · refine Calls.mono h ?_
                rintro e w'' ⟨v, rfl, hk, hk2⟩
                exact ⟨v, rfl, ⟨hk, fun T hT => (hna T hT).elim⟩, fun _ => hk2⟩
              · exact h.elim
            · unfold Yields at hy2 ⊢
              generalize (execOp a.eval o).run P w = rr at hy2 ⊢
              split at hy2
              · exact ⟨hy2, fun h => (hfo h).elim⟩
              · refine Calls.mono hy2 ?_
                rintro e w'' ⟨v, rfl, hk⟩
                exact ⟨v, rfl, hk, fun h => (hfo h).elim⟩
              · exact hy2.elim
          refine Oper.wp_mono (fun a' w' h => ?_) hy3.wp
          obtain ⟨v, rfl, ⟨⟨hT, hB⟩, hA⟩, hN⟩ := h
          rw [hd1]
          rw [hd4] at hT
          exact hnext v w' hT hB (fun T h _ => hA T h) hN
        cases hg : o.guard with
        | none => exact hrun (by unfold runsB; rw [hg]) (by unfold Region.wanted; rw [hg])
        | some p =>
          obtain ⟨g, want⟩ := p
          rcases hgv g want hg with ⟨og, dg, hog, hdg, hget, hgs1⟩ | ⟨hw, hkey⟩
          · refine hrun ?_ ?_
            · unfold runsB; rw [hg]; simp only [hog, Option.bind_some, hdg, hgs1]
            · unfold Region.wanted; rw [hg]; simp [yielded, hog, hdg, hget]
          · unfold wpOp
            simp only [ho]
            rw [if_neg (by rw [hw]; exact Bool.false_ne_true), hd1]
            rw [hd4] at hkey
            exact hnext undef w (hkey w) (Below.refl _ _) (fun T _ hgn => by rw [hg] at hgn; cases hgn) (fun _ g hgg => by cases hgg)
/-- THE REGION, WHATEVER ORDER IS DRAWN, AND ITS LAST OPERATIONS. -/
theorem wp_region_new {id : Nat} {l : List Oper} {w : World} (E : List (Nat × STy)) (start : List Nat) (gs : List (Nat × Bool)) (us fl : List Nat) (n m : Nat) (hm : P.follows .mixedOrders = true) (hck : chainU l.toArray (E.map Prod.fst) start gs us n m = true) (hus : UndefHold E us) (hn : a0.tmps.size = n) (hgs : GuardsHold E gs)
    (hst : StartHold E w a0 start) (hok : OpStepsG P l.toArray gs E w (l.take m)) (hal : AllocsOk P (l.take m)) (hnl : NewLt E fl (l.take m)) (hnw : NewOk P E w fl (l.take m))
    (hfin : ∀ v w', OpsHold E w' v (l.take m) → ApartV (l.take m) v → ApartN fl (l.take m) v → Below w.heap.size w w' → wpList P l.toArray Q (l.drop m) (putAll a0 v ((l.take m).map dstD)) w') :
    (Code.region id l.toArray true).wp P Q a0 w := by
  refine wp_region_any hm ?_
  have hb : Below w.heap.size w w.drew := (Below.refl _ _).drew
  have hno : ∀ i, (Array.replicate l.toArray.size false).getD i false = true → False := by
    intro i hl
    rw [Array.getD_eq_getD_getElem?] at hl
    cases h : (Array.replicate l.toArray.size false)[i]? with
    | none => rw [h] at hl; cases hl
    | some b =>
      have := Array.mem_of_getElem? h
      simp at this
      rw [h, this.2] at hl
      cases hl
  refine wpAny_new (w0 := w) (fl := fl) (P := P) hck hus hgs (by simpa using hok) (by simpa using hal) (by simpa using hnl) (by simpa using hnw) hn (fun v w' h ha ha2 hb => by simpa using hfin v w' (OpsHold.of (by simpa using h)) (by simpa using ha) (by simpa using ha2) hb) _ _ _ _ ⟨hn, rfl, hb, fun _ _ => rfl, fun s hs => (slotTy E s).stable (hst.mem s hs) hb, fun i o _ _ hl => (hno i hl).elim, by simp, ?_, fun i o _ _ hl => (hno i hl).elim, fun i _ _ _ _ _ _ hl => (hno i hl).elim, fun i _ _ _ _ _ _ _ _ _ _ _ _ _ _ hl => (hno i hl).elim, fun i _ _ _ _ _ _ _ _ _ _ hl => (hno i hl).elim⟩ ?_
  · intro i _ hi
    rw [Array.getD_eq_getD_getElem?, Array.getElem?_replicate, if_pos hi]
    rfl
  · simpa using openN_rep l.toArray.size
end
end Go.Proofs.YtbjooeapjhaapaaGreatDoor
