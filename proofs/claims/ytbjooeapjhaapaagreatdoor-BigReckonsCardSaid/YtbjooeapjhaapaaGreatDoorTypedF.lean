/- A region that draws its order, walked once whatever the order is: each slot has a type, and what an operation leaves in its slot is shown from the types of the slots that it reads. No program stands in it. -/
import Derived.Test.YtbjooeapjhaapaaGreatDoorMathU
import Derived.Orders
import Derived.Tactics
namespace Go.Proofs.YtbjooeapjhaapaaGreatDoor
open Go Go.RowKit

/-- What a slot holds; memory of the past being kept, it goes on holding it. -/
structure STy where
  holds : World → Value → Prop
  stable : ∀ {w w' : World} {v : Value}, holds w v → Below w.heap.size w w' → holds w' v
def STy.any : STy := ⟨fun _ _ => True, fun h _ => h⟩
def STy.is (c : Value) : STy := ⟨fun _ v => v = c, fun h _ => h⟩
def slotTy : List (Nat × STy) → Nat → STy
  | [], _ => .any
  | (t, x) :: l, s => bif Nat.beq t s then x else slotTy l s
def SlotsHold (E : List (Nat × STy)) (w : World) (ρ : Operand → Value) : List Operand → Prop
  | [] => True
  | .tmp s :: l => (slotTy E s).holds w (ρ (.tmp s)) ∧ SlotsHold E w ρ l
  | .const _ :: l => SlotsHold E w ρ l
  | .global _ :: l => SlotsHold E w ρ l
  | .func _ :: l => SlotsHold E w ρ l
theorem SlotsHold.of {E : List (Nat × STy)} {w : World} {ρ : Operand → Value} : ∀ {l : List Operand}, (∀ s, .tmp s ∈ l → (slotTy E s).holds w (ρ (.tmp s))) → SlotsHold E w ρ l
  | [], _ => trivial
  | .tmp s :: l, h => ⟨h s (by simp), SlotsHold.of (l := l) fun t ht => h t (List.mem_cons_of_mem _ ht)⟩
  | .const _ :: l, h => SlotsHold.of (l := l) fun t ht => h t (List.mem_cons_of_mem _ ht)
  | .global _ :: l, h => SlotsHold.of (l := l) fun t ht => h t (List.mem_cons_of_mem _ ht)
  | .func _ :: l, h => SlotsHold.of (l := l) fun t ht => h t (List.mem_cons_of_mem _ ht)
theorem SlotsHold.at_ {E : List (Nat × STy)} {w : World} {ρ : Operand → Value} : ∀ {l : List Operand} {s : Nat}, SlotsHold E w ρ l → .tmp s ∈ l → (slotTy E s).holds w (ρ (.tmp s))
  | [], _, _, h => by cases h
  | x :: l, s, hs, hm => by
    rcases List.mem_cons.1 hm with rfl | hm
    · exact hs.1
    · refine SlotsHold.at_ (w := w) (l := l) ?_ hm
      cases x with
      | tmp s => exact hs.2
      | const c => exact hs
      | global g => exact hs
      | func f => exact hs
/-- The operation runs to its end, and yields what K says. -/
def Yields (P : Program) (o : Oper) (ρ : Operand → Value) (w : World) (K : Value → World → Prop) : Prop :=
  match (execOp ρ o).run P w with
  | .ok (.value v) w' => K v w'
  | .ok (.enter f args) w' => Calls P f args w' fun e w'' => ∃ v, e = .returned v ∧ K v w''
  | _ => False
theorem Yields.wp {P : Program} {o : Oper} {a : Act} {w : World} {K : Value → World → Prop} {Q : Exit → Act → World → Prop} (h : Yields P o a.eval w K) : o.wp P a w (fun a' w' => ∃ v, a' = a.put o.dst v ∧ K v w') Q := by
  unfold Yields at h
  unfold Oper.wp
  generalize (execOp a.eval o).run P w = r at *
  split at h
  · exact ⟨_, rfl, h⟩
  · refine Calls.mono h ?_
    rintro e w'' ⟨v, rfl, hk⟩
    exact ⟨v, rfl, hk⟩
  · exact h.elim
def dstD (o : Oper) : Nat := o.dst.getD 0
/-- The operation keeps the types. -/
def OpStep (P : Program) (E : List (Nat × STy)) (w0 : World) (o : Oper) : Prop :=
  ∀ (ρ : Operand → Value) (w : World), (∀ c, ρ (.const c) = c) → (∀ f, ρ (.func f) = .func (.func f) #[] #[]) → Below w0.heap.size w0 w → SlotsHold E w ρ o.op.operands.toList →
    Yields P o ρ w fun v w' => (slotTy E (dstD o)).holds w' v ∧ Below w.heap.size w w'
def OpSteps (P : Program) (E : List (Nat × STy)) (w0 : World) : List Oper → Prop
  | [] => True
  | o :: l => OpStep P E w0 o ∧ OpSteps P E w0 l
theorem OpSteps.mem {P : Program} {E : List (Nat × STy)} {w0 : World} : ∀ {l : List Oper}, OpSteps P E w0 l → ∀ o ∈ l, OpStep P E w0 o
  | [], _, _, h => by cases h
  | _ :: _, h, o, ho => by
    rcases List.mem_cons.1 ho with rfl | ho
    · exact h.1
    · exact h.2.mem o ho
def GuardsHold (E : List (Nat × STy)) : List (Nat × Bool) → Prop
  | [] => True
  | (d, b) :: l => (∀ w v, (slotTy E d).holds w v → v = .bool b) ∧ GuardsHold E l
theorem OpSteps.cons {P : Program} {E : List (Nat × STy)} {w0 : World} {o : Oper} {l : List Oper} (h : OpStep P E w0 o) (t : OpSteps P E w0 l) : OpSteps P E w0 (o :: l) := ⟨h, t⟩
theorem OpSteps.nil {P : Program} {E : List (Nat × STy)} {w0 : World} : OpSteps P E w0 [] := trivial
theorem st_move {P : Program} {E : List (Nat × STy)} {w0 : World} {d s : Nat} {ty : TypeId} {pos : String} {af : Array Edge} {g : Option (Nat × Bool)} (h : ∀ w v, (slotTy E s).holds w v → (slotTy E d).holds w v) :
    OpStep P E w0 ⟨some d, .move (.tmp s), ty, pos, af, g⟩ := fun ρ w _ _ _ hs => by
  show (slotTy E d).holds w (ρ (.tmp s)) ∧ _
  exact ⟨h _ _ hs.1, Below.refl _ _⟩
theorem st_assign {P : Program} {E : List (Nat × STy)} {w0 : World} {d s : Nat} {ty : TypeId} {pos : String} {af : Array Edge} {g : Option (Nat × Bool)} (h : ∀ w v, (slotTy E s).holds w v → (slotTy E d).holds w v) :
    OpStep P E w0 ⟨some d, .assign (.tmp s), ty, pos, af, g⟩ := fun ρ w _ _ _ hs => by
  show (slotTy E d).holds w (ρ (.tmp s)) ∧ _
  exact ⟨h _ _ hs.1, Below.refl _ _⟩
theorem GuardsHold.mem {E : List (Nat × STy)} : ∀ {l : List (Nat × Bool)}, GuardsHold E l → ∀ p ∈ l, ∀ w v, (slotTy E p.1).holds w v → v = .bool p.2
  | [], _, _, h => by cases h
  | _ :: _, h, p, hp => by
    rcases List.mem_cons.1 hp with rfl | hp
    · exact h.1
    · exact h.2.mem p hp
def StartHold (E : List (Nat × STy)) (w : World) (a : Act) : List Nat → Prop
  | [] => True
  | s :: l => (slotTy E s).holds w (a.tmps.getD s undef) ∧ StartHold E w a l
theorem StartHold.mem {E : List (Nat × STy)} {w : World} {a : Act} : ∀ {l : List Nat}, StartHold E w a l → ∀ s ∈ l, (slotTy E s).holds w (a.tmps.getD s undef)
  | [], _, _, h => by cases h
  | _ :: _, h, p, hp => by
    rcases List.mem_cons.1 hp with rfl | hp
    · exact h.1
    · exact h.2.mem p hp
def distinctB : List Nat → Bool
  | [] => true
  | a :: l => !l.elem a && distinctB l
/-- What is asked of the region's text: each operation has a slot of its own, reads slots that are there from the start or of operations that it waits for, and waits for earlier ones alone. -/
def regionOpB (ops : Array Oper) (start : List Nat) (gs : List (Nat × Bool)) (n i : Nat) (o : Oper) : Bool :=
  (match o.dst with | some d => Nat.blt d n && !start.elem d | none => false) &&
  (o.op.operands.toList.all fun | .tmp s => start.elem s || o.after.toList.any (fun e => Region.binds .any e && ((ops[e.on]?).bind (·.dst) == some s)) | _ => true) &&
  (match o.guard with | none => true | some (g, want) => (match (ops[g]?).bind (·.dst) with | some d => gs.elem (d, want) | none => false) && o.after.toList.any (fun e => Region.binds .any e && Nat.beq e.on g)) &&
  (o.after.toList.all fun e => !Region.binds .any e || Nat.blt e.on i)
def regionB (ops : Array Oper) (start : List Nat) (gs : List (Nat × Bool)) (n : Nat) : Bool :=
  ((List.range ops.size).all fun i => match ops[i]? with | some o => regionOpB ops start gs n i o | none => false) && distinctB (ops.toList.map dstD)
def putAll (a : Act) (v : Nat → Value) : List Nat → Act
  | [] => a
  | d :: l => putAll (a.put (some d) (v d)) v l
theorem putAll_size (v : Nat → Value) : ∀ (l : List Nat) (a : Act), (putAll a v l).tmps.size = a.tmps.size
  | [], _ => rfl
  | d :: l, a => by rw [putAll, putAll_size v l]; simp [Act.put]
theorem putAll_defers (v : Nat → Value) : ∀ (l : List Nat) (a : Act), (putAll a v l).defers = a.defers
  | [], _ => rfl
  | d :: l, a => by rw [putAll, putAll_defers v l]; rfl
theorem put_getD (a : Act) (d s : Nat) (v : Value) (hd : d < a.tmps.size) : (a.put (some d) v).tmps.getD s undef = if s = d then v else a.tmps.getD s undef := by
  simp only [Act.put, Array.getD_eq_getD_getElem?]
  by_cases h : s = d
  · subst h
    rw [if_pos rfl, Array.getElem?_setIfInBounds_self_of_lt hd]; rfl
  · rw [if_neg h, Array.getElem?_setIfInBounds_ne (Ne.symm h)]
theorem putAll_in (v : Nat → Value) : ∀ (l : List Nat) (a : Act) (s : Nat), (∀ d ∈ l, d < a.tmps.size) → (s ∈ l ∨ a.tmps.getD s undef = v s) → (putAll a v l).tmps.getD s undef = v s
  | [], a, s, _, h => by
    rcases h with h | h
    · cases h
    · exact h
  | d :: l, a, s, hd, h => by
    rw [putAll]
    have hd0 := hd d (by simp)
    refine putAll_in v l _ s (fun e he => by simp [Act.put]; exact hd e (List.mem_cons_of_mem _ he)) ?_
    rw [put_getD _ _ _ _ hd0]
    by_cases hs : s = d
    · subst hs; exact .inr (if_pos rfl)
    · rw [if_neg hs]
      rcases h with h | h
      · rcases List.mem_cons.1 h with h | h
        · exact absurd h hs
        · exact .inl h
      · exact .inr h
theorem putAll_out (v : Nat → Value) : ∀ (l : List Nat) (a : Act) (s : Nat), (∀ d ∈ l, d < a.tmps.size) → s ∉ l → (putAll a v l).tmps.getD s undef = a.tmps.getD s undef
  | [], _, _, _, _ => rfl
  | d :: l, a, s, hd, h => by
    have hd0 := hd d (by simp)
    rw [putAll, putAll_out v l _ s (fun e he => by simp [Act.put]; exact hd e (List.mem_cons_of_mem _ he)) (fun hm => h (List.mem_cons_of_mem _ hm)), put_getD _ _ _ _ hd0, if_neg]
    rintro rfl
    exact h (by simp)
theorem act_ext {a b : Act} (hs : a.tmps.size = b.tmps.size) (hd : a.defers = b.defers) (h : ∀ s, a.tmps.getD s undef = b.tmps.getD s undef) : a = b := by
  obtain ⟨ta, da⟩ := a
  obtain ⟨tb, db⟩ := b
  simp only at hs hd h
  subst hd
  have : ta = tb := by
    apply Array.ext hs
    intro i h1 h2
    have := h i
    simpa [Array.getD_eq_getD_getElem?, h1, h2] using this
  rw [this]
def openN : List Bool → Nat
  | [] => 0
  | true :: l => openN l
  | false :: l => openN l + 1
theorem openN_set : ∀ (l : List Bool) (i : Nat), l[i]? = some false → openN (l.set i true) + 1 = openN l
  | [], _, h => by simp at h
  | b :: l, 0, h => by
    simp at h
    subst h
    simp [openN]
  | b :: l, i + 1, h => by
    have := openN_set l i (by simpa using h)
    cases b <;> simp [openN] <;> omega
theorem openN_pos : ∀ (l : List Bool) (i : Nat), l[i]? = some false → 0 < openN l
  | [], _, h => by simp at h
  | b :: l, 0, h => by
    simp at h
    subst h
    simp [openN]
  | b :: l, i + 1, h => by
    have := openN_pos l i (by simpa using h)
    cases b <;> simp [openN]
    exact this
section
variable {P : Program} {ops : Array Oper} {Q : Exit → Act → World → Prop} {E : List (Nat × STy)} {w0 : World} {a0 : Act} {start : List Nat} {gs : List (Nat × Bool)} {n : Nat}
theorem regionB_at (h : regionB ops start gs n = true) {i : Nat} {o : Oper} (ho : ops[i]? = some o) : regionOpB ops start gs n i o = true := by
  unfold regionB at h
  simp only [Bool.and_eq_true, List.all_eq_true] at h
  have := h.1 i (by simpa using (Array.getElem?_eq_some_iff.1 ho).1)
  rw [ho] at this
  exact this
theorem distinctB_ne : ∀ {l : List Nat}, distinctB l = true → ∀ (i j : Nat) (x : Nat), l[i]? = some x → l[j]? = some x → i = j
  | [], _, i, _, _, hi, _ => by simp at hi
  | a :: l, h, i, j, x, hi, hj => by
    simp only [distinctB, Bool.and_eq_true, Bool.not_eq_true', List.elem_eq_mem, decide_eq_false_iff_not] at h
    rcases i with _ | i <;> rcases j with _ | j
    · rfl
    · simp at hi hj
      subst hi
      exact absurd (List.mem_of_getElem? hj) h.1
    · simp at hi hj
      subst hj
      exact absurd (List.mem_of_getElem? hi) h.1
    · rw [distinctB_ne h.2 i j x (by simpa using hi) (by simpa using hj)]
/-- In the midst of the region. -/
structure RegI (ops : Array Oper) (E : List (Nat × STy)) (w0 : World) (a0 : Act) (start : List Nat) (n : Nat) (listed : Array Bool) (a : Act) (w : World) : Prop where
  size : a.tmps.size = n
  defers : a.defers = a0.defers
  below : Below w0.heap.size w0 w
  rest : ∀ s, s ∉ ops.toList.map dstD → a.tmps.getD s undef = a0.tmps.getD s undef
  start : ∀ s ∈ start, (slotTy E s).holds w (a.tmps.getD s undef)
  done : ∀ (i : Nat) (o : Oper), ops[i]? = some o → listed.getD i false = true → (slotTy E (dstD o)).holds w (a.tmps.getD (dstD o) undef)
  len : listed.size = ops.size
theorem wpAny_typed (hck : regionB ops start gs n = true) (hgs : GuardsHold E gs) (hok : OpSteps P E w0 ops.toList) (hn : a0.tmps.size = n)
    (hfin : ∀ v w', (∀ o ∈ ops.toList, (slotTy E (dstD o)).holds w' (v (dstD o))) → Below w0.heap.size w0 w' → Q .normal (putAll a0 v (ops.toList.map dstD)) w') :
    ∀ (fuel : Nat) (listed : Array Bool) (a : Act) (w : World), RegI ops E w0 a0 start n listed a w → openN listed.toList ≤ fuel → wpAny P .any ops Q fuel listed a w := by
  have hd : ∀ (i : Nat) (o : Oper), ops[i]? = some o → ∃ d, o.dst = some d ∧ d < n ∧ d ∉ start ∧ dstD o = d := by
    intro i o ho
    have := regionB_at hck ho
    unfold regionOpB at this
    simp only [Bool.and_eq_true] at this
    obtain ⟨⟨⟨h1, _⟩, _⟩, _⟩ := this
    cases hdo : o.dst with
    | none => rw [hdo] at h1; simp at h1
    | some d =>
      rw [hdo] at h1
      simp only [Bool.and_eq_true, Bool.not_eq_true', List.elem_eq_mem, decide_eq_false_iff_not] at h1
      exact ⟨d, rfl, by rw [← Nat.blt_eq]; exact h1.1, h1.2, by unfold dstD; rw [hdo]; rfl⟩
  have hdist : ∀ (i j : Nat) (o o' : Oper), ops[i]? = some o → ops[j]? = some o' → dstD o = dstD o' → i = j := by
    intro i j o o' ho ho' he
    have h := hck
    unfold regionB at h
    simp only [Bool.and_eq_true] at h
    refine distinctB_ne h.2 i j (dstD o) ?_ ?_
    · rw [List.getElem?_map, Array.getElem?_toList, ho]; rfl
    · rw [List.getElem?_map, Array.getElem?_toList, ho', he]; rfl
  have hdone : ∀ (listed : Array Bool) (a : Act) (w : World), RegI ops E w0 a0 start n listed a w → Region.ready .any ops listed = [] → Q .normal a w := by
    intro listed a w hI hr
    have hall : ∀ i, i < ops.size → listed.getD i false = true := by
      intro i
      induction i using Nat.strongRecOn with
      | _ i ih =>
        intro hi
        by_cases hl : listed.getD i true = true
        · have hi' : i < listed.size := by rw [hI.len]; exact hi
          simpa [Array.getD_eq_getD_getElem?, hi'] using hl
        · exfalso
          obtain ⟨o, ho⟩ : ∃ o, ops[i]? = some o := ⟨_, Array.getElem?_eq_getElem hi⟩
          have hchk := regionB_at hck ho
          unfold regionOpB at hchk
          simp only [Bool.and_eq_true, List.all_eq_true] at hchk
          have hm : i ∈ Region.ready .any ops listed := by
            unfold Region.ready
            simp only [List.mem_filter, List.mem_range, hi, true_and, Bool.and_eq_true, Bool.not_eq_true', ho, Option.map_some, Option.getD_some]
            refine ⟨by simpa using hl, ?_⟩
            rw [← Array.all_toList]
            simp only [List.all_eq_true]
            intro e he
            have := hchk.2 e he
            simp only [Bool.or_eq_true] at this ⊢
            rcases this with h | h
            · exact .inl h
            · have hlt : e.on < i := by rw [← Nat.blt_eq]; exact h
              exact .inr (ih e.on hlt (by omega))
          rw [hr] at hm
          cases hm
    have hds : ∀ d ∈ ops.toList.map dstD, d < a0.tmps.size := by
      intro d hdm
      obtain ⟨o, ho, rfl⟩ := List.mem_map.1 hdm
      obtain ⟨i, hi⟩ := List.mem_iff_getElem?.1 ho
      rw [Array.getElem?_toList] at hi
      obtain ⟨d, _, h2, _, h4⟩ := hd i o hi
      rw [h4, hn]; exact h2
    have he : a = putAll a0 (fun s => a.tmps.getD s undef) (ops.toList.map dstD) := by
      refine act_ext (by rw [putAll_size, hI.size, hn]) (by rw [putAll_defers, hI.defers]) fun s => ?_
      by_cases hs : s ∈ ops.toList.map dstD
      · rw [putAll_in _ _ _ _ hds (.inl hs)]
      · rw [putAll_out _ _ _ _ hds hs, hI.rest s hs]
    rw [he]
    refine hfin _ _ (fun o ho => ?_) hI.below
    obtain ⟨i, hi⟩ := List.mem_iff_getElem?.1 ho
    rw [Array.getElem?_toList] at hi
    exact hI.done i o hi (hall i (Array.getElem?_eq_some_iff.1 hi).1)
  intro fuel
  induction fuel with
  | zero =>
    intro listed a w hI hf
    have hr : Region.ready .any ops listed = [] := by
      unfold Region.ready
      rw [List.filter_eq_nil_iff]
      intro i hi
      simp only [List.mem_range] at hi
      intro hc
      simp only [Bool.and_eq_true, Bool.not_eq_true'] at hc
      have hi' : i < listed.size := by rw [hI.len]; exact hi
      have : listed.toList[i]? = some false := by
        have h1 := hc.1
        rw [Array.getElem?_toList]
        simpa [Array.getD_eq_getD_getElem?, hi'] using h1
      have := openN_pos _ _ this
      omega
    exact ⟨hr, hdone listed a w hI hr⟩
  | succ fuel ih =>
    intro listed a w hI hf
    refine ⟨hdone listed a w hI, fun i hi => ?_⟩
    unfold Region.ready at hi
    simp only [List.mem_filter, List.mem_range, Bool.and_eq_true, Bool.not_eq_true'] at hi
    obtain ⟨hlt, hl, haf⟩ := hi
    have hi' : i < listed.size := by rw [hI.len]; exact hlt
    obtain ⟨o, ho⟩ : ∃ o, ops[i]? = some o := ⟨_, Array.getElem?_eq_getElem hlt⟩
    rw [ho] at haf
    simp only [Option.map_some, Option.getD_some] at haf
    rw [← Array.all_toList] at haf
    simp only [List.all_eq_true, Bool.or_eq_true, Bool.not_eq_true'] at haf
    have hchk := regionB_at hck ho
    unfold regionOpB at hchk
    simp only [Bool.and_eq_true] at hchk
    obtain ⟨⟨⟨hc1, hc2⟩, hc3⟩, hc4⟩ := hchk
    have hwait : ∀ e ∈ o.after.toList, Region.binds .any e = true → ∀ oe, ops[e.on]? = some oe → (slotTy E (dstD oe)).holds w (a.tmps.getD (dstD oe) undef) := by
      intro e he hb oe hoe
      rcases haf e he with h | h
      · rw [hb] at h; cases h
      · exact hI.done _ _ hoe h
    have hw : Region.wanted o (yielded ops a.tmps) = true := by
      unfold Region.wanted
      cases hg : o.guard with
      | none => rfl
      | some p =>
        obtain ⟨g, want⟩ := p
        rw [hg] at hc3
        simp only [Bool.and_eq_true, List.any_eq_true] at hc3
        obtain ⟨h1, e, he, hb, heg⟩ := hc3
        have heg' : e.on = g := Nat.eq_of_beq_eq_true heg
        cases hog : ops[g]? with
        | none => rw [hog] at h1; simp at h1
        | some og =>
          rw [hog] at h1
          obtain ⟨d, hd1, hd2, _, hd4⟩ := hd g og hog
          simp only [Option.bind_some, hd1, List.elem_eq_mem, decide_eq_true_eq] at h1
          have hv := hwait e he hb og (by rw [heg']; exact hog)
          rw [hd4] at hv
          have hval := hgs.mem _ h1 _ _ hv
          have hsz : d < a.tmps.size := by rw [hI.size]; exact hd2
          have hget : a.tmps[d]? = some (.bool want) := by
            rw [Array.getD_eq_getD_getElem?, Array.getElem?_eq_getElem hsz] at hval
            rw [Array.getElem?_eq_getElem hsz]
            simpa using hval
          simp [yielded, hog, hd1, hget]
    unfold wpOp
    simp only [ho]
    rw [if_pos hw]
    left
    obtain ⟨d, hd1, hd2, hd3, hd4⟩ := hd i o ho
    have hslots : SlotsHold E w a.eval o.op.operands.toList := by
      refine SlotsHold.of fun s hs => ?_
      have := List.all_eq_true.1 hc2 _ hs
      simp only [Bool.or_eq_true, List.any_eq_true, Bool.and_eq_true] at this
      rcases this with h | ⟨e, he, hb, heq⟩
      · exact hI.start s (by simpa using h)
      · have heq' : (ops[e.on]?).bind (·.dst) = some s := by simpa using heq
        cases hoe : ops[e.on]? with
        | none => rw [hoe] at heq'; cases heq'
        | some oe =>
          rw [hoe] at heq'
          have h1 := hwait e he hb oe hoe
          obtain ⟨d', hd1', _, _, hd4'⟩ := hd _ oe hoe
          have : d' = s := by
            have h2 : oe.dst = some s := heq'
            rw [hd1'] at h2
            injection h2
          subst this
          rw [hd4'] at h1
          exact h1
    have hy := (hok.mem o (by rw [Array.mem_toList_iff]; exact Array.mem_of_getElem? ho)) a.eval w (fun _ => rfl) (fun _ => rfl) hI.below hslots
    refine Oper.wp_mono (fun a' w' h => ?_) hy.wp
    obtain ⟨v, rfl, hT, hB⟩ := h
    have hsz : d < a.tmps.size := by rw [hI.size]; exact hd2
    rw [hd1]
    refine ih _ _ _ ⟨?_, ?_, ?_, ?_, ?_, ?_, ?_⟩ ?_
    · simp [Act.put, hI.size]
    · exact hI.defers
    · exact hI.below.trans (hB.mono hI.below.size)
    · intro s hs
      rw [put_getD _ _ _ _ hsz, if_neg, hI.rest s hs]
      rintro rfl
      refine hs (List.mem_map.2 ⟨o, ?_, hd4⟩)
      rw [Array.mem_toList_iff]; exact Array.mem_of_getElem? ho
    · intro s hs
      rw [put_getD _ _ _ _ hsz, if_neg]
      · exact (slotTy E s).stable (hI.start s hs) hB
      · rintro rfl
        exact hd3 hs
    · intro j oj hj hlj
      by_cases hji : j = i
      · subst hji
        rw [ho] at hj
        injection hj with hj
        subst hj
        rw [hd4, put_getD _ _ _ _ hsz, if_pos rfl]
        rw [hd4] at hT
        exact hT
      · have hne : dstD oj ≠ d := fun h => hji (hdist j i oj o hj ho (by rw [h, hd4]))
        rw [put_getD _ _ _ _ hsz, if_neg hne]
        refine (slotTy E _).stable (hI.done j oj hj ?_) hB
        rw [Array.getD_eq_getD_getElem?, Array.getElem?_setIfInBounds_ne (Ne.symm hji)] at hlj
        rw [Array.getD_eq_getD_getElem?]
        exact hlj
    · simp [hI.len]
    · have h1 : listed.toList[i]? = some false := by
        rw [Array.getElem?_toList]
        simpa [Array.getD_eq_getD_getElem?, hi'] using hl
      have := openN_set _ _ h1
      rw [Array.toList_setIfInBounds]
      omega
/-- What the slots hold behind the region. -/
def OpsHold (E : List (Nat × STy)) (w : World) (v : Nat → Value) : List Oper → Prop
  | [] => True
  | o :: l => (slotTy E (dstD o)).holds w (v (dstD o)) ∧ OpsHold E w v l
theorem OpsHold.of {w : World} {v : Nat → Value} : ∀ {l : List Oper}, (∀ o ∈ l, (slotTy E (dstD o)).holds w (v (dstD o))) → OpsHold E w v l
  | [], _ => trivial
  | o :: l, h => ⟨h o (by simp), OpsHold.of (l := l) fun t ht => h t (List.mem_cons_of_mem _ ht)⟩
theorem openN_rep (k : Nat) : openN (List.replicate k false) ≤ k := by
  induction k with
  | zero => simp [openN]
  | succ k ih => simp only [List.replicate_succ, openN]; omega
/-- THE REGION, WHATEVER ORDER IS DRAWN. -/
theorem wp_region_typed {id : Nat} {l : List Oper} {w : World} (E : List (Nat × STy)) (start : List Nat) (gs : List (Nat × Bool)) (n : Nat) (hm : P.follows .mixedOrders = true) (hck : regionB l.toArray start gs n = true) (hn : a0.tmps.size = n) (hgs : GuardsHold E gs)
    (hst : StartHold E w a0 start) (hok : OpSteps P E w l)
    (hfin : ∀ v w', OpsHold E w' v l → Below w.heap.size w w' → Q .normal (putAll a0 v (l.map dstD)) w') :
    (Code.region id l.toArray true).wp P Q a0 w := by
  refine wp_region_any hm ?_
  have hb : Below w.heap.size w w.drew := (Below.refl _ _).drew
  refine wpAny_typed (w0 := w) hck hgs (by simpa using hok) hn (fun v w' h hb => by simpa using hfin v w' (OpsHold.of (by simpa using h)) hb) _ _ _ _ ⟨hn, rfl, hb, fun _ _ => rfl, fun s hs => (slotTy E s).stable (hst.mem s hs) hb, ?_, by simp⟩ ?_
  · intro i o ho hl
    exfalso
    rw [Array.getD_eq_getD_getElem?] at hl
    cases h : (Array.replicate l.toArray.size false)[i]? with
    | none => rw [h] at hl; cases hl
    | some b =>
      have := Array.mem_of_getElem? h
      simp at this
      rw [h, this.2] at hl
      cases hl
  · simpa using openN_rep l.toArray.size
end
end Go.Proofs.YtbjooeapjhaapaaGreatDoor
/- A region that draws its order and ends in one operation that waits for all others (a store): the others walked once whatever the order is, then that one. No program stands in it. -/
namespace Go.Proofs.YtbjooeapjhaapaaGreatDoor
open Go Go.RowKit

/-- What is asked of the text: the first m operations as in regionB; the last one has no guard, waits for each of them and for nothing else. -/
def tailB (ops : Array Oper) (start : List Nat) (gs : List (Nat × Bool)) (n m : Nat) (t : Oper) : Bool :=
  Nat.beq ops.size (m + 1) && ((List.range m).all fun i => match ops[i]? with | some o => regionOpB ops start gs n i o && t.after.toList.any (fun e => Region.binds .any e && Nat.beq e.on i) | none => false) && distinctB ((ops.toList.take m).map dstD) &&
  (match t.guard with | none => true | some _ => false) && (t.after.toList.all fun e => !Region.binds .any e || Nat.blt e.on m)
section
variable {P : Program} {ops : Array Oper} {Q : Exit → Act → World → Prop} {E : List (Nat × STy)} {w0 : World} {a0 : Act} {start : List Nat} {gs : List (Nat × Bool)} {n m : Nat} {t : Oper}
structure RegT (ops : Array Oper) (E : List (Nat × STy)) (w0 : World) (a0 : Act) (start : List Nat) (n m : Nat) (listed : Array Bool) (a : Act) (w : World) : Prop where
  size : a.tmps.size = n
  defers : a.defers = a0.defers
  below : Below w0.heap.size w0 w
  rest : ∀ s, s ∉ (ops.toList.take m).map dstD → a.tmps.getD s undef = a0.tmps.getD s undef
  start : ∀ s ∈ start, (slotTy E s).holds w (a.tmps.getD s undef)
  done : ∀ (i : Nat) (o : Oper), i < m → ops[i]? = some o → listed.getD i false = true → (slotTy E (dstD o)).holds w (a.tmps.getD (dstD o) undef)
  len : listed.size = ops.size
  last : listed.getD m true = false
theorem mem_front {o : Oper} : o ∈ ops.toList.take m ↔ ∃ i, i < m ∧ ops[i]? = some o := by
  rw [List.mem_iff_getElem?]
  constructor
  · rintro ⟨i, hi⟩
    rw [List.getElem?_take] at hi
    split at hi
    · rename_i h; exact ⟨i, h, by rw [← Array.getElem?_toList]; exact hi⟩
    · cases hi
  · rintro ⟨i, h, hi⟩
    exact ⟨i, by rw [List.getElem?_take, if_pos h, Array.getElem?_toList]; exact hi⟩
theorem wpAny_tail (hck : tailB ops start gs n m t = true) (ht : ops[m]? = some t) (hgs : GuardsHold E gs) (hok : OpSteps P E w0 (ops.toList.take m)) (hn : a0.tmps.size = n)
    (hfin : ∀ v w', (∀ o ∈ ops.toList.take m, (slotTy E (dstD o)).holds w' (v (dstD o))) → Below w0.heap.size w0 w' → wpList P ops Q [t] (putAll a0 v ((ops.toList.take m).map dstD)) w') :
    ∀ (fuel : Nat) (listed : Array Bool) (a : Act) (w : World), RegT ops E w0 a0 start n m listed a w → openN listed.toList ≤ fuel → wpAny P .any ops Q fuel listed a w := by
  unfold tailB at hck
  simp only [Bool.and_eq_true, List.all_eq_true] at hck
  obtain ⟨⟨⟨⟨hsz0, hfr⟩, hdis⟩, htg⟩, htaf⟩ := hck
  have hsize : ops.size = m + 1 := Nat.eq_of_beq_eq_true hsz0
  have hop : ∀ (i : Nat) (o : Oper), i < m → ops[i]? = some o → regionOpB ops start gs n i o = true ∧ t.after.toList.any (fun e => Region.binds .any e && Nat.beq e.on i) = true := by
    intro i o hi ho
    have := hfr i (by simpa using hi)
    rw [ho] at this
    simpa only [Bool.and_eq_true] using this
  have hd : ∀ (i : Nat) (o : Oper), i < m → ops[i]? = some o → ∃ d, o.dst = some d ∧ d < n ∧ d ∉ start ∧ dstD o = d := by
    intro i o hi ho
    have := (hop i o hi ho).1
    unfold regionOpB at this
    simp only [Bool.and_eq_true] at this
    obtain ⟨⟨⟨h1, _⟩, _⟩, _⟩ := this
    cases hdo : o.dst with
    | none => rw [hdo] at h1; simp at h1
    | some d =>
      rw [hdo] at h1
      simp only [Bool.and_eq_true, Bool.not_eq_true', List.elem_eq_mem, decide_eq_false_iff_not] at h1
      exact ⟨d, rfl, by rw [← Nat.blt_eq]; exact h1.1, h1.2, by unfold dstD; rw [hdo]; rfl⟩
  have hdist : ∀ (i j : Nat) (o o' : Oper), i < m → j < m → ops[i]? = some o → ops[j]? = some o' → dstD o = dstD o' → i = j := by
    intro i j o o' hi hj ho ho' he
    refine distinctB_ne hdis i j (dstD o) ?_ ?_
    · rw [List.getElem?_map, List.getElem?_take, if_pos hi, Array.getElem?_toList, ho]; rfl
    · rw [List.getElem?_map, List.getElem?_take, if_pos hj, Array.getElem?_toList, ho', he]; rfl
  have hnot : ∀ (listed : Array Bool) (a : Act) (w : World), RegT ops E w0 a0 start n m listed a w → Region.ready .any ops listed ≠ [] := by
    intro listed a w hI hr
    have hall : ∀ i, i < m → listed.getD i false = true := by
      intro i
      induction i using Nat.strongRecOn with
      | _ i ih =>
        intro hi
        by_cases hl : listed.getD i true = true
        · have hi' : i < listed.size := by rw [hI.len]; omega
          simpa [Array.getD_eq_getD_getElem?, hi'] using hl
        · exfalso
          obtain ⟨o, ho⟩ : ∃ o, ops[i]? = some o := ⟨_, Array.getElem?_eq_getElem (by omega)⟩
          have hchk := (hop i o hi ho).1
          unfold regionOpB at hchk
          simp only [Bool.and_eq_true, List.all_eq_true] at hchk
          have hm : i ∈ Region.ready .any ops listed := by
            unfold Region.ready
            simp only [List.mem_filter, List.mem_range, show i < ops.size by omega, true_and, Bool.and_eq_true, Bool.not_eq_true', ho, Option.map_some, Option.getD_some]
            refine ⟨by simpa using hl, ?_⟩
            rw [← Array.all_toList]
            simp only [List.all_eq_true]
            intro e he
            have := hchk.2 e he
            simp only [Bool.or_eq_true] at this ⊢
            rcases this with h | h
            · exact .inl h
            · have hlt : e.on < i := by rw [← Nat.blt_eq]; exact h
              exact .inr (ih e.on hlt (by omega))
          rw [hr] at hm
          cases hm
    have hm : m ∈ Region.ready .any ops listed := by
      unfold Region.ready
      simp only [List.mem_filter, List.mem_range, show m < ops.size by omega, true_and, Bool.and_eq_true, Bool.not_eq_true', ht, Option.map_some, Option.getD_some]
      refine ⟨hI.last, ?_⟩
      rw [← Array.all_toList]
      simp only [List.all_eq_true]
      intro e he
      have := htaf e he
      simp only [Bool.or_eq_true] at this ⊢
      rcases this with h | h
      · exact .inl h
      · have hlt : e.on < m := by rw [← Nat.blt_eq]; exact h
        exact .inr (hall e.on hlt)
    rw [hr] at hm
    cases hm
  intro fuel
  induction fuel with
  | zero =>
    intro listed a w hI hf
    exfalso
    have : listed.toList[m]? = some false := by
      have h1 := hI.last
      have hi' : m < listed.size := by rw [hI.len]; omega
      rw [Array.getElem?_toList]
      simpa [Array.getD_eq_getD_getElem?, hi'] using h1
    have := openN_pos _ _ this
    omega
  | succ fuel ih =>
    intro listed a w hI hf
    refine ⟨fun hr => absurd hr (hnot listed a w hI), fun i hi => ?_⟩
    unfold Region.ready at hi
    simp only [List.mem_filter, List.mem_range, Bool.and_eq_true, Bool.not_eq_true'] at hi
    obtain ⟨hlt, hl, haf⟩ := hi
    have hi' : i < listed.size := by rw [hI.len]; exact hlt
    obtain ⟨o, ho⟩ : ∃ o, ops[i]? = some o := ⟨_, Array.getElem?_eq_getElem hlt⟩
    rw [ho] at haf
    simp only [Option.map_some, Option.getD_some] at haf
    rw [← Array.all_toList] at haf
    simp only [List.all_eq_true, Bool.or_eq_true, Bool.not_eq_true'] at haf
    by_cases him : i = m
    · subst him
      rw [ht] at ho
      injection ho with ho
      subst ho
      have hall : ∀ j, j < i → listed.getD j false = true := by
        intro j hj
        obtain ⟨oj, hoj⟩ : ∃ oj, ops[j]? = some oj := ⟨_, Array.getElem?_eq_getElem (by omega)⟩
        have h1 := (hop j oj hj hoj).2
        simp only [List.any_eq_true, Bool.and_eq_true] at h1
        obtain ⟨e, he, hb, hej⟩ := h1
        have hej' : e.on = j := Nat.eq_of_beq_eq_true hej
        rcases haf e he with h | h
        · rw [hb] at h; cases h
        · rw [← hej']; exact h
      have hds : ∀ d ∈ (ops.toList.take i).map dstD, d < a0.tmps.size := by
        intro d hdm
        obtain ⟨o, ho, rfl⟩ := List.mem_map.1 hdm
        obtain ⟨j, hj, hoj⟩ := mem_front.1 ho
        obtain ⟨d, _, h2, _, h4⟩ := hd j o hj hoj
        rw [h4, hn]; exact h2
      have he : a = putAll a0 (fun s => a.tmps.getD s undef) ((ops.toList.take i).map dstD) := by
        refine act_ext (by rw [putAll_size, hI.size, hn]) (by rw [putAll_defers, hI.defers]) fun s => ?_
        by_cases hs : s ∈ (ops.toList.take i).map dstD
        · rw [putAll_in _ _ _ _ hds (.inl hs)]
        · rw [putAll_out _ _ _ _ hds hs, hI.rest s hs]
      have hlast := hfin (fun s => a.tmps.getD s undef) w (fun o ho => by
        obtain ⟨j, hj, hoj⟩ := mem_front.1 ho
        exact hI.done j o hj hoj (hall j hj)) hI.below
      rw [← he] at hlast
      have hend : ∀ (a' : Act) (w' : World), Q .normal a' w' → wpAny P .any ops Q fuel (listed.setIfInBounds i true) a' w' := by
        intro a' w' hq
        have hr : Region.ready .any ops (listed.setIfInBounds i true) = [] := by
          unfold Region.ready
          rw [List.filter_eq_nil_iff]
          intro j hj
          simp only [List.mem_range] at hj
          intro hc
          simp only [Bool.and_eq_true, Bool.not_eq_true'] at hc
          have hj' : j < listed.size := by rw [hI.len]; exact hj
          by_cases hji : j = i
          · subst hji
            have := hc.1
            simp [Array.getD_eq_getD_getElem?, hj'] at this
          · have h1 := hall j (by omega)
            have h2 := hc.1
            rw [Array.getD_eq_getD_getElem?, Array.getElem?_setIfInBounds_ne (Ne.symm hji)] at h2
            rw [Array.getD_eq_getD_getElem?] at h1
            rw [Array.getElem?_eq_getElem hj'] at h1 h2
            simp at h1 h2
            rw [h1] at h2
            cases h2
        cases fuel with
        | zero => exact ⟨hr, hq⟩
        | succ f => exact ⟨fun _ => hq, fun j hj => by rw [hr] at hj; cases hj⟩
      unfold wpOp
      simp only [ht]
      unfold wpList at hlast
      split at hlast
      · rw [if_pos ‹_›]
        rcases hlast with h | h
        · exact .inl (Oper.wp_mono (fun a' w' h' => hend a' w' h') h)
        · exact .inr h
      · rw [if_neg ‹_›]
        exact hend _ _ hlast
    · have hilt : i < m := by omega
      have hchk := (hop i o hilt ho).1
      unfold regionOpB at hchk
      simp only [Bool.and_eq_true] at hchk
      obtain ⟨⟨⟨hc1, hc2⟩, hc3⟩, hc4⟩ := hchk
      have hon : ∀ e ∈ o.after.toList, Region.binds .any e = true → e.on < m := by
        intro e he hb
        have := List.all_eq_true.1 hc4 e he
        simp only [Bool.or_eq_true, Bool.not_eq_true'] at this
        rcases this with h | h
        · rw [hb] at h; cases h
        · have : e.on < i := by rw [← Nat.blt_eq]; exact h
          omega
      have hwait : ∀ e ∈ o.after.toList, Region.binds .any e = true → ∀ oe, ops[e.on]? = some oe → (slotTy E (dstD oe)).holds w (a.tmps.getD (dstD oe) undef) := by
        intro e he hb oe hoe
        rcases haf e he with h | h
        · rw [hb] at h; cases h
        · exact hI.done _ _ (hon e he hb) hoe h
      have hw : Region.wanted o (yielded ops a.tmps) = true := by
        unfold Region.wanted
        cases hg : o.guard with
        | none => rfl
        | some p =>
          obtain ⟨g, want⟩ := p
          rw [hg] at hc3
          simp only [Bool.and_eq_true, List.any_eq_true] at hc3
          obtain ⟨h1, e, he, hb, heg⟩ := hc3
          have heg' : e.on = g := Nat.eq_of_beq_eq_true heg
          cases hog : ops[g]? with
          | none => rw [hog] at h1; simp at h1
          | some og =>
            rw [hog] at h1
            obtain ⟨d, hd1, hd2, _, hd4⟩ := hd g og (by rw [← heg']; exact hon e he hb) hog
            simp only [Option.bind_some, hd1, List.elem_eq_mem, decide_eq_true_eq] at h1
            have hv := hwait e he hb og (by rw [heg']; exact hog)
            rw [hd4] at hv
            have hval := hgs.mem _ h1 _ _ hv
            have hsz : d < a.tmps.size := by rw [hI.size]; exact hd2
            have hget : a.tmps[d]? = some (.bool want) := by
              rw [Array.getD_eq_getD_getElem?, Array.getElem?_eq_getElem hsz] at hval
              rw [Array.getElem?_eq_getElem hsz]
              simpa using hval
            simp [yielded, hog, hd1, hget]
      unfold wpOp
      simp only [ho]
      rw [if_pos hw]
      left
      obtain ⟨d, hd1, hd2, hd3, hd4⟩ := hd i o hilt ho
      have hslots : SlotsHold E w a.eval o.op.operands.toList := by
        refine SlotsHold.of fun s hs => ?_
        have := List.all_eq_true.1 hc2 _ hs
        simp only [Bool.or_eq_true, List.any_eq_true, Bool.and_eq_true] at this
        rcases this with h | ⟨e, he, hb, heq⟩
        · exact hI.start s (by simpa using h)
        · have heq' : (ops[e.on]?).bind (·.dst) = some s := by simpa using heq
          cases hoe : ops[e.on]? with
          | none => rw [hoe] at heq'; cases heq'
          | some oe =>
            rw [hoe] at heq'
            have h1 := hwait e he hb oe hoe
            obtain ⟨d', hd1', _, _, hd4'⟩ := hd _ oe (hon e he hb) hoe
            have : d' = s := by
              have h2 : oe.dst = some s := heq'
              rw [hd1'] at h2
              injection h2
            subst this
            rw [hd4'] at h1
            exact h1
      have hof : o ∈ ops.toList.take m := mem_front.2 ⟨i, hilt, ho⟩
      have hy := (hok.mem o hof) a.eval w (fun _ => rfl) (fun _ => rfl) hI.below hslots
      refine Oper.wp_mono (fun a' w' h => ?_) hy.wp
      obtain ⟨v, rfl, hT, hB⟩ := h
      have hsz : d < a.tmps.size := by rw [hI.size]; exact hd2
      rw [hd1]
      refine ih _ _ _ ⟨?_, ?_, ?_, ?_, ?_, ?_, ?_, ?_⟩ ?_
      · simp [Act.put, hI.size]
      · exact hI.defers
      · exact hI.below.trans (hB.mono hI.below.size)
      · intro s hs
        rw [put_getD _ _ _ _ hsz, if_neg, hI.rest s hs]
        rintro rfl
        exact hs (List.mem_map.2 ⟨o, hof, hd4⟩)
      · intro s hs
        rw [put_getD _ _ _ _ hsz, if_neg]
        · exact (slotTy E s).stable (hI.start s hs) hB
        · rintro rfl
          exact hd3 hs
      · intro j oj hjm hj hlj
        by_cases hji : j = i
        · subst hji
          rw [ho] at hj
          injection hj with hj
          subst hj
          rw [hd4, put_getD _ _ _ _ hsz, if_pos rfl]
          rw [hd4] at hT
          exact hT
        · have hne : dstD oj ≠ d := fun h => hji (hdist j i oj o hjm hilt hj ho (by rw [h, hd4]))
          rw [put_getD _ _ _ _ hsz, if_neg hne]
          refine (slotTy E _).stable (hI.done j oj hjm hj ?_) hB
          rw [Array.getD_eq_getD_getElem?, Array.getElem?_setIfInBounds_ne (Ne.symm hji)] at hlj
          rw [Array.getD_eq_getD_getElem?]
          exact hlj
      · simp [hI.len]
      · have := hI.last
        rw [Array.getD_eq_getD_getElem?, Array.getElem?_setIfInBounds_ne him]
        rw [Array.getD_eq_getD_getElem?] at this
        exact this
      · have h1 : listed.toList[i]? = some false := by
          rw [Array.getElem?_toList]
          simpa [Array.getD_eq_getD_getElem?, hi'] using hl
        have := openN_set _ _ h1
        rw [Array.toList_setIfInBounds]
        omega
/-- THE REGION, WHATEVER ORDER IS DRAWN, AND ITS LAST OPERATION. -/
theorem wp_region_tail {id : Nat} {l : List Oper} {w : World} (E : List (Nat × STy)) (start : List Nat) (gs : List (Nat × Bool)) (n m : Nat) (hm : P.follows .mixedOrders = true) (ht : l[m]? = some t) (hck : tailB l.toArray start gs n m t = true) (hn : a0.tmps.size = n) (hgs : GuardsHold E gs)
    (hst : StartHold E w a0 start) (hok : OpSteps P E w (l.take m))
    (hfin : ∀ v w', OpsHold E w' v (l.take m) → Below w.heap.size w w' → wpList P l.toArray Q [t] (putAll a0 v ((l.take m).map dstD)) w') :
    (Code.region id l.toArray true).wp P Q a0 w := by
  refine wp_region_any hm ?_
  have hb : Below w.heap.size w w.drew := (Below.refl _ _).drew
  have hsz : l.toArray.size = m + 1 := by
    have h := hck
    unfold tailB at h
    simp only [Bool.and_eq_true] at h
    exact Nat.eq_of_beq_eq_true h.1.1.1.1
  refine wpAny_tail (w0 := w) hck (by simpa using ht) hgs (by simpa using hok) hn (fun v w' h hb => by simpa using hfin v w' (OpsHold.of (by simpa using h)) hb) _ _ _ _ ⟨hn, rfl, hb, fun _ _ => rfl, fun s hs => (slotTy E s).stable (hst.mem s hs) hb, ?_, by simp, ?_⟩ ?_
  · intro i o _ ho hl
    exfalso
    rw [Array.getD_eq_getD_getElem?] at hl
    cases h : (Array.replicate l.toArray.size false)[i]? with
    | none => rw [h] at hl; cases hl
    | some b =>
      have := Array.mem_of_getElem? h
      simp at this
      rw [h, this.2] at hl
      cases hl
  · rw [Array.getD_eq_getD_getElem?, Array.getElem?_replicate, if_pos (by omega)]
    rfl
  · simpa using openN_rep l.toArray.size
end
end Go.Proofs.YtbjooeapjhaapaaGreatDoor
/- A region that draws its order, some operations of which are not wanted (their guard says so), and which ends in operations that wait one for the other (stores): the others walked once whatever the order is, then those. No program stands in it. -/
namespace Go.Proofs.YtbjooeapjhaapaaGreatDoor
open Go Go.RowKit

/-- Is the operation wanted, the guards being as gs says? -/
def runsB (ops : Array Oper) (gs : List (Nat × Bool)) (o : Oper) : Bool := match o.guard with
  | none => true
  | some (g, want) => match (ops[g]?).bind (·.dst) with | some d => gs.elem (d, want) | none => false
def OpStepsG (P : Program) (ops : Array Oper) (gs : List (Nat × Bool)) (E : List (Nat × STy)) (w0 : World) : List Oper → Prop
  | [] => True
  | o :: l => (runsB ops gs o = true → OpStep P E w0 o) ∧ OpStepsG P ops gs E w0 l
section
variable {P : Program} {ops : Array Oper} {gs : List (Nat × Bool)} {E : List (Nat × STy)} {w0 : World}
theorem OpStepsG.nil : OpStepsG P ops gs E w0 [] := trivial
theorem OpStepsG.run {o : Oper} {l : List Oper} (h : OpStep P E w0 o) (t : OpStepsG P ops gs E w0 l) : OpStepsG P ops gs E w0 (o :: l) := ⟨fun _ => h, t⟩
theorem OpStepsG.skip {o : Oper} {l : List Oper} (h : runsB ops gs o = false) (t : OpStepsG P ops gs E w0 l) : OpStepsG P ops gs E w0 (o :: l) := ⟨(fun h' => by rw [h] at h'; cases h'), t⟩
theorem OpStepsG.mem : ∀ {l : List Oper}, OpStepsG P ops gs E w0 l → ∀ o ∈ l, runsB ops gs o = true → OpStep P E w0 o
  | [], _, _, h => by cases h
  | _ :: _, h, o, ho => by
    rcases List.mem_cons.1 ho with rfl | ho
    · exact h.1
    · exact OpStepsG.mem h.2 o ho
end
/-- Slots of operations that are not wanted and are guards themselves: nothing lies there. -/
def UndefHold (E : List (Nat × STy)) : List Nat → Prop
  | [] => True
  | d :: l => slotTy E d = STy.is undef ∧ UndefHold E l
theorem UndefHold.mem {E : List (Nat × STy)} : ∀ {l : List Nat}, UndefHold E l → ∀ d ∈ l, slotTy E d = STy.is undef
  | [], _, _, h => by cases h
  | _ :: _, h, d, hd => by
    rcases List.mem_cons.1 hd with rfl | hd
    · exact h.1
    · exact h.2.mem d hd
/-- What is asked of the text of one of the first operations: as regionOpB, but a guard may also say that it is not wanted: then its slot has no type, or is told to hold nothing (us). -/
def frontOpU (ops : Array Oper) (keys start : List Nat) (gs : List (Nat × Bool)) (us : List Nat) (n i : Nat) (o : Oper) : Bool :=
  (match o.dst with | some d => Nat.blt d n && !start.elem d | none => false) &&
  (o.op.operands.toList.all fun | .tmp s => !keys.elem s || start.elem s || o.after.toList.any (fun e => Region.binds .any e && ((ops[e.on]?).bind (·.dst) == some s)) | _ => true) &&
  (match o.guard with | none => true | some (g, want) => (match (ops[g]?).bind (·.dst) with | some d => gs.elem (d, want) || ((gs.elem (d, !want) || us.elem d) && (!keys.elem (dstD o) || us.elem (dstD o))) | none => false) && o.after.toList.any (fun e => Region.binds .any e && Nat.beq e.on g)) &&
  (o.after.toList.all fun e => !Region.binds .any e || Nat.blt e.on i)
def waitsB (ops : Array Oper) (j i : Nat) : Bool := match ops[j]? with | some o => o.after.toList.any (fun e => Region.binds .any e && Nat.beq e.on i) | none => false
/-- The first m operations as in frontOpB, each waited for by a later one of them or by the m-th; from the m-th on each waits for the one ahead, and none has a guard. -/
def chainU (ops : Array Oper) (keys start : List Nat) (gs : List (Nat × Bool)) (us : List Nat) (n m : Nat) : Bool :=
  ((List.range m).all fun i => match ops[i]? with | some o => frontOpU ops keys start gs us n i o && (List.range (m + 1)).any (fun j => Nat.blt i j && waitsB ops j i) | none => false) && distinctB ((ops.toList.take m).map dstD) &&
  ((List.range ops.size).all fun j => Nat.blt j m || ((match ops[j]? with | some o => (match o.guard with | none => true | some _ => false) && (o.after.toList.all fun e => !Region.binds .any e || Nat.blt e.on j) | none => false) && (Nat.beq j m || waitsB ops j (j - 1)))) &&
  Nat.ble m ops.size && (Nat.blt m ops.size || Nat.beq m ops.size)
def frontOpB (ops : Array Oper) (keys start : List Nat) (gs : List (Nat × Bool)) (n i : Nat) (o : Oper) : Bool := frontOpU ops keys start gs [] n i o
def chainB (ops : Array Oper) (keys start : List Nat) (gs : List (Nat × Bool)) (n m : Nat) : Bool := chainU ops keys start gs [] n m
/-- Each allocation among the operations yields the next block. -/
def AllocsOk (P : Program) : List Oper → Prop
  | [] => True
  | o :: l => (∀ T, o.op = .alloc T → ∀ (ρ : Operand → Value) (w : World), ∃ w', (execOp ρ o).run P w = .ok (.value (.pointer (some ⟨w.heap.size, 0, none⟩))) w' ∧ w.heap.size < w'.heap.size) ∧ AllocsOk P l
theorem AllocsOk.nil {P : Program} : AllocsOk P [] := trivial
theorem AllocsOk.cons {P : Program} {o : Oper} {l : List Oper} (h : ∀ T, o.op = .alloc T → ∀ (ρ : Operand → Value) (w : World), ∃ w', (execOp ρ o).run P w = .ok (.value (.pointer (some ⟨w.heap.size, 0, none⟩))) w' ∧ w.heap.size < w'.heap.size) (t : AllocsOk P l) : AllocsOk P (o :: l) := ⟨h, t⟩
theorem AllocsOk.mem {P : Program} : ∀ {l : List Oper}, AllocsOk P l → ∀ o ∈ l, ∀ T, o.op = .alloc T → ∀ (ρ : Operand → Value) (w : World), ∃ w', (execOp ρ o).run P w = .ok (.value (.pointer (some ⟨w.heap.size, 0, none⟩))) w' ∧ w.heap.size < w'.heap.size
  | [], _, _, h => by cases h
  | _ :: _, h, o, ho => by
    rcases List.mem_cons.1 ho with rfl | ho
    · exact h.1
    · exact AllocsOk.mem h.2 o ho
/-- What an allocation yields, beside what it was shown to. -/
theorem Yields.alloc {P : Program} {o : Oper} {ρ : Operand → Value} {w w1 : World} {K : Value → World → Prop} (h : Yields P o ρ w K) (hr : (execOp ρ o).run P w = .ok (.value (.pointer (some ⟨w.heap.size, 0, none⟩))) w1) (hz : w.heap.size < w1.heap.size) :
    Yields P o ρ w fun v w' => K v w' ∧ v = .pointer (some ⟨w.heap.size, 0, none⟩) ∧ w.heap.size < w'.heap.size := by
  unfold Yields at *
  rw [hr] at h ⊢
  exact ⟨h, rfl, hz⟩
theorem slotTy_any : ∀ {E : List (Nat × STy)} {s : Nat}, (E.map Prod.fst).elem s = false → slotTy E s = STy.any
  | [], _, _ => rfl
  | (t, x) :: l, s, h => by
    simp only [List.map_cons, List.elem_eq_mem, decide_eq_false_iff_not, List.mem_cons, not_or] at h
    have hne : Nat.beq t s = false := by
      cases hb : Nat.beq t s with
      | false => rfl
      | true => exact absurd (Nat.eq_of_beq_eq_true hb).symm h.1
    show (bif Nat.beq t s then x else slotTy l s) = _
    rw [hne]
    exact slotTy_any (by simpa using h.2)
section
variable {P : Program} {ops : Array Oper} {Q : Exit → Act → World → Prop} {E : List (Nat × STy)} {w0 : World} {a0 : Act} {start : List Nat} {gs : List (Nat × Bool)} {us : List Nat} {n m : Nat}
theorem waitsB_spec {j i : Nat} (h : waitsB ops j i = true) : ∃ o, ops[j]? = some o ∧ ∃ e ∈ o.after.toList, Region.binds .any e = true ∧ e.on = i := by
  unfold waitsB at h
  split at h
  · rename_i o ho
    simp only [List.any_eq_true, Bool.and_eq_true] at h
    obtain ⟨e, he, hb, hi⟩ := h
    exact ⟨o, ho, e, he, hb, Nat.eq_of_beq_eq_true hi⟩
  · cases h
theorem ready_spec {listed : Array Bool} {i : Nat} (hl : listed.size = ops.size) (hi : i ∈ Region.ready .any ops listed) : i < ops.size ∧ listed.getD i true = false ∧ ∀ o, ops[i]? = some o → ∀ e ∈ o.after.toList, Region.binds .any e = true → listed.getD e.on false = true := by
  unfold Region.ready at hi
  simp only [List.mem_filter, List.mem_range, Bool.and_eq_true, Bool.not_eq_true'] at hi
  obtain ⟨hlt, hl', haf⟩ := hi
  refine ⟨hlt, hl', fun o ho e he hb => ?_⟩
  rw [ho] at haf
  simp only [Option.map_some, Option.getD_some] at haf
  rw [← Array.all_toList] at haf
  simp only [List.all_eq_true, Bool.or_eq_true, Bool.not_eq_true'] at haf
  rcases haf e he with h | h
  · rw [hb] at h; cases h
  · exact h
theorem ready_of {listed : Array Bool} {i : Nat} {o : Oper} (ho : ops[i]? = some o) (hl : listed.getD i true = false) (h : ∀ e ∈ o.after.toList, Region.binds .any e = true → listed.getD e.on false = true) : i ∈ Region.ready .any ops listed := by
  unfold Region.ready
  simp only [List.mem_filter, List.mem_range, (Array.getElem?_eq_some_iff.1 ho).1, true_and, Bool.and_eq_true, Bool.not_eq_true', ho, Option.map_some, Option.getD_some]
  refine ⟨hl, ?_⟩
  rw [← Array.all_toList]
  simp only [List.all_eq_true]
  intro e he
  cases hb : Region.binds .any e with
  | false => rfl
  | true => exact h e he hb
theorem getD_tf {listed : Array Bool} {i : Nat} (hi : i < listed.size) (h : listed.getD i true = true) : listed.getD i false = true := by simpa [Array.getD_eq_getD_getElem?, hi] using h
theorem getD_ff {listed : Array Bool} {i : Nat} (h : listed.getD i true = false) : listed.getD i false = false := by
  rcases Nat.lt_or_ge i listed.size with h' | h'
  · simpa [Array.getD_eq_getD_getElem?, h'] using h
  · simp [Array.getD_eq_getD_getElem?, Array.getElem?_eq_none h']
theorem getD_ne {listed : Array Bool} {i j : Nat} {b : Bool} (h : j ≠ i) : (listed.setIfInBounds i true).getD j b = listed.getD j b := by
  rw [Array.getD_eq_getD_getElem?, Array.getElem?_setIfInBounds_ne (Ne.symm h), ← Array.getD_eq_getD_getElem?]
theorem getD_eq {listed : Array Bool} {i : Nat} (h : i < listed.size) : (listed.setIfInBounds i true).getD i false = true := by
  rw [Array.getD_eq_getD_getElem?, Array.getElem?_setIfInBounds_self_of_lt h]; rfl
theorem openN_at {listed : Array Bool} {i : Nat} (hi : i < listed.size) (h : listed.getD i true = false) : listed.toList[i]? = some false := by
  rw [Array.getElem?_toList]
  simpa [Array.getD_eq_getD_getElem?, hi] using h
/-- The tail: all ahead of place k listed, none from k on. -/
theorem wpAny_chain (hch : ∀ j, m ≤ j → j < ops.size → ∃ o, ops[j]? = some o ∧ (∀ e ∈ o.after.toList, Region.binds .any e = true → e.on < j) ∧ (j = m ∨ waitsB ops j (j - 1) = true)) :
    ∀ (fuel k : Nat) (listed : Array Bool) (a : Act) (w : World), m ≤ k → k ≤ ops.size → listed.size = ops.size → (∀ i, i < k → listed.getD i false = true) → (∀ i, k ≤ i → i < ops.size → listed.getD i true = false) → openN listed.toList ≤ fuel →
      wpList P ops Q (ops.toList.drop k) a w → wpAny P .any ops Q fuel listed a w := by
  intro fuel
  induction fuel with
  | zero =>
    intro k listed a w hmk hk hl h1 h2 hf hw
    rcases Nat.lt_or_ge k ops.size with hlt | hge
    · have := openN_pos _ _ (openN_at (by omega) (h2 k (Nat.le_refl _) hlt))
      omega
    · have hk' : k = ops.size := by omega
      have hr : Region.ready .any ops listed = [] := by
        refine List.eq_nil_iff_forall_not_mem.2 fun i hi => ?_
        obtain ⟨hi1, hi2, _⟩ := ready_spec hl hi
        have := h1 i (by omega)
        rw [getD_ff hi2] at this
        cases this
      rw [hk', List.drop_of_length_le (by simp)] at hw
      exact ⟨hr, hw⟩
  | succ fuel ih =>
    intro k listed a w hmk hk hl h1 h2 hf hw
    have hfar : ∀ i, i ∈ Region.ready .any ops listed → i = k := by
      intro i hi
      obtain ⟨hi1, hi2, hi3⟩ := ready_spec hl hi
      rcases Nat.lt_trichotomy i k with h | h | h
      · have := h1 i h
        rw [getD_ff hi2] at this
        cases this
      · exact h
      · obtain ⟨o, ho, _, hor⟩ := hch i (by omega) hi1
        rcases hor with h' | h'
        · omega
        · obtain ⟨o', ho', e, he, hb, hon⟩ := waitsB_spec h'
          have := hi3 o' ho' e he hb
          rw [hon, getD_ff (h2 (i - 1) (by omega) (by omega))] at this
          cases this
    rcases Nat.lt_or_ge k ops.size with hlt | hge
    · obtain ⟨o, ho, haf, _⟩ := hch k hmk hlt
      have hin := ready_of ho (h2 k (Nat.le_refl _) hlt) (fun e he hb => h1 _ (haf e he hb))
      refine ⟨(fun hr => by rw [hr] at hin; cases hin), fun i hi => ?_⟩
      obtain rfl := hfar i hi
      have hd : ops.toList.drop i = o :: ops.toList.drop (i + 1) := by
        rw [List.drop_eq_getElem_cons (by simpa using hlt)]
        congr 1
        have : ops.toList[i]? = some o := by rw [Array.getElem?_toList]; exact ho
        rw [List.getElem?_eq_getElem (by simpa using hlt)] at this
        injection this
      rw [hd] at hw
      have hnext : ∀ a' w', wpList P ops Q (ops.toList.drop (i + 1)) a' w' → wpAny P .any ops Q fuel (listed.setIfInBounds i true) a' w' := by
        intro a' w' h'
        refine ih (i + 1) _ a' w' (by omega) (by omega) (by simp [hl]) (fun j hj => ?_) (fun j hj hj' => ?_) ?_ h'
        · by_cases hji : j = i
          · subst hji; exact getD_eq (by omega)
          · rw [getD_ne hji]; exact h1 j (by omega)
        · rw [getD_ne (by omega)]; exact h2 j (by omega) hj'
        · have := openN_set _ _ (openN_at (by omega) (h2 i (Nat.le_refl _) hlt))
          rw [Array.toList_setIfInBounds]
          omega
      unfold wpOp
      simp only [ho]
      unfold wpList at hw
      split at hw
      · rw [if_pos ‹_›]
        rcases hw with h | h
        · exact .inl (Oper.wp_mono hnext h)
        · exact .inr h
      · rw [if_neg ‹_›]
        exact hnext _ _ hw
    · have hk' : k = ops.size := by omega
      rw [hk', List.drop_of_length_le (by simp)] at hw
      refine ⟨fun _ => hw, fun i hi => ?_⟩
      have := hfar i hi
      have := (ready_spec hl hi).1
      omega
/-- In the midst of the first m. -/
structure RegG (ops : Array Oper) (E : List (Nat × STy)) (w0 : World) (a0 : Act) (start : List Nat) (n m : Nat) (listed : Array Bool) (a : Act) (w : World) : Prop where
  size : a.tmps.size = n
  defers : a.defers = a0.defers
  below : Below w0.heap.size w0 w
  rest : ∀ s, s ∉ (ops.toList.take m).map dstD → a.tmps.getD s undef = a0.tmps.getD s undef
  start : ∀ s ∈ start, (slotTy E s).holds w (a.tmps.getD s undef)
  done : ∀ (i : Nat) (o : Oper), i < m → ops[i]? = some o → listed.getD i false = true → (slotTy E (dstD o)).holds w (a.tmps.getD (dstD o) undef)
  len : listed.size = ops.size
  last : ∀ i, m ≤ i → i < ops.size → listed.getD i true = false
  closed : ∀ (i : Nat) (o : Oper), i < m → ops[i]? = some o → listed.getD i false = true → ∀ e ∈ o.after.toList, Region.binds .any e = true → listed.getD e.on false = true
  fresh : ∀ (i : Nat) (o : Oper) (T : TypeId), i < m → ops[i]? = some o → o.op = .alloc T → o.guard = none → listed.getD i false = true → ∃ r, a.tmps.getD (dstD o) undef = .pointer (some ⟨r, 0, none⟩) ∧ r < w.heap.size
  apart : ∀ (i j : Nat) (o o' : Oper) (T T' : TypeId), i < m → j < m → i ≠ j → ops[i]? = some o → ops[j]? = some o' → o.op = .alloc T → o'.op = .alloc T' → o.guard = none → o'.guard = none → listed.getD i false = true → listed.getD j false = true → a.tmps.getD (dstD o) undef ≠ a.tmps.getD (dstD o') undef
/-- The blocks that were allocated differ from one another. -/
def ApartV (l : List Oper) (v : Nat → Value) : Prop := ∀ (i j : Nat) (o o' : Oper) (T T' : TypeId), i ≠ j → l[i]? = some o → l[j]? = some o' → o.op = .alloc T → o'.op = .alloc T' → o.guard = none → o'.guard = none → v (dstD o) ≠ v (dstD o')
theorem mem_frontG {o : Oper} : o ∈ ops.toList.take m ↔ ∃ i, i < m ∧ ops[i]? = some o := by
  rw [List.mem_iff_getElem?]
  constructor
  · rintro ⟨i, hi⟩
    rw [List.getElem?_take] at hi
    split at hi
    · rename_i h; exact ⟨i, h, by rw [← Array.getElem?_toList]; exact hi⟩
    · cases hi
  · rintro ⟨i, h, hi⟩
    exact ⟨i, by rw [List.getElem?_take, if_pos h, Array.getElem?_toList]; exact hi⟩
theorem wpAny_front (hck : chainU ops (E.map Prod.fst) start gs us n m = true) (hus : UndefHold E us) (hgs : GuardsHold E gs) (hok : OpStepsG P ops gs E w0 (ops.toList.take m)) (hal : AllocsOk P (ops.toList.take m)) (hn : a0.tmps.size = n)
    (hfin : ∀ v w', (∀ o ∈ ops.toList.take m, (slotTy E (dstD o)).holds w' (v (dstD o))) → ApartV (ops.toList.take m) v → Below w0.heap.size w0 w' → wpList P ops Q (ops.toList.drop m) (putAll a0 v ((ops.toList.take m).map dstD)) w') :
    ∀ (fuel : Nat) (listed : Array Bool) (a : Act) (w : World), RegG ops E w0 a0 start n m listed a w → openN listed.toList ≤ fuel → wpAny P .any ops Q fuel listed a w := by
  unfold chainU at hck
  simp only [Bool.and_eq_true, List.all_eq_true] at hck
  obtain ⟨⟨⟨⟨hfr, hdis⟩, htl⟩, hmle⟩, _⟩ := hck
  have hms : m ≤ ops.size := Nat.le_of_ble_eq_true hmle
  have hop : ∀ (i : Nat) (o : Oper), i < m → ops[i]? = some o → frontOpU ops (E.map Prod.fst) start gs us n i o = true ∧ ∃ j, i < j ∧ j ≤ m ∧ waitsB ops j i = true := by
    intro i o hi ho
    have := hfr i (by simpa using hi)
    rw [ho] at this
    simp only [Bool.and_eq_true, List.any_eq_true, List.mem_range] at this
    obtain ⟨h1, j, hj, h2, h3⟩ := this
    exact ⟨h1, j, by rw [← Nat.blt_eq]; exact h2, by omega, h3⟩
  have hch : ∀ j, m ≤ j → j < ops.size → ∃ o, ops[j]? = some o ∧ (∀ e ∈ o.after.toList, Region.binds .any e = true → e.on < j) ∧ (j = m ∨ waitsB ops j (j - 1) = true) := by
    intro j hj hjs
    have := htl j (by simpa using hjs)
    obtain ⟨o, ho⟩ : ∃ o, ops[j]? = some o := ⟨_, Array.getElem?_eq_getElem hjs⟩
    rw [ho] at this
    simp only [Bool.or_eq_true, Bool.and_eq_true, List.all_eq_true, Bool.not_eq_true'] at this
    rcases this with h | ⟨⟨_, h1⟩, h2⟩
    · have : j < m := by rw [← Nat.blt_eq]; exact h
      omega
    · refine ⟨o, ho, fun e he hb => ?_, ?_⟩
      · rcases h1 e he with h | h
        · rw [hb] at h; cases h
        · rw [← Nat.blt_eq]; exact h
      · rcases h2 with h | h
        · exact .inl (Nat.eq_of_beq_eq_true h)
        · exact .inr h
  have hd : ∀ (i : Nat) (o : Oper), i < m → ops[i]? = some o → ∃ d, o.dst = some d ∧ d < n ∧ d ∉ start ∧ dstD o = d := by
    intro i o hi ho
    have := (hop i o hi ho).1
    unfold frontOpU at this
    simp only [Bool.and_eq_true] at this
    obtain ⟨⟨⟨h1, _⟩, _⟩, _⟩ := this
    cases hdo : o.dst with
    | none => rw [hdo] at h1; simp at h1
    | some d =>
      rw [hdo] at h1
      simp only [Bool.and_eq_true, Bool.not_eq_true', List.elem_eq_mem, decide_eq_false_iff_not] at h1
      exact ⟨d, rfl, by rw [← Nat.blt_eq]; exact h1.1, h1.2, by unfold dstD; rw [hdo]; rfl⟩
  have hdist : ∀ (i j : Nat) (o o' : Oper), i < m → j < m → ops[i]? = some o → ops[j]? = some o' → dstD o = dstD o' → i = j := by
    intro i j o o' hi hj ho ho' he
    refine distinctB_ne hdis i j (dstD o) ?_ ?_
    · rw [List.getElem?_map, List.getElem?_take, if_pos hi, Array.getElem?_toList, ho]; rfl
    · rw [List.getElem?_map, List.getElem?_take, if_pos hj, Array.getElem?_toList, ho', he]; rfl
  have hon : ∀ (i : Nat) (o : Oper), i < m → ops[i]? = some o → ∀ e ∈ o.after.toList, Region.binds .any e = true → e.on < i := by
    intro i o hi ho e he hb
    have := (hop i o hi ho).1
    unfold frontOpU at this
    simp only [Bool.and_eq_true, List.all_eq_true] at this
    have := this.2 e he
    simp only [Bool.or_eq_true, Bool.not_eq_true'] at this
    rcases this with h | h
    · rw [hb] at h; cases h
    · rw [← Nat.blt_eq]; exact h
  have hend : ∀ (fuel : Nat) (listed : Array Bool) (a : Act) (w : World), RegG ops E w0 a0 start n m listed a w → (∀ i, i < m → listed.getD i false = true) → openN listed.toList ≤ fuel → wpAny P .any ops Q fuel listed a w := by
    intro fuel listed a w hI hall hf
    have hds : ∀ d ∈ (ops.toList.take m).map dstD, d < a0.tmps.size := by
      intro d hdm
      obtain ⟨o, ho, rfl⟩ := List.mem_map.1 hdm
      obtain ⟨j, hj, hoj⟩ := mem_frontG.1 ho
      obtain ⟨d, _, h2, _, h4⟩ := hd j o hj hoj
      rw [h4, hn]; exact h2
    have he : a = putAll a0 (fun s => a.tmps.getD s undef) ((ops.toList.take m).map dstD) := by
      refine act_ext (by rw [putAll_size, hI.size, hn]) (by rw [putAll_defers, hI.defers]) fun s => ?_
      by_cases hs : s ∈ (ops.toList.take m).map dstD
      · rw [putAll_in _ _ _ _ hds (.inl hs)]
      · rw [putAll_out _ _ _ _ hds hs, hI.rest s hs]
    have hlast := hfin (fun s => a.tmps.getD s undef) w (fun o ho => by
      obtain ⟨j, hj, hoj⟩ := mem_frontG.1 ho
      exact hI.done j o hj hoj (hall j hj)) (fun i j o o' T T' hne hi hj hT hT' hg hg' => by
        have hi' : i < m ∧ ops[i]? = some o := by
          rw [List.getElem?_take] at hi
          split at hi
          · exact ⟨by assumption, by rw [← Array.getElem?_toList]; exact hi⟩
          · cases hi
        have hj' : j < m ∧ ops[j]? = some o' := by
          rw [List.getElem?_take] at hj
          split at hj
          · exact ⟨by assumption, by rw [← Array.getElem?_toList]; exact hj⟩
          · cases hj
        exact hI.apart i j o o' T T' hi'.1 hj'.1 hne hi'.2 hj'.2 hT hT' hg hg' (hall i hi'.1) (hall j hj'.1)) hI.below
    rw [← he] at hlast
    exact wpAny_chain hch fuel m listed a w (Nat.le_refl _) hms hI.len hall hI.last hf hlast
  intro fuel
  induction fuel with
  | zero =>
    intro listed a w hI hf
    by_cases hall : ∀ i, i < m → listed.getD i false = true
    · exact hend 0 listed a w hI hall hf
    · exfalso
      refine hall fun i hi => ?_
      have hls : i < listed.size := by rw [hI.len]; omega
      cases h : listed.getD i true with
      | true => exact getD_tf hls h
      | false =>
        have := openN_pos _ _ (openN_at hls h)
        omega
  | succ fuel ih =>
    intro listed a w hI hf
    by_cases hall : ∀ i, i < m → listed.getD i false = true
    · exact hend (fuel + 1) listed a w hI hall hf
    · refine ⟨fun hr => ?_, fun i hi => ?_⟩
      · exfalso
        refine hall fun i => ?_
        induction i using Nat.strongRecOn with
        | _ i ihh =>
          intro hi
          have hls : i < listed.size := by rw [hI.len]; omega
          cases h : listed.getD i true with
          | true => exact getD_tf hls h
          | false =>
            exfalso
            obtain ⟨o, ho⟩ : ∃ o, ops[i]? = some o := ⟨_, Array.getElem?_eq_getElem (by omega)⟩
            have := ready_of ho h (fun e he hb => ihh e.on (hon i o hi ho e he hb) (by have := hon i o hi ho e he hb; omega))
            rw [hr] at this
            cases this
      · obtain ⟨hlt, hl, haf⟩ := ready_spec hI.len hi
        have hi' : i < listed.size := by rw [hI.len]; exact hlt
        obtain ⟨o, ho⟩ : ∃ o, ops[i]? = some o := ⟨_, Array.getElem?_eq_getElem hlt⟩
        have hilt : i < m := by
          rcases Nat.lt_or_ge i m with h | h
          · exact h
          · exfalso
            rcases Nat.lt_or_eq_of_le h with h | h
            · obtain ⟨o', ho', _, hor⟩ := hch i (by omega) hlt
              rcases hor with h' | h'
              · omega
              · obtain ⟨o2, ho2, e, he, hb, heon⟩ := waitsB_spec h'
                have := haf o2 ho2 e he hb
                rw [heon, getD_ff (hI.last (i - 1) (by omega) (by omega))] at this
                cases this
            · subst h
              refine hall ?_
              have key : ∀ d i, i < m → m - i ≤ d → listed.getD i false = true := by
                intro d
                induction d with
                | zero => intro i hi hd; omega
                | succ d ihd =>
                  intro i hi hd
                  obtain ⟨oi, hoi⟩ : ∃ oi, ops[i]? = some oi := ⟨_, Array.getElem?_eq_getElem (by omega)⟩
                  obtain ⟨_, j, hij, hjm, hw⟩ := hop i oi hi hoi
                  obtain ⟨oj, hoj, e, he, hb, heon⟩ := waitsB_spec hw
                  rw [← heon]
                  rcases Nat.lt_or_eq_of_le hjm with h | h
                  · exact hI.closed j oj h hoj (ihd j h (by omega)) e he hb
                  · subst h
                    exact haf oj hoj e he hb
              exact fun i hi => key (m - i) i hi (Nat.le_refl _)
        have hchk := (hop i o hilt ho).1
        unfold frontOpU at hchk
        simp only [Bool.and_eq_true] at hchk
        obtain ⟨⟨⟨hc1, hc2⟩, hc3⟩, hc4⟩ := hchk
        have hwait : ∀ e ∈ o.after.toList, Region.binds .any e = true → ∀ oe, ops[e.on]? = some oe → (slotTy E (dstD oe)).holds w (a.tmps.getD (dstD oe) undef) := by
          intro e he hb oe hoe
          exact hI.done _ _ (by have := hon i o hilt ho e he hb; omega) hoe (haf o ho e he hb)
        obtain ⟨d, hd1, hd2, hd3, hd4⟩ := hd i o hilt ho
        have hsz : d < a.tmps.size := by rw [hI.size]; exact hd2
        have hof : o ∈ ops.toList.take m := mem_frontG.2 ⟨i, hilt, ho⟩
        have hnext : ∀ (v : Value) (w' : World), (slotTy E d).holds w' v → Below w.heap.size w w' → (∀ T, o.op = .alloc T → o.guard = none → v = .pointer (some ⟨w.heap.size, 0, none⟩) ∧ w.heap.size < w'.heap.size) → wpAny P .any ops Q fuel (listed.setIfInBounds i true) (a.put (some d) v) w' := by
          intro v w' hT hB hA
          have hold : ∀ (j : Nat) (oj : Oper), j < m → j ≠ i → ops[j]? = some oj → (a.put (some d) v).tmps.getD (dstD oj) undef = a.tmps.getD (dstD oj) undef := by
            intro j oj hjm hji hj
            have hne : dstD oj ≠ d := fun h => hji (hdist j i oj o hjm hilt hj ho (by rw [h, hd4]))
            rw [put_getD _ _ _ _ hsz, if_neg hne]
          have hself : (a.put (some d) v).tmps.getD (dstD o) undef = v := by rw [hd4, put_getD _ _ _ _ hsz, if_pos rfl]
          refine ih _ _ _ ⟨?_, ?_, ?_, ?_, ?_, ?_, ?_, ?_, ?_, ?_, ?_⟩ ?_
          · simp [Act.put, hI.size]
          · exact hI.defers
          · exact hI.below.trans (hB.mono hI.below.size)
          · intro s hs
            rw [put_getD _ _ _ _ hsz, if_neg, hI.rest s hs]
            rintro rfl
            exact hs (List.mem_map.2 ⟨o, hof, hd4⟩)
          · intro s hs
            rw [put_getD _ _ _ _ hsz, if_neg]
            · exact (slotTy E s).stable (hI.start s hs) hB
            · rintro rfl
              exact hd3 hs
          · intro j oj hjm hj hlj
            by_cases hji : j = i
            · subst hji
              rw [ho] at hj
              injection hj with hj
              subst hj
              rw [hd4, put_getD _ _ _ _ hsz, if_pos rfl]
              exact hT
            · have hne : dstD oj ≠ d := fun h => hji (hdist j i oj o hjm hilt hj ho (by rw [h, hd4]))
              rw [put_getD _ _ _ _ hsz, if_neg hne]
              refine (slotTy E _).stable (hI.done j oj hjm hj ?_) hB
              rw [getD_ne hji] at hlj
              exact hlj
          · simp [hI.len]
          · intro j hj hjs
            rw [getD_ne (by omega)]
            exact hI.last j hj hjs
          · intro j oj hjm hj hlj e he hb
            by_cases hji : j = i
            · subst hji
              rw [ho] at hj
              injection hj with hj
              subst hj
              have h1 := hon j o hjm ho e he hb
              rw [getD_ne (by omega)]
              exact haf o ho e he hb
            · rw [getD_ne hji] at hlj
              have h1 := hI.closed j oj hjm hj hlj e he hb
              by_cases hei : e.on = i
              · rw [hei]; exact getD_eq hi'
              · rw [getD_ne hei]; exact h1
          · intro j oj T hjm hj hop hgd hlj
            by_cases hji : j = i
            · subst hji
              rw [ho] at hj
              injection hj with hj
              subst hj
              obtain ⟨e1, e2⟩ := hA T hop hgd
              exact ⟨_, hself.trans e1, e2⟩
            · rw [getD_ne hji] at hlj
              obtain ⟨r, e1, e2⟩ := hI.fresh j oj T hjm hj hop hgd hlj
              exact ⟨r, (hold j oj hjm hji hj).trans e1, Nat.lt_of_lt_of_le e2 hB.size⟩
          · intro j k oj ok T T' hjm hkm hjk hj hk hop hop' hgd hgd' hlj hlk
            by_cases hji : j = i
            · subst hji
              rw [ho] at hj
              injection hj with hj
              subst hj
              have hkj : k ≠ j := fun h => hjk h.symm
              rw [getD_ne hkj] at hlk
              obtain ⟨r, e1, e2⟩ := hI.fresh k ok T' hkm hk hop' hgd' hlk
              rw [hself, hold k ok hkm hkj hk, e1, (hA T hop hgd).1]
              intro h
              injection h with h
              injection h with h
              injection h with h
              omega
            · by_cases hki : k = i
              · subst hki
                rw [ho] at hk
                injection hk with hk
                subst hk
                rw [getD_ne hji] at hlj
                obtain ⟨r, e1, e2⟩ := hI.fresh j oj T hjm hj hop hgd hlj
                rw [hself, hold j oj hjm hji hj, e1, (hA T' hop' hgd').1]
                intro h
                injection h with h
                injection h with h
                injection h with h
                omega
              · rw [getD_ne hji] at hlj
                rw [getD_ne hki] at hlk
                rw [hold j oj hjm hji hj, hold k ok hkm hki hk]
                exact hI.apart j k oj ok T T' hjm hkm hjk hj hk hop hop' hgd hgd' hlj hlk
          · have := openN_set _ _ (openN_at hi' hl)
            rw [Array.toList_setIfInBounds]
            omega
        have hgv : ∀ g want, o.guard = some (g, want) → (∃ og dg, ops[g]? = some og ∧ og.dst = some dg ∧ a.tmps[dg]? = some (.bool want) ∧ gs.elem (dg, want) = true) ∨ (Region.wanted o (yielded ops a.tmps) = false ∧ ∀ W, (slotTy E (dstD o)).holds W undef) := by
          intro g want hg
          rw [hg] at hc3
          simp only [Bool.and_eq_true, List.any_eq_true] at hc3
          obtain ⟨h1, e, he, hb, heg⟩ := hc3
          have heg' : e.on = g := Nat.eq_of_beq_eq_true heg
          have hgi := hon i o hilt ho e he hb
          cases hog : ops[g]? with
          | none => rw [hog] at h1; simp at h1
          | some og =>
            rw [hog] at h1
            obtain ⟨dg, hdg1, hdg2, _, hdg4⟩ := hd g og (by omega) hog
            rw [Option.bind_some, hdg1] at h1
            simp only [Bool.or_eq_true, Bool.and_eq_true, Bool.not_eq_true'] at h1
            have hv := hwait e he hb og (by rw [heg']; exact hog)
            rw [hdg4] at hv
            have hsg : dg < a.tmps.size := by rw [hI.size]; exact hdg2
            have hval : ∀ b, gs.elem (dg, b) = true → a.tmps[dg]? = some (.bool b) := by
              intro b hb'
              have := hgs.mem (dg, b) (by simpa using hb') _ _ hv
              rw [Array.getD_eq_getD_getElem?, Array.getElem?_eq_getElem hsg] at this
              rw [Array.getElem?_eq_getElem hsg]
              simpa using this
            rcases h1 with h1 | ⟨h1, h2⟩
            · exact .inl ⟨og, dg, rfl, hdg1, hval _ h1, h1⟩
            · refine .inr ⟨?_, fun W => ?_⟩
              · rcases h1 with h1 | h1
                · have hget := hval _ h1
                  unfold Region.wanted; rw [hg]; simp [yielded, hog, hdg1, hget]
                · have hu := hus.mem dg (by simpa using h1)
                  rw [hu] at hv
                  have hget : a.tmps[dg]? = some undef := by
                    have hv' : a.tmps.getD dg undef = undef := hv
                    rw [Array.getD_eq_getD_getElem?, Array.getElem?_eq_getElem hsg] at hv'
                    rw [Array.getElem?_eq_getElem hsg]
                    simpa using hv'
                  unfold Region.wanted; rw [hg]; simp [yielded, hog, hdg1, hget, undef]
              · rcases h2 with h2 | h2
                · rw [slotTy_any h2]; trivial
                · rw [hus.mem _ (by simpa using h2)]; rfl
        have hrun : runsB ops gs o = true → Region.wanted o (yielded ops a.tmps) = true → wpOp P ops Q i (wpAny P .any ops Q fuel (listed.setIfInBounds i true)) a w := by
          intro hr hw
          unfold wpOp
          simp only [ho]
          rw [if_pos hw]
          left
          have hslots : SlotsHold E w a.eval o.op.operands.toList := by
            refine SlotsHold.of fun s hs => ?_
            have := List.all_eq_true.1 hc2 _ hs
            simp only [Bool.or_eq_true, List.any_eq_true, Bool.and_eq_true, Bool.not_eq_true'] at this
            rcases this with (h | h) | ⟨e, he, hb, heq⟩
            · rw [slotTy_any h]; trivial
            · exact hI.start s (by simpa using h)
            · have heq' : (ops[e.on]?).bind (·.dst) = some s := by simpa using heq
              cases hoe : ops[e.on]? with
              | none => rw [hoe] at heq'; cases heq'
              | some oe =>
                rw [hoe] at heq'
                have h1 := hwait e he hb oe hoe
                obtain ⟨d', hd1', _, _, hd4'⟩ := hd _ oe (by have := hon i o hilt ho e he hb; omega) hoe
                have : d' = s := by
                  have h2 : oe.dst = some s := heq'
                  rw [hd1'] at h2
                  injection h2
                subst this
                rw [hd4'] at h1
                exact h1
          have hy := (hok.mem o hof hr) a.eval w (fun _ => rfl) (fun _ => rfl) hI.below hslots
          have hy2 : Yields P o a.eval w fun v w' => ((slotTy E (dstD o)).holds w' v ∧ Below w.heap.size w w') ∧ ∀ T, o.op = .alloc T → v = .pointer (some ⟨w.heap.size, 0, none⟩) ∧ w.heap.size < w'.heap.size := by
            by_cases hex : ∃ T, o.op = .alloc T
            · obtain ⟨T, hT⟩ := hex
              obtain ⟨w1, hr1, hz1⟩ := hal.mem o hof T hT a.eval w
              have h := hy.alloc hr1 hz1
              unfold Yields at h ⊢
              rw [hr1] at h ⊢
              exact ⟨h.1, fun _ _ => h.2⟩
            · have hno : ∀ T, o.op = .alloc T → False := fun T h => hex ⟨T, h⟩
              unfold Yields at hy ⊢
              generalize (execOp a.eval o).run P w = rr at hy ⊢
              split at hy
              · exact ⟨hy, fun T h => (hno T h).elim⟩
              · refine Calls.mono hy ?_
                rintro e w'' ⟨v, rfl, hk⟩
                exact ⟨v, rfl, hk, fun T h => (hno T h).elim⟩
              · exact hy.elim
          refine Oper.wp_mono (fun a' w' h => ?_) hy2.wp
          obtain ⟨v, rfl, ⟨hT, hB⟩, hA⟩ := h
          rw [hd1]
          rw [hd4] at hT
          exact hnext v w' hT hB (fun T h _ => hA T h)
        cases hg : o.guard with
        | none => exact hrun (by unfold runsB; rw [hg]) (by unfold Region.wanted; rw [hg])
        | some p =>
          obtain ⟨g, want⟩ := p
          rcases hgv g want hg with ⟨og, dg, hog, hdg, hget, hgs1⟩ | ⟨hw, hkey⟩
          · refine hrun ?_ ?_
            · unfold runsB; rw [hg]; simp only [hog, Option.bind_some, hdg, hgs1]
            · unfold Region.wanted; rw [hg]; simp [yielded, hog, hdg, hget]
          · unfold wpOp
            simp only [ho]
            rw [if_neg (by rw [hw]; exact Bool.false_ne_true), hd1]
            rw [hd4] at hkey
            exact hnext undef w (hkey w) (Below.refl _ _) (fun T _ hgn => by rw [hg] at hgn; cases hgn)
/-- THE REGION, WHATEVER ORDER IS DRAWN, AND ITS LAST OPERATIONS. -/
theorem wp_region_chainU {id : Nat} {l : List Oper} {w : World} (E : List (Nat × STy)) (start : List Nat) (gs : List (Nat × Bool)) (us : List Nat) (n m : Nat) (hm : P.follows .mixedOrders = true) (hck : chainU l.toArray (E.map Prod.fst) start gs us n m = true) (hus : UndefHold E us) (hn : a0.tmps.size = n) (hgs : GuardsHold E gs)
    (hst : StartHold E w a0 start) (hok : OpStepsG P l.toArray gs E w (l.take m)) (hal : AllocsOk P (l.take m))
    (hfin : ∀ v w', OpsHold E w' v (l.take m) → ApartV (l.take m) v → Below w.heap.size w w' → wpList P l.toArray Q (l.drop m) (putAll a0 v ((l.take m).map dstD)) w') :
    (Code.region id l.toArray true).wp P Q a0 w := by
  refine wp_region_any hm ?_
  have hb : Below w.heap.size w w.drew := (Below.refl _ _).drew
  have hno : ∀ i, (Array.replicate l.toArray.size false).getD i false = true → False := by
    intro i hl
    rw [Array.getD_eq_getD_getElem?] at hl
    cases h : (Array.replicate l.toArray.size false)[i]? with
    | none => rw [h] at hl; cases hl
    | some b =>
      have := Array.mem_of_getElem? h
      simp at this
      rw [h, this.2] at hl
      cases hl
  refine wpAny_front (w0 := w) hck hus hgs (by simpa using hok) (by simpa using hal) hn (fun v w' h ha hb => by simpa using hfin v w' (OpsHold.of (by simpa using h)) (by simpa using ha) hb) _ _ _ _ ⟨hn, rfl, hb, fun _ _ => rfl, fun s hs => (slotTy E s).stable (hst.mem s hs) hb, fun i o _ _ hl => (hno i hl).elim, by simp, ?_, fun i o _ _ hl => (hno i hl).elim, fun i _ _ _ _ _ _ hl => (hno i hl).elim, fun i _ _ _ _ _ _ _ _ _ _ _ _ _ _ hl => (hno i hl).elim⟩ ?_
  · intro i _ hi
    rw [Array.getD_eq_getD_getElem?, Array.getElem?_replicate, if_pos hi]
    rfl
  · simpa using openN_rep l.toArray.size
theorem wp_region_chain {id : Nat} {l : List Oper} {w : World} (E : List (Nat × STy)) (start : List Nat) (gs : List (Nat × Bool)) (n m : Nat) (hm : P.follows .mixedOrders = true) (hck : chainB l.toArray (E.map Prod.fst) start gs n m = true) (hn : a0.tmps.size = n) (hgs : GuardsHold E gs)
    (hst : StartHold E w a0 start) (hok : OpStepsG P l.toArray gs E w (l.take m)) (hal : AllocsOk P (l.take m))
    (hfin : ∀ v w', OpsHold E w' v (l.take m) → ApartV (l.take m) v → Below w.heap.size w w' → wpList P l.toArray Q (l.drop m) (putAll a0 v ((l.take m).map dstD)) w') :
    (Code.region id l.toArray true).wp P Q a0 w :=
  wp_region_chainU E start gs [] n m hm hck trivial hn hgs hst hok hal hfin
end
end Go.Proofs.YtbjooeapjhaapaaGreatDoor
/- A region in its written order, its first operations walked by types of the slots, as in Typed: one text for regions that draw their order and for those that do not. No program stands in it. -/
namespace Go.Proofs.YtbjooeapjhaapaaGreatDoor
open Go Go.RowKit

/-- What is asked of the text: the first m operations as in frontOpB. -/
def flowU (ops : Array Oper) (keys start : List Nat) (gs : List (Nat × Bool)) (us : List Nat) (n m : Nat) : Bool :=
  ((List.range m).all fun i => match ops[i]? with | some o => frontOpU ops keys start gs us n i o | none => false) && distinctB ((ops.toList.take m).map dstD) && Nat.ble m ops.size
def flowB (ops : Array Oper) (keys start : List Nat) (gs : List (Nat × Bool)) (n m : Nat) : Bool := flowU ops keys start gs [] n m
section
variable {P : Program} {ops : Array Oper} {Q : Exit → Act → World → Prop} {E : List (Nat × STy)} {w0 : World} {a0 : Act} {start : List Nat} {gs : List (Nat × Bool)} {us : List Nat} {n m : Nat}
/-- In the midst: k operations done. -/
structure FlowI (ops : Array Oper) (E : List (Nat × STy)) (w0 : World) (a0 : Act) (start : List Nat) (n k : Nat) (a : Act) (w : World) : Prop where
  size : a.tmps.size = n
  defers : a.defers = a0.defers
  below : Below w0.heap.size w0 w
  rest : ∀ s, s ∉ (ops.toList.take k).map dstD → a.tmps.getD s undef = a0.tmps.getD s undef
  start : ∀ s ∈ start, (slotTy E s).holds w (a.tmps.getD s undef)
  done : ∀ (i : Nat) (o : Oper), i < k → ops[i]? = some o → (slotTy E (dstD o)).holds w (a.tmps.getD (dstD o) undef)
theorem wpList_flow (hck : flowU ops (E.map Prod.fst) start gs us n m = true) (hus : UndefHold E us) (hgs : GuardsHold E gs) (hok : OpStepsG P ops gs E w0 (ops.toList.take m)) (hn : a0.tmps.size = n)
    (hfin : ∀ v w', (∀ o ∈ ops.toList.take m, (slotTy E (dstD o)).holds w' (v (dstD o))) → Below w0.heap.size w0 w' → wpList P ops Q (ops.toList.drop m) (putAll a0 v ((ops.toList.take m).map dstD)) w') :
    ∀ (j k : Nat) (a : Act) (w : World), m - k = j → k ≤ m → FlowI ops E w0 a0 start n k a w → wpList P ops Q (ops.toList.drop k) a w := by
  unfold flowU at hck
  simp only [Bool.and_eq_true, List.all_eq_true] at hck
  obtain ⟨⟨hfr, hdis⟩, hmle⟩ := hck
  have hms : m ≤ ops.size := Nat.le_of_ble_eq_true hmle
  have hop : ∀ i o, i < m → ops[i]? = some o → frontOpU ops (E.map Prod.fst) start gs us n i o = true := by
    intro i o hi ho
    have := hfr i (by simpa using hi)
    rw [ho] at this
    exact this
  have hd : ∀ i o, i < m → ops[i]? = some o → ∃ d, o.dst = some d ∧ d < n ∧ d ∉ start ∧ dstD o = d := by
    intro i o hi ho
    have := hop i o hi ho
    unfold frontOpU at this
    simp only [Bool.and_eq_true] at this
    obtain ⟨⟨⟨h1, _⟩, _⟩, _⟩ := this
    cases hdo : o.dst with
    | none => rw [hdo] at h1; simp at h1
    | some d =>
      rw [hdo] at h1
      simp only [Bool.and_eq_true, Bool.not_eq_true', List.elem_eq_mem, decide_eq_false_iff_not] at h1
      exact ⟨d, rfl, by rw [← Nat.blt_eq]; exact h1.1, h1.2, by unfold dstD; rw [hdo]; rfl⟩
  have hdist : ∀ i j o o', i < m → j < m → ops[i]? = some o → ops[j]? = some o' → dstD o = dstD o' → i = j := by
    intro i j o o' hi hj ho ho' he
    refine distinctB_ne hdis i j (dstD o) ?_ ?_
    · rw [List.getElem?_map, List.getElem?_take, if_pos hi, Array.getElem?_toList, ho]; rfl
    · rw [List.getElem?_map, List.getElem?_take, if_pos hj, Array.getElem?_toList, ho', he]; rfl
  intro j
  induction j with
  | zero =>
    intro k a w hj hk hI
    obtain rfl : k = m := by omega
    have hds : ∀ d ∈ (ops.toList.take k).map dstD, d < a0.tmps.size := by
      intro d hdm
      obtain ⟨o, ho, rfl⟩ := List.mem_map.1 hdm
      obtain ⟨i, hi, hoi⟩ := mem_frontG.1 ho
      obtain ⟨d, _, h2, _, h4⟩ := hd i o hi hoi
      rw [h4, hn]; exact h2
    have he : a = putAll a0 (fun s => a.tmps.getD s undef) ((ops.toList.take k).map dstD) := by
      refine act_ext (by rw [putAll_size, hI.size, hn]) (by rw [putAll_defers, hI.defers]) fun s => ?_
      by_cases hs : s ∈ (ops.toList.take k).map dstD
      · rw [putAll_in _ _ _ _ hds (.inl hs)]
      · rw [putAll_out _ _ _ _ hds hs, hI.rest s hs]
    rw [he]
    refine hfin _ _ (fun o ho => ?_) hI.below
    obtain ⟨i, hi, hoi⟩ := mem_frontG.1 ho
    exact hI.done i o hi hoi
  | succ j ih =>
    intro k a w hj hk hI
    have hkm : k < m := by omega
    have hks : k < ops.size := by omega
    obtain ⟨o, ho⟩ : ∃ o, ops[k]? = some o := ⟨_, Array.getElem?_eq_getElem hks⟩
    obtain ⟨d, hd1, hd2, hd3, hd4⟩ := hd k o hkm ho
    have hchk := hop k o hkm ho
    unfold frontOpU at hchk
    simp only [Bool.and_eq_true] at hchk
    obtain ⟨⟨⟨_, hc2⟩, hc3⟩, hc4⟩ := hchk
    have hon : ∀ e ∈ o.after.toList, Region.binds .any e = true → e.on < k := by
      intro e he hb
      have := List.all_eq_true.1 hc4 e he
      simp only [Bool.or_eq_true, Bool.not_eq_true'] at this
      rcases this with h | h
      · rw [hb] at h; cases h
      · rw [← Nat.blt_eq]; exact h
    have hsz : d < a.tmps.size := by rw [hI.size]; exact hd2
    have hof : o ∈ ops.toList.take m := mem_frontG.2 ⟨k, hkm, ho⟩
    have hdr : ops.toList.drop k = o :: ops.toList.drop (k + 1) := by
      rw [List.drop_eq_getElem_cons (by simpa using hks)]
      congr 1
      have : ops.toList[k]? = some o := by rw [Array.getElem?_toList]; exact ho
      rw [List.getElem?_eq_getElem (by simpa using hks)] at this
      injection this
    rw [hdr]
    have hnext : ∀ (v : Value) (w' : World), (slotTy E d).holds w' v → Below w.heap.size w w' → wpList P ops Q (ops.toList.drop (k + 1)) (a.put (some d) v) w' := by
      intro v w' hT hB
      refine ih (k + 1) _ w' (by omega) (by omega) ⟨?_, ?_, ?_, ?_, ?_, ?_⟩
      · simp [Act.put, hI.size]
      · exact hI.defers
      · exact hI.below.trans (hB.mono hI.below.size)
      · intro s hs
        rw [put_getD _ _ _ _ hsz, if_neg, hI.rest s]
        · intro h
          obtain ⟨o', ho', rfl⟩ := List.mem_map.1 h
          obtain ⟨i, hi, hoi⟩ := mem_frontG.1 ho'
          exact hs (List.mem_map.2 ⟨o', mem_frontG.2 ⟨i, by omega, hoi⟩, rfl⟩)
        · rintro rfl
          exact hs (List.mem_map.2 ⟨o, mem_frontG.2 ⟨k, by omega, ho⟩, hd4⟩)
      · intro s hs
        rw [put_getD _ _ _ _ hsz, if_neg]
        · exact (slotTy E s).stable (hI.start s hs) hB
        · rintro rfl
          exact hd3 hs
      · intro i oi hi hoi
        by_cases hik : i = k
        · subst hik
          rw [ho] at hoi
          injection hoi with hoi
          subst hoi
          rw [hd4, put_getD _ _ _ _ hsz, if_pos rfl]
          exact hT
        · have hne : dstD oi ≠ d := fun h => hik (hdist i k oi o (by omega) hkm hoi ho (by rw [h, hd4]))
          rw [put_getD _ _ _ _ hsz, if_neg hne]
          exact (slotTy E _).stable (hI.done i oi (by omega) hoi) hB
    have hrun : runsB ops gs o = true → Region.wanted o (yielded ops a.tmps) = true → wpList P ops Q (o :: ops.toList.drop (k + 1)) a w := by
      intro hr hw
      unfold wpList
      rw [if_pos hw]
      left
      have hslots : SlotsHold E w a.eval o.op.operands.toList := by
        refine SlotsHold.of fun s hs => ?_
        have := List.all_eq_true.1 hc2 _ hs
        simp only [Bool.or_eq_true, List.any_eq_true, Bool.and_eq_true, Bool.not_eq_true'] at this
        rcases this with (h | h) | ⟨e, he, hb, heq⟩
        · rw [slotTy_any h]; trivial
        · exact hI.start s (by simpa using h)
        · have heq' : (ops[e.on]?).bind (·.dst) = some s := by simpa using heq
          cases hoe : ops[e.on]? with
          | none => rw [hoe] at heq'; cases heq'
          | some oe =>
            rw [hoe] at heq'
            have hlt := hon e he hb
            have h1 := hI.done e.on oe hlt hoe
            obtain ⟨d', hd1', _, _, hd4'⟩ := hd _ oe (by omega) hoe
            have : d' = s := by
              have h2 : oe.dst = some s := heq'
              rw [hd1'] at h2
              injection h2
            subst this
            rw [hd4'] at h1
            exact h1
      have hy := (hok.mem o hof hr) a.eval w (fun _ => rfl) (fun _ => rfl) hI.below hslots
      refine Oper.wp_mono (fun a' w' h => ?_) hy.wp
      obtain ⟨v, rfl, hT, hB⟩ := h
      rw [hd1]
      rw [hd4] at hT
      exact hnext v w' hT hB
    cases hg : o.guard with
    | none => exact hrun (by unfold runsB; rw [hg]) (by unfold Region.wanted; rw [hg])
    | some p =>
      obtain ⟨g, want⟩ := p
      rw [hg] at hc3
      simp only [Bool.and_eq_true, List.any_eq_true] at hc3
      obtain ⟨h1, e, he, hb, heg⟩ := hc3
      have heg' : e.on = g := Nat.eq_of_beq_eq_true heg
      have hgi := hon e he hb
      cases hog : ops[g]? with
      | none => rw [hog] at h1; simp at h1
      | some og =>
        rw [hog] at h1
        obtain ⟨dg, hdg1, hdg2, _, hdg4⟩ := hd g og (by omega) hog
        rw [Option.bind_some, hdg1] at h1
        simp only [Bool.or_eq_true, Bool.and_eq_true, Bool.not_eq_true'] at h1
        have hv := hI.done g og (by omega) hog
        rw [hdg4] at hv
        have hsg : dg < a.tmps.size := by rw [hI.size]; exact hdg2
        have hval : ∀ b, gs.elem (dg, b) = true → a.tmps[dg]? = some (.bool b) := by
          intro b hb'
          have := hgs.mem (dg, b) (by simpa using hb') _ _ hv
          rw [Array.getD_eq_getD_getElem?, Array.getElem?_eq_getElem hsg] at this
          rw [Array.getElem?_eq_getElem hsg]
          simpa using this
        rcases h1 with h1 | ⟨h1, h2⟩
        · have hget := hval _ h1
          refine hrun ?_ ?_
          · unfold runsB; rw [hg]; simp only [hog, Option.bind_some, hdg1]; exact h1
          · unfold Region.wanted; rw [hg]; simp [yielded, hog, hdg1, hget]
        · have hw : Region.wanted o (yielded ops a.tmps) = false := by
            rcases h1 with h1 | h1
            · have hget := hval _ h1
              unfold Region.wanted; rw [hg]; simp [yielded, hog, hdg1, hget]
            · have hu := hus.mem dg (by simpa using h1)
              rw [hu] at hv
              have hget : a.tmps[dg]? = some undef := by
                have hv' : a.tmps.getD dg undef = undef := hv
                rw [Array.getD_eq_getD_getElem?, Array.getElem?_eq_getElem hsg] at hv'
                rw [Array.getElem?_eq_getElem hsg]
                simpa using hv'
              unfold Region.wanted; rw [hg]; simp [yielded, hog, hdg1, hget, undef]
          unfold wpList
          rw [if_neg (by rw [hw]; exact Bool.false_ne_true), hd1]
          refine hnext undef w ?_ (Below.refl _ _)
          rw [← hd4]
          rcases h2 with h2 | h2
          · rw [slotTy_any h2]; trivial
          · rw [hus.mem _ (by simpa using h2)]; rfl
/-- THE REGION IN ITS WRITTEN ORDER, the first m operations by types. -/
theorem wp_region_flowU {id : Nat} {l : List Oper} {w : World} (E : List (Nat × STy)) (start : List Nat) (gs : List (Nat × Bool)) (us : List Nat) (n m : Nat) (hck : flowU l.toArray (E.map Prod.fst) start gs us n m = true) (hus : UndefHold E us) (hn : a0.tmps.size = n) (hgs : GuardsHold E gs)
    (hst : StartHold E w a0 start) (hok : OpStepsG P l.toArray gs E w (l.take m))
    (hfin : ∀ v w', OpsHold E w' v (l.take m) → Below w.heap.size w w' → wpList P l.toArray Q (l.drop m) (putAll a0 v ((l.take m).map dstD)) w') :
    (Code.region id l.toArray false).wp P Q a0 w := by
  refine wp_region_lit ?_
  have := wpList_flow (P := P) (Q := Q) (w0 := w) (a0 := a0) hck hus hgs (by simpa using hok) hn (fun v w' h hb => by simpa using hfin v w' (OpsHold.of (by simpa using h)) hb) m 0 a0 w (by omega) (Nat.zero_le _)
    ⟨hn, rfl, Below.refl _ _, fun _ _ => rfl, fun s hs => hst.mem s hs, fun i _ hi => absurd hi (Nat.not_lt_zero i)⟩
  simpa using this
theorem wp_region_flow {id : Nat} {l : List Oper} {w : World} (E : List (Nat × STy)) (start : List Nat) (gs : List (Nat × Bool)) (n m : Nat) (hck : flowB l.toArray (E.map Prod.fst) start gs n m = true) (hn : a0.tmps.size = n) (hgs : GuardsHold E gs)
    (hst : StartHold E w a0 start) (hok : OpStepsG P l.toArray gs E w (l.take m))
    (hfin : ∀ v w', OpsHold E w' v (l.take m) → Below w.heap.size w w' → wpList P l.toArray Q (l.drop m) (putAll a0 v ((l.take m).map dstD)) w') :
    (Code.region id l.toArray false).wp P Q a0 w :=
  wp_region_flowU E start gs [] n m hck trivial hn hgs hst hok hfin
end
end Go.Proofs.YtbjooeapjhaapaaGreatDoor
