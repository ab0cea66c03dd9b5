/- A region that draws its order, walked once whatever the order is: each slot has a type, and what an operation leaves in its slot is shown from the types of the slots that it reads. No program stands in it. -/
import Derived.Test.YthicpakanhhipaaGreatDoorMem
import Derived.Orders
namespace Go.Proofs.YthicpakanhhipaaGreatDoor
open Go Go.RowKit

/-- What a slot holds; memory of the past being kept, it goes on holding it. -/
structure STy where
  holds : World → Value → Prop
  stable : ∀ {w w' : World} {v : Value}, holds w v → Below w.heap.size w w' → holds w' v
def STy.any : STy := ⟨fun _ _ => True, fun h _ => h⟩
def STy.is (c : Value) : STy := ⟨fun _ v => v = c, fun h _ => h⟩
def slotTy : List (Nat × STy) → Nat → STy
  | [], _ => .any
  | (t, x) :: l, s => bif Nat.beq t s then x else slotTy l s
def SlotsHold (E : List (Nat × STy)) (w : World) (ρ : Operand → Value) : List Operand → Prop
  | [] => True
  | .tmp s :: l => (slotTy E s).holds w (ρ (.tmp s)) ∧ SlotsHold E w ρ l
  | .const _ :: l => SlotsHold E w ρ l
  | .global _ :: l => SlotsHold E w ρ l
  | .func _ :: l => SlotsHold E w ρ l
theorem SlotsHold.of {E : List (Nat × STy)} {w : World} {ρ : Operand → Value} : ∀ {l : List Operand}, (∀ s, .tmp s ∈ l → (slotTy E s).holds w (ρ (.tmp s))) → SlotsHold E w ρ l
  | [], _ => trivial
  | .tmp s :: l, h => ⟨h s (by simp), SlotsHold.of (l := l) fun t ht => h t (List.mem_cons_of_mem _ ht)⟩
  | .const _ :: l, h => SlotsHold.of (l := l) fun t ht => h t (List.mem_cons_of_mem _ ht)
  | .global _ :: l, h => SlotsHold.of (l := l) fun t ht => h t (List.mem_cons_of_mem _ ht)
  | .func _ :: l, h => SlotsHold.of (l := l) fun t ht => h t (List.mem_cons_of_mem _ ht)
theorem SlotsHold.at_ {E : List (Nat × STy)} {w : World} {ρ : Operand → Value} : ∀ {l : List Operand} {s : Nat}, SlotsHold E w ρ l → .tmp s ∈ l → (slotTy E s).holds w (ρ (.tmp s))
  | [], _, _, h => by cases h
  | x :: l, s, hs, hm => by
    rcases List.mem_cons.1 hm with rfl | hm
    · exact hs.1
    · refine SlotsHold.at_ (w := w) (l := l) ?_ hm
      cases x with
      | tmp s => exact hs.2
      | const c => exact hs
      | global g => exact hs
      | func f => exact hs
/-- The operation runs to its end, and yields what K says. -/
def Yields (P : Program) (o : Oper) (ρ : Operand → Value) (w : World) (K : Value → World → Prop) : Prop :=
  match (execOp ρ o).run P w with
  | .ok (.value v) w' => K v w'
  | .ok (.enter f args) w' => Calls P f args w' fun e w'' => ∃ v, e = .returned v ∧ K v w''
  | _ => False
theorem Yields.wp {P : Program} {o : Oper} {a : Act} {w : World} {K : Value → World → Prop} {Q : Exit → Act → World → Prop} (h : Yields P o a.eval w K) : o.wp P a w (fun a' w' => ∃ v, a' = a.put o.dst v ∧ K v w') Q := by
  unfold Yields at h
  unfold Oper.wp
  generalize (execOp a.eval o).run P w = r at *
  split at h
  · exact ⟨_, rfl, h⟩
  · refine Calls.mono h ?_
    rintro e w'' ⟨v, rfl, hk⟩
    exact ⟨v, rfl, hk⟩
  · exact h.elim
def dstD (o : Oper) : Nat := o.dst.getD 0
/-- The operation keeps the types. -/
def OpStep (P : Program) (E : List (Nat × STy)) (w0 : World) (o : Oper) : Prop :=
  ∀ (ρ : Operand → Value) (w : World), (∀ c, ρ (.const c) = c) → (∀ f, ρ (.func f) = .func (.func f) #[] #[]) → Below w0.heap.size w0 w → SlotsHold E w ρ o.op.operands.toList →
    Yields P o ρ w fun v w' => (slotTy E (dstD o)).holds w' v ∧ Below w.heap.size w w'
def OpSteps (P : Program) (E : List (Nat × STy)) (w0 : World) : List Oper → Prop
  | [] => True
  | o :: l => OpStep P E w0 o ∧ OpSteps P E w0 l
theorem OpSteps.mem {P : Program} {E : List (Nat × STy)} {w0 : World} : ∀ {l : List Oper}, OpSteps P E w0 l → ∀ o ∈ l, OpStep P E w0 o
  | [], _, _, h => by cases h
  | _ :: _, h, o, ho => by
    rcases List.mem_cons.1 ho with rfl | ho
    · exact h.1
    · exact h.2.mem o ho
def GuardsHold (E : List (Nat × STy)) : List (Nat × Bool) → Prop
  | [] => True
  | (d, b) :: l => (∀ w v, (slotTy E d).holds w v → v = .bool b) ∧ GuardsHold E l
theorem OpSteps.cons {P : Program} {E : List (Nat × STy)} {w0 : World} {o : Oper} {l : List Oper} (h : OpStep P E w0 o) (t : OpSteps P E w0 l) : OpSteps P E w0 (o :: l) := ⟨h, t⟩
theorem OpSteps.nil {P : Program} {E : List (Nat × STy)} {w0 : World} : OpSteps P E w0 [] := trivial
theorem st_move {P : Program} {E : List (Nat × STy)} {w0 : World} {d s : Nat} {ty : TypeId} {pos : String} {af : Array Edge} {g : Option (Nat × Bool)} (h : ∀ w v, (slotTy E s).holds w v → (slotTy E d).holds w v) :
    OpStep P E w0 ⟨some d, .move (.tmp s), ty, pos, af, g⟩ := fun ρ w _ _ _ hs => by
  show (slotTy E d).holds w (ρ (.tmp s)) ∧ _
  exact ⟨h _ _ hs.1, Below.refl _ _⟩
theorem st_assign {P : Program} {E : List (Nat × STy)} {w0 : World} {d s : Nat} {ty : TypeId} {pos : String} {af : Array Edge} {g : Option (Nat × Bool)} (h : ∀ w v, (slotTy E s).holds w v → (slotTy E d).holds w v) :
    OpStep P E w0 ⟨some d, .assign (.tmp s), ty, pos, af, g⟩ := fun ρ w _ _ _ hs => by
  show (slotTy E d).holds w (ρ (.tmp s)) ∧ _
  exact ⟨h _ _ hs.1, Below.refl _ _⟩
theorem GuardsHold.mem {E : List (Nat × STy)} : ∀ {l : List (Nat × Bool)}, GuardsHold E l → ∀ p ∈ l, ∀ w v, (slotTy E p.1).holds w v → v = .bool p.2
  | [], _, _, h => by cases h
  | _ :: _, h, p, hp => by
    rcases List.mem_cons.1 hp with rfl | hp
    · exact h.1
    · exact h.2.mem p hp
def StartHold (E : List (Nat × STy)) (w : World) (a : Act) : List Nat → Prop
  | [] => True
  | s :: l => (slotTy E s).holds w (a.tmps.getD s undef) ∧ StartHold E w a l
theorem StartHold.mem {E : List (Nat × STy)} {w : World} {a : Act} : ∀ {l : List Nat}, StartHold E w a l → ∀ s ∈ l, (slotTy E s).holds w (a.tmps.getD s undef)
  | [], _, _, h => by cases h
  | _ :: _, h, p, hp => by
    rcases List.mem_cons.1 hp with rfl | hp
    · exact h.1
    · exact h.2.mem p hp
def distinctB : List Nat → Bool
  | [] => true
  | a :: l => !l.elem a && distinctB l
/-- What is asked of the region's text: each operation has a slot of its own, reads slots that are there from the start or of operations that it waits for, and waits for earlier ones alone. -/
def regionOpB (ops : Array Oper) (start : List Nat) (gs : List (Nat × Bool)) (n i : Nat) (o : Oper) : Bool :=
  (match o.dst with | some d => Nat.blt d n && !start.elem d | none => false) &&
  (o.op.operands.toList.all fun | .tmp s => start.elem s || o.after.toList.any (fun e => Region.binds .any e && ((ops[e.on]?).bind (·.dst) == some s)) | _ => true) &&
  (match o.guard with | none => true | some (g, want) => (match (ops[g]?).bind (·.dst) with | some d => gs.elem (d, want) | none => false) && o.after.toList.any (fun e => Region.binds .any e && Nat.beq e.on g)) &&
  (o.after.toList.all fun e => !Region.binds .any e || Nat.blt e.on i)
def regionB (ops : Array Oper) (start : List Nat) (gs : List (Nat × Bool)) (n : Nat) : Bool :=
  ((List.range ops.size).all fun i => match ops[i]? with | some o => regionOpB ops start gs n i o | none => false) && distinctB (ops.toList.map dstD)
def putAll (a : Act) (v : Nat → Value) : List Nat → Act
  | [] => a
  | d :: l => putAll (a.put (some d) (v d)) v l
theorem putAll_size (v : Nat → Value) : ∀ (l : List Nat) (a : Act), (putAll a v l).tmps.size = a.tmps.size
  | [], _ => rfl
  | d :: l, a => by rw [putAll, putAll_size v l]; simp [Act.put]
theorem putAll_defers (v : Nat → Value) : ∀ (l : List Nat) (a : Act), (putAll a v l).defers = a.defers
  | [], _ => rfl
  | d :: l, a => by rw [putAll, putAll_defers v l]; rfl
theorem put_getD (a : Act) (d s : Nat) (v : Value) (hd : d < a.tmps.size) : (a.put (some d) v).tmps.getD s undef = if s = d then v else a.tmps.getD s undef := by
  simp only [Act.put, Array.getD_eq_getD_getElem?]
  by_cases h : s = d
  · subst h
    rw [if_pos rfl, Array.getElem?_setIfInBounds_self_of_lt hd]; rfl
  · rw [if_neg h, Array.getElem?_setIfInBounds_ne (Ne.symm h)]
theorem putAll_in (v : Nat → Value) : ∀ (l : List Nat) (a : Act) (s : Nat), (∀ d ∈ l, d < a.tmps.size) → (s ∈ l ∨ a.tmps.getD s undef = v s) → (putAll a v l).tmps.getD s undef = v s
  | [], a, s, _, h => by
    rcases h with h | h
    · cases h
    · exact h
  | d :: l, a, s, hd, h => by
    rw [putAll]
    have hd0 := hd d (by simp)
    refine putAll_in v l _ s (fun e he => by simp [Act.put]; exact hd e (List.mem_cons_of_mem _ he)) ?_
    rw [put_getD _ _ _ _ hd0]
    by_cases hs : s = d
    · subst hs; exact .inr (if_pos rfl)
    · rw [if_neg hs]
      rcases h with h | h
      · rcases List.mem_cons.1 h with h | h
        · exact absurd h hs
        · exact .inl h
      · exact .inr h
theorem putAll_out (v : Nat → Value) : ∀ (l : List Nat) (a : Act) (s : Nat), (∀ d ∈ l, d < a.tmps.size) → s ∉ l → (putAll a v l).tmps.getD s undef = a.tmps.getD s undef
  | [], _, _, _, _ => rfl
  | d :: l, a, s, hd, h => by
    have hd0 := hd d (by simp)
    rw [putAll, putAll_out v l _ s (fun e he => by simp [Act.put]; exact hd e (List.mem_cons_of_mem _ he)) (fun hm => h (List.mem_cons_of_mem _ hm)), put_getD _ _ _ _ hd0, if_neg]
    rintro rfl
    exact h (by simp)
theorem act_ext {a b : Act} (hs : a.tmps.size = b.tmps.size) (hd : a.defers = b.defers) (h : ∀ s, a.tmps.getD s undef = b.tmps.getD s undef) : a = b := by
  obtain ⟨ta, da⟩ := a
  obtain ⟨tb, db⟩ := b
  simp only at hs hd h
  subst hd
  have : ta = tb := by
    apply Array.ext hs
    intro i h1 h2
    have := h i
    simpa [Array.getD_eq_getD_getElem?, h1, h2] using this
  rw [this]
def openN : List Bool → Nat
  | [] => 0
  | true :: l => openN l
  | false :: l => openN l + 1
theorem openN_set : ∀ (l : List Bool) (i : Nat), l[i]? = some false → openN (l.set i true) + 1 = openN l
  | [], _, h => by simp at h
  | b :: l, 0, h => by
    simp at h
    subst h
    simp [openN]
  | b :: l, i + 1, h => by
    have := openN_set l i (by simpa using h)
    cases b <;> simp [openN] <;> omega
theorem openN_pos : ∀ (l : List Bool) (i : Nat), l[i]? = some false → 0 < openN l
  | [], _, h => by simp at h
  | b :: l, 0, h => by
    simp at h
    subst h
    simp [openN]
  | b :: l, i + 1, h => by
    have := openN_pos l i (by simpa using h)
    cases b <;> simp [openN]
    exact this
section
variable {P : Program} {ops : Array Oper} {Q : Exit → Act → World → Prop} {E : List (Nat × STy)} {w0 : World} {a0 : Act} {start : List Nat} {gs : List (Nat × Bool)} {n : Nat}
theorem regionB_at (h : regionB ops start gs n = true) {i : Nat} {o : Oper} (ho : ops[i]? = some o) : regionOpB ops start gs n i o = true := by
  unfold regionB at h
  simp only [Bool.and_eq_true, List.all_eq_true] at h
  have := h.1 i (by simpa using (Array.getElem?_eq_some_iff.1 ho).1)
  rw [ho] at this
  exact this
theorem distinctB_ne : ∀ {l : List Nat}, distinctB l = true → ∀ (i j : Nat) (x : Nat), l[i]? = some x → l[j]? = some x → i = j
  | [], _, i, _, _, hi, _ => by simp at hi
  | a :: l, h, i, j, x, hi, hj => by
    simp only [distinctB, Bool.and_eq_true, Bool.not_eq_true', List.elem_eq_mem, decide_eq_false_iff_not] at h
    rcases i with _ | i <;> rcases j with _ | j
    · rfl
    · simp at hi hj
      subst hi
      exact absurd (List.mem_of_getElem? hj) h.1
    · simp at hi hj
      subst hj
      exact absurd (List.mem_of_getElem? hi) h.1
    · rw [distinctB_ne h.2 i j x (by simpa using hi) (by simpa using hj)]
/-- In the midst of the region. -/
structure RegI (ops : Array Oper) (E : List (Nat × STy)) (w0 : World) (a0 : Act) (start : List Nat) (n : Nat) (listed : Array Bool) (a : Act) (w : World) : Prop where
  size : a.tmps.size = n
  defers : a.defers = a0.defers
  below : Below w0.heap.size w0 w
  rest : ∀ s, s ∉ ops.toList.map dstD → a.tmps.getD s undef = a0.tmps.getD s undef
  start : ∀ s ∈ start, (slotTy E s).holds w (a.tmps.getD s undef)
  done : ∀ (i : Nat) (o : Oper), ops[i]? = some o → listed.getD i false = true → (slotTy E (dstD o)).holds w (a.tmps.getD (dstD o) undef)
  len : listed.size = ops.size
theorem wpAny_typed (hck : regionB ops start gs n = true) (hgs : GuardsHold E gs) (hok : OpSteps P E w0 ops.toList) (hn : a0.tmps.size = n)
    (hfin : ∀ v w', (∀ o ∈ ops.toList, (slotTy E (dstD o)).holds w' (v (dstD o))) → Below w0.heap.size w0 w' → Q .normal (putAll a0 v (ops.toList.map dstD)) w') :
    ∀ (fuel : Nat) (listed : Array Bool) (a : Act) (w : World), RegI ops E w0 a0 start n listed a w → openN listed.toList ≤ fuel → wpAny P .any ops Q fuel listed a w := by
  have hd : ∀ (i : Nat) (o : Oper), ops[i]? = some o → ∃ d, o.dst = some d ∧ d < n ∧ d ∉ start ∧ dstD o = d := by
    intro i o ho
    have := regionB_at hck ho
    unfold regionOpB at this
    simp only [Bool.and_eq_true] at this
    obtain ⟨⟨⟨h1, _⟩, _⟩, _⟩ := this
    cases hdo : o.dst with
    | none => rw [hdo] at h1; simp at h1
    | some d =>
      rw [hdo] at h1
      simp only [Bool.and_eq_true, Bool.not_eq_true', List.elem_eq_mem, decide_eq_false_iff_not] at h1
      exact ⟨d, rfl, by rw [← Nat.blt_eq]; exact h1.1, h1.2, by unfold dstD; rw [hdo]; rfl⟩
  have hdist : ∀ (i j : Nat) (o o' : Oper), ops[i]? = some o → ops[j]? = some o' → dstD o = dstD o' → i = j := by
    intro i j o o' ho ho' he
    have h := hck
    unfold regionB at h
    simp only [Bool.and_eq_true] at h
    refine distinctB_ne h.2 i j (dstD o) ?_ ?_
    · rw [List.getElem?_map, Array.getElem?_toList, ho]; rfl
    · rw [List.getElem?_map, Array.getElem?_toList, ho', he]; rfl
  have hdone : ∀ (listed : Array Bool) (a : Act) (w : World), RegI ops E w0 a0 start n listed a w → Region.ready .any ops listed = [] → Q .normal a w := by
    intro listed a w hI hr
    have hall : ∀ i, i < ops.size → listed.getD i false = true := by
      intro i
      induction i using Nat.strongRecOn with
      | _ i ih =>
        intro hi
        by_cases hl : listed.getD i true = true
        · have hi' : i < listed.size := by rw [hI.len]; exact hi
          simpa [Array.getD_eq_getD_getElem?, hi'] using hl
        · exfalso
          obtain ⟨o, ho⟩ : ∃ o, ops[i]? = some o := ⟨_, Array.getElem?_eq_getElem hi⟩
          have hchk := regionB_at hck ho
          unfold regionOpB at hchk
          simp only [Bool.and_eq_true, List.all_eq_true] at hchk
          have hm : i ∈ Region.ready .any ops listed := by
            unfold Region.ready
            simp only [List.mem_filter, List.mem_range, hi, true_and, Bool.and_eq_true, Bool.not_eq_true', ho, Option.map_some, Option.getD_some]
            refine ⟨by simpa using hl, ?_⟩
            rw [← Array.all_toList]
            simp only [List.all_eq_true]
            intro e he
            have := hchk.2 e he
            simp only [Bool.or_eq_true] at this ⊢
            rcases this with h | h
            · exact .inl h
            · have hlt : e.on < i := by rw [← Nat.blt_eq]; exact h
              exact .inr (ih e.on hlt (by omega))
          rw [hr] at hm
          cases hm
    have hds : ∀ d ∈ ops.toList.map dstD, d < a0.tmps.size := by
      intro d hdm
      obtain ⟨o, ho, rfl⟩ := List.mem_map.1 hdm
      obtain ⟨i, hi⟩ := List.mem_iff_getElem?.1 ho
      rw [Array.getElem?_toList] at hi
      obtain ⟨d, _, h2, _, h4⟩ := hd i o hi
      rw [h4, hn]; exact h2
    have he : a = putAll a0 (fun s => a.tmps.getD s undef) (ops.toList.map dstD) := by
      refine act_ext (by rw [putAll_size, hI.size, hn]) (by rw [putAll_defers, hI.defers]) fun s => ?_
      by_cases hs : s ∈ ops.toList.map dstD
      · rw [putAll_in _ _ _ _ hds (.inl hs)]
      · rw [putAll_out _ _ _ _ hds hs, hI.rest s hs]
    rw [he]
    refine hfin _ _ (fun o ho => ?_) hI.below
    obtain ⟨i, hi⟩ := List.mem_iff_getElem?.1 ho
    rw [Array.getElem?_toList] at hi
    exact hI.done i o hi (hall i (Array.getElem?_eq_some_iff.1 hi).1)
  intro fuel
  induction fuel with
  | zero =>
    intro listed a w hI hf
    have hr : Region.ready .any ops listed = [] := by
      unfold Region.ready
      rw [List.filter_eq_nil_iff]
      intro i hi
      simp only [List.mem_range] at hi
      intro hc
      simp only [Bool.and_eq_true, Bool.not_eq_true'] at hc
      have hi' : i < listed.size := by rw [hI.len]; exact hi
      have : listed.toList[i]? = some false := by
        have h1 := hc.1
        rw [Array.getElem?_toList]
        simpa [Array.getD_eq_getD_getElem?, hi'] using h1
      have := openN_pos _ _ this
      omega
    exact ⟨hr, hdone listed a w hI hr⟩
  | succ fuel ih =>
    intro listed a w hI hf
    refine ⟨hdone listed a w hI, fun i hi => ?_⟩
    unfold Region.ready at hi
    simp only [List.mem_filter, List.mem_range, Bool.and_eq_true, Bool.not_eq_true'] at hi
    obtain ⟨hlt, hl, haf⟩ := hi
    have hi' : i < listed.size := by rw [hI.len]; exact hlt
    obtain ⟨o, ho⟩ : ∃ o, ops[i]? = some o := ⟨_, Array.getElem?_eq_getElem hlt⟩
    rw [ho] at haf
    simp only [Option.map_some, Option.getD_some] at haf
    rw [← Array.all_toList] at haf
    simp only [List.all_eq_true, Bool.or_eq_true, Bool.not_eq_true'] at haf
    have hchk := regionB_at hck ho
    unfold regionOpB at hchk
    simp only [Bool.and_eq_true] at hchk
    obtain ⟨⟨⟨hc1, hc2⟩, hc3⟩, hc4⟩ := hchk
    have hwait : ∀ e ∈ o.after.toList, Region.binds .any e = true → ∀ oe, ops[e.on]? = some oe → (slotTy E (dstD oe)).holds w (a.tmps.getD (dstD oe) undef) := by
      intro e he hb oe hoe
      rcases haf e he with h | h
      · rw [hb] at h; cases h
      · exact hI.done _ _ hoe h
    have hw : Region.wanted o (yielded ops a.tmps) = true := by
      unfold Region.wanted
      cases hg : o.guard with
      | none => rfl
      | some p =>
        obtain ⟨g, want⟩ := p
        rw [hg] at hc3
        simp only [Bool.and_eq_true, List.any_eq_true] at hc3
        obtain ⟨h1, e, he, hb, heg⟩ := hc3
        have heg' : e.on = g := Nat.eq_of_beq_eq_true heg
        cases hog : ops[g]? with
        | none => rw [hog] at h1; simp at h1
        | some og =>
          rw [hog] at h1
          obtain ⟨d, hd1, hd2, _, hd4⟩ := hd g og hog
          simp only [Option.bind_some, hd1, List.elem_eq_mem, decide_eq_true_eq] at h1
          have hv := hwait e he hb og (by rw [heg']; exact hog)
          rw [hd4] at hv
          have hval := hgs.mem _ h1 _ _ hv
          have hsz : d < a.tmps.size := by rw [hI.size]; exact hd2
          have hget : a.tmps[d]? = some (.bool want) := by
            rw [Array.getD_eq_getD_getElem?, Array.getElem?_eq_getElem hsz] at hval
            rw [Array.getElem?_eq_getElem hsz]
            simpa using hval
          simp [yielded, hog, hd1, hget]
    unfold wpOp
    simp only [ho]
    rw [if_pos hw]
    left
    obtain ⟨d, hd1, hd2, hd3, hd4⟩ := hd i o ho
    have hslots : SlotsHold E w a.eval o.op.operands.toList := by
      refine SlotsHold.of fun s hs => ?_
      have := List.all_eq_true.1 hc2 _ hs
      simp only [Bool.or_eq_true, List.any_eq_true, Bool.and_eq_true] at this
      rcases this with h | ⟨e, he, hb, heq⟩
      · exact hI.start s (by simpa using h)
      · have heq' : (ops[e.on]?).bind (·.dst) = some s := by simpa using heq
        cases hoe : ops[e.on]? with
        | none => rw [hoe] at heq'; cases heq'
        | some oe =>
          rw [hoe] at heq'
          have h1 := hwait e he hb oe hoe
          obtain ⟨d', hd1', _, _, hd4'⟩ := hd _ oe hoe
          have : d' = s := by
            have h2 : oe.dst = some s := heq'
            rw [hd1'] at h2
            injection h2
          subst this
          rw [hd4'] at h1
          exact h1
    have hy := (hok.mem o (by rw [Array.mem_toList_iff]; exact Array.mem_of_getElem? ho)) a.eval w (fun _ => rfl) (fun _ => rfl) hI.below hslots
    refine Oper.wp_mono (fun a' w' h => ?_) hy.wp
    obtain ⟨v, rfl, hT, hB⟩ := h
    have hsz : d < a.tmps.size := by rw [hI.size]; exact hd2
    rw [hd1]
    refine ih _ _ _ ⟨?_, ?_, ?_, ?_, ?_, ?_, ?_⟩ ?_
    · simp [Act.put, hI.size]
    · exact hI.defers
    · exact hI.below.trans (hB.mono hI.below.size)
    · intro s hs
      rw [put_getD _ _ _ _ hsz, if_neg, hI.rest s hs]
      rintro rfl
      refine hs (List.mem_map.2 ⟨o, ?_, hd4⟩)
      rw [Array.mem_toList_iff]; exact Array.mem_of_getElem? ho
    · intro s hs
      rw [put_getD _ _ _ _ hsz, if_neg]
      · exact (slotTy E s).stable (hI.start s hs) hB
      · rintro rfl
        exact hd3 hs
    · intro j oj hj hlj
      by_cases hji : j = i
      · subst hji
        rw [ho] at hj
        injection hj with hj
        subst hj
        rw [hd4, put_getD _ _ _ _ hsz, if_pos rfl]
        rw [hd4] at hT
        exact hT
      · have hne : dstD oj ≠ d := fun h => hji (hdist j i oj o hj ho (by rw [h, hd4]))
        rw [put_getD _ _ _ _ hsz, if_neg hne]
        refine (slotTy E _).stable (hI.done j oj hj ?_) hB
        rw [Array.getD_eq_getD_getElem?, Array.getElem?_setIfInBounds_ne (Ne.symm hji)] at hlj
        rw [Array.getD_eq_getD_getElem?]
        exact hlj
    · simp [hI.len]
    · have h1 : listed.toList[i]? = some false := by
        rw [Array.getElem?_toList]
        simpa [Array.getD_eq_getD_getElem?, hi'] using hl
      have := openN_set _ _ h1
      rw [Array.toList_setIfInBounds]
      omega
/-- What the slots hold behind the region. -/
def OpsHold (E : List (Nat × STy)) (w : World) (v : Nat → Value) : List Oper → Prop
  | [] => True
  | o :: l => (slotTy E (dstD o)).holds w (v (dstD o)) ∧ OpsHold E w v l
theorem OpsHold.of {w : World} {v : Nat → Value} : ∀ {l : List Oper}, (∀ o ∈ l, (slotTy E (dstD o)).holds w (v (dstD o))) → OpsHold E w v l
  | [], _ => trivial
  | o :: l, h => ⟨h o (by simp), OpsHold.of (l := l) fun t ht => h t (List.mem_cons_of_mem _ ht)⟩
theorem openN_rep (k : Nat) : openN (List.replicate k false) ≤ k := by
  induction k with
  | zero => simp [openN]
  | succ k ih => simp only [List.replicate_succ, openN]; omega
/-- THE REGION, WHATEVER ORDER IS DRAWN. -/
theorem wp_region_typed {id : Nat} {l : List Oper} {w : World} (E : List (Nat × STy)) (start : List Nat) (gs : List (Nat × Bool)) (n : Nat) (hm : P.follows .mixedOrders = true) (hck : regionB l.toArray start gs n = true) (hn : a0.tmps.size = n) (hgs : GuardsHold E gs)
    (hst : StartHold E w a0 start) (hok : OpSteps P E w l)
    (hfin : ∀ v w', OpsHold E w' v l → Below w.heap.size w w' → Q .normal (putAll a0 v (l.map dstD)) w') :
    (Code.region id l.toArray true).wp P Q a0 w := by
  refine wp_region_any hm ?_
  have hb : Below w.heap.size w w.drew := (Below.refl _ _).drew
  refine wpAny_typed (w0 := w) hck hgs (by simpa using hok) hn (fun v w' h hb => by simpa using hfin v w' (OpsHold.of (by simpa using h)) hb) _ _ _ _ ⟨hn, rfl, hb, fun _ _ => rfl, fun s hs => (slotTy E s).stable (hst.mem s hs) hb, ?_, by simp⟩ ?_
  · intro i o ho hl
    exfalso
    rw [Array.getD_eq_getD_getElem?] at hl
    cases h : (Array.replicate l.toArray.size false)[i]? with
    | none => rw [h] at hl; cases hl
    | some b =>
      have := Array.mem_of_getElem? h
      simp at this
      rw [h, this.2] at hl
      cases hl
  · simpa using openN_rep l.toArray.size
end
end Go.Proofs.YthicpakanhhipaaGreatDoor
