/- tallageref03: cut, halves, limbs, less, times, take, often, parts: what each call answers. -/
import Derived.Test.YtkjojpeamabdmaaGA
import Derived.StillTailTactics
import Derived.Laws.IdiomStrings
import Derived.Orders
import Derived.Tactics
import Derived.WalkKit
set_option linter.unusedSimpArgs false
set_option linter.unusedVariables false
namespace Go.Proofs.Ytkjojpeamabdmaa
open Go Go.RowKit
end Go.Proofs.Ytkjojpeamabdmaa
/- tallageref03: less, times: what each call answers. -/
namespace Go.Proofs.Ytkjojpeamabdmaa
open Go Go.RowKit
end Go.Proofs.Ytkjojpeamabdmaa
/- tallageref03: times: what it answers. -/
namespace Go.Proofs.Ytkjojpeamabdmaa
open Go Go.RowKit
end Go.Proofs.Ytkjojpeamabdmaa
/- tallageref03: often: what it answers. -/
namespace Go.Proofs.Ytkjojpeamabdmaa
open Go Go.RowKit
end Go.Proofs.Ytkjojpeamabdmaa
/- tallageref03: take: what it answers. -/
namespace Go.Proofs.Ytkjojpeamabdmaa
open Go Go.RowKit
end Go.Proofs.Ytkjojpeamabdmaa
/- tallageref03: parts: what it answers. -/
namespace Go.Proofs.Ytkjojpeamabdmaa
open Go Go.RowKit
end Go.Proofs.Ytkjojpeamabdmaa
/- tallageref03: limbs: what it answers. -/
namespace Go.Proofs.Ytkjojpeamabdmaa
open Go Go.RowKit
end Go.Proofs.Ytkjojpeamabdmaa
/- Whole numbers with a sign: what calls answer; boxes of two cells. -/
namespace Go.Proofs.Ytkjojpeamabdmaa
open Go Go.RowKit
/-- A whole number in new memory: its own sign and limbs. -/
def NewI (w : World) (N : Int) (e : Ending) (w' : World) : Prop :=
  ∃ s ys A n c, Whole N s ys ∧ e = .returned (.agg #[.bool s, .slice A n c]) ∧ Own .u32 77 w' w.heap.size A n c ys ∧ Below w.heap.size w w'
theorem grown_set (w : World) (b o : Nat) (v : Value) : w.grownBy (w.setCell ⟨b, o, none⟩ v) (some b) :=
  ⟨rfl, rfl, rfl, by simp [World.setCell], fun k _ hk => Below.heap_setCell _ _ _ k (fun e => hk (by rw [e]))⟩
section
variable {k : IntKind} {e : TypeId} {w w1 : World} {B r : Nat} {A : Option Addr} {n c : Nat} {xs : List Int} {v0 v1 : Value} {t : TypeId}
theorem Own.far (h : Own k e w B A n c xs) (hr : r < B) : blk A = none ∨ blk A ≠ some r := by
  rcases h.form with ⟨h, _⟩ | ⟨g, h, hg, _⟩
  · exact .inl (by rw [h]; rfl)
  · exact .inr (by rw [h]; intro h; simp [blk] at h; omega)
theorem Own.box (h : Own k e w B A n c xs) (hr : r < B) (o : Nat) (v : Value) : Own k e (w.setCell ⟨r, o, none⟩ v) B A n c xs := h.keep (grown_set w r o v) (h.far hr)
end
theorem NewI.put {w w1 : World} {B r : Nat} {N : Int} {s : Bool} {ys : List Int} {A : Option Addr} {n c : Nat} {u v : Value} (hW : Whole N s ys) (hr : w.heap.size ≤ r) (ho : Own .u32 77 w1 B A n c ys) (hB : r < B) (hb : Below w.heap.size w w1) :
    NewI w N (.returned (.agg #[.bool s, .slice A n c])) ((w1.setCell ⟨r, 0, none⟩ u).setCell ⟨r, 1, none⟩ v) :=
  ⟨s, ys, A, n, c, hW, rfl, ((ho.box hB 0 u).box hB 1 v).lower (by omega), (hb.setCell (p := ⟨r, 0, none⟩) hr u).setCell (p := ⟨r, 1, none⟩) hr v⟩
/-- A box of two cells written over. -/
def Boxed (W : World) (r : Nat) (u0 u1 : Value) : Prop := W.cell? ⟨r, 0, none⟩ = some u0 ∧ W.cell? ⟨r, 1, none⟩ = some u1 ∧ W.frozen? ⟨r, 0, none⟩ = false ∧ W.frozen? ⟨r, 1, none⟩ = false
theorem Boxed.put {w1 : World} {r : Nat} {v0 v1 : Value} (h : Boxed w1 r v0 v1) (u0 u1 : Value) : Boxed ((w1.setCell ⟨r, 0, none⟩ u0).setCell ⟨r, 1, none⟩ u1) r u0 u1 := by
  obtain ⟨h0, h1, h2, h3⟩ := h
  refine ⟨?_, ?_, ?_, ?_⟩ <;> go_simp
theorem Boxed.below {w1 w2 : World} {r B : Nat} {v0 v1 : Value} (h : Boxed w1 r v0 v1) (hb : Below B w1 w2) (hr : r < B) : Boxed w2 r v0 v1 := by
  obtain ⟨h0, h1, h2, h3⟩ := h
  exact ⟨(hb.cell (p := ⟨r, 0, none⟩) hr).trans h0, (hb.cell (p := ⟨r, 1, none⟩) hr).trans h1, (hb.frozen (p := ⟨r, 0, none⟩) hr).trans h2, (hb.frozen (p := ⟨r, 1, none⟩) hr).trans h3⟩
/-- What plain answers, told by its argument alone. -/
def PlOut (s : Bool) (A : Option Addr) (n c : Nat) (xs : List Int) (s' : Bool) (A' : Option Addr) (n' c' : Nat) (xs' : List Int) : Prop :=
  (rgt s xs = true ∧ s' = s ∧ A' = A ∧ n' = n ∧ c' = c ∧ xs' = xs) ∨ (rgt s xs = false ∧ s' = false ∧ A' = none ∧ n' = 0 ∧ c' = 0 ∧ xs' = [])
theorem PlOut.ex (s : Bool) (A : Option Addr) (n c : Nat) (xs : List Int) : ∃ s' A' n' c' xs', PlOut s A n c xs s' A' n' c' xs' := by
  cases h : rgt s xs
  · exact ⟨_, _, _, _, _, .inr ⟨h, rfl, rfl, rfl, rfl, rfl⟩⟩
  · exact ⟨_, _, _, _, _, .inl ⟨h, rfl, rfl, rfl, rfl, rfl⟩⟩
end Go.Proofs.Ytkjojpeamabdmaa
/- tallageref03: Right, plain, made: what each call answers. -/
namespace Go.Proofs.Ytkjojpeamabdmaa
open Go Go.RowKit
end Go.Proofs.Ytkjojpeamabdmaa
/- tallageref03: plain: what it answers. -/
namespace Go.Proofs.Ytkjojpeamabdmaa
open Go Go.RowKit
/-- What a slot holds; memory of the past being kept, it goes on holding it. -/
structure STy where
  holds : World → Value → Prop
  stable : ∀ {w w' : World} {v : Value}, holds w v → Below w.heap.size w w' → holds w' v
def STy.any : STy := ⟨fun _ _ => True, fun h _ => h⟩
def STy.is (c : Value) : STy := ⟨fun _ v => v = c, fun h _ => h⟩
def slotTy : List (Nat × STy) → Nat → STy
  | [], _ => .any
  | (t, x) :: l, s => bif Nat.beq t s then x else slotTy l s
def SlotsHold (E : List (Nat × STy)) (w : World) (ρ : Operand → Value) : List Operand → Prop
  | [] => True
  | .tmp s :: l => (slotTy E s).holds w (ρ (.tmp s)) ∧ SlotsHold E w ρ l
  | .const _ :: l => SlotsHold E w ρ l
  | .global _ :: l => SlotsHold E w ρ l
  | .func _ :: l => SlotsHold E w ρ l
theorem SlotsHold.of {E : List (Nat × STy)} {w : World} {ρ : Operand → Value} : ∀ {l : List Operand}, (∀ s, .tmp s ∈ l → (slotTy E s).holds w (ρ (.tmp s))) → SlotsHold E w ρ l
  | [], _ => trivial
  | .tmp s :: l, h => ⟨h s (by simp), SlotsHold.of (l := l) fun t ht => h t (List.mem_cons_of_mem _ ht)⟩
  | .const _ :: l, h => SlotsHold.of (l := l) fun t ht => h t (List.mem_cons_of_mem _ ht)
  | .global _ :: l, h => SlotsHold.of (l := l) fun t ht => h t (List.mem_cons_of_mem _ ht)
  | .func _ :: l, h => SlotsHold.of (l := l) fun t ht => h t (List.mem_cons_of_mem _ ht)
theorem SlotsHold.at_ {E : List (Nat × STy)} {w : World} {ρ : Operand → Value} : ∀ {l : List Operand} {s : Nat}, SlotsHold E w ρ l → .tmp s ∈ l → (slotTy E s).holds w (ρ (.tmp s))
  | [], _, _, h => by cases h
  | x :: l, s, hs, hm => by
    rcases List.mem_cons.1 hm with rfl | hm
    · exact hs.1
    · refine SlotsHold.at_ (w := w) (l := l) ?_ hm
      cases x with
      | tmp s => exact hs.2
      | const c => exact hs
      | global g => exact hs
      | func f => exact hs
/-- The operation runs to its end, and yields what K says. -/
def Yields (P : Program) (o : Oper) (ρ : Operand → Value) (w : World) (K : Value → World → Prop) : Prop :=
  match (execOp ρ o).run P w with
  | .ok (.value v) w' => K v w'
  | .ok (.enter f args) w' => Calls P f args w' fun e w'' => ∃ v, e = .returned v ∧ K v w''
  | _ => False
theorem Yields.wp {P : Program} {o : Oper} {a : Act} {w : World} {K : Value → World → Prop} {Q : Exit → Act → World → Prop} (h : Yields P o a.eval w K) : o.wp P a w (fun a' w' => ∃ v, a' = a.put o.dst v ∧ K v w') Q := by
  unfold Yields at h
  unfold Oper.wp
  generalize (execOp a.eval o).run P w = r at *
  split at h
  · exact ⟨_, rfl, h⟩
  · refine Calls.mono h ?_
    rintro e w'' ⟨v, rfl, hk⟩
    exact ⟨v, rfl, hk⟩
  · exact h.elim
def dstD (o : Oper) : Nat := o.dst.getD 0
/-- The operation keeps the types. -/
def OpStep (P : Program) (E : List (Nat × STy)) (w0 : World) (o : Oper) : Prop :=
  ∀ (ρ : Operand → Value) (w : World), (∀ c, ρ (.const c) = c) → (∀ f, ρ (.func f) = .func (.func f) #[] #[]) → Below w0.heap.size w0 w → SlotsHold E w ρ o.op.operands.toList →
    Yields P o ρ w fun v w' => (slotTy E (dstD o)).holds w' v ∧ Below w.heap.size w w'
def OpSteps (P : Program) (E : List (Nat × STy)) (w0 : World) : List Oper → Prop
  | [] => True
  | o :: l => OpStep P E w0 o ∧ OpSteps P E w0 l
theorem OpSteps.mem {P : Program} {E : List (Nat × STy)} {w0 : World} : ∀ {l : List Oper}, OpSteps P E w0 l → ∀ o ∈ l, OpStep P E w0 o
  | [], _, _, h => by cases h
  | _ :: _, h, o, ho => by
    rcases List.mem_cons.1 ho with rfl | ho
    · exact h.1
    · exact h.2.mem o ho
def GuardsHold (E : List (Nat × STy)) : List (Nat × Bool) → Prop
  | [] => True
  | (d, b) :: l => (∀ w v, (slotTy E d).holds w v → v = .bool b) ∧ GuardsHold E l
theorem OpSteps.cons {P : Program} {E : List (Nat × STy)} {w0 : World} {o : Oper} {l : List Oper} (h : OpStep P E w0 o) (t : OpSteps P E w0 l) : OpSteps P E w0 (o :: l) := ⟨h, t⟩
theorem OpSteps.nil {P : Program} {E : List (Nat × STy)} {w0 : World} : OpSteps P E w0 [] := trivial
theorem GuardsHold.mem {E : List (Nat × STy)} : ∀ {l : List (Nat × Bool)}, GuardsHold E l → ∀ p ∈ l, ∀ w v, (slotTy E p.1).holds w v → v = .bool p.2
  | [], _, _, h => by cases h
  | _ :: _, h, p, hp => by
    rcases List.mem_cons.1 hp with rfl | hp
    · exact h.1
    · exact h.2.mem p hp
def StartHold (E : List (Nat × STy)) (w : World) (a : Act) : List Nat → Prop
  | [] => True
  | s :: l => (slotTy E s).holds w (a.tmps.getD s undef) ∧ StartHold E w a l
theorem StartHold.mem {E : List (Nat × STy)} {w : World} {a : Act} : ∀ {l : List Nat}, StartHold E w a l → ∀ s ∈ l, (slotTy E s).holds w (a.tmps.getD s undef)
  | [], _, _, h => by cases h
  | _ :: _, h, p, hp => by
    rcases List.mem_cons.1 hp with rfl | hp
    · exact h.1
    · exact h.2.mem p hp
def distinctB : List Nat → Bool
  | [] => true
  | a :: l => !l.elem a && distinctB l
/-- What is asked of the region's text: each operation has a slot of its own, reads slots that are there from the start or of operations that it waits for, and waits for earlier ones alone. -/
def regionOpB (ops : Array Oper) (start : List Nat) (gs : List (Nat × Bool)) (n i : Nat) (o : Oper) : Bool :=
  (match o.dst with | some d => Nat.blt d n && !start.elem d | none => false) &&
  (o.op.operands.toList.all fun | .tmp s => start.elem s || o.after.toList.any (fun e => Region.binds .any e && ((ops[e.on]?).bind (·.dst) == some s)) | _ => true) &&
  (match o.guard with | none => true | some (g, want) => (match (ops[g]?).bind (·.dst) with | some d => gs.elem (d, want) | none => false) && o.after.toList.any (fun e => Region.binds .any e && Nat.beq e.on g)) &&
  (o.after.toList.all fun e => !Region.binds .any e || Nat.blt e.on i)
def putAll (a : Act) (v : Nat → Value) : List Nat → Act
  | [] => a
  | d :: l => putAll (a.put (some d) (v d)) v l
theorem putAll_size (v : Nat → Value) : ∀ (l : List Nat) (a : Act), (putAll a v l).tmps.size = a.tmps.size
  | [], _ => rfl
  | d :: l, a => by rw [putAll, putAll_size v l]; simp [Act.put]
theorem putAll_defers (v : Nat → Value) : ∀ (l : List Nat) (a : Act), (putAll a v l).defers = a.defers
  | [], _ => rfl
  | d :: l, a => by rw [putAll, putAll_defers v l]; rfl
theorem put_getD (a : Act) (d s : Nat) (v : Value) (hd : d < a.tmps.size) : (a.put (some d) v).tmps.getD s undef = if s = d then v else a.tmps.getD s undef := by
  simp only [Act.put, Array.getD_eq_getD_getElem?]
  by_cases h : s = d
  · subst h
    rw [if_pos rfl, Array.getElem?_setIfInBounds_self_of_lt hd]; rfl
  · rw [if_neg h, Array.getElem?_setIfInBounds_ne (Ne.symm h)]
theorem putAll_in (v : Nat → Value) : ∀ (l : List Nat) (a : Act) (s : Nat), (∀ d ∈ l, d < a.tmps.size) → (s ∈ l ∨ a.tmps.getD s undef = v s) → (putAll a v l).tmps.getD s undef = v s
  | [], a, s, _, h => by
    rcases h with h | h
    · cases h
    · exact h
  | d :: l, a, s, hd, h => by
    rw [putAll]
    have hd0 := hd d (by simp)
    refine putAll_in v l _ s (fun e he => by simp [Act.put]; exact hd e (List.mem_cons_of_mem _ he)) ?_
    rw [put_getD _ _ _ _ hd0]
    by_cases hs : s = d
    · subst hs; exact .inr (if_pos rfl)
    · rw [if_neg hs]
      rcases h with h | h
      · rcases List.mem_cons.1 h with h | h
        · exact absurd h hs
        · exact .inl h
      · exact .inr h
theorem putAll_out (v : Nat → Value) : ∀ (l : List Nat) (a : Act) (s : Nat), (∀ d ∈ l, d < a.tmps.size) → s ∉ l → (putAll a v l).tmps.getD s undef = a.tmps.getD s undef
  | [], _, _, _, _ => rfl
  | d :: l, a, s, hd, h => by
    have hd0 := hd d (by simp)
    rw [putAll, putAll_out v l _ s (fun e he => by simp [Act.put]; exact hd e (List.mem_cons_of_mem _ he)) (fun hm => h (List.mem_cons_of_mem _ hm)), put_getD _ _ _ _ hd0, if_neg]
    rintro rfl
    exact h (by simp)
theorem act_ext {a b : Act} (hs : a.tmps.size = b.tmps.size) (hd : a.defers = b.defers) (h : ∀ s, a.tmps.getD s undef = b.tmps.getD s undef) : a = b := by
  obtain ⟨ta, da⟩ := a
  obtain ⟨tb, db⟩ := b
  simp only at hs hd h
  subst hd
  have : ta = tb := by
    apply Array.ext hs
    intro i h1 h2
    have := h i
    simpa [Array.getD_eq_getD_getElem?, h1, h2] using this
  rw [this]
def openN : List Bool → Nat
  | [] => 0
  | true :: l => openN l
  | false :: l => openN l + 1
theorem openN_set : ∀ (l : List Bool) (i : Nat), l[i]? = some false → openN (l.set i true) + 1 = openN l
  | [], _, h => by simp at h
  | b :: l, 0, h => by
    simp at h
    subst h
    simp [openN]
  | b :: l, i + 1, h => by
    have := openN_set l i (by simpa using h)
    cases b <;> simp [openN] <;> omega
theorem openN_pos : ∀ (l : List Bool) (i : Nat), l[i]? = some false → 0 < openN l
  | [], _, h => by simp at h
  | b :: l, 0, h => by
    simp at h
    subst h
    simp [openN]
  | b :: l, i + 1, h => by
    have := openN_pos l i (by simpa using h)
    cases b <;> simp [openN]
    exact this
section
variable {P : Program} {ops : Array Oper} {Q : Exit → Act → World → Prop} {E : List (Nat × STy)} {w0 : World} {a0 : Act} {start : List Nat} {gs : List (Nat × Bool)} {n : Nat}
theorem distinctB_ne : ∀ {l : List Nat}, distinctB l = true → ∀ (i j : Nat) (x : Nat), l[i]? = some x → l[j]? = some x → i = j
  | [], _, i, _, _, hi, _ => by simp at hi
  | a :: l, h, i, j, x, hi, hj => by
    simp only [distinctB, Bool.and_eq_true, Bool.not_eq_true', List.elem_eq_mem, decide_eq_false_iff_not] at h
    rcases i with _ | i <;> rcases j with _ | j
    · rfl
    · simp at hi hj
      subst hi
      exact absurd (List.mem_of_getElem? hj) h.1
    · simp at hi hj
      subst hj
      exact absurd (List.mem_of_getElem? hi) h.1
    · rw [distinctB_ne h.2 i j x (by simpa using hi) (by simpa using hj)]
/-- What the slots hold behind the region. -/
def OpsHold (E : List (Nat × STy)) (w : World) (v : Nat → Value) : List Oper → Prop
  | [] => True
  | o :: l => (slotTy E (dstD o)).holds w (v (dstD o)) ∧ OpsHold E w v l
theorem OpsHold.of {w : World} {v : Nat → Value} : ∀ {l : List Oper}, (∀ o ∈ l, (slotTy E (dstD o)).holds w (v (dstD o))) → OpsHold E w v l
  | [], _ => trivial
  | o :: l, h => ⟨h o (by simp), OpsHold.of (l := l) fun t ht => h t (List.mem_cons_of_mem _ ht)⟩
theorem openN_rep (k : Nat) : openN (List.replicate k false) ≤ k := by
  induction k with
  | zero => simp [openN]
  | succ k ih => simp only [List.replicate_succ, openN]; omega
end
end Go.Proofs.Ytkjojpeamabdmaa
/- A region that draws its order and ends in one operation that waits for all others (a store): the others walked once whatever the order is, then that one. No program stands in it. -/
namespace Go.Proofs.Ytkjojpeamabdmaa
open Go Go.RowKit
section
variable {P : Program} {ops : Array Oper} {Q : Exit → Act → World → Prop} {E : List (Nat × STy)} {w0 : World} {a0 : Act} {start : List Nat} {gs : List (Nat × Bool)} {n m : Nat} {t : Oper}
end
end Go.Proofs.Ytkjojpeamabdmaa
/- A region that draws its order, some operations of which are not wanted (their guard says so), and which ends in operations that wait one for the other (stores): the others walked once whatever the order is, then those. No program stands in it. -/
namespace Go.Proofs.Ytkjojpeamabdmaa
open Go Go.RowKit
/-- Is the operation wanted, the guards being as gs says? -/
def runsB (ops : Array Oper) (gs : List (Nat × Bool)) (o : Oper) : Bool := match o.guard with
  | none => true
  | some (g, want) => match (ops[g]?).bind (·.dst) with | some d => gs.elem (d, want) | none => false
def OpStepsG (P : Program) (ops : Array Oper) (gs : List (Nat × Bool)) (E : List (Nat × STy)) (w0 : World) : List Oper → Prop
  | [] => True
  | o :: l => (runsB ops gs o = true → OpStep P E w0 o) ∧ OpStepsG P ops gs E w0 l
section
variable {P : Program} {ops : Array Oper} {gs : List (Nat × Bool)} {E : List (Nat × STy)} {w0 : World}
theorem OpStepsG.nil : OpStepsG P ops gs E w0 [] := trivial
theorem OpStepsG.run {o : Oper} {l : List Oper} (h : OpStep P E w0 o) (t : OpStepsG P ops gs E w0 l) : OpStepsG P ops gs E w0 (o :: l) := ⟨fun _ => h, t⟩
theorem OpStepsG.skip {o : Oper} {l : List Oper} (h : runsB ops gs o = false) (t : OpStepsG P ops gs E w0 l) : OpStepsG P ops gs E w0 (o :: l) := ⟨(fun h' => by rw [h] at h'; cases h'), t⟩
theorem OpStepsG.mem : ∀ {l : List Oper}, OpStepsG P ops gs E w0 l → ∀ o ∈ l, runsB ops gs o = true → OpStep P E w0 o
  | [], _, _, h => by cases h
  | _ :: _, h, o, ho => by
    rcases List.mem_cons.1 ho with rfl | ho
    · exact h.1
    · exact OpStepsG.mem h.2 o ho
end
/-- Slots of operations that are not wanted and are guards themselves: nothing lies there. -/
def UndefHold (E : List (Nat × STy)) : List Nat → Prop
  | [] => True
  | d :: l => slotTy E d = STy.is undef ∧ UndefHold E l
theorem UndefHold.mem {E : List (Nat × STy)} : ∀ {l : List Nat}, UndefHold E l → ∀ d ∈ l, slotTy E d = STy.is undef
  | [], _, _, h => by cases h
  | _ :: _, h, d, hd => by
    rcases List.mem_cons.1 hd with rfl | hd
    · exact h.1
    · exact h.2.mem d hd
/-- What is asked of the text of one of the first operations: as regionOpB, but a guard may also say that it is not wanted: then its slot has no type, or is told to hold nothing (us). -/
def frontOpU (ops : Array Oper) (keys start : List Nat) (gs : List (Nat × Bool)) (us : List Nat) (n i : Nat) (o : Oper) : Bool :=
  (match o.dst with | some d => Nat.blt d n && !start.elem d | none => false) &&
  (o.op.operands.toList.all fun | .tmp s => !keys.elem s || start.elem s || o.after.toList.any (fun e => Region.binds .any e && ((ops[e.on]?).bind (·.dst) == some s)) | _ => true) &&
  (match o.guard with | none => true | some (g, want) => (match (ops[g]?).bind (·.dst) with | some d => gs.elem (d, want) || ((gs.elem (d, !want) || us.elem d) && (!keys.elem (dstD o) || us.elem (dstD o))) | none => false) && o.after.toList.any (fun e => Region.binds .any e && Nat.beq e.on g)) &&
  (o.after.toList.all fun e => !Region.binds .any e || Nat.blt e.on i)
def waitsB (ops : Array Oper) (j i : Nat) : Bool := match ops[j]? with | some o => o.after.toList.any (fun e => Region.binds .any e && Nat.beq e.on i) | none => false
/-- The first m operations as in frontOpB, each waited for by a later one of them or by the m-th; from the m-th on each waits for the one ahead, and none has a guard. -/
def chainU (ops : Array Oper) (keys start : List Nat) (gs : List (Nat × Bool)) (us : List Nat) (n m : Nat) : Bool :=
  ((List.range m).all fun i => match ops[i]? with | some o => frontOpU ops keys start gs us n i o && (List.range (m + 1)).any (fun j => Nat.blt i j && waitsB ops j i) | none => false) && distinctB ((ops.toList.take m).map dstD) &&
  ((List.range ops.size).all fun j => Nat.blt j m || ((match ops[j]? with | some o => (match o.guard with | none => true | some _ => false) && (o.after.toList.all fun e => !Region.binds .any e || Nat.blt e.on j) | none => false) && (Nat.beq j m || waitsB ops j (j - 1)))) &&
  Nat.ble m ops.size && (Nat.blt m ops.size || Nat.beq m ops.size)
def frontOpB (ops : Array Oper) (keys start : List Nat) (gs : List (Nat × Bool)) (n i : Nat) (o : Oper) : Bool := frontOpU ops keys start gs [] n i o
/-- Each allocation among the operations yields the next block. -/
def AllocsOk (P : Program) : List Oper → Prop
  | [] => True
  | o :: l => (∀ T, o.op = .alloc T → ∀ (ρ : Operand → Value) (w : World), ∃ w', (execOp ρ o).run P w = .ok (.value (.pointer (some ⟨w.heap.size, 0, none⟩))) w' ∧ w.heap.size < w'.heap.size) ∧ AllocsOk P l
theorem AllocsOk.nil {P : Program} : AllocsOk P [] := trivial
theorem AllocsOk.cons {P : Program} {o : Oper} {l : List Oper} (h : ∀ T, o.op = .alloc T → ∀ (ρ : Operand → Value) (w : World), ∃ w', (execOp ρ o).run P w = .ok (.value (.pointer (some ⟨w.heap.size, 0, none⟩))) w' ∧ w.heap.size < w'.heap.size) (t : AllocsOk P l) : AllocsOk P (o :: l) := ⟨h, t⟩
theorem AllocsOk.mem {P : Program} : ∀ {l : List Oper}, AllocsOk P l → ∀ o ∈ l, ∀ T, o.op = .alloc T → ∀ (ρ : Operand → Value) (w : World), ∃ w', (execOp ρ o).run P w = .ok (.value (.pointer (some ⟨w.heap.size, 0, none⟩))) w' ∧ w.heap.size < w'.heap.size
  | [], _, _, h => by cases h
  | _ :: _, h, o, ho => by
    rcases List.mem_cons.1 ho with rfl | ho
    · exact h.1
    · exact AllocsOk.mem h.2 o ho
/-- What an allocation yields, beside what it was shown to. -/
theorem Yields.alloc {P : Program} {o : Oper} {ρ : Operand → Value} {w w1 : World} {K : Value → World → Prop} (h : Yields P o ρ w K) (hr : (execOp ρ o).run P w = .ok (.value (.pointer (some ⟨w.heap.size, 0, none⟩))) w1) (hz : w.heap.size < w1.heap.size) :
    Yields P o ρ w fun v w' => K v w' ∧ v = .pointer (some ⟨w.heap.size, 0, none⟩) ∧ w.heap.size < w'.heap.size := by
  unfold Yields at *
  rw [hr] at h ⊢
  exact ⟨h, rfl, hz⟩
section
variable {P : Program} {ops : Array Oper} {Q : Exit → Act → World → Prop} {E : List (Nat × STy)} {w0 : World} {a0 : Act} {start : List Nat} {gs : List (Nat × Bool)} {us : List Nat} {n m : Nat}
theorem waitsB_spec {j i : Nat} (h : waitsB ops j i = true) : ∃ o, ops[j]? = some o ∧ ∃ e ∈ o.after.toList, Region.binds .any e = true ∧ e.on = i := by
  unfold waitsB at h
  split at h
  · rename_i o ho
    simp only [List.any_eq_true, Bool.and_eq_true] at h
    obtain ⟨e, he, hb, hi⟩ := h
    exact ⟨o, ho, e, he, hb, Nat.eq_of_beq_eq_true hi⟩
  · cases h
theorem ready_spec {listed : Array Bool} {i : Nat} (hl : listed.size = ops.size) (hi : i ∈ Region.ready .any ops listed) : i < ops.size ∧ listed.getD i true = false ∧ ∀ o, ops[i]? = some o → ∀ e ∈ o.after.toList, Region.binds .any e = true → listed.getD e.on false = true := by
  unfold Region.ready at hi
  simp only [List.mem_filter, List.mem_range, Bool.and_eq_true, Bool.not_eq_true'] at hi
  obtain ⟨hlt, hl', haf⟩ := hi
  refine ⟨hlt, hl', fun o ho e he hb => ?_⟩
  rw [ho] at haf
  simp only [Option.map_some, Option.getD_some] at haf
  rw [← Array.all_toList] at haf
  simp only [List.all_eq_true, Bool.or_eq_true, Bool.not_eq_true'] at haf
  rcases haf e he with h | h
  · rw [hb] at h; cases h
  · exact h
theorem ready_of {listed : Array Bool} {i : Nat} {o : Oper} (ho : ops[i]? = some o) (hl : listed.getD i true = false) (h : ∀ e ∈ o.after.toList, Region.binds .any e = true → listed.getD e.on false = true) : i ∈ Region.ready .any ops listed := by
  unfold Region.ready
  simp only [List.mem_filter, List.mem_range, (Array.getElem?_eq_some_iff.1 ho).1, true_and, Bool.and_eq_true, Bool.not_eq_true', ho, Option.map_some, Option.getD_some]
  refine ⟨hl, ?_⟩
  rw [← Array.all_toList]
  simp only [List.all_eq_true]
  intro e he
  cases hb : Region.binds .any e with
  | false => rfl
  | true => exact h e he hb
theorem getD_tf {listed : Array Bool} {i : Nat} (hi : i < listed.size) (h : listed.getD i true = true) : listed.getD i false = true := by simpa [Array.getD_eq_getD_getElem?, hi] using h
theorem getD_ff {listed : Array Bool} {i : Nat} (h : listed.getD i true = false) : listed.getD i false = false := by
  rcases Nat.lt_or_ge i listed.size with h' | h'
  · simpa [Array.getD_eq_getD_getElem?, h'] using h
  · simp [Array.getD_eq_getD_getElem?, Array.getElem?_eq_none h']
theorem getD_ne {listed : Array Bool} {i j : Nat} {b : Bool} (h : j ≠ i) : (listed.setIfInBounds i true).getD j b = listed.getD j b := by
  rw [Array.getD_eq_getD_getElem?, Array.getElem?_setIfInBounds_ne (Ne.symm h), ← Array.getD_eq_getD_getElem?]
theorem getD_eq {listed : Array Bool} {i : Nat} (h : i < listed.size) : (listed.setIfInBounds i true).getD i false = true := by
  rw [Array.getD_eq_getD_getElem?, Array.getElem?_setIfInBounds_self_of_lt h]; rfl
theorem openN_at {listed : Array Bool} {i : Nat} (hi : i < listed.size) (h : listed.getD i true = false) : listed.toList[i]? = some false := by
  rw [Array.getElem?_toList]
  simpa [Array.getD_eq_getD_getElem?, hi] using h
/-- The tail: all ahead of place k listed, none from k on. -/
theorem wpAny_chain (hch : ∀ j, m ≤ j → j < ops.size → ∃ o, ops[j]? = some o ∧ (∀ e ∈ o.after.toList, Region.binds .any e = true → e.on < j) ∧ (j = m ∨ waitsB ops j (j - 1) = true)) :
    ∀ (fuel k : Nat) (listed : Array Bool) (a : Act) (w : World), m ≤ k → k ≤ ops.size → listed.size = ops.size → (∀ i, i < k → listed.getD i false = true) → (∀ i, k ≤ i → i < ops.size → listed.getD i true = false) → openN listed.toList ≤ fuel →
      wpList P ops Q (ops.toList.drop k) a w → wpAny P .any ops Q fuel listed a w := by
  intro fuel
  induction fuel with
  | zero =>
    intro k listed a w hmk hk hl h1 h2 hf hw
    rcases Nat.lt_or_ge k ops.size with hlt | hge
    · have := openN_pos _ _ (openN_at (by omega) (h2 k (Nat.le_refl _) hlt))
      omega
    · have hk' : k = ops.size := by omega
      have hr : Region.ready .any ops listed = [] := by
        refine List.eq_nil_iff_forall_not_mem.2 fun i hi => ?_
        obtain ⟨hi1, hi2, _⟩ := ready_spec hl hi
        have := h1 i (by omega)
        rw [getD_ff hi2] at this
        cases this
      rw [hk', List.drop_of_length_le (by simp)] at hw
      exact ⟨hr, hw⟩
  | succ fuel ih =>
    intro k listed a w hmk hk hl h1 h2 hf hw
    have hfar : ∀ i, i ∈ Region.ready .any ops listed → i = k := by
      intro i hi
      obtain ⟨hi1, hi2, hi3⟩ := ready_spec hl hi
      rcases Nat.lt_trichotomy i k with h | h | h
      · have := h1 i h
        rw [getD_ff hi2] at this
        cases this
      · exact h
      · obtain ⟨o, ho, _, hor⟩ := hch i (by omega) hi1
        rcases hor with h' | h'
        · omega
        · obtain ⟨o', ho', e, he, hb, hon⟩ := waitsB_spec h'
          have := hi3 o' ho' e he hb
          rw [hon, getD_ff (h2 (i - 1) (by omega) (by omega))] at this
          cases this
    rcases Nat.lt_or_ge k ops.size with hlt | hge
    · obtain ⟨o, ho, haf, _⟩ := hch k hmk hlt
      have hin := ready_of ho (h2 k (Nat.le_refl _) hlt) (fun e he hb => h1 _ (haf e he hb))
      refine ⟨(fun hr => by rw [hr] at hin; cases hin), fun i hi => ?_⟩
      obtain rfl := hfar i hi
      have hd : ops.toList.drop i = o :: ops.toList.drop (i + 1) := by
        rw [List.drop_eq_getElem_cons (by simpa using hlt)]
        congr 1
        have : ops.toList[i]? = some o := by rw [Array.getElem?_toList]; exact ho
        rw [List.getElem?_eq_getElem (by simpa using hlt)] at this
        injection this
      rw [hd] at hw
      have hnext : ∀ a' w', wpList P ops Q (ops.toList.drop (i + 1)) a' w' → wpAny P .any ops Q fuel (listed.setIfInBounds i true) a' w' := by
        intro a' w' h'
        refine ih (i + 1) _ a' w' (by omega) (by omega) (by simp [hl]) (fun j hj => ?_) (fun j hj hj' => ?_) ?_ h'
        · by_cases hji : j = i
          · subst hji; exact getD_eq (by omega)
          · rw [getD_ne hji]; exact h1 j (by omega)
        · rw [getD_ne (by omega)]; exact h2 j (by omega) hj'
        · have := openN_set _ _ (openN_at (by omega) (h2 i (Nat.le_refl _) hlt))
          rw [Array.toList_setIfInBounds]
          omega
      unfold wpOp
      simp only [ho]
      unfold wpList at hw
      split at hw
      · rw [if_pos ‹_›]
        rcases hw with h | h
        · exact .inl (Oper.wp_mono hnext h)
        · exact .inr h
      · rw [if_neg ‹_›]
        exact hnext _ _ hw
    · have hk' : k = ops.size := by omega
      rw [hk', List.drop_of_length_le (by simp)] at hw
      refine ⟨fun _ => hw, fun i hi => ?_⟩
      have := hfar i hi
      have := (ready_spec hl hi).1
      omega
/-- The blocks that were allocated differ from one another. -/
def ApartV (l : List Oper) (v : Nat → Value) : Prop := ∀ (i j : Nat) (o o' : Oper) (T T' : TypeId), i ≠ j → l[i]? = some o → l[j]? = some o' → o.op = .alloc T → o'.op = .alloc T' → o.guard = none → o'.guard = none → v (dstD o) ≠ v (dstD o')
theorem mem_frontG {o : Oper} : o ∈ ops.toList.take m ↔ ∃ i, i < m ∧ ops[i]? = some o := by
  rw [List.mem_iff_getElem?]
  constructor
  · rintro ⟨i, hi⟩
    rw [List.getElem?_take] at hi
    split at hi
    · rename_i h; exact ⟨i, h, by rw [← Array.getElem?_toList]; exact hi⟩
    · cases hi
  · rintro ⟨i, h, hi⟩
    exact ⟨i, by rw [List.getElem?_take, if_pos h, Array.getElem?_toList]; exact hi⟩
end
end Go.Proofs.Ytkjojpeamabdmaa
/- A region in its written order, its first operations walked by types of the slots, as in Typed: one text for regions that draw their order and for those that do not. No program stands in it. -/
namespace Go.Proofs.Ytkjojpeamabdmaa
open Go Go.RowKit
section
variable {P : Program} {ops : Array Oper} {Q : Exit → Act → World → Prop} {E : List (Nat × STy)} {w0 : World} {a0 : Act} {start : List Nat} {gs : List (Nat × Bool)} {us : List Nat} {n m : Nat}
end
/-- What an operand holds. -/
def OpIs (E : List (Nat × STy)) : Operand → Value → Prop
  | .tmp s, v => ∀ w u, (slotTy E s).holds w u → u = v
  | .const c, v => c = v
  | _, _ => False
theorem OpIs.at_ {E : List (Nat × STy)} {w : World} {ρ : Operand → Value} (hc : ∀ c, ρ (.const c) = c) {l : List Operand} {o : Operand} {v : Value} (hs : SlotsHold E w ρ l) (hm : o ∈ l) (ho : OpIs E o v) : ρ o = v := by
  cases o with
  | tmp s => exact ho _ _ (hs.at_ hm)
  | const c => rw [hc]; exact ho
  | global g => exact ho.elim
  | func f => exact ho.elim
/-- What an operand holds, of a value and the memory. -/
def OpHas (E : List (Nat × STy)) : Operand → (World → Value → Prop) → Prop
  | .tmp s, T => ∀ w u, (slotTy E s).holds w u → T w u
  | .const c, T => ∀ w, T w c
  | _, _ => False
theorem OpHas.at_ {E : List (Nat × STy)} {w : World} {ρ : Operand → Value} (hc : ∀ c, ρ (.const c) = c) {l : List Operand} {o : Operand} {T : World → Value → Prop} (hs : SlotsHold E w ρ l) (hm : o ∈ l) (ho : OpHas E o T) : T w (ρ o) := by
  cases o with
  | tmp s => exact ho _ _ (hs.at_ hm)
  | const c => rw [hc]; exact ho w
  | global g => exact ho.elim
  | func f => exact ho.elim
def Enters (P : Program) (f : Nat) : Prop := ∀ (args : Array Value) (w : World), (callFunc f args).run P w = .ok (.enter f args) w
section
variable {P : Program} {E : List (Nat × STy)} {w0 : World} {d f : Nat} {ty : TypeId} {pos : String} {af : Array Edge} {gd : Option (Nat × Bool)} {o0 o1 o2 o3 : Operand} {ats : Array TypeId} {T0 T1 T2 T3 : World → Value → Prop}
end
/-- A natural of value N in half limbs, trimmed, at most so many. -/
def STy.half (N : Int) (L : Nat) : STy := ⟨fun w v => ∃ A n c xs, v = .slice A n c ∧ Sl .i64 w w.heap.size A n c xs ∧ Row 65536 N xs ∧ n ≤ L, fun ⟨A, n, c, xs, e, h, r, hl⟩ hb => ⟨A, n, c, xs, e, (h.below hb (Nat.le_refl _)).more hb.size, r, hl⟩⟩
section
variable {E : List (Nat × STy)} {w0 : World} {d : Nat} {ty : TypeId} {pos : String} {af : Array Edge} {gd : Option (Nat × Bool)}
end
end Go.Proofs.Ytkjojpeamabdmaa
/- Steps of drawn regions: choices by && and ||, comparisons, parts of a tuple, strings; and of reference numbers' boxes. -/
namespace Go.Proofs.Ytkjojpeamabdmaa
open Go Go.RowKit
section
variable {E : List (Nat × STy)} {w0 : World} {d : Nat} {ty : TypeId} {pos : String} {af : Array Edge} {gd : Option (Nat × Bool)}
end
/-- A row of n elements of sz cells each, below block B, whose cells read as vs. -/
def SlV (sz : Nat) (w : World) (B : Nat) (A : Option Addr) (n c : Nat) (vs : List Value) : Prop :=
  vs.length = n * sz ∧ n ≤ c ∧ c ≤ maxLen ∧ (A = none → c = 0) ∧
    (0 < n → ∃ b off, A = some ⟨b, off, none⟩ ∧ b < B ∧ ∀ j u, vs[j]? = some u → w.cell? ⟨b, off + j, none⟩ = some u)
section
variable {sz : Nat} {w w' : World} {B B' : Nat} {A : Option Addr} {n c : Nat} {vs : List Value}
theorem SlV.keep (h : SlV sz w B A n c vs) (hk : ∀ p : Addr, p.block < B → w'.cell? p = w.cell? p) : SlV sz w' B A n c vs := by
  refine ⟨h.1, h.2.1, h.2.2.1, h.2.2.2.1, fun hn => ?_⟩
  obtain ⟨b, off, hA, hb, hc⟩ := h.2.2.2.2 hn
  exact ⟨b, off, hA, hb, fun j x hx => (hk _ hb).trans (hc j x hx)⟩
theorem SlV.more (h : SlV sz w B A n c vs) (hB : B ≤ B') : SlV sz w B' A n c vs := by
  refine ⟨h.1, h.2.1, h.2.2.1, h.2.2.2.1, fun hn => ?_⟩
  obtain ⟨b, off, hA, hb, hc⟩ := h.2.2.2.2 hn
  exact ⟨b, off, hA, by omega, hc⟩
theorem SlV.below (h : SlV sz w B A n c vs) (hb : Below B' w w') (hB : B ≤ B') : SlV sz w' B A n c vs := h.keep fun _ hp => hb.cell (by omega)
theorem SlV.nil : SlV sz w B none 0 0 [] := ⟨by simp, Nat.le_refl _, Nat.zero_le _, fun _ => rfl, fun h => absurd h (by omega)⟩
end
/-- A row of n elements of sz cells each, of the call's own, from block B on. -/
def OwnV (sz : Nat) (e : TypeId) (w : World) (B : Nat) (A : Option Addr) (n c : Nat) (vs : List Value) : Prop := w.ownsRow B e sz (.slice A n c) n vs
section
variable {sz : Nat} {e : TypeId} {w w' : World} {B B' : Nat} {A : Option Addr} {n c : Nat} {vs : List Value}
theorem OwnV.nil : OwnV sz e w B none 0 0 [] := World.ownsRow_nil _ _ _ _
theorem OwnV.len (h : OwnV sz e w B A n c vs) : vs.length = n * sz := h.1
theorem OwnV.form (h : OwnV sz e w B A n c vs) : (A = none ∧ n = 0 ∧ c = 0) ∨ ∃ g, A = some ⟨g, 0, none⟩ ∧ B ≤ g ∧ g < w.heap.size := by
  rcases h.2 with ⟨hv, h0⟩ | ⟨g, cap, cur, hv, hb, hg, _⟩
  · injection hv with h1 h2 h3
    exact .inl ⟨h1, h0, h3⟩
  · injection hv with h1 h2 h3
    refine .inr ⟨g, h1, hb, ?_⟩
    rcases Nat.lt_or_ge g w.heap.size with hlt | hge
    · exact hlt
    · rw [Array.getElem?_eq_none hge] at hg; cases hg
theorem OwnV.blk_ (h : OwnV sz e w B A n c vs) : ∀ g, blk A = some g → B ≤ g ∧ g < w.heap.size := by
  intro g hg
  rcases h.form with ⟨rfl, _⟩ | ⟨g', rfl, h1, h2⟩
  · cases hg
  · have : g' = g := by simpa [blk] using hg
    subst this
    exact ⟨h1, h2⟩
theorem OwnV.cap (h : OwnV sz e w B A n c vs) : n ≤ c ∧ c ≤ maxLen := by
  rcases h.2 with ⟨hv, h0⟩ | ⟨g, cap, cur, hv, hb, hg, h1, h2, _⟩
  · injection hv with h1 h2 h3
    subst h3; subst h0
    exact ⟨Nat.le_refl _, Nat.zero_le _⟩
  · injection hv with h3 h4 h5
    subst h5
    exact ⟨h1, h2⟩
theorem OwnV.sl (h : OwnV sz e w B A n c vs) : SlV sz w w.heap.size A n c vs := by
  refine ⟨h.len, h.cap.1, h.cap.2, fun hA => ?_, fun hn => ?_⟩
  · rcases h.form with ⟨_, _, h0⟩ | ⟨g, rfl, _⟩
    · exact h0
    · cases hA
  · rcases h.form with ⟨_, h0, _⟩ | ⟨g, rfl, h1, h2⟩
    · omega
    · refine ⟨g, 0, rfl, h2, fun j x hx => ?_⟩
      have := World.ownsRow.cells h (g := g) rfl j x hx
      rwa [Addr.add_lit] at this
theorem OwnV.keep (h : OwnV sz e w B A n c vs) {row : Option Nat} (hg : w.grownBy w' row) (hne : blk A = none ∨ blk A ≠ row) : OwnV sz e w' B A n c vs :=
  World.ownsRow.kept h hg (by rw [ownBlock_slice]; exact hne)
theorem OwnV.below (h : OwnV sz e w B A n c vs) (hb : Below w.heap.size w w') : OwnV sz e w' B A n c vs :=
  h.keep (row := none) ⟨hb.os, hb.tape, hb.output, hb.size, fun i hi _ => hb.block i hi⟩ (by cases hA : blk A <;> simp)
theorem OwnV.alloc (h : OwnV sz e w B A n c vs) (o : Obj) : OwnV sz e (w.alloc o) B A n c vs := World.ownsRow.alloc h o
theorem OwnV.far (h : OwnV sz e w B A n c vs) {r : Nat} (hr : r < B) : blk A = none ∨ blk A ≠ some r := by
  rcases h.form with ⟨h, _⟩ | ⟨g, h, hg, _⟩
  · exact .inl (by rw [h]; rfl)
  · exact .inr (by rw [h]; intro h; simp [blk] at h; omega)
theorem OwnV.lower (h : OwnV sz e w B A n c vs) (hB : B' ≤ B) : OwnV sz e w B' A n c vs := by
  refine ⟨h.1, ?_⟩
  rcases h.2 with h1 | ⟨g, cap, cur, h1, h2, h3⟩
  · exact .inl h1
  · exact .inr ⟨g, cap, cur, h1, Nat.le_trans hB h2, h3⟩
theorem OwnV.lit (sz : Nat) (e : TypeId) (w : World) {B : Nat} (hB : B ≤ w.heap.size) (vs : List Value) (n : Nat) (hn : vs.length = n * sz) (hm : n ≤ 1000) : OwnV sz e (w.alloc (.cells vs.toArray e)) B (some ⟨w.heap.size, 0, none⟩) n n vs := by
  have := World.ownsRow_lit (base := B) (e := e) (size := sz) w vs.toArray n hB (by unfold maxLen; omega) (by simp [hn])
  simpa [OwnV] using this
end
/-- A type of elements, and the slices of it, in the program's table. -/
structure ElemV (P : Program) (t e : TypeId) (sz bytes : Nat) : Prop where
  slice : P.underlying t = some (.slice e)
  pos : 0 < sz
  info : ∃ i z, P.info? e = some i ∧ i.zero = some z ∧ i.size = sz ∧ i.bytes = bytes ∧ z.cells.size = sz
theorem SlV.news {sz : Nat} {w : World} {B : Nat} {ad : Addr} {n c : Nat} {vs : List Value} (h : SlV sz w B (some ad) n c vs) : ∀ j u, vs[j]? = some u → w.cell? (ad.add j) = some u := by
  intro j u hu
  have hj : j < n * sz := by have := (List.getElem?_eq_some_iff.1 hu).1; have := h.1; omega
  have hn : 0 < n := Nat.pos_of_ne_zero fun h0 => by subst h0; omega
  obtain ⟨b, off, hA, _, hc⟩ := h.2.2.2.2 hn
  injection hA with hA
  subst hA
  rw [Addr.add_lit]
  exact hc j u hu
/-- Where a row lies behind an append: where it lay, or anew. -/
def Lies (w : World) (A A' : Option Addr) : Prop := ∀ g, blk A' = some g → blk A = some g ∨ w.heap.size ≤ g
theorem run_appV {P : Program} {t e : TypeId} {sz bytes : Nat} (T : ElemV P t e sz bytes) (ty : TypeId) {w : World} {B : Nat} {A : Option Addr} {n c : Nat} {vs : List Value} (h : OwnV sz e w B A n c vs)
    {B2 : Nat} {A2 : Option Addr} {m c2 : Nat} {us : List Value} (hs : SlV sz w B2 A2 m c2 us) (h1 : ∀ u ∈ us, u.oneCell' = true) (hn : (n + m) * bytes ≤ 140737488355328) (hm : n + m ≤ maxLen) (hB : B ≤ w.heap.size) :
    ∃ A' c' w', (Builtin.append_ #[t, t] ty #[.slice A n c, .slice A2 m c2]).run P w = .ok (.slice A' (n + m) c') w' ∧ OwnV sz e w' B A' (n + m) c' (vs ++ us) ∧ w.grownBy w' (blk A) ∧ Lies w A A' := by
  obtain ⟨i, z, hi, hz, hsz, hby, hzc⟩ := T.info
  cases A2 with
  | none =>
    have h0 := hs.2.2.2.1 rfl
    subst h0
    obtain rfl : m = 0 := by have := hs.2.1; omega
    have hy : us = [] := List.eq_nil_of_length_eq_zero (by have := hs.1; simpa using this)
    subst hy
    exact ⟨A, c, w, run_append_owned_none (P := P) w B t ty e i sz T.slice hi _ n _ h, by simpa using h, World.grownBy.refl _ _, fun g hg => .inl hg⟩
  | some ad =>
    obtain ⟨v', w', hr, h2, h3, _, h5⟩ := run_append_own_at (P := P) w B t ty e i z sz bytes T.slice hi hz hsz hby hzc T.pos _ n _ h ad m c2 us hs.1 hs.news h1 hm hn hB
    have hf : ∃ A' c', v' = .slice A' (n + m) c' := by
      rcases h2.2 with ⟨hv, h0⟩ | ⟨g, cap, cur, hv, _⟩
      · exact ⟨none, 0, by rw [hv, h0]⟩
      · exact ⟨_, _, hv⟩
    obtain ⟨A', c', rfl⟩ := hf
    refine ⟨A', c', w', hr, h2, by rw [← ownBlock_slice]; exact h3, fun g hg => ?_⟩
    rw [ownBlock_slice, ownBlock_slice] at h5
    rcases h5 with h5 | h5
    · exact .inl (h5.symm.trans hg)
    · rw [hg] at h5
      injection h5 with h5
      exact .inr (Nat.le_of_eq h5.symm)
/-- A new row of written-out cells. -/
theorem SlV.lit (sz : Nat) (w : World) (s : Nat) (hs : w.heap.size = s) (vs : List Value) (n : Nat) (hn : vs.length = n * sz) (hm : n ≤ 1000) (t : TypeId) : SlV sz (w.alloc (.cells vs.toArray t)) (s + 1) (some ⟨s, 0, none⟩) n n vs := by
  subst hs
  refine ⟨hn, Nat.le_refl _, by unfold maxLen; omega, fun h => (by cases h), fun _ => ⟨w.heap.size, 0, rfl, by omega, fun j u hu => ?_⟩⟩
  have hj := (List.getElem?_eq_some_iff.1 hu)
  obtain ⟨h1, h2⟩ := hj
  rw [World.cell?_alloc_new]
  simp [h1, h2]
end Go.Proofs.Ytkjojpeamabdmaa
/- big: Right, counted, number, turned, unlike: what each call answers. -/
namespace Go.Proofs.Ytkjojpeamabdmaa
open Go Go.RowKit
/-- The sign that a number has: none of 0. -/
def sgnOf (s : Bool) (n : Nat) : Bool := s && decide (0 < n)
end Go.Proofs.Ytkjojpeamabdmaa
/- big: difference, Of, word, Int64: what each call answers. -/
namespace Go.Proofs.Ytkjojpeamabdmaa
open Go Go.RowKit
theorem sgnOf_pos {s : Bool} {n : Nat} (h : 0 < n) : sgnOf s n = s := by unfold sgnOf; rw [decide_eq_true h, Bool.and_true]
/-- A number of a sign and of a trimmed row. -/
theorem Whole.num {M : Int} {s : Bool} {n : Nat} {xs : List Int} (h : Row 4294967296 M xs) (h0 : 0 ≤ M) (hn : xs.length = n) : Whole (sgv s M) (sgnOf s n) xs := by
  by_cases hz : n = 0
  · subst hz
    have := List.eq_nil_of_length_eq_zero hn
    subst this
    have hM : M = 0 := h.val.symm
    subst hM
    have e : sgnOf s 0 = false := by cases s <;> rfl
    have e2 : sgv s 0 = 0 := by cases s <;> rfl
    rw [e, e2]
    exact Whole.zero
  · rw [sgnOf_pos (by omega)]
    refine Whole.mk' h h0 fun _ hM => hz ?_
    have := Tr.zero (by decide) h.dg h.tr (h.val.trans hM)
    rw [this] at hn
    exact hn.symm
end Go.Proofs.Ytkjojpeamabdmaa
/- big: Of, word: what each call answers. -/
namespace Go.Proofs.Ytkjojpeamabdmaa
open Go Go.RowKit
end Go.Proofs.Ytkjojpeamabdmaa
/- big: Int64: what it answers. -/
namespace Go.Proofs.Ytkjojpeamabdmaa
open Go Go.RowKit
end Go.Proofs.Ytkjojpeamabdmaa
/- big: Sum: what it answers. -/
namespace Go.Proofs.Ytkjojpeamabdmaa
open Go Go.RowKit
/-- Slices, each of which reads as limbs. -/
def RowsR (w : World) (B : Nat) (vs : List Value) (xss : List (List Int)) : Prop := vs.length = xss.length ∧ ∀ (j : Nat) xs, xss[j]? = some xs → ∃ A n c, vs[j]? = some (.slice A n c) ∧ Sl .u32 w B A n c xs
theorem RowsR.nil {w : World} {B : Nat} : RowsR w B [] [] := ⟨rfl, fun j xs h => by simp at h⟩
theorem RowsR.snoc {w : World} {B : Nat} {vs : List Value} {xss : List (List Int)} {A : Option Addr} {n c : Nat} {xs : List Int} (h : RowsR w B vs xss) (hs : Sl .u32 w B A n c xs) : RowsR w B (vs ++ [.slice A n c]) (xss ++ [xs]) := by
  refine ⟨by simp [h.1], fun j ys hj => ?_⟩
  rcases Nat.lt_trichotomy j xss.length with hl | rfl | hl
  · rw [List.getElem?_append_left hl] at hj
    obtain ⟨A', n', c', h1, h2⟩ := h.2 j ys hj
    exact ⟨A', n', c', by rw [List.getElem?_append_left (by rw [h.1]; exact hl)]; exact h1, h2⟩
  · simp at hj
    subst hj
    exact ⟨A, n, c, by rw [← h.1]; simp, hs⟩
  · rw [List.getElem?_eq_none (by simp; omega)] at hj; cases hj
/-- In the midst of the parting by signs. -/
structure PartI (w : World) (B L : Nat) (l : List (Bool × List Int)) (i : Nat) (vs us : List Value) (xss yss : List (List Int)) : Prop where
  above : RowsR w B vs xss
  under : RowsR w B us yss
  dx : ∀ xs ∈ xss, Dg 4294967296 xs ∧ xs.length ≤ L
  dy : ∀ xs ∈ yss, Dg 4294967296 xs ∧ xs.length ≤ L
  many : xss.length + yss.length = i
  num : sumV xss - sumV yss = isum (l.take i)
theorem PartI.start {w : World} {B L : Nat} {l : List (Bool × List Int)} : PartI w B L l 0 [] [] [] [] := ⟨.nil, .nil, fun _ h => (by cases h), fun _ h => (by cases h), rfl, by simp [sumV, isum]⟩
theorem PartI.step {w : World} {B L : Nat} {l : List (Bool × List Int)} {i : Nat} {vs us : List Value} {xss yss : List (List Int)} {s s' : Bool} {A' : Option Addr} {n' c' : Nat} {xs xs' : List Int} (h : PartI w B L l i vs us xss yss) (ex : l[i]? = some (s, xs))
    (hs : Sl .u32 w B A' n' c' xs') (hd : Dg 4294967296 xs') (hl : xs'.length ≤ L) (hv : sgv s' (val 4294967296 xs') = ival s xs) :
    (s' = true → PartI w B L l (i + 1) vs (us ++ [.slice A' n' c']) xss (yss ++ [xs'])) ∧ (s' = false → PartI w B L l (i + 1) (vs ++ [.slice A' n' c']) us (xss ++ [xs']) yss) := by
  have hm := h.many
  have hn := h.num
  refine ⟨fun e => ?_, fun e => ?_⟩
  · subst e
    rw [sgv_true] at hv
    refine ⟨h.above, h.under.snoc hs, h.dx, fun ys hy => ?_, by rw [List.length_append, List.length_singleton]; omega, by rw [isum_next ex, sumV_snoc]; omega⟩
    rcases List.mem_append.1 hy with hy | hy
    · exact h.dy ys hy
    · rw [List.mem_singleton.1 hy]; exact ⟨hd, hl⟩
  · subst e
    rw [sgv_false] at hv
    refine ⟨h.above.snoc hs, h.under, fun ys hy => ?_, h.dy, by rw [List.length_append, List.length_singleton]; omega, by rw [isum_next ex, sumV_snoc]; omega⟩
    rcases List.mem_append.1 hy with hy | hy
    · exact h.dx ys hy
    · rw [List.mem_singleton.1 hy]; exact ⟨hd, hl⟩
end Go.Proofs.Ytkjojpeamabdmaa
/- big: Sum: the walk. -/
namespace Go.Proofs.Ytkjojpeamabdmaa
open Go Go.RowKit
theorem SlB.two (w : World) {B : Nat} {s t : Bool} {A A2 : Option Addr} {n c m c2 : Nat} {xs ys : List Int} (hB : B ≤ w.heap.size) (hs : Sl .u32 w B A n c xs) (ht : Sl .u32 w B A2 m c2 ys) (T : TypeId) (k : Nat) (hk : w.heap.size = k) :
    SlB (w.alloc (.cells #[.bool s, .slice A n c, .bool t, .slice A2 m c2] T)) (k + 1) (some ⟨k, 0, none⟩) 2 2 [(s, xs), (t, ys)] := by
  subst hk
  refine ⟨rfl, Nat.le_refl _, by unfold maxLen; omega, fun h => (by cases h), fun _ => ⟨w.heap.size, 0, rfl, by omega, fun j u zs hz => ?_⟩⟩
  have hj : j < 2 := (List.getElem?_eq_some_iff.1 hz).1
  rcases j with _ | _ | j
  · simp at hz
    obtain ⟨rfl, rfl⟩ := hz
    exact ⟨A, n, c, by simp [World.cell?_alloc_new], by simp [World.cell?_alloc_new], (hs.alloc hB _).more (by omega)⟩
  · simp at hz
    obtain ⟨rfl, rfl⟩ := hz
    exact ⟨A2, m, c2, by simp [World.cell?_alloc_new], by simp [World.cell?_alloc_new], (ht.alloc hB _).more (by omega)⟩
  · omega
section
variable {E : List (Nat × STy)} {w0 : World} {d : Nat} {ty : TypeId} {pos : String} {af : Array Edge} {gd : Option (Nat × Bool)}
end
/-- Floor division, in new memory; both lie apart. -/
def DivB (w : World) (a b : Int) (e : Ending) (w' : World) : Prop :=
  (b = 0 ∧ e = .returned (.tuple #[.agg #[.bool false, .slice none 0 0], .agg #[.bool false, .slice none 0 0], .int .i64 20]) ∧ Below w.heap.size w w') ∨
  (b ≠ 0 ∧ ∃ s1 qs s2 rs A1 n1 c1 A2 n2 c2, e = .returned (.tuple #[.agg #[.bool s1, .slice A1 n1 c1], .agg #[.bool s2, .slice A2 n2 c2], .int .i64 0]) ∧ Whole (a.fdiv b) s1 qs ∧ Whole (a.fmod b) s2 rs ∧ Own .u32 77 w' w.heap.size A1 n1 c1 qs ∧ Own .u32 77 w' w.heap.size A2 n2 c2 rs ∧ Sep A1 A2 ∧ Below w.heap.size w w')
/-- The last region: two numbers stored in the results' boxes. -/
theorem DivB.put {w w1 : World} {B : Nat} {a b : Int} {s1 s2 : Bool} {qs rs : List Int} {A1 A2 : Option Addr} {n1 c1 n2 c2 : Nat} {u v x y : Value} (hb0 : b ≠ 0) (hq : Whole (a.fdiv b) s1 qs) (hr : Whole (a.fmod b) s2 rs) (o1 : Own .u32 77 w1 B A1 n1 c1 qs) (o2 : Own .u32 77 w1 B A2 n2 c2 rs) (hs : Sep A1 A2) (hB : w.heap.size + 3 < B) (hb : Below w.heap.size w w1) :
    DivB w a b (.returned (.tuple #[.agg #[.bool s1, .slice A1 n1 c1], .agg #[.bool s2, .slice A2 n2 c2], .int .i64 0])) ((((w1.setCell ⟨w.heap.size + 2, 0, none⟩ u).setCell ⟨w.heap.size + 2, 1, none⟩ v).setCell ⟨w.heap.size + 3, 0, none⟩ x).setCell ⟨w.heap.size + 3, 1, none⟩ y) :=
  .inr ⟨hb0, s1, qs, s2, rs, A1, n1, c1, A2, n2, c2, rfl, hq, hr, ((((o1.box (by omega) 0 u).box (by omega) 1 v).box (r := w.heap.size + 3) (by omega) 0 x).box (by omega) 1 y).lower (by omega), ((((o2.box (by omega) 0 u).box (by omega) 1 v).box (r := w.heap.size + 3) (by omega) 0 x).box (by omega) 1 y).lower (by omega), hs,
    (((hb.setCell (p := ⟨w.heap.size + 2, 0, none⟩) (show w.heap.size ≤ w.heap.size + 2 by omega) u).setCell (p := ⟨w.heap.size + 2, 1, none⟩) (show w.heap.size ≤ w.heap.size + 2 by omega) v).setCell (p := ⟨w.heap.size + 3, 0, none⟩) (show w.heap.size ≤ w.heap.size + 3 by omega) x).setCell (p := ⟨w.heap.size + 3, 1, none⟩) (show w.heap.size ≤ w.heap.size + 3 by omega) y⟩
/-- Floor division, in new memory. -/
def Div3 (w : World) (a b : Int) (e : Ending) (w' : World) : Prop :=
  (b = 0 ∧ e = .returned (.tuple #[.agg #[.bool false, .slice none 0 0], .agg #[.bool false, .slice none 0 0], .int .i64 20]) ∧ Below w.heap.size w w') ∨
  (b ≠ 0 ∧ ∃ s1 qs s2 rs A1 n1 c1 A2 n2 c2, e = .returned (.tuple #[.agg #[.bool s1, .slice A1 n1 c1], .agg #[.bool s2, .slice A2 n2 c2], .int .i64 0]) ∧ Whole (a.fdiv b) s1 qs ∧ Whole (a.fmod b) s2 rs ∧ Own .u32 77 w' w.heap.size A1 n1 c1 qs ∧ Own .u32 77 w' w.heap.size A2 n2 c2 rs ∧ Below w.heap.size w w')
theorem Div3.put {w w1 : World} {B : Nat} {a b : Int} {s1 s2 : Bool} {qs rs : List Int} {A1 A2 : Option Addr} {n1 c1 n2 c2 : Nat} {u v x y : Value} (hb0 : b ≠ 0) (hq : Whole (a.fdiv b) s1 qs) (hr : Whole (a.fmod b) s2 rs) (o1 : Own .u32 77 w1 B A1 n1 c1 qs) (o2 : Own .u32 77 w1 B A2 n2 c2 rs) (hB : w.heap.size + 3 < B) (hb : Below w.heap.size w w1) :
    Div3 w a b (.returned (.tuple #[.agg #[.bool s1, .slice A1 n1 c1], .agg #[.bool s2, .slice A2 n2 c2], .int .i64 0])) ((((w1.setCell ⟨w.heap.size + 2, 0, none⟩ u).setCell ⟨w.heap.size + 2, 1, none⟩ v).setCell ⟨w.heap.size + 3, 0, none⟩ x).setCell ⟨w.heap.size + 3, 1, none⟩ y).drew :=
  .inr ⟨hb0, s1, qs, s2, rs, A1, n1, c1, A2, n2, c2, rfl, hq, hr, (((((o1.box (by omega) 0 u).box (by omega) 1 v).box (r := w.heap.size + 3) (by omega) 0 x).box (by omega) 1 y).lower (by omega)).drew1, (((((o2.box (by omega) 0 u).box (by omega) 1 v).box (r := w.heap.size + 3) (by omega) 0 x).box (by omega) 1 y).lower (by omega)).drew1,
    ((((hb.setCell (p := ⟨w.heap.size + 2, 0, none⟩) (show w.heap.size ≤ w.heap.size + 2 by omega) u).setCell (p := ⟨w.heap.size + 2, 1, none⟩) (show w.heap.size ≤ w.heap.size + 2 by omega) v).setCell (p := ⟨w.heap.size + 3, 0, none⟩) (show w.heap.size ≤ w.heap.size + 3 by omega) x).setCell (p := ⟨w.heap.size + 3, 1, none⟩) (show w.heap.size ≤ w.heap.size + 3 by omega) y).drew⟩
end Go.Proofs.Ytkjojpeamabdmaa
