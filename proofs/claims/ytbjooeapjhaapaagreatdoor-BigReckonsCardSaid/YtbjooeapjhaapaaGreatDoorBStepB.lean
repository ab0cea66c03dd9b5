/- Whole numbers in drawn regions: boxes, fields, allocations, rows written out, calls of package big's own helpers. -/
import Derived.Test.YtbjooeapjhaapaaGreatDoorBStepC
import Derived.Test.YtbjooeapjhaapaaGreatDoorTypedF
import Derived.Test.YtbjooeapjhaapaaGreatDoorBigF
namespace Go.Proofs.YtbjooeapjhaapaaGreatDoor
open Go Go.RowKit

/-- Both limbs of a number on the other side of 0. -/
theorem ival_turned {s : Bool} {n : Nat} {xs : List Int} (hl : xs.length = n) (h : rgt s xs = true) : ival (sgnOf (!s) n) xs = -sgv s (val 4294967296 xs) := by
  by_cases h0 : n = 0
  · subst h0
    have := List.eq_nil_of_length_eq_zero hl
    subst this
    rw [ival_nil]
    cases s <;> simp [sgv, val]
  · obtain ⟨j, rfl⟩ : ∃ j, n = j + 1 := ⟨n - 1, by omega⟩
    obtain ⟨z, hz⟩ := get_of_lt (xs := xs) (i := j) (by omega)
    rw [rgt_get hl hz] at h
    rw [sgnOf_pos (by omega), ival_right (by rw [rgt_get hl hz]; exact h)]
    cases s <;> simp [sgv]
theorem SlB.two (w : World) {B : Nat} {s t : Bool} {A A2 : Option Addr} {n c m c2 : Nat} {xs ys : List Int} (hB : B ≤ w.heap.size) (hs : Sl .u32 w B A n c xs) (ht : Sl .u32 w B A2 m c2 ys) (T : TypeId) (k : Nat) (hk : w.heap.size = k) :
    SlB (w.alloc (.cells #[.bool s, .slice A n c, .bool t, .slice A2 m c2] T)) (k + 1) (some ⟨k, 0, none⟩) 2 2 [(s, xs), (t, ys)] := by
  subst hk
  refine ⟨rfl, Nat.le_refl _, by unfold maxLen; omega, fun h => (by cases h), fun _ => ⟨w.heap.size, 0, rfl, by omega, fun j u zs hz => ?_⟩⟩
  have hj : j < 2 := (List.getElem?_eq_some_iff.1 hz).1
  rcases j with _ | _ | j
  · simp at hz
    obtain ⟨rfl, rfl⟩ := hz
    exact ⟨A, n, c, by simp [World.cell?_alloc_new], by simp [World.cell?_alloc_new], (hs.alloc hB _).more (by omega)⟩
  · simp at hz
    obtain ⟨rfl, rfl⟩ := hz
    exact ⟨A2, m, c2, by simp [World.cell?_alloc_new], by simp [World.cell?_alloc_new], (ht.alloc hB _).more (by omega)⟩
  · omega
/-- A row of numbers, readable. -/
def STy.nums (l : List (Bool × List Int)) : STy := ⟨fun w v => ∃ A n c, v = .slice A n c ∧ SlB w w.heap.size A n c l, fun ⟨A, n, c, e, h⟩ hb => ⟨A, n, c, e, (h.below hb (Nat.le_refl _)).more hb.size⟩⟩
/-- A new box, empty. -/
def STy.nbox (B : Nat) (T : TypeId) : STy := ⟨fun w v => ∃ r, v = .pointer (some ⟨r, 0, none⟩) ∧ B ≤ r ∧ r < w.heap.size ∧ w.heap[r]? = some (.cells #[.bool false, .slice none 0 0] T (0, 0)), fun ⟨r, e, h1, h2, h3⟩ hb => ⟨r, e, h1, Nat.lt_of_lt_of_le h2 hb.size, (hb.block r h2).trans h3⟩⟩
theorem boxed_of {w : World} {r : Nat} {u0 u1 : Value} {T : TypeId} (h : w.heap[r]? = some (.cells #[u0, u1] T (0, 0))) : Boxed w r u0 u1 := by
  refine ⟨?_, ?_, ?_, ?_⟩ <;> simp [World.cell?, World.frozen?, h]
section
variable {E : List (Nat × STy)} {w0 : World} {d : Nat} {ty : TypeId} {pos : String} {af : Array Edge} {gd : Option (Nat × Bool)}
set_option maxRecDepth 20000 in
theorem stb_box {s r : Nat} {u0 u1 : Value} (hp : OpIs E (.tmp s) (.pointer (some ⟨r, 0, none⟩))) (h0 : ∀ W, Below w0.heap.size w0 W → W.cell? ⟨r, 0, none⟩ = some u0) (h1 : ∀ W, Below w0.heap.size w0 W → W.cell? ⟨r, 1, none⟩ = some u1) (hd : ∀ w, (slotTy E d).holds w (.agg #[u0, u1])) :
    OpStep Tryz.prog E w0 ⟨some d, .load 24 (.tmp s), ty, pos, af, gd⟩ := by
  intro ρ w hc hf hb hs
  have e := hp _ _ hs.1
  have c0 := h0 w hb
  have c1 := h1 w hb
  clear hp hs h0 h1
  unfold Yields
  go_simp
  exact ⟨hd _, Below.refl _ _⟩
set_option maxRecDepth 20000 in
theorem stg_box {s r : Nat} {u0 u1 : Value} (hp : OpIs E (.tmp s) (.pointer (some ⟨r, 0, none⟩))) (h0 : ∀ W, Below w0.heap.size w0 W → W.cell? ⟨r, 0, none⟩ = some u0) (h1 : ∀ W, Below w0.heap.size w0 W → W.cell? ⟨r, 1, none⟩ = some u1) (hd : ∀ w, (slotTy E d).holds w (.agg #[u0, u1])) :
    OpStep Tryz.prog E w0 ⟨some d, .load 74 (.tmp s), ty, pos, af, gd⟩ := by
  intro ρ w hc hf hb hs
  have e := hp _ _ hs.1
  have c0 := h0 w hb
  have c1 := h1 w hb
  clear hp hs h0 h1
  unfold Yields
  go_simp
  exact ⟨hd _, Below.refl _ _⟩
set_option maxRecDepth 20000 in
theorem stb_field0 {s : Nat} {u0 u1 : Value} (hp : OpIs E (.tmp s) (.agg #[u0, u1])) (hd : ∀ w, (slotTy E d).holds w u0) : OpStep Tryz.prog E w0 ⟨some d, .field 24 (.tmp s) 0, ty, pos, af, gd⟩ := by
  intro ρ w hc hf hb hs
  have e := hp _ _ hs.1
  clear hp hs
  unfold Yields
  go_simp
  exact ⟨hd _, Below.refl _ _⟩
set_option maxRecDepth 20000 in
theorem stb_field1 {s : Nat} {u0 u1 : Value} (hp : OpIs E (.tmp s) (.agg #[u0, u1])) (hd : ∀ w, (slotTy E d).holds w u1) : OpStep Tryz.prog E w0 ⟨some d, .field 24 (.tmp s) 1, ty, pos, af, gd⟩ := by
  intro ρ w hc hf hb hs
  have e := hp _ _ hs.1
  clear hp hs
  unfold Yields
  go_simp
  exact ⟨hd _, Below.refl _ _⟩
set_option maxRecDepth 20000 in
theorem stg_field {s : Nat} {u0 u1 : Value} (hp : OpIs E (.tmp s) (.agg #[u0, u1])) (hd : ∀ w, (slotTy E d).holds w (.agg #[u0, u1])) : OpStep Tryz.prog E w0 ⟨some d, .field 74 (.tmp s) 0, ty, pos, af, gd⟩ := by
  intro ρ w hc hf hb hs
  have e := hp _ _ hs.1
  clear hp hs
  unfold Yields
  go_simp
  exact ⟨hd _, Below.refl _ _⟩
set_option maxRecDepth 20000 in
theorem stb_addr0 {s r : Nat} (hp : OpIs E (.tmp s) (.pointer (some ⟨r, 0, none⟩))) (hd : ∀ w, (slotTy E d).holds w (.pointer (some ⟨r, 0, none⟩))) : OpStep Tryz.prog E w0 ⟨some d, .fieldAddr 24 (.tmp s) 0, ty, pos, af, gd⟩ := by
  intro ρ w hc hf hb hs
  have e := hp _ _ hs.1
  clear hp hs
  unfold Yields
  go_simp
  exact ⟨hd _, Below.refl _ _⟩
set_option maxRecDepth 20000 in
theorem stb_addr1 {s r : Nat} (hp : OpIs E (.tmp s) (.pointer (some ⟨r, 0, none⟩))) (hd : ∀ w, (slotTy E d).holds w (.pointer (some ⟨r, 1, none⟩))) : OpStep Tryz.prog E w0 ⟨some d, .fieldAddr 24 (.tmp s) 1, ty, pos, af, gd⟩ := by
  intro ρ w hc hf hb hs
  have e := hp _ _ hs.1
  clear hp hs
  unfold Yields
  go_simp
  exact ⟨hd _, Below.refl _ _⟩
set_option maxRecDepth 20000 in
theorem stg_addr {s r : Nat} (hp : OpIs E (.tmp s) (.pointer (some ⟨r, 0, none⟩))) (hd : ∀ w, (slotTy E d).holds w (.pointer (some ⟨r, 0, none⟩))) : OpStep Tryz.prog E w0 ⟨some d, .fieldAddr 74 (.tmp s) 0, ty, pos, af, gd⟩ := by
  intro ρ w hc hf hb hs
  have e := hp _ _ hs.1
  clear hp hs
  unfold Yields
  go_simp
  exact ⟨hd _, Below.refl _ _⟩
set_option maxRecDepth 20000 in
theorem stg_alloc (hd : ∀ w v, (STy.nbox w0.heap.size 74).holds w v → (slotTy E d).holds w v) : OpStep Tryz.prog E w0 ⟨some d, .alloc 74, ty, pos, af, gd⟩ := by
  intro ρ w hc hf hb hs
  have hh : (w.alloc (.cells #[.bool false, .slice none 0 0] 74)).heap[w.heap.size]? = some (.cells #[.bool false, .slice none 0 0] 74 (0, 0)) := heap_alloc_new _ _
  have hsz := hb.size
  clear hs hc hf
  unfold Yields
  go_simp
  exact ⟨hd _ _ ⟨_, rfl, hsz, by rw [size_one]; exact Nat.lt_succ_self _, hh⟩, (Below.refl _ _).alloc (Nat.le_refl _) _⟩
theorem run_allocg (ρ : Operand → Value) (w : World) : ∃ w', (execOp ρ ⟨some d, .alloc 74, ty, pos, af, gd⟩).run Tryz.prog w = .ok (.value (.pointer (some ⟨w.heap.size, 0, none⟩))) w' ∧ w.heap.size < w'.heap.size := by
  refine ⟨w.alloc (.cells #[.bool false, .slice none 0 0] 74), ?_, by rw [size_one]; exact Nat.lt_succ_self _⟩
  go_simp
set_option maxRecDepth 20000 in
theorem stb_pair {o0 o1 : Operand} {s t : Bool} {A A2 : Option Addr} {n c m c2 : Nat} {xs ys : List Int} (h0 : OpIs E o0 (.agg #[.bool s, .slice A n c])) (h1 : OpIs E o1 (.agg #[.bool t, .slice A2 m c2]))
    (hs : Sl .u32 w0 w0.heap.size A n c xs) (ht : Sl .u32 w0 w0.heap.size A2 m c2 ys) (hd : ∀ w v, (STy.nums [(s, xs), (t, ys)]).holds w v → (slotTy E d).holds w v) :
    OpStep Tryz.prog E w0 ⟨some d, .buildSlice 33 2 #[(0, o0), (1, o1)], ty, pos, af, gd⟩ := by
  intro ρ w hc hf hb hsl
  have e0 := OpIs.at_ hc hsl (o := o0) (by simp [Op.operands]) h0
  have e1 := OpIs.at_ hc hsl (o := o1) (by simp [Op.operands]) h1
  have h2 := SlB.two w (s := s) (t := t) (Nat.le_refl _) ((hs.below hb (Nat.le_refl _)).more hb.size) ((ht.below hb (Nat.le_refl _)).more hb.size) 24 _ rfl
  clear h0 h1 hsl hc hf hs ht
  unfold Yields
  go_simp
  exact ⟨hd _ _ ⟨_, _, _, rfl, h2.more (by rw [size_one]; exact Nat.le_refl _)⟩, (Below.refl _ _).alloc (Nat.le_refl _) _⟩
end
set_option maxRecDepth 20000 in
theorem runb_field1 (u0 u1 : Value) (W : World) : (Instr.field 24 (.agg #[u0, u1]) 1).run Tryz.prog W = .ok u1 W := by rfl
set_option maxRecDepth 20000 in
theorem rung_field (u0 u1 : Value) (W : World) : (Instr.field 74 (.agg #[u0, u1]) 0).run Tryz.prog W = .ok (.agg #[u0, u1]) W := by rfl
theorem entersb_counted : Enters Tryz.prog 48 := fun _ _ => by kernel_rfl
theorem entersb_number : Enters Tryz.prog 50 := fun _ _ => by kernel_rfl
theorem entersb_turned : Enters Tryz.prog 49 := fun _ _ => by kernel_rfl
theorem entersb_unlike : Enters Tryz.prog 51 := fun _ _ => by kernel_rfl
theorem entersb_sum : Enters Tryz.prog 40 := fun _ _ => by kernel_rfl
end Go.Proofs.YtbjooeapjhaapaaGreatDoor
