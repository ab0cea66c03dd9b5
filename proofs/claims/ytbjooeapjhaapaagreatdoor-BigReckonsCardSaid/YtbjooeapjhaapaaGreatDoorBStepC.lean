/- Whole numbers of the reference in drawn regions: boxes, fields, and what slots hold. -/
import Derived.Test.YtbjooeapjhaapaaGreatDoorStep
import Derived.Test.YtbjooeapjhaapaaGreatDoorBRefH
import Derived.Test.YtbjooeapjhaapaaGreatDoorTypedF
namespace Go.Proofs.YtbjooeapjhaapaaGreatDoor
open Go Go.RowKit

/-- A new number of value N, of the call's own since block B. -/
def STy.newI (B : Nat) (N : Int) : STy := ⟨fun w v => ∃ s ys A n c, v = .agg #[.bool s, .slice A n c] ∧ Whole N s ys ∧ Own .u32 66 w B A n c ys, fun ⟨s, ys, A, n, c, e, h, ho⟩ hb => ⟨s, ys, A, n, c, e, h, ho.below hb⟩⟩
/-- A natural of value N, in so many limbs at most. -/
def STy.nat (N : Int) (L : Nat) : STy := ⟨fun w v => ∃ A n c xs, v = .slice A n c ∧ Sl .u32 w w.heap.size A n c xs ∧ Dg 4294967296 xs ∧ val 4294967296 xs = N ∧ n ≤ L, fun ⟨A, n, c, xs, e, h, d, hv, hl⟩ hb => ⟨A, n, c, xs, e, (h.below hb (Nat.le_refl _)).more hb.size, d, hv, hl⟩⟩
/-- A natural of value N in half limbs, trimmed, at most so many. -/
def STy.half (N : Int) (L : Nat) : STy := ⟨fun w v => ∃ A n c xs, v = .slice A n c ∧ Sl .i64 w w.heap.size A n c xs ∧ Row 65536 N xs ∧ n ≤ L, fun ⟨A, n, c, xs, e, h, r, hl⟩ hb => ⟨A, n, c, xs, e, (h.below hb (Nat.le_refl _)).more hb.size, r, hl⟩⟩
section
variable {E : List (Nat × STy)} {w0 : World} {d : Nat} {ty : TypeId} {pos : String} {af : Array Edge} {gd : Option (Nat × Bool)}
set_option maxRecDepth 20000 in
theorem st3_box {s r : Nat} {u0 u1 : Value} (hp : OpIs E (.tmp s) (.pointer (some ⟨r, 0, none⟩))) (h0 : ∀ W, Below w0.heap.size w0 W → W.cell? ⟨r, 0, none⟩ = some u0) (h1 : ∀ W, Below w0.heap.size w0 W → W.cell? ⟨r, 1, none⟩ = some u1) (hd : ∀ w, (slotTy E d).holds w (.agg #[u0, u1])) :
    OpStep Tryz.prog E w0 ⟨some d, .load 26 (.tmp s), ty, pos, af, gd⟩ := by
  intro ρ w hc hf hb hs
  have e := hp _ _ hs.1
  have c0 := h0 w hb
  have c1 := h1 w hb
  clear hp hs h0 h1
  unfold Yields
  go_simp
  exact ⟨hd _, Below.refl _ _⟩
set_option maxRecDepth 20000 in
theorem st3_field0 {s : Nat} {u0 u1 : Value} (hp : OpIs E (.tmp s) (.agg #[u0, u1])) (hd : ∀ w, (slotTy E d).holds w u0) : OpStep Tryz.prog E w0 ⟨some d, .field 26 (.tmp s) 0, ty, pos, af, gd⟩ := by
  intro ρ w hc hf hb hs
  have e := hp _ _ hs.1
  clear hp hs
  unfold Yields
  go_simp
  exact ⟨hd _, Below.refl _ _⟩
set_option maxRecDepth 20000 in
theorem st3_field1 {s : Nat} {u0 u1 : Value} (hp : OpIs E (.tmp s) (.agg #[u0, u1])) (hd : ∀ w, (slotTy E d).holds w u1) : OpStep Tryz.prog E w0 ⟨some d, .field 26 (.tmp s) 1, ty, pos, af, gd⟩ := by
  intro ρ w hc hf hb hs
  have e := hp _ _ hs.1
  clear hp hs
  unfold Yields
  go_simp
  exact ⟨hd _, Below.refl _ _⟩
set_option maxRecDepth 20000 in
theorem st3_addr0 {s r : Nat} (hp : OpIs E (.tmp s) (.pointer (some ⟨r, 0, none⟩))) (hd : ∀ w, (slotTy E d).holds w (.pointer (some ⟨r, 0, none⟩))) : OpStep Tryz.prog E w0 ⟨some d, .fieldAddr 26 (.tmp s) 0, ty, pos, af, gd⟩ := by
  intro ρ w hc hf hb hs
  have e := hp _ _ hs.1
  clear hp hs
  unfold Yields
  go_simp
  exact ⟨hd _, Below.refl _ _⟩
set_option maxRecDepth 20000 in
theorem st3_addr1 {s r : Nat} (hp : OpIs E (.tmp s) (.pointer (some ⟨r, 0, none⟩))) (hd : ∀ w, (slotTy E d).holds w (.pointer (some ⟨r, 1, none⟩))) : OpStep Tryz.prog E w0 ⟨some d, .fieldAddr 26 (.tmp s) 1, ty, pos, af, gd⟩ := by
  intro ρ w hc hf hb hs
  have e := hp _ _ hs.1
  clear hp hs
  unfold Yields
  go_simp
  exact ⟨hd _, Below.refl _ _⟩
set_option maxRecDepth 20000 in
theorem st_cellB {s r o : Nat} {u : Bool} (hp : OpIs E (.tmp s) (.pointer (some ⟨r, o, none⟩))) (h0 : ∀ W, Below w0.heap.size w0 W → W.cell? ⟨r, o, none⟩ = some (.bool u)) (hd : ∀ w, (slotTy E d).holds w (.bool u)) : OpStep Tryz.prog E w0 ⟨some d, .load 4 (.tmp s), ty, pos, af, gd⟩ := by
  intro ρ w hc hf hb hs
  have e := hp _ _ hs.1
  have c0 := h0 w hb
  clear hp hs h0
  unfold Yields
  go_simp
  exact ⟨hd _, Below.refl _ _⟩
set_option maxRecDepth 20000 in
theorem st_cellU {s r o : Nat} {A : Option Addr} {n c : Nat} (hp : OpIs E (.tmp s) (.pointer (some ⟨r, o, none⟩))) (h0 : ∀ W, Below w0.heap.size w0 W → W.cell? ⟨r, o, none⟩ = some (.slice A n c)) (hd : ∀ w, (slotTy E d).holds w (.slice A n c)) : OpStep Tryz.prog E w0 ⟨some d, .load 22 (.tmp s), ty, pos, af, gd⟩ := by
  intro ρ w hc hf hb hs
  have e := hp _ _ hs.1
  have c0 := h0 w hb
  clear hp hs h0
  unfold Yields
  go_simp
  exact ⟨hd _, Below.refl _ _⟩
set_option maxRecDepth 20000 in
theorem st_notB {s : Nat} {u : Bool} (hp : OpIs E (.tmp s) (.bool u)) (hd : ∀ w, (slotTy E d).holds w (.bool (!u))) : OpStep Tryz.prog E w0 ⟨some d, .unOp .not 4 (.tmp s), ty, pos, af, gd⟩ := by
  intro ρ w hc hf hb hs
  have e := hp _ _ hs.1
  clear hp hs
  unfold Yields
  go_simp
  exact ⟨hd _, Below.refl _ _⟩
set_option maxRecDepth 20000 in
theorem st_neqB {s t : Nat} {u v : Bool} (hp : OpIs E (.tmp s) (.bool u)) (hq : OpIs E (.tmp t) (.bool v)) (hd : ∀ w, (slotTy E d).holds w (.bool (u != v))) : OpStep Tryz.prog E w0 ⟨some d, .binOp .neq 4 (.tmp s) (.tmp t) 4, ty, pos, af, gd⟩ := by
  intro ρ w hc hf hb hs
  have e := hp _ _ hs.1
  have e2 := hq _ _ hs.2.1
  clear hp hq hs
  unfold Yields
  go_simp
  exact ⟨hd _, Below.refl _ _⟩
end
set_option maxRecDepth 20000 in
theorem run3_field0 (u0 u1 : Value) (W : World) : (Instr.field 26 (.agg #[u0, u1]) 0).run Tryz.prog W = .ok u0 W := by rfl
set_option maxRecDepth 20000 in
theorem run3_field1 (u0 u1 : Value) (W : World) : (Instr.field 26 (.agg #[u0, u1]) 1).run Tryz.prog W = .ok u1 W := by rfl
/-- What a box or a cell goes on holding. -/
theorem cell_on {w0 : World} {r o : Nat} {u : Value} (h : w0.cell? ⟨r, o, none⟩ = some u) (hr : r < w0.heap.size) : ∀ W, Below w0.heap.size w0 W → W.cell? ⟨r, o, none⟩ = some u := fun W hb => (hb.cell (p := ⟨r, o, none⟩) hr).trans h
theorem enters3_plain : Enters Tryz.prog 43 := fun _ _ => by kernel_rfl
theorem enters3_halves : Enters Tryz.prog 45 := fun _ _ => by kernel_rfl
theorem enters3_times : Enters Tryz.prog 57 := fun _ _ => by kernel_rfl
theorem enters3_limbs : Enters Tryz.prog 47 := fun _ _ => by kernel_rfl
theorem enters3_made : Enters Tryz.prog 46 := fun _ _ => by kernel_rfl
end Go.Proofs.YtbjooeapjhaapaaGreatDoor
/- Steps of drawn regions: choices by && and ||, comparisons, parts of a tuple, strings; and of reference numbers' boxes. -/
namespace Go.Proofs.YtbjooeapjhaapaaGreatDoor
open Go Go.RowKit

/-- A new box of the reference's, empty. -/
def STy.nbox3 (B : Nat) : STy := ⟨fun w v => ∃ r, v = .pointer (some ⟨r, 0, none⟩) ∧ B ≤ r ∧ r < w.heap.size ∧ w.heap[r]? = some (.cells #[.bool false, .slice none 0 0] 26 (0, 0)), fun ⟨r, e, h1, h2, h3⟩ hb => ⟨r, e, h1, Nat.lt_of_lt_of_le h2 hb.size, (hb.block r h2).trans h3⟩⟩
/-- How often, and what is left, in half limbs. -/
def STy.parts (U V : Int) (L M : Nat) : STy := ⟨fun w v => ∃ qs rs A n c A2 m c2, v = .tuple #[.slice A n c, .slice A2 m c2] ∧ Row 65536 (U / V) qs ∧ Row 65536 (U % V) rs ∧ Sl .i64 w w.heap.size A n c qs ∧ Sl .i64 w w.heap.size A2 m c2 rs ∧ n ≤ L ∧ m ≤ M,
  fun ⟨qs, rs, A, n, c, A2, m, c2, e, h1, h2, h3, h4, h5, h6⟩ hb => ⟨qs, rs, A, n, c, A2, m, c2, e, h1, h2, (h3.below hb (Nat.le_refl _)).more hb.size, (h4.below hb (Nat.le_refl _)).more hb.size, h5, h6⟩⟩
section
variable {E : List (Nat × STy)} {w0 : World} {d : Nat} {ty : TypeId} {pos : String} {af : Array Edge} {gd : Option (Nat × Bool)}
theorem st_pickAnd {s t : Nat} {u v : Bool} (h0 : OpIs E (.tmp s) (.bool u)) (h1 : u = true → OpIs E (.tmp t) (.bool v)) (hd : ∀ w, (slotTy E d).holds w (.bool (u && v))) : OpStep Tryz.prog E w0 ⟨some d, .pick (.tmp s) (.tmp t) (.const (.bool false)), ty, pos, af, gd⟩ := by
  intro ρ w hc hf hb hs
  have e0 := h0 _ _ hs.1
  have e2 := hc (.bool false)
  cases u with
  | false =>
    clear h0 h1 hs hc hf hb
    unfold Yields
    go_simp
    exact ⟨hd _, Below.refl _ _⟩
  | true =>
    have e1 := h1 rfl _ _ hs.2.1
    clear h0 h1 hs hc hf hb
    unfold Yields
    go_simp
    exact ⟨hd _, Below.refl _ _⟩
theorem st_pickOr {s t : Nat} {u v : Bool} (h0 : OpIs E (.tmp s) (.bool u)) (h1 : u = false → OpIs E (.tmp t) (.bool v)) (hd : ∀ w, (slotTy E d).holds w (.bool (u || v))) : OpStep Tryz.prog E w0 ⟨some d, .pick (.tmp s) (.const (.bool true)) (.tmp t), ty, pos, af, gd⟩ := by
  intro ρ w hc hf hb hs
  have e0 := h0 _ _ hs.1
  have e2 := hc (.bool true)
  cases u with
  | true =>
    clear h0 h1 hs hc hf hb
    unfold Yields
    go_simp
    exact ⟨hd _, Below.refl _ _⟩
  | false =>
    have e1 := h1 rfl _ _ (hs.at_ (s := t) (by simp [Op.operands]))
    clear h0 h1 hs hc hf hb
    unfold Yields
    go_simp
    exact ⟨hd _, Below.refl _ _⟩
theorem st_eqI {o0 o1 : Operand} {x y : Int} (h0 : OpIs E o0 (.int .i64 x)) (h1 : OpIs E o1 (.int .i64 y)) (hd : ∀ w, (slotTy E d).holds w (.bool (x == y))) : OpStep Tryz.prog E w0 ⟨some d, .binOp .eql 3 o0 o1 3, ty, pos, af, gd⟩ := by
  intro ρ w hc hf hb hs
  have e0 := OpIs.at_ hc hs (o := o0) (by simp [Op.operands]) h0
  have e1 := OpIs.at_ hc hs (o := o1) (by simp [Op.operands]) h1
  clear h0 h1 hs hc hf hb
  unfold Yields
  go_simp
  exact ⟨hd _, Below.refl _ _⟩
theorem st_neqI {o0 o1 : Operand} {x y : Int} (h0 : OpIs E o0 (.int .i64 x)) (h1 : OpIs E o1 (.int .i64 y)) (hd : ∀ w, (slotTy E d).holds w (.bool (x != y))) : OpStep Tryz.prog E w0 ⟨some d, .binOp .neq 3 o0 o1 3, ty, pos, af, gd⟩ := by
  intro ρ w hc hf hb hs
  have e0 := OpIs.at_ hc hs (o := o0) (by simp [Op.operands]) h0
  have e1 := OpIs.at_ hc hs (o := o1) (by simp [Op.operands]) h1
  clear h0 h1 hs hc hf hb
  unfold Yields
  go_simp
  exact ⟨hd _, Below.refl _ _⟩
theorem st_eqB {s t : Nat} {u v : Bool} (h0 : OpIs E (.tmp s) (.bool u)) (h1 : OpIs E (.tmp t) (.bool v)) (hd : ∀ w, (slotTy E d).holds w (.bool (u == v))) : OpStep Tryz.prog E w0 ⟨some d, .binOp .eql 4 (.tmp s) (.tmp t) 4, ty, pos, af, gd⟩ := by
  intro ρ w hc hf hb hs
  have e0 := h0 _ _ hs.1
  have e1 := h1 _ _ hs.2.1
  clear h0 h1 hs hc hf hb
  unfold Yields
  go_simp
  exact ⟨hd _, Below.refl _ _⟩
set_option maxRecDepth 20000 in
theorem st3_alloc (hd : ∀ w v, (STy.nbox3 w0.heap.size).holds w v → (slotTy E d).holds w v) : OpStep Tryz.prog E w0 ⟨some d, .alloc 26, ty, pos, af, gd⟩ := by
  intro ρ w hc hf hb hs
  have hh : (w.alloc (.cells #[.bool false, .slice none 0 0] 26)).heap[w.heap.size]? = some (.cells #[.bool false, .slice none 0 0] 26 (0, 0)) := heap_alloc_new _ _
  have hsz := hb.size
  clear hs hc hf
  unfold Yields
  go_simp
  exact ⟨hd _ _ ⟨_, rfl, hsz, by rw [size_one]; exact Nat.lt_succ_self _, hh⟩, (Below.refl _ _).alloc (Nat.le_refl _) _⟩
theorem run_alloc3 (ρ : Operand → Value) (w : World) : ∃ w', (execOp ρ ⟨some d, .alloc 26, ty, pos, af, gd⟩).run Tryz.prog w = .ok (.value (.pointer (some ⟨w.heap.size, 0, none⟩))) w' ∧ w.heap.size < w'.heap.size := by
  refine ⟨w.alloc (.cells #[.bool false, .slice none 0 0] 26), ?_, by rw [size_one]; exact Nat.lt_succ_self _⟩
  go_simp
theorem st_extract {s i : Nat} (h : ∀ w v, (slotTy E s).holds w v → ∃ us u, v = .tuple us ∧ us[i]? = some u ∧ (slotTy E d).holds w u) : OpStep Tryz.prog E w0 ⟨some d, .extract (.tmp s) i, ty, pos, af, gd⟩ := by
  intro ρ w hc hf hb hs
  obtain ⟨us, u, e0, e1, e2⟩ := h _ _ hs.1
  clear h hs hc hf hb
  unfold Yields
  go_simp
  exact ⟨e2, Below.refl _ _⟩
end
end Go.Proofs.YtbjooeapjhaapaaGreatDoor
