/- tallagelaw02: NatKnown: its rows, its laws at such rows, and the types of the slots of its drawn regions. -/
import Derived.Test.YthicpakanhhipaaGreatDoorNLawF
import Derived.Test.YthicpakanhhipaaGreatDoorTyped
import Derived.Deep.CutRange
namespace Go.Proofs.YthicpakanhhipaaGreatDoor
open Go Go.RowKit

/-- A row that is read, whatever its limbs are; and a slice of such. -/
def ArgU (w : World) (A : Option Addr) (n c : Nat) : Prop := ∃ xs, Dg 4294967296 xs ∧ Sl .u32 w w.heap.size A n c xs
def ArgL (w : World) (A : Option Addr) (n c : Nat) : Prop := ∃ xss, (∀ xs ∈ xss, Dg 4294967296 xs) ∧ SlS w w.heap.size A n c xss
section
variable {w w' : World} {A A2 A3 : Option Addr} {n c m c2 k c3 : Nat}
theorem ArgU.below (h : ArgU w A n c) (hb : Below w.heap.size w w') : ArgU w' A n c := by obtain ⟨xs, d, s⟩ := h; exact ⟨xs, d, s.up hb⟩
theorem ArgU.alloc (h : ArgU w A n c) (o : Obj) : ArgU (w.alloc o) A n c := h.below ((Below.refl _ _).alloc (Nat.le_refl _) o)
theorem ArgU.drew (h : ArgU w A n c) : ArgU w.drew A n c := h
theorem ArgU.none_ : ArgU w none 0 0 := ⟨[], Dg.nil, Sl.nil⟩
theorem ArgL.none_ : ArgL w none 0 0 := ⟨[], fun _ h => (by cases h), SlS.none_⟩
theorem ArgL.below (h : ArgL w A n c) (hb : Below w.heap.size w w') : ArgL w' A n c := by obtain ⟨xs, d, s⟩ := h; exact ⟨xs, d, s.up hb⟩
theorem ArgU.lit (s : Nat) (hs : w.heap.size = s) (xs : List Int) (t : TypeId) (n : Nat) (hn : xs.length = n) (hm : n ≤ 1000) (hd : Dg 4294967296 xs) : ArgU (w.alloc (.cells (xs.map (Value.int .u32)).toArray t)) (some ⟨s, 0, none⟩) n n := by
  subst hs
  have h := (Own.lit .u32 27 w (B := w.heap.size) (Nat.le_refl _) xs n hn hm)
  refine ⟨xs, hd, hn, Nat.le_refl _, by unfold maxLen; omega, fun h => (by cases h), fun _ => ⟨w.heap.size, 0, rfl, by rw [size_one]; omega, fun j y hy => ?_⟩⟩
  rw [Nat.zero_add]
  simp [World.cell?_alloc_new, hy]
theorem ArgU.lit1 (s : Nat) (hs : w.heap.size = s) {x : Int} (hx : 0 ≤ x ∧ x < 4294967296) (t : TypeId) : ArgU (w.alloc (.cells #[.int .u32 x] t)) (some ⟨s, 0, none⟩) 1 1 := ArgU.lit s hs [x] t 1 rfl (by omega) (dg1 hx)
theorem ArgU.lit2 (s : Nat) (hs : w.heap.size = s) {x y : Int} (hx : 0 ≤ x ∧ x < 4294967296) (hy : 0 ≤ y ∧ y < 4294967296) (t : TypeId) : ArgU (w.alloc (.cells #[.int .u32 x, .int .u32 y] t)) (some ⟨s, 0, none⟩) 2 2 := ArgU.lit s hs [x, y] t 2 rfl (by omega) (dg2 hx hy)
theorem ArgU.lit3 (s : Nat) (hs : w.heap.size = s) {x y z : Int} (hx : 0 ≤ x ∧ x < 4294967296) (hy : 0 ≤ y ∧ y < 4294967296) (hz : 0 ≤ z ∧ z < 4294967296) (t : TypeId) : ArgU (w.alloc (.cells #[.int .u32 x, .int .u32 y, .int .u32 z] t)) (some ⟨s, 0, none⟩) 3 3 :=
  ArgU.lit s hs [x, y, z] t 3 rfl (by omega) (dg3 hx hy hz)
theorem ArgU.lit4 (s : Nat) (hs : w.heap.size = s) {x y z v : Int} (hx : 0 ≤ x ∧ x < 4294967296) (hy : 0 ≤ y ∧ y < 4294967296) (hz : 0 ≤ z ∧ z < 4294967296) (hv : 0 ≤ v ∧ v < 4294967296) (t : TypeId) :
    ArgU (w.alloc (.cells #[.int .u32 x, .int .u32 y, .int .u32 z, .int .u32 v] t)) (some ⟨s, 0, none⟩) 4 4 := ArgU.lit s hs [x, y, z, v] t 4 rfl (by omega) (Dg.cons hx (dg3 hy hz hv))
theorem ArgL.two (h1 : ArgU w A n c) (h2 : ArgU w A2 m c2) (s : Nat) (hs : w.heap.size = s) (t : TypeId) : ArgL (w.alloc (.cells #[.slice A n c, .slice A2 m c2] t)) (some ⟨s, 0, none⟩) 2 2 := by
  subst hs
  obtain ⟨xs, d1, s1⟩ := h1
  obtain ⟨ys, d2, s2⟩ := h2
  exact ⟨[xs, ys], by simp [d1, d2], (SlS.two w (Nat.le_refl _) s1 s2 t).more (by rw [size_one]; exact Nat.le_refl _)⟩
theorem ArgL.three (h1 : ArgU w A n c) (h2 : ArgU w A2 m c2) (h3 : ArgU w A3 k c3) (s : Nat) (hs : w.heap.size = s) (t : TypeId) : ArgL (w.alloc (.cells #[.slice A n c, .slice A2 m c2, .slice A3 k c3] t)) (some ⟨s, 0, none⟩) 3 3 := by
  subst hs
  obtain ⟨xs, d1, s1⟩ := h1
  obtain ⟨ys, d2, s2⟩ := h2
  obtain ⟨zs, d3, s3⟩ := h3
  exact ⟨[xs, ys, zs], by simp [d1, d2, d3], (SlS.three w (Nat.le_refl _) s1 s2 s3 t).more (by rw [size_one]; exact Nat.le_refl _)⟩
theorem Env.alloc (h : Env w) (o : Obj) : Env (w.alloc o) := h.below ((Below.refl _ _).alloc (Nat.le_refl _) o)
theorem mulK (h1 : ArgU w A n c) (h2 : ArgU w A2 m c2) (h3 : ArgL w A3 k c3) (hE : Env w) : Calls Tryz.prog 3 #[.slice A n c, .slice A2 m c2, .slice A3 k c3] w fun e w' => e = .returned (.bool true) ∧ Below w.heap.size w w' := by
  obtain ⟨xs, d1, s1⟩ := h1
  obtain ⟨ys, d2, s2⟩ := h2
  obtain ⟨zs, d3, s3⟩ := h3
  exact NatMul_any s1 s2 s3 (Nat.le_refl _) d1 d2 d3 hE
theorem divK (h1 : ArgU w A n c) (h2 : ArgU w A2 m c2) (h3 : ArgL w A3 k c3) (hE : Env w) : Calls Tryz.prog 4 #[.slice A n c, .slice A2 m c2, .slice A3 k c3] w fun e w' => e = .returned (.bool true) ∧ Below w.heap.size w w' := by
  obtain ⟨xs, d1, s1⟩ := h1
  obtain ⟨ys, d2, s2⟩ := h2
  obtain ⟨zs, d3, s3⟩ := h3
  exact NatDivMod_any s1 s2 s3 (Nat.le_refl _) d1 d2 d3 hE
theorem partsK (h1 : ArgU w A n c) (h2 : ArgU w A2 m c2) (h3 : ArgU w A3 k c3) (hE : Env w) : Calls Tryz.prog 26 #[.slice A n c, .slice A2 m c2, .slice A3 k c3] w fun e w' => e = .returned (.bool true) ∧ Below w.heap.size w w' := by
  obtain ⟨xs, d1, s1⟩ := h1
  obtain ⟨ys, d2, s2⟩ := h2
  obtain ⟨zs, d3, s3⟩ := h3
  exact NatParts_any s1 s2 s3 (Nat.le_refl _) d1 d2 d3 hE
theorem wordsK {s : ByteArray} {b p : Int} (h1 : ArgU w A n c) (hs : s.size ≤ maxLen) (hb : 0 ≤ b ∧ b < 4294967296) (hp : -9223372036854775808 ≤ p ∧ p ≤ 9223372036854775807) (hE : Env w) :
    Calls Tryz.prog 5 #[.string s, .int .u32 b, .int .i64 p, .slice A n c] w fun e w' => e = .returned (.bool true) ∧ Below w.heap.size w w' := by
  obtain ⟨xs, d1, s1⟩ := h1
  exact NatWords_any s1 (Nat.le_refl _) d1 hs hb hp hE
theorem backK {s : ByteArray} {b p q : Int} (h1 : ArgU w A n c) (hs : s.size ≤ maxLen) (hb : 0 ≤ b ∧ b < 4294967296) (hp : 0 ≤ p ∧ p < 256) (hq : 0 ≤ q ∧ q < 256) (hE : Env w) :
    Calls Tryz.prog 27 #[.slice A n c, .string s, .int .u32 b, .int .u8 p, .int .u8 q] w fun e w' => e = .returned (.bool true) ∧ Below w.heap.size w w' := by
  obtain ⟨xs, d1, s1⟩ := h1
  obtain ⟨i, rfl⟩ : ∃ i : Nat, p = (i : Int) := ⟨p.toNat, by omega⟩
  obtain ⟨j, rfl⟩ : ∃ j : Nat, q = (j : Int) := ⟨q.toNat, by omega⟩
  exact NatBack_any s1 (Nat.le_refl _) d1 hs hb (by omega) (by omega) hE
end
def STy.row (n : Nat) : STy := ⟨fun w v => ∃ A, v = .slice A n n ∧ ArgU w A n n, fun ⟨A, e, h⟩ hb => ⟨A, e, h.below hb⟩⟩
def STy.rows (n : Nat) : STy := ⟨fun w v => ∃ A, v = .slice A n n ∧ ArgL w A n n, fun ⟨A, e, h⟩ hb => ⟨A, e, h.below hb⟩⟩
def STy.text : STy := ⟨fun _ v => ∃ s : ByteArray, v = .string s ∧ s.size ≤ maxLen, fun h _ => h⟩
/-- What an operand holds. -/
def OpIs (E : List (Nat × STy)) : Operand → Value → Prop
  | .tmp s, v => ∀ w u, (slotTy E s).holds w u → u = v
  | .const c, v => c = v
  | _, _ => False
theorem OpIs.at_ {E : List (Nat × STy)} {w : World} {ρ : Operand → Value} (hc : ∀ c, ρ (.const c) = c) {l : List Operand} {o : Operand} {v : Value} (hs : SlotsHold E w ρ l) (hm : o ∈ l) (ho : OpIs E o v) : ρ o = v := by
  cases o with
  | tmp s => exact ho _ _ (hs.at_ hm)
  | const c => rw [hc]; exact ho
  | global g => exact ho.elim
  | func f => exact ho.elim
section
variable {E : List (Nat × STy)} {w0 : World} {d : Nat} {ty : TypeId} {pos : String} {af : Array Edge} {gd : Option (Nat × Bool)}
theorem st_at {sx si b n c k : Nat} (hx : OpIs E (.tmp sx) (.slice (some ⟨b, 0, none⟩) n c)) (hi : OpIs E (.tmp si) (.int .i64 k)) (hk : k < n) (hd : ∀ w, (slotTy E d).holds w (.pointer (some ⟨b, k, none⟩))) :
    OpStep Tryz.prog E w0 ⟨some d, .indexAddr 22 (.tmp sx) (.tmp si), ty, pos, af, gd⟩ := by
  intro ρ w hc hf hb hs
  have h1 := hx _ _ hs.1
  have h2 := hi _ _ hs.2.1
  have hk' : (k : Int) < n := by omega
  clear hx hi hs
  unfold Yields
  go_simp
  exact ⟨hd _, Below.refl _ _⟩
theorem st_load {s b k : Nat} {x : Int} (hp : OpIs E (.tmp s) (.pointer (some ⟨b, k, none⟩))) (hcell : ∀ W, Below w0.heap.size w0 W → W.cell? ⟨b, k, none⟩ = some (.int .u32 x)) (hd : ∀ w, (slotTy E d).holds w (.int .u32 x)) :
    OpStep Tryz.prog E w0 ⟨some d, .load 27 (.tmp s), ty, pos, af, gd⟩ := by
  intro ρ w hc hf hb hs
  have h1 := hp _ _ hs.1
  have h2 := hcell w hb
  clear hp hs hcell
  unfold Yields
  go_simp
  exact ⟨hd _, Below.refl _ _⟩
set_option maxRecDepth 20000 in
theorem st_len {s n c : Nat} {A : Option Addr} (hx : OpIs E (.tmp s) (.slice A n c)) (hd : ∀ w, (slotTy E d).holds w (.int .i64 n)) :
    OpStep Tryz.prog E w0 ⟨some d, .call { callee := .builtin .len, args := #[.tmp s], argTypes := #[22] }, ty, pos, af, gd⟩ := by
  intro ρ w hc hf hb hs
  have h1 := hx _ _ (hs.at_ (s := s) (by simp [Op.operands, Call.operands]))
  clear hx hs
  unfold Yields
  go_simp
  exact ⟨hd _, Below.refl _ _⟩
theorem st_add {s t : Nat} {x y z : Int} (hx : OpIs E (.tmp s) (.int .i64 x)) (hy : OpIs E (.tmp t) (.int .i64 y)) (hz : IntKind.i64.wrap (x + y) = z) (hd : ∀ w, (slotTy E d).holds w (.int .i64 z)) :
    OpStep Tryz.prog E w0 ⟨some d, .binOp .add 3 (.tmp s) (.tmp t) 3, ty, pos, af, gd⟩ := by
  intro ρ w hc hf hb hs
  have h1 := hx _ _ hs.1
  have h2 := hy _ _ hs.2.1
  clear hx hy hs
  unfold Yields
  go_simp
  exact ⟨hd _, Below.refl _ _⟩
theorem st_rem {s t : Nat} {x y z : Int} (hx : OpIs E (.tmp s) (.int .i64 x)) (hy : OpIs E (.tmp t) (.int .i64 y)) (h0 : y ≠ 0) (hz : x.tmod y = z) (hd : ∀ w, (slotTy E d).holds w (.int .i64 z)) :
    OpStep Tryz.prog E w0 ⟨some d, .binOp .rem 3 (.tmp s) (.tmp t) 3, ty, pos, af, gd⟩ := by
  intro ρ w hc hf hb hs
  have h1 := hx _ _ hs.1
  have h2 := hy _ _ hs.2.1
  clear hx hy hs
  unfold Yields
  go_simp
  exact ⟨hd _, Below.refl _ _⟩
theorem st_row1 {o0 : Operand} {x : Int} (h0 : OpIs E o0 (.int .u32 x)) (b0 : 0 ≤ x ∧ x < 4294967296) (hd : ∀ w A, ArgU w A 1 1 → (slotTy E d).holds w (.slice A 1 1)) :
    OpStep Tryz.prog E w0 ⟨some d, .buildSlice 22 1 #[(0, o0)], ty, pos, af, gd⟩ := by
  intro ρ w hc hf hb hs
  have h1 := OpIs.at_ hc hs (o := o0) (by simp [Op.operands]) h0
  clear h0 hs
  unfold Yields
  go_simp
  exact ⟨hd _ _ (ArgU.lit1 _ rfl b0 _), (Below.refl _ _).alloc (Nat.le_refl _) _⟩
theorem st_row2 {o0 o1 : Operand} {x y : Int} (h0 : OpIs E o0 (.int .u32 x)) (h1 : OpIs E o1 (.int .u32 y)) (b0 : 0 ≤ x ∧ x < 4294967296) (b1 : 0 ≤ y ∧ y < 4294967296) (hd : ∀ w A, ArgU w A 2 2 → (slotTy E d).holds w (.slice A 2 2)) :
    OpStep Tryz.prog E w0 ⟨some d, .buildSlice 22 2 #[(0, o0), (1, o1)], ty, pos, af, gd⟩ := by
  intro ρ w hc hf hb hs
  have e0 := OpIs.at_ hc hs (o := o0) (by simp [Op.operands]) h0
  have e1 := OpIs.at_ hc hs (o := o1) (by simp [Op.operands]) h1
  clear h0 h1 hs
  unfold Yields
  go_simp
  exact ⟨hd _ _ (ArgU.lit2 _ rfl b0 b1 _), (Below.refl _ _).alloc (Nat.le_refl _) _⟩
theorem st_row3 {o0 o1 o2 : Operand} {x y z : Int} (h0 : OpIs E o0 (.int .u32 x)) (h1 : OpIs E o1 (.int .u32 y)) (h2 : OpIs E o2 (.int .u32 z)) (b0 : 0 ≤ x ∧ x < 4294967296) (b1 : 0 ≤ y ∧ y < 4294967296) (b2 : 0 ≤ z ∧ z < 4294967296)
    (hd : ∀ w A, ArgU w A 3 3 → (slotTy E d).holds w (.slice A 3 3)) : OpStep Tryz.prog E w0 ⟨some d, .buildSlice 22 3 #[(0, o0), (1, o1), (2, o2)], ty, pos, af, gd⟩ := by
  intro ρ w hc hf hb hs
  have e0 := OpIs.at_ hc hs (o := o0) (by simp [Op.operands]) h0
  have e1 := OpIs.at_ hc hs (o := o1) (by simp [Op.operands]) h1
  have e2 := OpIs.at_ hc hs (o := o2) (by simp [Op.operands]) h2
  clear h0 h1 h2 hs
  unfold Yields
  go_simp
  exact ⟨hd _ _ (ArgU.lit3 _ rfl b0 b1 b2 _), (Below.refl _ _).alloc (Nat.le_refl _) _⟩
theorem st_row4 {o0 o1 o2 o3 : Operand} {x y z v : Int} (h0 : OpIs E o0 (.int .u32 x)) (h1 : OpIs E o1 (.int .u32 y)) (h2 : OpIs E o2 (.int .u32 z)) (h3 : OpIs E o3 (.int .u32 v)) (b0 : 0 ≤ x ∧ x < 4294967296) (b1 : 0 ≤ y ∧ y < 4294967296) (b2 : 0 ≤ z ∧ z < 4294967296)
    (b3 : 0 ≤ v ∧ v < 4294967296) (hd : ∀ w A, ArgU w A 4 4 → (slotTy E d).holds w (.slice A 4 4)) : OpStep Tryz.prog E w0 ⟨some d, .buildSlice 22 4 #[(0, o0), (1, o1), (2, o2), (3, o3)], ty, pos, af, gd⟩ := by
  intro ρ w hc hf hb hs
  have e0 := OpIs.at_ hc hs (o := o0) (by simp [Op.operands]) h0
  have e1 := OpIs.at_ hc hs (o := o1) (by simp [Op.operands]) h1
  have e2 := OpIs.at_ hc hs (o := o2) (by simp [Op.operands]) h2
  have e3 := OpIs.at_ hc hs (o := o3) (by simp [Op.operands]) h3
  clear h0 h1 h2 h3 hs
  unfold Yields
  go_simp
  exact ⟨hd _ _ (ArgU.lit4 _ rfl b0 b1 b2 b3 _), (Below.refl _ _).alloc (Nat.le_refl _) _⟩
theorem st_row0 (hd : ∀ w A, ArgU w A 0 0 → (slotTy E d).holds w (.slice A 0 0)) :
    OpStep Tryz.prog E w0 ⟨some d, .buildSlice 22 0 #[], ty, pos, af, gd⟩ := by
  intro ρ w hc hf hb hs
  clear hs
  unfold Yields
  go_simp
  exact ⟨hd _ _ ⟨[], Dg.nil, rfl, Nat.le_refl _, Nat.zero_le _, fun _ => rfl, fun h => absurd h (by omega)⟩, (Below.refl _ _).alloc (Nat.le_refl _) _⟩
theorem st_not {s : Nat} (h0 : OpIs E (.tmp s) (.bool true)) (hd : ∀ w, (slotTy E d).holds w (.bool false)) : OpStep Tryz.prog E w0 ⟨some d, .unOp .not 4 (.tmp s), ty, pos, af, gd⟩ := by
  intro ρ w hc hf hb hs
  have e0 := h0 _ _ hs.1
  clear h0 hs
  unfold Yields
  go_simp
  exact ⟨hd _, Below.refl _ _⟩
theorem st_pick {s t : Nat} (h0 : OpIs E (.tmp s) (.bool false)) (h1 : OpIs E (.tmp t) (.bool false)) (hd : ∀ w, (slotTy E d).holds w (.bool false)) : OpStep Tryz.prog E w0 ⟨some d, .pick (.tmp s) (.const (.bool true)) (.tmp t), ty, pos, af, gd⟩ := by
  intro ρ w hc hf hb hs
  have e0 := h0 _ _ hs.1
  have e1 := h1 _ _ (hs.at_ (s := t) (by simp [Op.operands, Call.operands]))
  clear h0 h1 hs
  unfold Yields
  go_simp
  exact ⟨hd _, Below.refl _ _⟩
end
/-- What an operand holds, of a value and the memory. -/
def OpHas (E : List (Nat × STy)) : Operand → (World → Value → Prop) → Prop
  | .tmp s, T => ∀ w u, (slotTy E s).holds w u → T w u
  | .const c, T => ∀ w, T w c
  | _, _ => False
theorem OpHas.at_ {E : List (Nat × STy)} {w : World} {ρ : Operand → Value} (hc : ∀ c, ρ (.const c) = c) {l : List Operand} {o : Operand} {T : World → Value → Prop} (hs : SlotsHold E w ρ l) (hm : o ∈ l) (ho : OpHas E o T) : T w (ρ o) := by
  cases o with
  | tmp s => exact ho _ _ (hs.at_ hm)
  | const c => rw [hc]; exact ho w
  | global g => exact ho.elim
  | func f => exact ho.elim
def IsU (w : World) (v : Value) : Prop := ∃ A n, v = .slice A n n ∧ ArgU w A n n
def IsL (w : World) (v : Value) : Prop := ∃ A n, v = .slice A n n ∧ ArgL w A n n
def IsT (_ : World) (v : Value) : Prop := ∃ s : ByteArray, v = .string s ∧ s.size ≤ maxLen
def IsI (k : IntKind) (lo hi : Int) (_ : World) (v : Value) : Prop := ∃ x : Int, v = .int k x ∧ lo ≤ x ∧ x ≤ hi
section
variable {E : List (Nat × STy)} {w0 : World} {d f : Nat} {ty : TypeId} {pos : String} {af : Array Edge} {gd : Option (Nat × Bool)} {o0 o1 o2 o3 o4 : Operand} {ats : Array TypeId} {T0 T1 T2 T3 T4 T : World → Value → Prop}
set_option maxRecDepth 20000 in
theorem st_rows2 {n m : Nat} (h0 : OpHas E o0 (fun w v => ∃ A, v = .slice A n n ∧ ArgU w A n n)) (h1 : OpHas E o1 (fun w v => ∃ A, v = .slice A m m ∧ ArgU w A m m))
    (hd : ∀ w A, ArgL w A 2 2 → (slotTy E d).holds w (.slice A 2 2)) : OpStep Tryz.prog E w0 ⟨some d, .buildSlice 23 2 #[(0, o0), (1, o1)], ty, pos, af, gd⟩ := by
  intro ρ w hc hf hb hs
  have q0 := OpHas.at_ hc hs (o := o0) (by simp [Op.operands]) h0
  refine Exists.elim q0 fun A0 z0 => ?_
  have e0 := z0.1
  have r0 := z0.2
  clear q0 z0
  have q1 := OpHas.at_ hc hs (o := o1) (by simp [Op.operands]) h1
  refine Exists.elim q1 fun A1 z1 => ?_
  have e1 := z1.1
  have r1 := z1.2
  clear q1 z1
  clear h0 h1 hs
  unfold Yields
  go_simp
  exact ⟨hd _ _ (ArgL.two r0 r1 _ rfl _), (Below.refl _ _).alloc (Nat.le_refl _) _⟩
set_option maxRecDepth 20000 in
theorem st_rows3 {n m k : Nat} (h0 : OpHas E o0 (fun w v => ∃ A, v = .slice A n n ∧ ArgU w A n n)) (h1 : OpHas E o1 (fun w v => ∃ A, v = .slice A m m ∧ ArgU w A m m)) (h2 : OpHas E o2 (fun w v => ∃ A, v = .slice A k k ∧ ArgU w A k k))
    (hd : ∀ w A, ArgL w A 3 3 → (slotTy E d).holds w (.slice A 3 3)) : OpStep Tryz.prog E w0 ⟨some d, .buildSlice 23 3 #[(0, o0), (1, o1), (2, o2)], ty, pos, af, gd⟩ := by
  intro ρ w hc hf hb hs
  have q0 := OpHas.at_ hc hs (o := o0) (by simp [Op.operands]) h0
  refine Exists.elim q0 fun A0 z0 => ?_
  have e0 := z0.1
  have r0 := z0.2
  clear q0 z0
  have q1 := OpHas.at_ hc hs (o := o1) (by simp [Op.operands]) h1
  refine Exists.elim q1 fun A1 z1 => ?_
  have e1 := z1.1
  have r1 := z1.2
  clear q1 z1
  have q2 := OpHas.at_ hc hs (o := o2) (by simp [Op.operands]) h2
  refine Exists.elim q2 fun A2 z2 => ?_
  have e2 := z2.1
  have r2 := z2.2
  clear q2 z2
  clear h0 h1 h2 hs
  unfold Yields
  go_simp
  exact ⟨hd _ _ (ArgL.three r0 r1 r2 _ rfl _), (Below.refl _ _).alloc (Nat.le_refl _) _⟩
def Enters (f : Nat) : Prop := ∀ (args : Array Value) (w : World), (callFunc f args).run Tryz.prog w = .ok (.enter f args) w
theorem enters_mul : Enters 3 := fun _ _ => by kernel_rfl
theorem enters_div : Enters 4 := fun _ _ => by kernel_rfl
theorem enters_parts : Enters 26 := fun _ _ => by kernel_rfl
theorem enters_words : Enters 5 := fun _ _ => by kernel_rfl
theorem enters_back : Enters 27 := fun _ _ => by kernel_rfl
theorem enters_put : Enters 24 := fun _ _ => by kernel_rfl
theorem st_call1 (hcf : Enters f) (h0 : OpHas E o0 T0) (hcall : ∀ w v0, Below w0.heap.size w0 w → T0 w v0 → Calls Tryz.prog f #[v0] w fun e w' => (∃ v, e = .returned v ∧ T w' v) ∧ Below w.heap.size w w')
    (hd : ∀ w v, T w v → (slotTy E d).holds w v) : OpStep Tryz.prog E w0 ⟨some d, .call { callee := .value (.func f), args := #[o0], argTypes := ats }, ty, pos, af, gd⟩ := by
  intro ρ w hc hf hb hs
  have e0 := OpHas.at_ hc hs (o := o0) (by simp [Op.operands, Call.operands]) h0
  have hr : (execOp ρ ⟨some d, .call { callee := .value (.func f), args := #[o0], argTypes := ats }, ty, pos, af, gd⟩).run Tryz.prog w = .ok (.enter f #[ρ o0]) w := by
    have hff := hf f
    clear h0 hs hcall hd hb e0
    go_simp
    exact hcf _ _
  unfold Yields
  rw [hr]
  refine (hcall w _ hb e0).mono ?_
  rintro e w' ⟨⟨v, rfl, hT⟩, hB⟩
  exact ⟨v, rfl, hd _ _ hT, hB⟩
theorem st_call3 (hcf : Enters f) (h0 : OpHas E o0 T0) (h1 : OpHas E o1 T1) (h2 : OpHas E o2 T2)
    (hcall : ∀ w v0 v1 v2, Below w0.heap.size w0 w → T0 w v0 → T1 w v1 → T2 w v2 → Calls Tryz.prog f #[v0, v1, v2] w fun e w' => e = .returned (.bool true) ∧ Below w.heap.size w w')
    (hd : ∀ w, (slotTy E d).holds w (.bool true)) : OpStep Tryz.prog E w0 ⟨some d, .call { callee := .value (.func f), args := #[o0, o1, o2], argTypes := ats }, ty, pos, af, gd⟩ := by
  intro ρ w hc hf hb hs
  have e0 := OpHas.at_ hc hs (o := o0) (by simp [Op.operands, Call.operands]) h0
  have e1 := OpHas.at_ hc hs (o := o1) (by simp [Op.operands, Call.operands]) h1
  have e2 := OpHas.at_ hc hs (o := o2) (by simp [Op.operands, Call.operands]) h2
  have hr : (execOp ρ ⟨some d, .call { callee := .value (.func f), args := #[o0, o1, o2], argTypes := ats }, ty, pos, af, gd⟩).run Tryz.prog w = .ok (.enter f #[ρ o0, ρ o1, ρ o2]) w := by
    have hff := hf f
    clear h0 h1 h2 hs hcall hd hb e0 e1 e2
    go_simp
    exact hcf _ _
  unfold Yields
  rw [hr]
  refine (hcall w _ _ _ hb e0 e1 e2).mono ?_
  rintro e w' ⟨rfl, hB⟩
  exact ⟨_, rfl, hd _, hB⟩
theorem st_call4 (hcf : Enters f) (h0 : OpHas E o0 T0) (h1 : OpHas E o1 T1) (h2 : OpHas E o2 T2) (h3 : OpHas E o3 T3)
    (hcall : ∀ w v0 v1 v2 v3, Below w0.heap.size w0 w → T0 w v0 → T1 w v1 → T2 w v2 → T3 w v3 → Calls Tryz.prog f #[v0, v1, v2, v3] w fun e w' => e = .returned (.bool true) ∧ Below w.heap.size w w')
    (hd : ∀ w, (slotTy E d).holds w (.bool true)) : OpStep Tryz.prog E w0 ⟨some d, .call { callee := .value (.func f), args := #[o0, o1, o2, o3], argTypes := ats }, ty, pos, af, gd⟩ := by
  intro ρ w hc hf hb hs
  have e0 := OpHas.at_ hc hs (o := o0) (by simp [Op.operands, Call.operands]) h0
  have e1 := OpHas.at_ hc hs (o := o1) (by simp [Op.operands, Call.operands]) h1
  have e2 := OpHas.at_ hc hs (o := o2) (by simp [Op.operands, Call.operands]) h2
  have e3 := OpHas.at_ hc hs (o := o3) (by simp [Op.operands, Call.operands]) h3
  have hr : (execOp ρ ⟨some d, .call { callee := .value (.func f), args := #[o0, o1, o2, o3], argTypes := ats }, ty, pos, af, gd⟩).run Tryz.prog w = .ok (.enter f #[ρ o0, ρ o1, ρ o2, ρ o3]) w := by
    have hff := hf f
    clear h0 h1 h2 h3 hs hcall hd hb e0 e1 e2 e3
    go_simp
    exact hcf _ _
  unfold Yields
  rw [hr]
  refine (hcall w _ _ _ _ hb e0 e1 e2 e3).mono ?_
  rintro e w' ⟨rfl, hB⟩
  exact ⟨_, rfl, hd _, hB⟩
theorem st_call5 (hcf : Enters f) (h0 : OpHas E o0 T0) (h1 : OpHas E o1 T1) (h2 : OpHas E o2 T2) (h3 : OpHas E o3 T3) (h4 : OpHas E o4 T4)
    (hcall : ∀ w v0 v1 v2 v3 v4, Below w0.heap.size w0 w → T0 w v0 → T1 w v1 → T2 w v2 → T3 w v3 → T4 w v4 → Calls Tryz.prog f #[v0, v1, v2, v3, v4] w fun e w' => e = .returned (.bool true) ∧ Below w.heap.size w w')
    (hd : ∀ w, (slotTy E d).holds w (.bool true)) : OpStep Tryz.prog E w0 ⟨some d, .call { callee := .value (.func f), args := #[o0, o1, o2, o3, o4], argTypes := ats }, ty, pos, af, gd⟩ := by
  intro ρ w hc hf hb hs
  have e0 := OpHas.at_ hc hs (o := o0) (by simp [Op.operands, Call.operands]) h0
  have e1 := OpHas.at_ hc hs (o := o1) (by simp [Op.operands, Call.operands]) h1
  have e2 := OpHas.at_ hc hs (o := o2) (by simp [Op.operands, Call.operands]) h2
  have e3 := OpHas.at_ hc hs (o := o3) (by simp [Op.operands, Call.operands]) h3
  have e4 := OpHas.at_ hc hs (o := o4) (by simp [Op.operands, Call.operands]) h4
  have hr : (execOp ρ ⟨some d, .call { callee := .value (.func f), args := #[o0, o1, o2, o3, o4], argTypes := ats }, ty, pos, af, gd⟩).run Tryz.prog w = .ok (.enter f #[ρ o0, ρ o1, ρ o2, ρ o3, ρ o4]) w := by
    have hff := hf f
    clear h0 h1 h2 h3 h4 hs hcall hd hb e0 e1 e2 e3 e4
    go_simp
    exact hcf _ _
  unfold Yields
  rw [hr]
  refine (hcall w _ _ _ _ _ hb e0 e1 e2 e3 e4).mono ?_
  rintro e w' ⟨rfl, hB⟩
  exact ⟨_, rfl, hd _, hB⟩
theorem mulC (hE : Env w0) (w : World) (v0 v1 v2 : Value) (hb : Below w0.heap.size w0 w) (h0 : IsU w v0) (h1 : IsU w v1) (h2 : IsL w v2) : Calls Tryz.prog 3 #[v0, v1, v2] w fun e w' => e = .returned (.bool true) ∧ Below w.heap.size w w' := by
  obtain ⟨A, n, rfl, h0⟩ := h0
  obtain ⟨A1, n1, rfl, h1⟩ := h1
  obtain ⟨A2, n2, rfl, h2⟩ := h2
  exact mulK h0 h1 h2 (hE.below hb)
theorem divC (hE : Env w0) (w : World) (v0 v1 v2 : Value) (hb : Below w0.heap.size w0 w) (h0 : IsU w v0) (h1 : IsU w v1) (h2 : IsL w v2) : Calls Tryz.prog 4 #[v0, v1, v2] w fun e w' => e = .returned (.bool true) ∧ Below w.heap.size w w' := by
  obtain ⟨A, n, rfl, h0⟩ := h0
  obtain ⟨A1, n1, rfl, h1⟩ := h1
  obtain ⟨A2, n2, rfl, h2⟩ := h2
  exact divK h0 h1 h2 (hE.below hb)
theorem partsC (hE : Env w0) (w : World) (v0 v1 v2 : Value) (hb : Below w0.heap.size w0 w) (h0 : IsU w v0) (h1 : IsU w v1) (h2 : IsU w v2) : Calls Tryz.prog 26 #[v0, v1, v2] w fun e w' => e = .returned (.bool true) ∧ Below w.heap.size w w' := by
  obtain ⟨A, n, rfl, h0⟩ := h0
  obtain ⟨A1, n1, rfl, h1⟩ := h1
  obtain ⟨A2, n2, rfl, h2⟩ := h2
  exact partsK h0 h1 h2 (hE.below hb)
theorem wordsC (hE : Env w0) (w : World) (v0 v1 v2 v3 : Value) (hb : Below w0.heap.size w0 w) (h0 : IsT w v0) (h1 : IsI .u32 0 4294967295 w v1) (h2 : IsI .i64 (-9223372036854775808) 9223372036854775807 w v2) (h3 : IsU w v3) :
    Calls Tryz.prog 5 #[v0, v1, v2, v3] w fun e w' => e = .returned (.bool true) ∧ Below w.heap.size w w' := by
  obtain ⟨s, rfl, hs⟩ := h0
  obtain ⟨x, rfl, hx⟩ := h1
  obtain ⟨y, rfl, hy⟩ := h2
  obtain ⟨A, n, rfl, h3⟩ := h3
  exact wordsK h3 hs (by omega) hy (hE.below hb)
theorem backC (hE : Env w0) (w : World) (v0 v1 v2 v3 v4 : Value) (hb : Below w0.heap.size w0 w) (h0 : IsU w v0) (h1 : IsT w v1) (h2 : IsI .u32 0 4294967295 w v2) (h3 : IsI .u8 0 255 w v3) (h4 : IsI .u8 0 255 w v4) :
    Calls Tryz.prog 27 #[v0, v1, v2, v3, v4] w fun e w' => e = .returned (.bool true) ∧ Below w.heap.size w w' := by
  obtain ⟨A, n, rfl, h0⟩ := h0
  obtain ⟨s, rfl, hs⟩ := h1
  obtain ⟨x, rfl, hx⟩ := h2
  obtain ⟨y, rfl, hy⟩ := h3
  obtain ⟨z, rfl, hz⟩ := h4
  exact backK h0 hs (by omega) (by omega) (by omega) (hE.below hb)
theorem putC (hE : Env w0) (w : World) (v0 : Value) (hb : Below w0.heap.size w0 w) (h0 : ∃ A, v0 = .slice A 2 2 ∧ ArgU w A 2 2) : Calls Tryz.prog 24 #[v0] w fun e w' => (∃ v, e = .returned v ∧ IsT w' v) ∧ Below w.heap.size w w' := by
  obtain ⟨A, rfl, xs, d0, h0⟩ := h0
  have hv : val 4294967296 xs < 1000000000 ^ 456 := by
    have h1 := val_lt (β := 4294967296) (by decide) d0
    rw [h0.len] at h1
    exact Int.lt_trans h1 (by decide +kernel)
  refine (Put_any h0 (Nat.le_refl _) d0 (by omega) hv (hE.below hb)).mono ?_
  rintro e w' ⟨s, rfl, hs, hB⟩
  refine ⟨⟨_, rfl, s, rfl, ?_⟩, hB⟩
  rw [size_toList, hs]
  have := putL_len hv
  unfold maxLen
  omega
theorem st_mul {s : Nat} {x z : Int} (hx : OpIs E (.tmp s) (.int .i64 x)) (hz : IntKind.i64.wrap (x * 3) = z) (hd : ∀ w, (slotTy E d).holds w (.int .i64 z)) :
    OpStep Tryz.prog E w0 ⟨some d, .binOp .mul 3 (.tmp s) (.const (.int .i64 3)) 3, ty, pos, af, gd⟩ := by
  intro ρ w hc hf hb hs
  have h1 := hx _ _ hs.1
  have hc3 := hc (.int .i64 3)
  clear hx hs
  unfold Yields
  go_simp
  exact ⟨hd _, Below.refl _ _⟩
theorem st_conv {s : Nat} {x : Int} (hx : OpIs E (.tmp s) (.int .i64 x)) (hz : IntKind.u8.wrap x = x) (hd : ∀ w, (slotTy E d).holds w (.int .u8 x)) :
    OpStep Tryz.prog E w0 ⟨some d, .convert 3 5 (.tmp s), ty, pos, af, gd⟩ := by
  intro ρ w hc hf hb hs
  have h1 := hx _ _ hs.1
  clear hx hs
  unfold Yields
  go_simp
  exact ⟨hd _, Below.refl _ _⟩
end
theorem OpsHold.slot {E : List (Nat × STy)} {w : World} {v : Nat → Value} {d : Nat} : ∀ {l : List Oper}, OpsHold E w v l → d ∈ l.map dstD → (slotTy E d).holds w (v d)
  | [], _, h => by cases h
  | o :: l, h, hm => by
    rcases List.mem_cons.1 hm with e | hm
    · rw [e]; exact h.1
    · exact OpsHold.slot h.2 hm
/-- A text that is parsed, and put again; a power of ten. -/
def BackT (s : ByteArray) (w : World) (A : Option Addr) (n c : Nat) : Prop := ∃ ys, Row 4294967296 (dval s.data.toList) ys ∧ Sl .u32 w w.heap.size A n c ys
theorem BackT.below {s : ByteArray} {w w' : World} {A : Option Addr} {n c : Nat} (h : BackT s w A n c) (hb : Below w.heap.size w w') : BackT s w' A n c := by obtain ⟨ys, r, q⟩ := h; exact ⟨ys, r, q.up hb⟩
theorem parseK {w : World} {s : ByteArray} (hw : Written s) (hs : s.size ≤ 4096) : Calls Tryz.prog 20 #[.string s] w fun e w' => ∃ A n c, e = .returned (.tuple #[.slice A n c, .int .i64 0]) ∧ BackT s w' A n c ∧ Below w.heap.size w w' := by
  refine (Parse_any s (by unfold maxLen; omega)).mono ?_
  rintro e w' h
  rcases h with ⟨h, _⟩ | ⟨_, h, _⟩ | ⟨_, _, ys, A, n, c, hr, rfl, ho, hb⟩
  · exact absurd hw h
  · omega
  · exact ⟨A, n, c, rfl, ⟨ys, hr, ho.sl⟩, hb⟩
theorem putbackK {w : World} {s : ByteArray} {A : Option Addr} {n c : Nat} (h : BackT s w A n c) (hw : Written s) (hs : s.size ≤ 4096) (hE : Env w) : Calls Tryz.prog 24 #[.slice A n c] w fun e w' => e = .returned (.string s) ∧ Below w.heap.size w w' := by
  obtain ⟨ys, rS, sS⟩ := h
  have hdl := dval_bound _ hw.2.2
  have hNl : dval s.data.toList < 1000000000 ^ 456 := Int.lt_of_lt_of_le (Int.lt_of_lt_of_le hdl.2 (pow_mono (by decide) (show s.data.toList.length ≤ 4096 by rw [← size_toList]; exact hs))) ten_lt
  have hl3 : n ≤ 100000 := by
    rw [← sS.len]
    exact Nat.le_trans (rS.len_le (k := 456) (by decide) (Int.lt_of_lt_of_le hNl (by decide +kernel))) (by omega)
  refine (Put_any sS (Nat.le_refl _) rS.dg (by omega) (by rw [rS.val]; exact hNl) hE).mono ?_
  rintro e w' ⟨t2, rfl, ht2, hb⟩
  rw [rS.val, putL_back hw] at ht2
  obtain rfl : t2 = s := ByteArray.ext (Array.toList_inj.1 ht2)
  exact ⟨rfl, hb⟩
theorem decL_ten (k : Nat) : (decL (10 ^ k)).length = k + 1 := by
  induction k with
  | zero => rw [decL_pos (by decide), show (10 ^ 0 : Nat) / 10 = 0 from rfl, decL_zero]; rfl
  | succ k ih => rw [decL_pos (Nat.pow_pos (by decide)), List.length_append, Nat.pow_succ, Nat.mul_div_cancel _ (by decide), ih]; rfl
theorem putL_ten (k : Nat) : (putL (10 ^ k)).length = k + 1 := by
  unfold putL
  rw [if_neg (Nat.ne_of_gt (Nat.pow_pos (by decide)))]
  exact decL_ten k
theorem ten_toNat (k : Nat) : ((10 : Int) ^ k).toNat = 10 ^ k := by
  have e1 : ((10 ^ k : Nat) : Int) = (10 : Int) ^ k := Int.natCast_pow 10 k
  rw [← e1]
  exact Int.toNat_natCast _
def TenT (w : World) (A : Option Addr) (n c : Nat) : Prop := ∃ ys, Row 4294967296 (10 ^ 4096) ys ∧ Sl .u32 w w.heap.size A n c ys
theorem TenT.below {w w' : World} {A : Option Addr} {n c : Nat} (h : TenT w A n c) (hb : Below w.heap.size w w') : TenT w' A n c := by obtain ⟨ys, r, q⟩ := h; exact ⟨ys, r, q.up hb⟩
theorem powK {w : World} : Calls Tryz.prog 22 #[.int .u32 10, .int .i64 4096] w fun e w' => ∃ A n c, e = .returned (.tuple #[.slice A n c, .int .i64 0]) ∧ TenT w' A n c ∧ Below w.heap.size w w' := by
  refine (Pow_any (w := w) (b := 10) (n := 4096) (by omega) (by omega)).mono ?_
  rintro e w' ⟨ys, A, n, c, hr, rfl, ho, hb⟩
  exact ⟨A, n, c, rfl, ⟨ys, hr, ho.sl⟩, hb⟩
theorem puttenK {w : World} {A : Option Addr} {n c : Nat} (h : TenT w A n c) (hE : Env w) : Calls Tryz.prog 24 #[.slice A n c] w fun e w' => ∃ s : ByteArray, e = .returned (.string s) ∧ s.size = 4097 ∧ Below w.heap.size w w' := by
  obtain ⟨ys, rS, sS⟩ := h
  have hNl : (10 : Int) ^ 4096 < 1000000000 ^ 456 := by decide +kernel
  have hl3 : n ≤ 100000 := by
    rw [← sS.len]
    exact Nat.le_trans (rS.len_le (k := 456) (by decide) (Int.lt_of_lt_of_le hNl (by decide +kernel))) (by omega)
  refine (Put_any sS (Nat.le_refl _) rS.dg (by omega) (by rw [rS.val]; exact hNl) hE).mono ?_
  rintro e w' ⟨t2, rfl, ht2, hb⟩
  refine ⟨t2, rfl, ?_, hb⟩
  rw [rS.val] at ht2
  rw [ten_toNat] at ht2
  rw [size_toList, ht2]
  exact putL_ten 4096
def E8 (L i k g v : Nat) (x y z : Int) : List (Nat × STy) := [(1, STy.is (.slice (some ⟨L, 0, none⟩) 15 15)), (2, STy.is (.int .i64 i)), (3, STy.is (.int .i64 k)), (27, STy.is (.slice (some ⟨L, 0, none⟩) 15 15)), (28, STy.is (.int .i64 i)), (29, STy.is (.pointer (some ⟨L, i, none⟩))), (30, STy.is (.int .u32 x)), (31, STy.is (.slice (some ⟨L, 0, none⟩) 15 15)), (32, STy.is (.int .i64 k)), (33, STy.is (.pointer (some ⟨L, k, none⟩))), (34, STy.is (.int .u32 y)), (35, STy.is (.slice (some ⟨L, 0, none⟩) 15 15)), (36, STy.is (.int .i64 i)), (37, STy.is (.int .i64 k)), (38, STy.is (.int .i64 v)), (39, STy.is (.slice (some ⟨L, 0, none⟩) 15 15)), (40, STy.is (.int .i64 15)), (41, STy.is (.int .i64 g)), (42, STy.is (.pointer (some ⟨L, g, none⟩))), (43, STy.is (.int .u32 z)), (44, STy.row 3), (45, STy.is (.slice (some ⟨L, 0, none⟩) 15 15)), (46, STy.is (.int .i64 k)), (47, STy.is (.pointer (some ⟨L, k, none⟩))), (48, STy.is (.int .u32 y)), (49, STy.is (.slice (some ⟨L, 0, none⟩) 15 15)), (50, STy.is (.int .i64 i)), (51, STy.is (.pointer (some ⟨L, i, none⟩))), (52, STy.is (.int .u32 x)), (53, STy.row 2), (4, STy.row 3), (5, STy.row 2)]
def E9 (L i k : Nat) (x y : Int) : List (Nat × STy) := [(1, STy.is (.slice (some ⟨L, 0, none⟩) 15 15)), (2, STy.is (.int .i64 i)), (3, STy.is (.int .i64 k)), (4, STy.row 3), (5, STy.row 2), (54, STy.row 3), (55, STy.row 2), (56, STy.row 3), (57, STy.row 2), (58, STy.rows 2), (59, STy.is (.bool true)), (60, STy.is (.bool false)), (61, STy.is (.bool false)), (62, STy.row 3), (63, STy.row 2), (64, STy.row 3), (65, STy.row 2), (66, STy.is (.slice (some ⟨L, 0, none⟩) 15 15)), (67, STy.is (.int .i64 i)), (68, STy.is (.pointer (some ⟨L, i, none⟩))), (69, STy.is (.int .u32 x)), (70, STy.row 1), (71, STy.rows 3), (72, STy.is (.bool true)), (73, STy.is (.bool false)), (74, STy.is (.bool false)), (75, STy.is (.bool false)), (76, STy.is (.slice (some ⟨L, 0, none⟩) 15 15)), (77, STy.is (.int .i64 i)), (78, STy.is (.pointer (some ⟨L, i, none⟩))), (79, STy.is (.int .u32 x)), (80, STy.is (.slice (some ⟨L, 0, none⟩) 15 15)), (81, STy.is (.int .i64 k)), (82, STy.is (.pointer (some ⟨L, k, none⟩))), (83, STy.is (.int .u32 y)), (84, STy.row 4), (85, STy.is (.slice (some ⟨L, 0, none⟩) 15 15)), (86, STy.is (.int .i64 i)), (87, STy.is (.pointer (some ⟨L, i, none⟩))), (88, STy.is (.int .u32 x)), (89, STy.row 2), (90, STy.is (.bool true)), (91, STy.is (.bool false)), (92, STy.is (.bool false)), (93, STy.is (.bool false)), (94, STy.is (.slice (some ⟨L, 0, none⟩) 15 15)), (95, STy.is (.int .i64 k)), (96, STy.is (.pointer (some ⟨L, k, none⟩))), (97, STy.is (.int .u32 y)), (98, STy.row 3), (99, STy.row 2), (100, STy.row 0), (101, STy.row 2), (102, STy.rows 2), (103, STy.is (.bool true)), (104, STy.is (.bool false)), (105, STy.is (.bool false)), (106, STy.is (.bool false)), (107, STy.row 3), (108, STy.row 2), (109, STy.row 3), (110, STy.is (.bool true)), (111, STy.is (.bool false)), (112, STy.is (.bool false)), (113, STy.is (.bool false)), (114, STy.row 3), (115, STy.is (.slice (some ⟨L, 0, none⟩) 15 15)), (116, STy.is (.int .i64 k)), (117, STy.is (.pointer (some ⟨L, k, none⟩))), (118, STy.is (.int .u32 y)), (119, STy.is (.slice (some ⟨L, 0, none⟩) 15 15)), (120, STy.is (.int .i64 i)), (121, STy.is (.pointer (some ⟨L, i, none⟩))), (122, STy.is (.int .u32 x)), (123, STy.row 3), (124, STy.is (.bool true)), (125, STy.is (.bool false)), (126, STy.is (.bool false))]
def E11 (L i : Nat) (m x : Int) : List (Nat × STy) := [(1, STy.is (.slice (some ⟨L, 0, none⟩) 15 15)), (2, STy.is (.int .i64 i)), (127, STy.is (.slice (some ⟨L, 0, none⟩) 15 15)), (128, STy.is (.int .i64 i)), (129, STy.is (.pointer (some ⟨L, i, none⟩))), (130, STy.is (.int .u32 x)), (131, STy.is (.slice (some ⟨L, 0, none⟩) 15 15)), (132, STy.is (.int .i64 i)), (133, STy.is (.pointer (some ⟨L, i, none⟩))), (134, STy.is (.int .u32 x)), (135, STy.row 2), (136, STy.text), (137, STy.is (.slice (some ⟨L, 0, none⟩) 15 15)), (138, STy.is (.int .i64 i)), (139, STy.is (.pointer (some ⟨L, i, none⟩))), (140, STy.is (.int .u32 x)), (141, STy.is (.int .i64 i)), (142, STy.is (.int .i64 m)), (143, STy.is (.slice (some ⟨L, 0, none⟩) 15 15)), (144, STy.is (.int .i64 i)), (145, STy.is (.pointer (some ⟨L, i, none⟩))), (146, STy.is (.int .u32 x)), (147, STy.row 3), (148, STy.is (.bool true)), (149, STy.is (.bool false)), (150, STy.is (.bool false)), (151, STy.is (.slice (some ⟨L, 0, none⟩) 15 15)), (152, STy.is (.int .i64 i)), (153, STy.is (.pointer (some ⟨L, i, none⟩))), (154, STy.is (.int .u32 x)), (155, STy.is (.slice (some ⟨L, 0, none⟩) 15 15)), (156, STy.is (.int .i64 i)), (157, STy.is (.pointer (some ⟨L, i, none⟩))), (158, STy.is (.int .u32 x)), (159, STy.row 3), (160, STy.is (.slice (some ⟨L, 0, none⟩) 15 15)), (161, STy.is (.int .i64 i)), (162, STy.is (.pointer (some ⟨L, i, none⟩))), (163, STy.is (.int .u32 x)), (164, STy.is (.int .i64 i)), (165, STy.is (.int .u8 i)), (166, STy.is (.bool true)), (167, STy.is (.bool false)), (168, STy.is (.bool false))]
def E16 : List (Nat × STy) := [(7, STy.text), (175, STy.text), (176, STy.is (.bool true)), (177, STy.is (.bool false)), (178, STy.is (.bool false)), (179, STy.text), (180, STy.row 1), (181, STy.is (.bool true)), (182, STy.is (.bool false)), (183, STy.is (.bool false))]
/-- The limbs that are tried. -/
def tried : List Int := [0, 1, 2, 3, 9, 10, 65535, 65536, 2147483647, 2147483648, 2147483649, 999999999, 1000000000, 4294967294, 4294967295]
theorem tried_dg : Dg 4294967296 tried := by
  intro x hx
  simp [tried] at hx
  omega

/-- The texts that are tried. -/
def texts : List ByteArray := [⟨#[]⟩, ⟨#[48]⟩, ⟨#[48, 48]⟩, ⟨#[48, 49]⟩, ⟨#[45, 49]⟩, ⟨#[43, 49]⟩, ⟨#[32, 49]⟩, ⟨#[49, 32]⟩, ⟨#[49, 95, 48]⟩, ⟨#[49, 46, 48]⟩, ⟨#[57]⟩, ⟨#[57, 57, 57, 57, 57, 57, 57, 57, 57]⟩, ⟨#[49, 48, 48, 48, 48, 48, 48, 48, 48, 48]⟩, ⟨#[57, 57, 57, 57, 57, 57, 57, 57, 57, 57, 57, 57, 57, 57, 57, 57, 57, 57, 57, 57, 57, 57, 57, 57, 57, 57, 57, 57, 57, 57, 57, 57, 57, 57, 57, 57, 57, 57]⟩, ⟨#[97]⟩]
theorem texts_at (w : World) (l : List ByteArray) (t : TypeId) (h : ∀ s ∈ l, s.size ≤ 100) (j : Nat) (hj : j < l.length) : ∃ s : ByteArray, (w.alloc (.cells (l.map Value.string).toArray t)).cell? ⟨w.heap.size, j, none⟩ = some (.string s) ∧ s.size ≤ 100 :=
  ⟨l[j], by simp [World.cell?_alloc_new, hj], h _ (List.getElem_mem hj)⟩
theorem texts_small : ∀ s ∈ texts, s.size ≤ 100 := by decide
theorem sevens {s : ByteArray} (h : s.data.toList = List.replicate 4096 55) : Written s ∧ s.size = 4096 := by
  have hs := size_toList s
  rw [h, List.length_replicate] at hs
  refine ⟨⟨by omega, fun h1 => ?_, ?_⟩, hs⟩
  · rw [get_zero s (by omega) (c := 55) (r := List.replicate 4095 55) (by rw [h]; rfl)]; decide
  · intro c hc
    rw [h] at hc
    rw [(List.mem_replicate.1 hc).2]
    unfold isDig; decide
theorem snoc_size (s : ByteArray) (c : UInt8) : (s ++ (⟨#[c]⟩ : ByteArray)).size = s.size + 1 := by rw [ByteArray.size_append]; rfl
theorem snoc_list (s : ByteArray) (c : UInt8) : (s ++ (⟨#[c]⟩ : ByteArray)).data.toList = s.data.toList ++ [c] := by simp
end Go.Proofs.YthicpakanhhipaaGreatDoor
