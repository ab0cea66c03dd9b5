/- Whole numbers in regions: slots that hold numbers, and each function of package big as a step; tallagelaw03.is. -/
import Derived.Test.YtbjooeapjhaapaaGreatDoorBNum
namespace Go.Proofs.YtbjooeapjhaapaaGreatDoor
open Go Go.RowKit

/-- A slot that holds a right number. -/
def STy.num (N : Int) (L : Nat) : STy := ⟨fun w v => ∃ s A n c, v = .agg #[.bool s, .slice A n c] ∧ IsN w N L s A n c, fun ⟨s, A, n, c, e, h⟩ hb => ⟨s, A, n, c, e, h.up hb⟩⟩
/-- A box that holds a right number. -/
def BoxN (w : World) (r : Nat) (N : Int) (L : Nat) : Prop := r < w.heap.size ∧ ∃ s A n c, Boxed w r (.bool s) (.slice A n c) ∧ IsN w N L s A n c
theorem BoxN.up {w w' : World} {r : Nat} {N : Int} {L : Nat} (h : BoxN w r N L) (hb : Below w.heap.size w w') : BoxN w' r N L := by
  obtain ⟨hr, s, A, n, c, h1, h2⟩ := h
  exact ⟨Nat.lt_of_lt_of_le hr hb.size, s, A, n, c, h1.below hb hr, h2.up hb⟩
/-- The two parts of a floor division. -/
def STy.div (N M : Int) (L K : Nat) : STy := ⟨fun w v => ∃ s1 A1 n1 c1 s2 A2 n2 c2, v = .tuple #[.agg #[.bool s1, .slice A1 n1 c1], .agg #[.bool s2, .slice A2 n2 c2], .int .i64 0] ∧ IsN w (N.fdiv M) (L + 1) s1 A1 n1 c1 ∧ IsN w (N.fmod M) K s2 A2 n2 c2,
  fun ⟨s1, A1, n1, c1, s2, A2, n2, c2, e, h, k⟩ hb => ⟨s1, A1, n1, c1, s2, A2, n2, c2, e, h.up hb, k.up hb⟩⟩
/-- A number as the reference has it, limb by limb. -/
def STy.refI (s : Bool) (xs : List Int) : STy := ⟨fun w v => ∃ A n c, v = .agg #[.bool s, .slice A n c] ∧ Sl .u32 w w.heap.size A n c xs, fun ⟨A, n, c, e, h⟩ hb => ⟨A, n, c, e, (h.below hb (Nat.le_refl _)).more hb.size⟩⟩
/-- A text. -/
def STy.txt (l : List UInt8) : STy := ⟨fun _ v => ∃ t : ByteArray, v = .string t ∧ t.data.toList = l, fun h _ => h⟩
theorem OpIs.has {E : List (Nat × STy)} {o : Operand} {x : Value} (h : OpIs E o x) : OpHas E o (fun _ v => v = x) := by
  cases o with
  | tmp s => exact h
  | const c => exact fun _ => h
  | global g => exact h
  | func f => exact h
theorem en_of : Enters Tryz.prog 36 := fun _ _ => by kernel_rfl
theorem en_add : Enters Tryz.prog 11 := fun _ _ => by kernel_rfl
theorem en_sub : Enters Tryz.prog 12 := fun _ _ => by kernel_rfl
theorem en_mul : Enters Tryz.prog 13 := fun _ _ => by kernel_rfl
theorem en_gcd : Enters Tryz.prog 16 := fun _ _ => by kernel_rfl
theorem en_neg : Enters Tryz.prog 14 := fun _ _ => by kernel_rfl
theorem en_abs : Enters Tryz.prog 15 := fun _ _ => by kernel_rfl
theorem en_cmp : Enters Tryz.prog 28 := fun _ _ => by kernel_rfl
theorem en_sign : Enters Tryz.prog 30 := fun _ _ => by kernel_rfl
theorem en_put : Enters Tryz.prog 37 := fun _ _ => by kernel_rfl
theorem en_int64 : Enters Tryz.prog 34 := fun _ _ => by kernel_rfl
theorem en_div : Enters Tryz.prog 23 := fun _ _ => by kernel_rfl
section
variable {E : List (Nat × STy)} {w0 : World} {d : Nat} {ty : TypeId} {pos : String} {af : Array Edge} {gd : Option (Nat × Bool)} {ats : Array TypeId}
set_option maxRecDepth 20000 in
theorem sn_load {s r : Nat} {N : Int} {L : Nat} (hp : OpIs E (.tmp s) (.pointer (some ⟨r, 0, none⟩))) (hx : BoxN w0 r N L) (hd : ∀ w v, (STy.num N L).holds w v → (slotTy E d).holds w v) :
    OpStep Tryz.prog E w0 ⟨some d, .load 24 (.tmp s), ty, pos, af, gd⟩ := by
  obtain ⟨hr, s', A, n, c, h1, h2⟩ := hx
  intro ρ w hc hf hb hs
  have e := hp _ _ hs.1
  have c0 := cell_on h1.1 hr w hb
  have c1 := cell_on h1.2.1 hr w hb
  have h3 := h2.up hb
  clear hp hs h1 h2 hc hf
  unfold Yields
  go_simp
  exact ⟨hd _ _ ⟨_, _, _, _, rfl, h3⟩, Below.refl _ _⟩
theorem sn_of {o0 : Operand} {k : Int} (h0 : OpIs E o0 (.int .i64 k)) (hk : -9223372036854775808 ≤ k ∧ k ≤ 9223372036854775807) (hd : ∀ w v, (STy.num k 2).holds w v → (slotTy E d).holds w v) :
    OpStep Tryz.prog E w0 ⟨some d, .call { callee := .value (.func 36), args := #[o0], argTypes := ats }, ty, pos, af, gd⟩ :=
  st_call1 en_of (T0 := fun _ v => v = .int .i64 k) h0.has fun W v0 hb k0 => by
    subst k0
    refine (ofN hk).mono ?_
    rintro e w' ⟨s2, A2, n2, c2, rfl, i2, hb2⟩
    exact ⟨⟨_, rfl, hd _ _ ⟨_, _, _, _, rfl, i2⟩⟩, hb2⟩
theorem sn_add {o0 o1 : Operand} {N M : Int} {L K : Nat} (h0 : OpHas E o0 (STy.num N L).holds) (h1 : OpHas E o1 (STy.num M K).holds) (hL : L ≤ 1000000) (hK : K ≤ 1000000) (hd : ∀ w v, (STy.num (N + M) (max L K + 1)).holds w v → (slotTy E d).holds w v) :
    OpStep Tryz.prog E w0 ⟨some d, .call { callee := .value (.func 11), args := #[o0, o1], argTypes := ats }, ty, pos, af, gd⟩ :=
  st_call2 en_add h0 h1 fun W v0 v1 hb k0 k1 => by
    obtain ⟨s, A, n, c, rfl, i0⟩ := k0
    obtain ⟨t, A1, m, c1, rfl, i1⟩ := k1
    refine (addN i0 i1 hL hK).mono ?_
    rintro e w' ⟨s2, A2, n2, c2, rfl, i2, hb2⟩
    exact ⟨⟨_, rfl, hd _ _ ⟨_, _, _, _, rfl, i2⟩⟩, hb2⟩
theorem sn_sub {o0 o1 : Operand} {N M : Int} {L K : Nat} (h0 : OpHas E o0 (STy.num N L).holds) (h1 : OpHas E o1 (STy.num M K).holds) (hL : L ≤ 1000000) (hK : K ≤ 1000000) (hd : ∀ w v, (STy.num (N - M) (max L K + 1)).holds w v → (slotTy E d).holds w v) :
    OpStep Tryz.prog E w0 ⟨some d, .call { callee := .value (.func 12), args := #[o0, o1], argTypes := ats }, ty, pos, af, gd⟩ :=
  st_call2 en_sub h0 h1 fun W v0 v1 hb k0 k1 => by
    obtain ⟨s, A, n, c, rfl, i0⟩ := k0
    obtain ⟨t, A1, m, c1, rfl, i1⟩ := k1
    refine (subN i0 i1 hL hK).mono ?_
    rintro e w' ⟨s2, A2, n2, c2, rfl, i2, hb2⟩
    exact ⟨⟨_, rfl, hd _ _ ⟨_, _, _, _, rfl, i2⟩⟩, hb2⟩
theorem sn_mul {o0 o1 : Operand} {N M : Int} {L K : Nat} (h0 : OpHas E o0 (STy.num N L).holds) (h1 : OpHas E o1 (STy.num M K).holds) (hL : L ≤ 1000000) (hK : K ≤ 1000000) (hd : ∀ w v, (STy.num (N * M) (L + K)).holds w v → (slotTy E d).holds w v) :
    OpStep Tryz.prog E w0 ⟨some d, .call { callee := .value (.func 13), args := #[o0, o1], argTypes := ats }, ty, pos, af, gd⟩ :=
  st_call2 en_mul h0 h1 fun W v0 v1 hb k0 k1 => by
    obtain ⟨s, A, n, c, rfl, i0⟩ := k0
    obtain ⟨t, A1, m, c1, rfl, i1⟩ := k1
    refine (mulN i0 i1 hL hK).mono ?_
    rintro e w' ⟨s2, A2, n2, c2, rfl, i2, hb2⟩
    exact ⟨⟨_, rfl, hd _ _ ⟨_, _, _, _, rfl, i2⟩⟩, hb2⟩
theorem sn_gcd {o0 o1 : Operand} {N M : Int} {L K : Nat} (h0 : OpHas E o0 (STy.num N L).holds) (h1 : OpHas E o1 (STy.num M K).holds) (hE : Env w0) (hL : L ≤ 2000) (hK : K ≤ 2000) (hd : ∀ w v, (STy.num (gcdI (N.natAbs : Int) (M.natAbs : Int)) (L + K)).holds w v → (slotTy E d).holds w v) :
    OpStep Tryz.prog E w0 ⟨some d, .call { callee := .value (.func 16), args := #[o0, o1], argTypes := ats }, ty, pos, af, gd⟩ :=
  st_call2 en_gcd h0 h1 fun W v0 v1 hb k0 k1 => by
    obtain ⟨s, A, n, c, rfl, i0⟩ := k0
    obtain ⟨t, A1, m, c1, rfl, i1⟩ := k1
    refine (gcdN i0 i1 (hE.below hb) hL hK).mono ?_
    rintro e w' ⟨s2, A2, n2, c2, rfl, i2, hb2⟩
    exact ⟨⟨_, rfl, hd _ _ ⟨_, _, _, _, rfl, i2⟩⟩, hb2⟩
theorem sn_neg {o0 : Operand} {N : Int} {L : Nat} (h0 : OpHas E o0 (STy.num N L).holds) (hL : L ≤ 1000000) (hd : ∀ w v, (STy.num (-N) (L)).holds w v → (slotTy E d).holds w v) :
    OpStep Tryz.prog E w0 ⟨some d, .call { callee := .value (.func 14), args := #[o0], argTypes := ats }, ty, pos, af, gd⟩ :=
  st_call1 en_neg h0 fun W v0 hb k0 => by
    obtain ⟨s, A, n, c, rfl, i0⟩ := k0
    refine (negN i0 hL).mono ?_
    rintro e w' ⟨s2, A2, n2, c2, rfl, i2, hb2⟩
    exact ⟨⟨_, rfl, hd _ _ ⟨_, _, _, _, rfl, i2⟩⟩, hb2⟩
theorem sn_abs {o0 : Operand} {N : Int} {L : Nat} (h0 : OpHas E o0 (STy.num N L).holds) (hL : L ≤ 1000000) (hd : ∀ w v, (STy.num ((N.natAbs : Int)) (L)).holds w v → (slotTy E d).holds w v) :
    OpStep Tryz.prog E w0 ⟨some d, .call { callee := .value (.func 15), args := #[o0], argTypes := ats }, ty, pos, af, gd⟩ :=
  st_call1 en_abs h0 fun W v0 hb k0 => by
    obtain ⟨s, A, n, c, rfl, i0⟩ := k0
    refine (absN i0 hL).mono ?_
    rintro e w' ⟨s2, A2, n2, c2, rfl, i2, hb2⟩
    exact ⟨⟨_, rfl, hd _ _ ⟨_, _, _, _, rfl, i2⟩⟩, hb2⟩
theorem sn_cmp {o0 o1 : Operand} {N M : Int} {L K : Nat} (h0 : OpHas E o0 (STy.num N L).holds) (h1 : OpHas E o1 (STy.num M K).holds) (hL : L ≤ 1000000) (hK : K ≤ 1000000) (hd : ∀ w, (slotTy E d).holds w (.int .i64 (cmpI N M))) :
    OpStep Tryz.prog E w0 ⟨some d, .call { callee := .value (.func 28), args := #[o0, o1], argTypes := ats }, ty, pos, af, gd⟩ :=
  st_call2 en_cmp h0 h1 fun W v0 v1 hb k0 k1 => by
    obtain ⟨s, A, n, c, rfl, i0⟩ := k0
    obtain ⟨t, A1, m, c1, rfl, i1⟩ := k1
    refine (cmpN i0 i1 hL hK).mono ?_
    rintro e w' ⟨rfl, hb2⟩
    exact ⟨⟨_, rfl, hd _⟩, hb2⟩
theorem sn_sign {o0 : Operand} {N : Int} {L : Nat} (h0 : OpHas E o0 (STy.num N L).holds) (hL : L ≤ 1000000) (hd : ∀ w, (slotTy E d).holds w (.int .i64 (cmpI N 0))) :
    OpStep Tryz.prog E w0 ⟨some d, .call { callee := .value (.func 30), args := #[o0], argTypes := ats }, ty, pos, af, gd⟩ :=
  st_call1 en_sign h0 fun W v0 hb k0 => by
    obtain ⟨s, A, n, c, rfl, i0⟩ := k0
    refine (signN i0 hL).mono ?_
    rintro e w' ⟨rfl, hb2⟩
    exact ⟨⟨_, rfl, hd _⟩, hb2⟩
theorem sn_put {o0 : Operand} {N : Int} {L : Nat} (h0 : OpHas E o0 (STy.num N L).holds) (hE : Env w0) (hL : L ≤ 400) (hd : ∀ w v, (STy.txt (putI N)).holds w v → (slotTy E d).holds w v) :
    OpStep Tryz.prog E w0 ⟨some d, .call { callee := .value (.func 37), args := #[o0], argTypes := ats }, ty, pos, af, gd⟩ :=
  st_call1 en_put h0 fun W v0 hb k0 => by
    obtain ⟨s, A, n, c, rfl, i0⟩ := k0
    refine (putN i0 (hE.below hb) hL).mono ?_
    rintro e w' ⟨t, rfl, ht, hb2⟩
    exact ⟨⟨_, rfl, hd _ _ ⟨t, rfl, ht⟩⟩, hb2⟩
theorem sn_int64 {o0 : Operand} {N : Int} {L : Nat} (h0 : OpHas E o0 (STy.num N L).holds) (hE : Env w0) (hL : L ≤ 1000000) (hd : ∀ w, (slotTy E d).holds w (.tuple #[.int .i64 (in64 N), .bool (fits64 N)])) :
    OpStep Tryz.prog E w0 ⟨some d, .call { callee := .value (.func 34), args := #[o0], argTypes := ats }, ty, pos, af, gd⟩ :=
  st_call1 en_int64 h0 fun W v0 hb k0 => by
    obtain ⟨s, A, n, c, rfl, i0⟩ := k0
    refine (int64N i0 (hE.below hb) hL).mono ?_
    rintro e w' ⟨rfl, hb2⟩
    exact ⟨⟨_, rfl, hd _⟩, hb2⟩
theorem sn_div {o0 o1 : Operand} {N M : Int} {L K : Nat} (h0 : OpHas E o0 (STy.num N L).holds) (h1 : OpHas E o1 (STy.num M K).holds) (hE : Env w0) (hM : M ≠ 0) (hL : L ≤ 1000000) (hK : K ≤ 1000000) (hd : ∀ w v, (STy.div N M L K).holds w v → (slotTy E d).holds w v) :
    OpStep Tryz.prog E w0 ⟨some d, .call { callee := .value (.func 23), args := #[o0, o1], argTypes := ats }, ty, pos, af, gd⟩ :=
  st_call2 en_div h0 h1 fun W v0 v1 hb k0 k1 => by
    obtain ⟨s, A, n, c, rfl, i0⟩ := k0
    obtain ⟨t, A1, m, c1, rfl, i1⟩ := k1
    refine (divN i0 i1 (hE.below hb) hM hL hK).mono ?_
    rintro e w' ⟨s1, B1, n1, e1, s2, B2, n2, e2, rfl, i2, i3, hb2⟩
    exact ⟨⟨_, rfl, hd _ _ ⟨_, _, _, _, _, _, _, _, rfl, i2, i3⟩⟩, hb2⟩
theorem sn_quo {s : Nat} {N M : Int} {L K : Nat} (h : ∀ w v, (slotTy E s).holds w v → (STy.div N M L K).holds w v) (hd : ∀ w v, (STy.num (N.fdiv M) (L + 1)).holds w v → (slotTy E d).holds w v) : OpStep Tryz.prog E w0 ⟨some d, .extract (.tmp s) 0, ty, pos, af, gd⟩ :=
  st_extract fun w v hv => by
    obtain ⟨s1, A1, n1, c1, s2, A2, n2, c2, rfl, h1, h2⟩ := h w v hv
    exact ⟨_, _, rfl, rfl, hd _ _ ⟨_, _, _, _, rfl, h1⟩⟩
theorem sn_rem {s : Nat} {N M : Int} {L K : Nat} (h : ∀ w v, (slotTy E s).holds w v → (STy.div N M L K).holds w v) (hd : ∀ w v, (STy.num (N.fmod M) K).holds w v → (slotTy E d).holds w v) : OpStep Tryz.prog E w0 ⟨some d, .extract (.tmp s) 1, ty, pos, af, gd⟩ :=
  st_extract fun w v hv => by
    obtain ⟨s1, A1, n1, c1, s2, A2, n2, c2, rfl, h1, h2⟩ := h w v hv
    exact ⟨_, _, rfl, rfl, hd _ _ ⟨_, _, _, _, rfl, h2⟩⟩
theorem sn_err {s : Nat} {N M : Int} {L K : Nat} (h : ∀ w v, (slotTy E s).holds w v → (STy.div N M L K).holds w v) (hd : ∀ w, (slotTy E d).holds w (.int .i64 0)) : OpStep Tryz.prog E w0 ⟨some d, .extract (.tmp s) 2, ty, pos, af, gd⟩ :=
  st_extract fun w v hv => by
    obtain ⟨s1, A1, n1, c1, s2, A2, n2, c2, rfl, h1, h2⟩ := h w v hv
    exact ⟨_, _, rfl, rfl, hd _⟩
end
theorem en_ref : Enters Tryz.prog 9 := fun _ _ => by kernel_rfl
theorem en_same : Enters Tryz.prog 24 := fun _ _ => by kernel_rfl
theorem en_is : Enters Tryz.prog 42 := fun _ _ => by kernel_rfl
set_option maxRecDepth 20000 in
set_option maxHeartbeats 4000000 in
/-- Two numbers of the same value are the same. -/
theorem isN {w : World} {N : Int} {L K : Nat} {s t : Bool} {A A2 : Option Addr} {n c m c2 : Nat} (h0 : IsN w N L s A n c) (h1 : IsN w N K t A2 m c2) (hL : L ≤ 1000000) (hK : K ≤ 1000000) :
    Calls Tryz.prog 42 #[.agg #[.bool s, .slice A n c], .agg #[.bool t, .slice A2 m c2]] w fun e w' => e = .returned (.bool true) ∧ Below w.heap.size w w' := by
  obtain ⟨xs, w0, s0, n0⟩ := h0
  obtain ⟨ys, w1, s1, n1⟩ := h1
  obtain ⟨rfl, rfl⟩ := w0.uniq w1
  obtain ⟨bX, bY, hlt, _⟩ := box_new2 (w := w) (v0 := .bool s) (v1 := .slice A n c) (u0 := .bool s) (u1 := .slice A2 m c2) (t := 24) (t2 := 24) (Below.refl _ _)
  have hb0 : Below w.heap.size w ((w.alloc (.cells #[.bool s, .slice A n c] 24)).alloc (.cells #[.bool s, .slice A2 m c2] 24)) := ((Below.refl _ _).alloc (Nat.le_refl _) _).alloc (by rw [size_one]; omega) _
  have S0 := Lib.hid ((s0.below hb0 (Nat.le_refl _)).more hb0.size)
  have S1 := Lib.hid ((s1.below hb0 (Nat.le_refl _)).more hb0.size)
  have BX := Lib.hid bX
  have BY := Lib.hid bY
  have HB := Lib.hid hb0
  have W0' := Lib.hid w0
  clear s0 s1 bX bY hb0 w0 w1
  go_enter Tryz.func42, Tryz.ntmps42
  go_wp2_with fail
  generalize (w.alloc (.cells #[.bool s, .slice A n c] 24)).alloc (.cells #[.bool s, .slice A2 m c2] 24) = V0 at S0 S1 BX BY HB hlt ⊢
  have hl0 := S0.out.len
  have hl1 := S1.out.len
  refine wp_region_chain [(2, STy.is (.pointer (some ⟨w.heap.size, 0, none⟩))), (3, STy.is (.pointer (some ⟨w.heap.size + 1, 0, none⟩))), (5, STy.is (.agg #[.bool s, .slice A n c])), (6, STy.is (.agg #[.bool s, .slice A2 m c2])), (7, STy.refI s xs), (8, STy.is (.bool true)), (9, STy.is (.bool true)), (10, STy.is (.agg #[.bool s, .slice A n c])), (11, STy.is (.agg #[.bool s, .slice A2 m c2])),
      (12, STy.is (.int .i64 0)), (13, STy.is (.bool true))]
    [2, 3] [(9, true)] 15 9 (by kernel_rfl) (by kernel_rfl) rfl ⟨fun _ _ h => h, trivial⟩ ⟨rfl, rfl, trivial⟩ ?ok ?al ?fin
  case ok =>
    repeat' first
      | exact OpStepsG.nil
      | refine OpStepsG.run ?_ ?_
      | exact stb_box (fun _ _ h => h) (cell_on BX.out.1 (by omega)) (cell_on BX.out.2.1 (by omega)) (fun _ => rfl)
      | exact stb_box (fun _ _ h => h) (cell_on BY.out.1 (by omega)) (cell_on BY.out.2.1 (by omega)) (fun _ => rfl)
      | exact st_move fun _ _ h => h
      | exact st_eqI (x := 0) (y := 0) (fun _ _ h => h) rfl (fun _ => rfl)
      | exact st_call1 en_ref (T0 := fun _ v => v = .agg #[.bool s, .slice A2 m c2]) (fun _ _ h => h) (fun W v0 hb h0 => by
          subst h0
          refine (bref_any (S1.out.below hb (Nat.le_refl _)) hb.size (by omega)).mono ?_
          rintro e w' ⟨A5, n5, c5, rfl, ho, hb2⟩
          exact ⟨⟨_, rfl, A5, n5, c5, rfl, ho.sl⟩, hb2⟩)
      | exact st_call2 en_same (T0 := fun _ v => v = .agg #[.bool s, .slice A n c]) (T1 := (STy.refI s xs).holds) (fun _ _ h => h) (fun _ _ h => h) (fun W v0 v1 hb h0 h1 => by
          subst h0
          obtain ⟨A5, n5, c5, rfl, s5⟩ := h1
          refine (bsame_true ((S0.out.below hb (Nat.le_refl _)).more hb.size) s5 (Nat.le_refl _)).mono ?_
          rintro e w' ⟨rfl, hb2⟩
          exact ⟨⟨_, rfl, rfl⟩, hb2⟩)
      | exact st_call2 en_cmp (T0 := fun _ v => v = .agg #[.bool s, .slice A n c]) (T1 := fun _ v => v = .agg #[.bool s, .slice A2 m c2]) (fun _ _ h => h) (fun _ _ h => h) (fun W v0 v1 hb h0 h1 => by
          subst h0
          subst h1
          have := bcmp_any (s := s) (t := s) (S0.out.below hb (Nat.le_refl _)) (S1.out.below hb (Nat.le_refl _)) hb.size W0'.out.row.dg W0'.out.row.dg (by omega) (by omega)
          refine this.mono ?_
          rintro e w' ⟨rfl, hb2⟩
          rw [cmpI_eq rfl]
          exact ⟨⟨_, rfl, rfl⟩, hb2⟩)
  case al =>
    repeat' first
      | exact AllocsOk.nil
      | refine AllocsOk.cons ?_ ?_
      | exact fun T h => nomatch h
  case fin =>
    intro v w' ho _ hb
    have e9 : v 9 = .bool true := ho.slot (d := 9) (by simp [dstD])
    have e13 : v 13 = .bool true := ho.slot (d := 13) (by simp [dstD])
    clear ho
    simp only [List.take, List.drop, List.map_cons, List.map_nil, dstD, Option.getD_some, putAll, Act.put, List.setIfInBounds_toArray, List.set_cons_succ, List.set_cons_zero, e9, e13]
    clear e9 e13
    have HB2 := Lib.hid (HB.out.trans (hb.mono HB.out.size))
    clear hb
    go_wp2_with fail
    go_ret
    exact ⟨rfl, HB2.out⟩
section
variable {E : List (Nat × STy)} {w0 : World} {d : Nat} {ty : TypeId} {pos : String} {af : Array Edge} {gd : Option (Nat × Bool)} {ats : Array TypeId}
theorem sn_is {o0 o1 : Operand} {N M : Int} {L K : Nat} (h0 : OpHas E o0 (STy.num N L).holds) (h1 : OpHas E o1 (STy.num M K).holds) (hNM : N = M) (hL : L ≤ 1000000) (hK : K ≤ 1000000) (hd : ∀ w, (slotTy E d).holds w (.bool true)) :
    OpStep Tryz.prog E w0 ⟨some d, .call { callee := .value (.func 42), args := #[o0, o1], argTypes := ats }, ty, pos, af, gd⟩ :=
  st_call2 en_is h0 h1 fun W v0 v1 hb k0 k1 => by
    subst hNM
    obtain ⟨s, A, n, c, rfl, i0⟩ := k0
    obtain ⟨t, A1, m, c1, rfl, i1⟩ := k1
    refine (isN i0 i1 hL hK).mono ?_
    rintro e w' ⟨rfl, hb2⟩
    exact ⟨⟨_, rfl, hd _⟩, hb2⟩
end
end Go.Proofs.YtbjooeapjhaapaaGreatDoor
