/- Steps of regions: numbers as the reference has them, texts, what Parse answers. -/
import Derived.Test.YtbjooeapjhaapaaGreatDoorBStepD
import Derived.Test.YtbjooeapjhaapaaGreatDoorBRefF
namespace Go.Proofs.YtbjooeapjhaapaaGreatDoor
open Go Go.RowKit

theorem en_of3 : Enters Tryz.prog 39 := fun _ _ => by kernel_rfl
theorem en_put3 : Enters Tryz.prog 38 := fun _ _ => by kernel_rfl
/-- A box that holds a number, limb by limb. -/
def BoxR (w : World) (r : Nat) (s : Bool) (xs : List Int) : Prop := r < w.heap.size ∧ ∃ A n c, Boxed w r (.bool s) (.slice A n c) ∧ Sl .u32 w w.heap.size A n c xs
theorem BoxR.up {w w' : World} {r : Nat} {s : Bool} {xs : List Int} (h : BoxR w r s xs) (hb : Below w.heap.size w w') : BoxR w' r s xs := by
  obtain ⟨hr, A, n, c, h1, h2⟩ := h
  exact ⟨Nat.lt_of_lt_of_le hr hb.size, A, n, c, h1.below hb hr, (h2.below hb (Nat.le_refl _)).more hb.size⟩
theorem BoxR.new {w : World} {s : Bool} {A : Option Addr} {n c : Nat} {xs : List Int} (h : Sl .u32 w w.heap.size A n c xs) (T : TypeId) : BoxR (w.alloc (.cells #[.bool s, .slice A n c] T)) w.heap.size s xs := by
  obtain ⟨b0, b1, b2, b3, hlt, hb⟩ := box_new (w := w) (v0 := .bool s) (v1 := .slice A n c) (t := T) (Below.refl _ _)
  exact ⟨hlt, A, n, c, ⟨b0, b1, b2, b3⟩, (h.below hb (Nat.le_refl _)).more hb.size⟩
theorem ParseI.out (s : ByteArray) : ∃ (s1 : Bool) (xs : List Int) (er : Int), ∀ w e w', ParseI w s e w' → ∃ A n c, e = .returned (.tuple #[.agg #[.bool s1, .slice A n c], .int .i64 er]) ∧ Sl .u32 w' w'.heap.size A n c xs ∧ Below w.heap.size w w' := by
  unfold ParseI ParseS
  generalize headB s = p
  by_cases h1 : Written p.2
  · by_cases h2 : p.2.size ≤ 4096
    · by_cases h3 : p.1 = true ∧ dval p.2.data.toList = 0
      · refine ⟨false, [], 2, ?_⟩
        rintro w e w' (⟨a, _⟩ | ⟨_, a, _⟩ | ⟨_, _, _, _, rfl, hb⟩ | ⟨_, _, a, _⟩)
        · exact absurd h1 a
        · omega
        · exact ⟨_, _, _, rfl, Sl.nil, hb⟩
        · exact absurd h3.2 (a h3.1)
      · by_cases h5 : ∃ (w : World) (e : Ending) (w' : World) (s1 : Bool) (xs : List Int) (A : Option Addr) (n c : Nat), Whole (sgv p.1 (dval p.2.data.toList)) s1 xs ∧ e = Ending.returned (.tuple #[.agg #[.bool s1, .slice A n c], .int .i64 0]) ∧ Own .u32 66 w' w.heap.size A n c xs
        · obtain ⟨_, _, _, s1, xs, _, _, _, hW, _⟩ := h5
          refine ⟨s1, xs, 0, ?_⟩
          rintro w e w' (⟨a, _⟩ | ⟨_, a, _⟩ | ⟨_, _, a, b, _⟩ | ⟨_, _, _, s2, ys, A, n, c, hW2, rfl, ho, hb⟩)
          · exact absurd h1 a
          · omega
          · exact absurd ⟨a, b⟩ h3
          · obtain ⟨rfl, rfl⟩ := hW.uniq hW2
            exact ⟨_, _, _, rfl, ho.sl, hb⟩
        · refine ⟨false, [], 0, ?_⟩
          rintro w e w' (⟨a, _⟩ | ⟨_, a, _⟩ | ⟨_, _, a, b, _⟩ | ⟨_, _, _, s2, ys, A, n, c, hW2, he, ho, hb⟩)
          · exact absurd h1 a
          · omega
          · exact absurd ⟨a, b⟩ h3
          · exact absurd ⟨w, e, w', s2, ys, A, n, c, hW2, he, ho⟩ h5
    · refine ⟨false, [], 3, ?_⟩
      rintro w e w' (⟨a, _⟩ | ⟨_, _, rfl, hb⟩ | ⟨_, a, _⟩ | ⟨_, a, _⟩)
      · exact absurd h1 a
      · exact ⟨_, _, _, rfl, Sl.nil, hb⟩
      · omega
      · omega
  · refine ⟨false, [], 60, ?_⟩
    rintro w e w' (⟨_, rfl, hb⟩ | ⟨a, _⟩ | ⟨a, _⟩ | ⟨a, _⟩)
    · exact ⟨_, _, _, rfl, Sl.nil, hb⟩
    · exact absurd a h1
    · exact absurd a h1
    · exact absurd a h1
section
variable {E : List (Nat × STy)} {w0 : World} {d : Nat} {ty : TypeId} {pos : String} {af : Array Edge} {gd : Option (Nat × Bool)} {ats : Array TypeId}
set_option maxRecDepth 20000 in
theorem sn_loadR {s r : Nat} {u : Bool} {xs : List Int} (hp : OpIs E (.tmp s) (.pointer (some ⟨r, 0, none⟩))) (hx : BoxR w0 r u xs) (hd : ∀ w v, (STy.refI u xs).holds w v → (slotTy E d).holds w v) :
    OpStep Tryz.prog E w0 ⟨some d, .load 24 (.tmp s), ty, pos, af, gd⟩ := by
  obtain ⟨hr, A, n, c, h1, h2⟩ := hx
  intro ρ w hc hf hb hs
  have e := hp _ _ hs.1
  have c0 := cell_on h1.1 hr w hb
  have c1 := cell_on h1.2.1 hr w hb
  have h3 := (h2.below hb (Nat.le_refl _)).more hb.size
  clear hp hs h1 h2 hc hf
  unfold Yields
  go_simp
  exact ⟨hd _ _ ⟨_, _, _, rfl, h3⟩, Below.refl _ _⟩
set_option maxRecDepth 20000 in
theorem sn_loadR3 {s r : Nat} {u : Bool} {xs : List Int} (hp : OpIs E (.tmp s) (.pointer (some ⟨r, 0, none⟩))) (hx : BoxR w0 r u xs) (hd : ∀ w v, (STy.refI u xs).holds w v → (slotTy E d).holds w v) :
    OpStep Tryz.prog E w0 ⟨some d, .load 26 (.tmp s), ty, pos, af, gd⟩ := by
  obtain ⟨hr, A, n, c, h1, h2⟩ := hx
  intro ρ w hc hf hb hs
  have e := hp _ _ hs.1
  have c0 := cell_on h1.1 hr w hb
  have c1 := cell_on h1.2.1 hr w hb
  have h3 := (h2.below hb (Nat.le_refl _)).more hb.size
  clear hp hs h1 h2 hc hf
  unfold Yields
  go_simp
  exact ⟨hd _ _ ⟨_, _, _, rfl, h3⟩, Below.refl _ _⟩
theorem st_lenS {s : Nat} {t : ByteArray} (hx : OpIs E (.tmp s) (.string t)) (hd : ∀ w, (slotTy E d).holds w (.int .i64 t.size)) :
    OpStep Tryz.prog E w0 ⟨some d, .call { callee := .builtin .len, args := #[.tmp s], argTypes := #[9] }, ty, pos, af, gd⟩ := by
  intro ρ w hc hf hb hs
  have e := hx _ _ hs.1
  clear hx hs hc hf hb
  unfold Yields
  go_simp
  exact ⟨hd _, Below.refl _ _⟩
theorem sn_ref {o0 : Operand} {s : Bool} {A : Option Addr} {n c : Nat} {xs : List Int} (h0 : OpIs E o0 (.agg #[.bool s, .slice A n c])) (hs : Sl .u32 w0 w0.heap.size A n c xs) (hn : n ≤ 400000000) (hd : ∀ w v, (STy.refI s xs).holds w v → (slotTy E d).holds w v) :
    OpStep Tryz.prog E w0 ⟨some d, .call { callee := .value (.func 9), args := #[o0], argTypes := ats }, ty, pos, af, gd⟩ :=
  st_call1 en_ref (T0 := fun _ v => v = .agg #[.bool s, .slice A n c]) h0.has fun W v0 hb k0 => by
    subst k0
    refine (bref_any (hs.below hb (Nat.le_refl _)) hb.size hn).mono ?_
    rintro e w' ⟨A5, n5, c5, rfl, ho, hb2⟩
    exact ⟨⟨_, rfl, hd _ _ ⟨A5, n5, c5, rfl, ho.sl⟩⟩, hb2⟩
theorem sn_same {o0 o1 : Operand} {s : Bool} {xs : List Int} (h0 : OpHas E o0 (STy.refI s xs).holds) (h1 : OpHas E o1 (STy.refI s xs).holds) (hd : ∀ w, (slotTy E d).holds w (.bool true)) :
    OpStep Tryz.prog E w0 ⟨some d, .call { callee := .value (.func 24), args := #[o0, o1], argTypes := ats }, ty, pos, af, gd⟩ :=
  st_call2 en_same h0 h1 fun W v0 v1 hb k0 k1 => by
    obtain ⟨A, n, c, rfl, i0⟩ := k0
    obtain ⟨A1, m, c1, rfl, i1⟩ := k1
    refine (bsame_true i0 i1 (Nat.le_refl _)).mono ?_
    rintro e w' ⟨rfl, hb2⟩
    exact ⟨⟨_, rfl, hd _⟩, hb2⟩
theorem sn_sameN {o0 o1 : Operand} {N : Int} {L K : Nat} (h0 : OpHas E o0 (STy.num N L).holds) (h1 : OpHas E o1 (STy.num N K).holds) (hd : ∀ w, (slotTy E d).holds w (.bool true)) :
    OpStep Tryz.prog E w0 ⟨some d, .call { callee := .value (.func 24), args := #[o0, o1], argTypes := ats }, ty, pos, af, gd⟩ :=
  st_call2 en_same h0 h1 fun W v0 v1 hb k0 k1 => by
    obtain ⟨s, A, n, c, rfl, xs, w1, s1, _⟩ := k0
    obtain ⟨t, A1, m, c1, rfl, ys, w2, s2, _⟩ := k1
    obtain ⟨rfl, rfl⟩ := w1.uniq w2
    refine (bsame_true s1 s2 (Nat.le_refl _)).mono ?_
    rintro e w' ⟨rfl, hb2⟩
    exact ⟨⟨_, rfl, hd _⟩, hb2⟩
theorem sn_of3 {o0 : Operand} {k : Int} (h0 : OpIs E o0 (.int .i64 k)) (hk : -9223372036854775808 ≤ k ∧ k ≤ 9223372036854775807) (hd : ∀ w v, (STy.num k 2).holds w v → (slotTy E d).holds w v) :
    OpStep Tryz.prog E w0 ⟨some d, .call { callee := .value (.func 39), args := #[o0], argTypes := ats }, ty, pos, af, gd⟩ :=
  st_call1 en_of3 (T0 := fun _ v => v = .int .i64 k) h0.has fun W v0 hb k0 => by
    subst k0
    refine (of3_any hk).mono ?_
    intro e w' h
    obtain ⟨s2, A2, n2, c2, rfl, i2, hb2⟩ := h.rn (of_lt hk)
    exact ⟨⟨_, rfl, hd _ _ ⟨_, _, _, _, rfl, i2⟩⟩, hb2⟩
theorem sn_putA {o0 : Operand} {s : Bool} {A : Option Addr} {n c : Nat} {xs : List Int} (h0 : OpIs E o0 (.agg #[.bool s, .slice A n c])) (hs : Sl .u32 w0 w0.heap.size A n c xs) (hx : Dg 4294967296 xs) (hn : n ≤ 100000000) (hN : ((ival s xs).natAbs : Int) < 1000000000 ^ 456) (hE : Env w0) (hd : ∀ w v, (STy.txt (putI (ival s xs))).holds w v → (slotTy E d).holds w v) :
    OpStep Tryz.prog E w0 ⟨some d, .call { callee := .value (.func 37), args := #[o0], argTypes := ats }, ty, pos, af, gd⟩ :=
  st_call1 en_put (T0 := fun _ v => v = .agg #[.bool s, .slice A n c]) h0.has fun W v0 hb k0 => by
    subst k0
    refine (bput_any (hs.below hb (Nat.le_refl _)) hb.size hx hn hN (hE.below hb)).mono ?_
    rintro e w' ⟨t, rfl, ht, hb2⟩
    exact ⟨⟨_, rfl, hd _ _ ⟨t, rfl, ht⟩⟩, hb2⟩
theorem sn_put3 {o0 : Operand} {s : Bool} {xs : List Int} (h0 : OpHas E o0 (STy.refI s xs).holds) (hx : Dg 4294967296 xs) (hn : xs.length ≤ 1000000) (hd : ∀ w v, (STy.txt (putI (ival s xs))).holds w v → (slotTy E d).holds w v) :
    OpStep Tryz.prog E w0 ⟨some d, .call { callee := .value (.func 38), args := #[o0], argTypes := ats }, ty, pos, af, gd⟩ :=
  st_call1 en_put3 h0 fun W v0 hb k0 => by
    obtain ⟨A, n, c, rfl, i0⟩ := k0
    refine (put3_any i0 (Nat.le_refl _) hx (by have := i0.len; omega)).mono ?_
    rintro e w' ⟨t, rfl, ht, hb2⟩
    exact ⟨⟨_, rfl, hd _ _ ⟨t, rfl, ht⟩⟩, hb2⟩
theorem sn_eqTT {s t : Nat} {l : List UInt8} (h0 : OpHas E (.tmp s) (STy.txt l).holds) (h1 : OpHas E (.tmp t) (STy.txt l).holds) (hd : ∀ w, (slotTy E d).holds w (.bool true)) : OpStep Tryz.prog E w0 ⟨some d, .binOp .eql 9 (.tmp s) (.tmp t) 9, ty, pos, af, gd⟩ := by
  intro ρ w hc hf hb hs
  obtain ⟨u, e0, hu⟩ := OpHas.at_ hc hs (o := .tmp s) (by simp [Op.operands]) h0
  obtain ⟨v, e1, hv⟩ := OpHas.at_ hc hs (o := .tmp t) (by simp [Op.operands]) h1
  have e2 : (u.toList == v.toList) = true := by rw [ByteArray.toList_eq, ByteArray.toList_eq, hu, hv]; exact beq_self_eq_true _
  clear h0 h1 hs hc hf hb
  unfold Yields
  go_simp
  exact ⟨hd _, Below.refl _ _⟩
theorem sn_int64A {o0 : Operand} {s : Bool} {A : Option Addr} {n c : Nat} {xs : List Int} (h0 : OpIs E o0 (.agg #[.bool s, .slice A n c])) (hs : Sl .u32 w0 w0.heap.size A n c xs) (hx : Dg 4294967296 xs) (hn : n ≤ 100000000) (hE : Env w0) (hd : ∀ w, (slotTy E d).holds w (.tuple #[.int .i64 (in64 (ival s xs)), .bool (fits64 (ival s xs))])) :
    OpStep Tryz.prog E w0 ⟨some d, .call { callee := .value (.func 34), args := #[o0], argTypes := ats }, ty, pos, af, gd⟩ :=
  st_call1 en_int64 (T0 := fun _ v => v = .agg #[.bool s, .slice A n c]) h0.has fun W v0 hb k0 => by
    subst k0
    refine (bint64_any (hs.below hb (Nat.le_refl _)) hb.size (hE.below hb).half (hE.below hb).hz hx (by omega)).mono ?_
    rintro e w' ⟨rfl, hb2⟩
    exact ⟨⟨_, rfl, hd _⟩, hb2⟩
theorem en_int64_3 : Enters Tryz.prog 35 := fun _ _ => by kernel_rfl
theorem sn_int64_3 {o0 : Operand} {s : Bool} {xs : List Int} (h0 : OpHas E o0 (STy.refI s xs).holds) (hx : Dg 4294967296 xs) (hn : xs.length ≤ 1000000) (hd : ∀ w, (slotTy E d).holds w (.tuple #[.int .i64 (in64 (ival s xs)), .bool (fits64 (ival s xs))])) :
    OpStep Tryz.prog E w0 ⟨some d, .call { callee := .value (.func 35), args := #[o0], argTypes := ats }, ty, pos, af, gd⟩ :=
  st_call1 en_int64_3 h0 fun W v0 hb k0 => by
    obtain ⟨A, n, c, rfl, i0⟩ := k0
    refine (int64_3_any i0 (Nat.le_refl _) hx (by have := i0.len; omega)).mono ?_
    rintro e w' ⟨rfl, hb2⟩
    exact ⟨⟨_, rfl, hd _⟩, hb2⟩
end
end Go.Proofs.YtbjooeapjhaapaaGreatDoor
