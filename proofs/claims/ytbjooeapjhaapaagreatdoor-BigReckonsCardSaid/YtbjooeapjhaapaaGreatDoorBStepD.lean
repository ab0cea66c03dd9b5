/- More steps: lengths, comparisons, Right, works, a text parsed again. -/
import Derived.Test.YtbjooeapjhaapaaGreatDoorBLawB
namespace Go.Proofs.YtbjooeapjhaapaaGreatDoor
open Go Go.RowKit

theorem put_size {N : Int} {L : Nat} (hN : (N.natAbs : Int) < 4294967296 ^ L) (hL : L ≤ 400) : (putI N).length ≤ 4000 ∧ (putL N.natAbs).length ≤ 3900 := by
  have h1 : (4294967296 : Int) ^ L ≤ 4294967296 ^ 400 := pow_mono (by decide) hL
  have h2 : (4294967296 : Int) ^ 400 < 10 ^ 3854 := by decide +kernel
  have h3 := putL_len_of (N := (N.natAbs : Int)) 3854 (by omega)
  rw [Int.toNat_natCast] at h3
  unfold putI
  split
  · rw [List.length_cons]; omega
  · omega
theorem headB_put {t : ByteArray} {N : Int} (ht : t.data.toList = putI N) : (headB t).1 = decide (N < 0) ∧ (headB t).2.data.toList = putL N.natAbs := by
  have hsz : t.data.toList.length = t.size := by simp
  unfold putI at ht
  by_cases hn : N < 0
  · rw [if_pos hn] at ht
    rw [ht, List.length_cons] at hsz
    have hp : 0 < t.size := by omega
    have h0 : t[0] = 45 := by
      have h1 : t.data.toList[0]'(by rw [ht]; simp) = 45 := by simp [ht]
      exact h1
    rw [headB_yes hp (by rw [h0]; rfl), decide_eq_true hn]
    refine ⟨rfl, ?_⟩
    rw [ByteArray.data_extract, Array.toList_extract, ht]
    simp only [List.extract_eq_take_drop, List.drop_succ_cons, List.drop_zero]
    exact List.take_of_length_le (by omega)
  · rw [if_neg hn] at ht
    rw [headB_no, decide_eq_false hn]
    · exact ⟨rfl, ht⟩
    · intro hp h45
      have hm : t[0] ∈ t.data.toList := mem_at t 0 hp
      rw [ht] at hm
      have := putL_dig _ _ hm
      unfold isDig at this
      omega
/-- What is put is parsed as it was. -/
theorem parse_put {w w' : World} {N : Int} {L : Nat} {t : ByteArray} {e : Ending} (h : ParseI w t e w') (ht : t.data.toList = putI N) (hN : (N.natAbs : Int) < 4294967296 ^ L) (hL : L ≤ 400) :
    ∃ s A n c, e = .returned (.tuple #[.agg #[.bool s, .slice A n c], .int .i64 0]) ∧ IsN w' N L s A n c ∧ Below w.heap.size w w' := by
  obtain ⟨h1, h2⟩ := headB_put ht
  have hsz := (put_size hN hL).2
  rw [← h2] at hsz
  have hsz2 : (headB t).2.data.toList.length = (headB t).2.size := by simp
  have hw := putL_written h2
  have hdv : dval (headB t).2.data.toList = (N.natAbs : Int) := by rw [h2]; exact dval_putL _
  unfold ParseI ParseS at h
  rw [hdv, h1] at h
  rcases h with ⟨h, _⟩ | ⟨_, h, _⟩ | ⟨_, _, h, h0, _⟩ | ⟨_, _, _, s1, xs, A, n, c, hW, rfl, ho, hb⟩
  · exact absurd hw h
  · omega
  · have := of_decide_eq_true h
    omega
  · rw [sgv_self] at hW
    exact ⟨s1, A, n, c, rfl, ⟨xs, hW, ho.sl, by have := hW.len hN; have := ho.len; omega⟩, hb⟩
section
variable {E : List (Nat × STy)} {w0 : World} {d : Nat} {ty : TypeId} {pos : String} {af : Array Edge} {gd : Option (Nat × Bool)} {ats : Array TypeId}
set_option maxRecDepth 20000 in
theorem st_lenU {s n c : Nat} {A : Option Addr} (hx : OpIs E (.tmp s) (.slice A n c)) (hd : ∀ w, (slotTy E d).holds w (.int .i64 n)) :
    OpStep Tryz.prog E w0 ⟨some d, .call { callee := .builtin .len, args := #[.tmp s], argTypes := #[22] }, ty, pos, af, gd⟩ := by
  intro ρ w hc hf hb hs
  have e := hx _ _ hs.1
  clear hx hs hc hf hb
  unfold Yields
  go_simp
  exact ⟨hd _, Below.refl _ _⟩
theorem st_gtrI {o0 o1 : Operand} {x y : Int} (h0 : OpIs E o0 (.int .i64 x)) (h1 : OpIs E o1 (.int .i64 y)) (hd : ∀ w, (slotTy E d).holds w (.bool (decide (y < x)))) : OpStep Tryz.prog E w0 ⟨some d, .binOp .gtr 3 o0 o1 3, ty, pos, af, gd⟩ := by
  intro ρ w hc hf hb hs
  have e0 := OpIs.at_ hc hs (o := o0) (by simp [Op.operands]) h0
  have e1 := OpIs.at_ hc hs (o := o1) (by simp [Op.operands]) h1
  clear h0 h1 hs hc hf hb
  unfold Yields
  go_simp
  exact ⟨hd _, Below.refl _ _⟩
theorem st_geqI {o0 o1 : Operand} {x y : Int} (h0 : OpIs E o0 (.int .i64 x)) (h1 : OpIs E o1 (.int .i64 y)) (hd : ∀ w, (slotTy E d).holds w (.bool (decide (y ≤ x)))) : OpStep Tryz.prog E w0 ⟨some d, .binOp .geq 3 o0 o1 3, ty, pos, af, gd⟩ := by
  intro ρ w hc hf hb hs
  have e0 := OpIs.at_ hc hs (o := o0) (by simp [Op.operands]) h0
  have e1 := OpIs.at_ hc hs (o := o1) (by simp [Op.operands]) h1
  clear h0 h1 hs hc hf hb
  unfold Yields
  go_simp
  exact ⟨hd _, Below.refl _ _⟩
theorem st_negI {s : Nat} {x y : Int} (h0 : OpIs E (.tmp s) (.int .i64 x)) (hy : IntKind.i64.wrap (-x) = y) (hd : ∀ w, (slotTy E d).holds w (.int .i64 y)) : OpStep Tryz.prog E w0 ⟨some d, .unOp .neg 3 (.tmp s), ty, pos, af, gd⟩ := by
  intro ρ w hc hf hb hs
  have e0 := h0 _ _ hs.1
  clear h0 hs hc hf hb
  unfold Yields
  go_simp
  exact ⟨hd _, Below.refl _ _⟩
theorem st_eqE {o0 o1 : Operand} {x y : Int} (h0 : OpIs E o0 (.int .i64 x)) (h1 : OpIs E o1 (.int .i64 y)) (hd : ∀ w, (slotTy E d).holds w (.bool (x == y))) : OpStep Tryz.prog E w0 ⟨some d, .binOp .eql 28 o0 o1 28, ty, pos, af, gd⟩ := by
  intro ρ w hc hf hb hs
  have e0 := OpIs.at_ hc hs (o := o0) (by simp [Op.operands]) h0
  have e1 := OpIs.at_ hc hs (o := o1) (by simp [Op.operands]) h1
  clear h0 h1 hs hc hf hb
  unfold Yields
  go_simp
  exact ⟨hd _, Below.refl _ _⟩
theorem st_neqE {o0 o1 : Operand} {x y : Int} (h0 : OpIs E o0 (.int .i64 x)) (h1 : OpIs E o1 (.int .i64 y)) (hd : ∀ w, (slotTy E d).holds w (.bool (x != y))) : OpStep Tryz.prog E w0 ⟨some d, .binOp .neq 28 o0 o1 28, ty, pos, af, gd⟩ := by
  intro ρ w hc hf hb hs
  have e0 := OpIs.at_ hc hs (o := o0) (by simp [Op.operands]) h0
  have e1 := OpIs.at_ hc hs (o := o1) (by simp [Op.operands]) h1
  clear h0 h1 hs hc hf hb
  unfold Yields
  go_simp
  exact ⟨hd _, Below.refl _ _⟩
theorem st_eqL {o0 o1 : Operand} {x y : Int} (h0 : OpIs E o0 (.int .i64 x)) (h1 : OpIs E o1 (.int .i64 y)) (hd : ∀ w, (slotTy E d).holds w (.bool (x == y))) : OpStep Tryz.prog E w0 ⟨some d, .binOp .eql 2 o0 o1 2, ty, pos, af, gd⟩ := by
  intro ρ w hc hf hb hs
  have e0 := OpIs.at_ hc hs (o := o0) (by simp [Op.operands]) h0
  have e1 := OpIs.at_ hc hs (o := o1) (by simp [Op.operands]) h1
  clear h0 h1 hs hc hf hb
  unfold Yields
  go_simp
  exact ⟨hd _, Below.refl _ _⟩
theorem en_right : Enters Tryz.prog 26 := fun _ _ => by kernel_rfl
theorem en_works : Enters Tryz.prog 8 := fun _ _ => by kernel_rfl
theorem en_parse : Enters Tryz.prog 32 := fun _ _ => by kernel_rfl
theorem sn_right {o0 : Operand} {s b : Bool} {A : Option Addr} {n c : Nat} {xs : List Int} (h0 : OpIs E o0 (.agg #[.bool s, .slice A n c])) (hs : Sl .u32 w0 w0.heap.size A n c xs) (hr : rgt s xs = b) (hd : ∀ w, (slotTy E d).holds w (.bool b)) :
    OpStep Tryz.prog E w0 ⟨some d, .call { callee := .value (.func 26), args := #[o0], argTypes := ats }, ty, pos, af, gd⟩ :=
  st_call1 en_right (T0 := fun _ v => v = .agg #[.bool s, .slice A n c]) h0.has fun W v0 hb k0 => by
    subst k0
    refine (bright_any (hs.below hb (Nat.le_refl _)) hb.size).mono ?_
    rintro e w' ⟨rfl, hb2⟩
    rw [hr]
    exact ⟨⟨_, rfl, hd _⟩, hb2⟩
theorem st_call0 {f : Nat} (hcf : Enters Tryz.prog f) (hcall : ∀ w, Below w0.heap.size w0 w → Calls Tryz.prog f #[] w fun e w' => (∃ v, e = .returned v ∧ (slotTy E d).holds w' v) ∧ Below w.heap.size w w') :
    OpStep Tryz.prog E w0 ⟨some d, .call { callee := .value (.func f), args := #[], argTypes := ats }, ty, pos, af, gd⟩ := by
  intro ρ w hc hf hb hs
  have hr : (execOp ρ ⟨some d, .call { callee := .value (.func f), args := #[], argTypes := ats }, ty, pos, af, gd⟩).run Tryz.prog w = .ok (.enter f #[]) w := by
    have hff := hf f
    clear hs hcall hb
    go_simp
    exact hcf _ _
  unfold Yields
  rw [hr]
  refine (hcall w hb).mono ?_
  rintro e w' ⟨⟨v, rfl, hT⟩, hB⟩
  exact ⟨v, rfl, hT, hB⟩
theorem sn_works (hE : Env w0) (hd : ∀ w, (slotTy E d).holds w (.bool true)) :
    OpStep Tryz.prog E w0 ⟨some d, .call { callee := .value (.func 8), args := #[], argTypes := ats }, ty, pos, af, gd⟩ :=
  st_call0 en_works fun W hb => by
    refine (bworks (hE.below hb)).mono ?_
    rintro e w' ⟨rfl, hb2⟩
    exact ⟨⟨_, rfl, hd _⟩, hb2⟩
/-- A number and no error. -/
def STy.numE (N : Int) (L : Nat) : STy := ⟨fun w v => ∃ s A n c, v = .tuple #[.agg #[.bool s, .slice A n c], .int .i64 0] ∧ IsN w N L s A n c, fun ⟨s, A, n, c, e, h⟩ hb => ⟨s, A, n, c, e, h.up hb⟩⟩
theorem sn_parse {o0 : Operand} {N : Int} {L : Nat} (h0 : OpHas E o0 (STy.txt (putI N)).holds) (hN : (N.natAbs : Int) < 4294967296 ^ L) (hL : L ≤ 400) (hd : ∀ w v, (STy.numE N L).holds w v → (slotTy E d).holds w v) :
    OpStep Tryz.prog E w0 ⟨some d, .call { callee := .value (.func 32), args := #[o0], argTypes := ats }, ty, pos, af, gd⟩ :=
  st_call1 en_parse h0 fun W v0 hb k0 => by
    obtain ⟨t, rfl, ht⟩ := k0
    have hsz : t.size ≤ maxLen := by
      have e : t.data.toList.length = t.size := by simp
      have := (put_size hN hL).1
      rw [← ht] at this
      unfold maxLen
      omega
    refine (bparsei_any t hsz).mono ?_
    rintro e w' h
    obtain ⟨s, A, n, c, rfl, i0, hb2⟩ := parse_put h ht hN hL
    exact ⟨⟨_, rfl, hd _ _ ⟨s, A, n, c, rfl, i0⟩⟩, hb2⟩
theorem sn_pnum {s : Nat} {N : Int} {L : Nat} (h : ∀ w v, (slotTy E s).holds w v → (STy.numE N L).holds w v) (hd : ∀ w v, (STy.num N L).holds w v → (slotTy E d).holds w v) : OpStep Tryz.prog E w0 ⟨some d, .extract (.tmp s) 0, ty, pos, af, gd⟩ :=
  st_extract fun w v hv => by
    obtain ⟨s1, A1, n1, c1, rfl, h1⟩ := h w v hv
    exact ⟨_, _, rfl, rfl, hd _ _ ⟨_, _, _, _, rfl, h1⟩⟩
theorem sn_perr {s : Nat} {N : Int} {L : Nat} (h : ∀ w v, (slotTy E s).holds w v → (STy.numE N L).holds w v) (hd : ∀ w, (slotTy E d).holds w (.int .i64 0)) : OpStep Tryz.prog E w0 ⟨some d, .extract (.tmp s) 1, ty, pos, af, gd⟩ :=
  st_extract fun w v hv => by
    obtain ⟨s1, A1, n1, c1, rfl, h1⟩ := h w v hv
    exact ⟨_, _, rfl, rfl, hd _⟩
end
end Go.Proofs.YtbjooeapjhaapaaGreatDoor
