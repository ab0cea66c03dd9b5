/- Steps of a drawn region: what an operand holds; calls by their contracts; what a slot holds behind it. -/
import Derived.Test.YtbjooeapjhaapaaGreatDoorTypedF
import Derived.WalkKit
namespace Go.Proofs.YtbjooeapjhaapaaGreatDoor
open Go Go.RowKit

/-- What an operand holds. -/
def OpIs (E : List (Nat × STy)) : Operand → Value → Prop
  | .tmp s, v => ∀ w u, (slotTy E s).holds w u → u = v
  | .const c, v => c = v
  | _, _ => False
theorem OpIs.at_ {E : List (Nat × STy)} {w : World} {ρ : Operand → Value} (hc : ∀ c, ρ (.const c) = c) {l : List Operand} {o : Operand} {v : Value} (hs : SlotsHold E w ρ l) (hm : o ∈ l) (ho : OpIs E o v) : ρ o = v := by
  cases o with
  | tmp s => exact ho _ _ (hs.at_ hm)
  | const c => rw [hc]; exact ho
  | global g => exact ho.elim
  | func f => exact ho.elim
/-- What an operand holds, of a value and the memory. -/
def OpHas (E : List (Nat × STy)) : Operand → (World → Value → Prop) → Prop
  | .tmp s, T => ∀ w u, (slotTy E s).holds w u → T w u
  | .const c, T => ∀ w, T w c
  | _, _ => False
theorem OpHas.at_ {E : List (Nat × STy)} {w : World} {ρ : Operand → Value} (hc : ∀ c, ρ (.const c) = c) {l : List Operand} {o : Operand} {T : World → Value → Prop} (hs : SlotsHold E w ρ l) (hm : o ∈ l) (ho : OpHas E o T) : T w (ρ o) := by
  cases o with
  | tmp s => exact ho _ _ (hs.at_ hm)
  | const c => rw [hc]; exact ho w
  | global g => exact ho.elim
  | func f => exact ho.elim
theorem OpsHold.slot {E : List (Nat × STy)} {w : World} {v : Nat → Value} {d : Nat} : ∀ {l : List Oper}, OpsHold E w v l → d ∈ l.map dstD → (slotTy E d).holds w (v d)
  | [], _, h => by cases h
  | o :: l, h, hm => by
    rcases List.mem_cons.1 hm with e | hm
    · rw [e]; exact h.1
    · exact OpsHold.slot h.2 hm
def Enters (P : Program) (f : Nat) : Prop := ∀ (args : Array Value) (w : World), (callFunc f args).run P w = .ok (.enter f args) w
section
variable {P : Program} {E : List (Nat × STy)} {w0 : World} {d f : Nat} {ty : TypeId} {pos : String} {af : Array Edge} {gd : Option (Nat × Bool)} {o0 o1 o2 o3 : Operand} {ats : Array TypeId} {T0 T1 T2 T3 : World → Value → Prop}
theorem st_call1 (hcf : Enters P f) (h0 : OpHas E o0 T0) (hcall : ∀ w v0, Below w0.heap.size w0 w → T0 w v0 → Calls P f #[v0] w fun e w' => (∃ v, e = .returned v ∧ (slotTy E d).holds w' v) ∧ Below w.heap.size w w') :
    OpStep P E w0 ⟨some d, .call { callee := .value (.func f), args := #[o0], argTypes := ats }, ty, pos, af, gd⟩ := by
  intro ρ w hc hf hb hs
  have e0 := OpHas.at_ hc hs (o := o0) (by simp [Op.operands, Call.operands]) h0
  have hr : (execOp ρ ⟨some d, .call { callee := .value (.func f), args := #[o0], argTypes := ats }, ty, pos, af, gd⟩).run P w = .ok (.enter f #[ρ o0]) w := by
    have hff := hf f
    clear h0 hs hcall hb e0
    go_simp
    exact hcf _ _
  unfold Yields
  rw [hr]
  refine (hcall w _ hb e0).mono ?_
  rintro e w' ⟨⟨v, rfl, hT⟩, hB⟩
  exact ⟨v, rfl, hT, hB⟩
theorem st_call2 (hcf : Enters P f) (h0 : OpHas E o0 T0) (h1 : OpHas E o1 T1) (hcall : ∀ w v0 v1, Below w0.heap.size w0 w → T0 w v0 → T1 w v1 → Calls P f #[v0, v1] w fun e w' => (∃ v, e = .returned v ∧ (slotTy E d).holds w' v) ∧ Below w.heap.size w w') :
    OpStep P E w0 ⟨some d, .call { callee := .value (.func f), args := #[o0, o1], argTypes := ats }, ty, pos, af, gd⟩ := by
  intro ρ w hc hf hb hs
  have e0 := OpHas.at_ hc hs (o := o0) (by simp [Op.operands, Call.operands]) h0
  have e1 := OpHas.at_ hc hs (o := o1) (by simp [Op.operands, Call.operands]) h1
  have hr : (execOp ρ ⟨some d, .call { callee := .value (.func f), args := #[o0, o1], argTypes := ats }, ty, pos, af, gd⟩).run P w = .ok (.enter f #[ρ o0, ρ o1]) w := by
    have hff := hf f
    clear h0 h1 hs hcall hb e0 e1
    go_simp
    exact hcf _ _
  unfold Yields
  rw [hr]
  refine (hcall w _ _ hb e0 e1).mono ?_
  rintro e w' ⟨⟨v, rfl, hT⟩, hB⟩
  exact ⟨v, rfl, hT, hB⟩
theorem st_call3 (hcf : Enters P f) (h0 : OpHas E o0 T0) (h1 : OpHas E o1 T1) (h2 : OpHas E o2 T2) (hcall : ∀ w v0 v1 v2, Below w0.heap.size w0 w → T0 w v0 → T1 w v1 → T2 w v2 → Calls P f #[v0, v1, v2] w fun e w' => (∃ v, e = .returned v ∧ (slotTy E d).holds w' v) ∧ Below w.heap.size w w') :
    OpStep P E w0 ⟨some d, .call { callee := .value (.func f), args := #[o0, o1, o2], argTypes := ats }, ty, pos, af, gd⟩ := by
  intro ρ w hc hf hb hs
  have e0 := OpHas.at_ hc hs (o := o0) (by simp [Op.operands, Call.operands]) h0
  have e1 := OpHas.at_ hc hs (o := o1) (by simp [Op.operands, Call.operands]) h1
  have e2 := OpHas.at_ hc hs (o := o2) (by simp [Op.operands, Call.operands]) h2
  have hr : (execOp ρ ⟨some d, .call { callee := .value (.func f), args := #[o0, o1, o2], argTypes := ats }, ty, pos, af, gd⟩).run P w = .ok (.enter f #[ρ o0, ρ o1, ρ o2]) w := by
    have hff := hf f
    clear h0 h1 h2 hs hcall hb e0 e1 e2
    go_simp
    exact hcf _ _
  unfold Yields
  rw [hr]
  refine (hcall w _ _ _ hb e0 e1 e2).mono ?_
  rintro e w' ⟨⟨v, rfl, hT⟩, hB⟩
  exact ⟨v, rfl, hT, hB⟩
end
end Go.Proofs.YtbjooeapjhaapaaGreatDoor
