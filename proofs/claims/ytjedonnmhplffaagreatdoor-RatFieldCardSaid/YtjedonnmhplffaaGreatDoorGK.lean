/- What stays when an answer is written over: what stands in older blocks; answers in new blocks; what is left of them. The steps over package rat that say that answers are new. -/
import Derived.Test.YtjedonnmhplffaaGreatDoorGJ
import Derived.Test.YtjedonnmhplffaaGreatDoorGH
import Derived.Test.YtjedonnmhplffaaGreatDoorGE
import Derived.Test.YtjedonnmhplffaaGreatDoorGG
set_option linter.unusedSimpArgs false
set_option linter.unusedVariables false
namespace Go.Proofs.YtjedonnmhplffaaGreatDoor
open Go Go.RowKit
/-- The blocks from B on. -/
def above (B : Nat) (w : World) : List Nat := (List.range w.heap.size).filter (fun b => decide (B ≤ b))
theorem mem_above {B : Nat} {w : World} {b : Nat} : b ∈ above B w ↔ b < w.heap.size ∧ B ≤ b := by simp [above]
/-- It hangs on no block from B on. -/
def VTy.und (B : Nat) (T : VTy) : VTy := ⟨fun X w v => B ≤ w.heap.size ∧ T.holds (X ++ above B w) w v, fun ⟨hB, h⟩ hk hX => ⟨Nat.le_trans hB hk.size, T.stable h ⟨hk.size, fun b hb hx => hk.block b hb (fun h => hx (List.mem_append_left _ h))⟩ (fun b hb hlt => by
  rcases List.mem_append.1 hb with hb | hb
  · exact List.mem_append_left _ (hX b hb hlt)
  · exact List.mem_append_right _ (mem_above.2 ⟨hlt, (mem_above.1 hb).2⟩))⟩⟩
theorem und_weak {B : Nat} {T : VTy} {X : List Nat} {w : World} {v : Value} (h : (VTy.und B T).holds X w v) : T.holds X w v := T.stable h.2 (Keeps.rfl' _ _) (fun _ hb _ => List.mem_append_left _ hb)
theorem und_new {T : VTy} {X : List Nat} {w : World} {v : Value} (h : T.holds X w v) : (VTy.und w.heap.size T).holds X w v := ⟨Nat.le_refl _, T.stable h (Keeps.rfl' _ _) (fun b hb hlt => by
  rcases List.mem_append.1 hb with hb | hb
  · exact hb
  · have := (mem_above.1 hb).2; omega)⟩
instance {B k : Nat} {ag : Bool} {T : VTy} [z : SizeV T k ag] : SizeV (.und B T) k ag := ⟨fun h => z.ok (und_weak h)⟩
instance {B off k : Nat} {ag : Bool} {T T' : VTy} [p : PartC T off k ag T'] : PartC (.und B T) off k ag (.und B T') := ⟨p.one, fun {X w v} h => by
  obtain ⟨hB, h⟩ := h
  obtain ⟨cs, h1, h2, h3⟩ := p.ok h
  exact ⟨cs, h1, h2, fun u hu hu' => ⟨hB, h3 u hu hu'⟩⟩⟩
instance {B L : Nat} {q : Rat} {T : VTy} [a : AsQ T q L] : AsQ (.und B T) q L := ⟨fun h => a.ok (und_weak h)⟩
instance {B : Nat} {x : RawQ} {T : VTy} [a : AsZ T x] : AsZ (.und B T) x := ⟨fun h => a.ok (und_weak h)⟩
instance {B L : Nat} {q : Rat} {T : VTy} [a : AsC T q L] : AsC (.und B T) q L := ⟨fun h => a.ok (und_weak h)⟩
class AsX (T : VTy) (x : outParam RawQ) (L : outParam Nat) : Prop where
  ok : ∀ {X w v}, T.holds X w v → (VTy.qx x L).holds X w v
instance {x : RawQ} {L : Nat} : AsX (.qx x L) x L := ⟨fun h => h⟩
instance {B L : Nat} {x : RawQ} {T : VTy} [a : AsX T x L] : AsX (.und B T) x L := ⟨fun h => a.ok (und_weak h)⟩
/-- Memory is B blocks at least. -/
class SzC (L : List Loc) (B : outParam Nat) : Prop where
  ok : ∀ {w00 : World} {X : List Nat} {w : World}, Mem w00 X L w → B ≤ w.heap.size
instance SzC.here {L : List Loc} {r B : Nat} {T : VTy} : SzC ((r, .und B T) :: L) B := ⟨fun h => by obtain ⟨_, _, v, ty, h1, _⟩ := h.loc _ List.mem_cons_self; exact h1.1⟩
instance (priority := low) SzC.there {L : List Loc} {p : Loc} {B : Nat} [k : SzC L B] : SzC (p :: L) B := ⟨fun h => k.ok ⟨fun p hp => h.loc p (List.mem_cons_of_mem _ hp), h.far, by have := h.nodup; rw [List.map_cons, List.nodup_cons] at this; exact this.2, h.below⟩⟩
/-- What is left of an answer: two rows that may be written over, in new blocks. -/
def Sh (B : Nat) (X : List Nat) (w : World) (A : Option Addr) (n : Nat) : Prop :=
  n ≤ 9223372036854775807 ∧ (0 < n → ∃ b off cs, A = some ⟨b, off, none⟩ ∧ b < w.heap.size ∧ b ∉ X ∧ B ≤ b ∧ w.heap[b]? = some (.cells cs 69 (0, 0)) ∧ off + n ≤ cs.size)
def VTy.jk (B : Nat) : VTy := ⟨fun X w v => ∃ s A n c s2 A2 n2 c2, v = .agg #[.bool s, .slice A n c, .bool s2, .slice A2 n2 c2] ∧ Sh B X w A n ∧ Sh B X w A2 n2, fun {X X' w w' v} ⟨s, A, n, c, s2, A2, n2, c2, e, h1, h2⟩ hk hX => by
  have key : ∀ {A : Option Addr} {n : Nat}, Sh B X w A n → Sh B X' w' A n := fun {A n} h => ⟨h.1, fun hn => by
    obtain ⟨b, off, cs, e, g1, g2, g3, g4, g5⟩ := h.2 hn
    exact ⟨b, off, cs, e, Nat.lt_of_lt_of_le g1 hk.size, fun hb => g2 (hX b hb g1), g3, (hk.block b g1 g2).trans g4, g5⟩⟩
  exact ⟨s, A, n, c, s2, A2, n2, c2, e, key h1, key h2⟩⟩
instance {B : Nat} : SizeV (.jk B) 4 true := ⟨fun {X w v} ⟨s, A, n, c, s2, A2, n2, c2, e, h1, h2⟩ => by rw [e]; exact ⟨rfl, by simp [Value.cells, Value.oneCell'], fun _ => rfl, fun h => by cases h⟩⟩
instance {B : Nat} : PartC (.jk B) 0 4 true (.jk B) := .whole inferInstance
theorem sh_of {B : Nat} {X : List Nat} {w : World} {A : Option Addr} {n c : Nat} {xs : List Int} (h : SlF .u32 w (NewB B X w) A n c xs) : Sh B X w A n := by
  refine ⟨h.1.lenMax, fun hn => ?_⟩
  obtain ⟨b, off, x, rfl, _, _, hc⟩ := h.1.at_ (j := n - 1) (by omega)
  obtain ⟨g1, g2, cs, g3⟩ := h.2 hn b rfl
  refine ⟨b, off, cs, rfl, g1.1, g1.2, g2, g3, ?_⟩
  unfold World.cell? at hc
  simp only [g3] at hc
  have := (Array.getElem?_eq_some_iff.1 (show cs[off + (n - 1)]? = some _ from by simpa using hc)).1
  omega
theorem nw_jk {p : RawQ → Prop} {B : Nat} {X : List Nat} {w : World} {v : Value} (h : (VTy.nw p B).holds X w v) : (VTy.jk B).holds X w v := by
  obtain ⟨x, hp, cs, rfl, c1, c2, rfl, h1, h2⟩ := h
  obtain ⟨A, n, c, rfl, s1, _⟩ := num_rd.1 h1
  obtain ⟨A2, n2, c2, rfl, s2, _⟩ := num_rd.1 h2
  exact ⟨x.1.1, A, n, c, x.2.1, A2, n2, c2, rfl, sh_of s1, sh_of s2⟩
/-- Some limbs of blocks from B on, that are not set aside, have been written over. -/
structure Sp (B : Nat) (X : List Nat) (w w' : World) : Prop where
  os : w'.os = w.os
  tape : w'.tape = w.tape
  output : w'.output = w.output
  size : w.heap.size ≤ w'.heap.size
  block : ∀ b, b < w.heap.size → w'.heap[b]? = w.heap[b]? ∨ (B ≤ b ∧ b ∉ X ∧ ∃ cs cs' : Array Value, w.heap[b]? = some (.cells cs 69 (0, 0)) ∧ w'.heap[b]? = some (.cells cs' 69 (0, 0)) ∧ cs'.size = cs.size)
theorem Sp.refl (B : Nat) (X : List Nat) (w : World) : Sp B X w w := ⟨rfl, rfl, rfl, Nat.le_refl _, fun _ _ => .inl rfl⟩
theorem Sp.alloc {B : Nat} {X : List Nat} {w w' : World} (h : Sp B X w w') (o : Obj) : Sp B X w (w'.alloc o) := by
  refine ⟨h.os, h.tape, h.output, Nat.le_trans h.size (by simp), fun b hb => ?_⟩
  rw [Below.heap_alloc _ _ _ (Nat.lt_of_lt_of_le hb h.size)]
  exact h.block b hb
theorem Sp.cells {B : Nat} {X : List Nat} {w w' : World} {b : Nat} {cs : Array Value} (h : Sp B X w w') (hb : b < w.heap.size) (hc : w.heap[b]? = some (.cells cs 69 (0, 0))) : ∃ cs' : Array Value, w'.heap[b]? = some (.cells cs' 69 (0, 0)) ∧ cs'.size = cs.size := by
  rcases h.block b hb with e | ⟨_, _, c0, c1, e0, e1, e2⟩
  · exact ⟨cs, e.trans hc, rfl⟩
  · rw [hc] at e0
    injection e0 with e0
    injection e0 with e0
    subst e0
    exact ⟨c1, e1, e2⟩
theorem heap_setCell_at {w : World} {b j : Nat} {cs : Array Value} {t : TypeId} {f : Nat × Nat} (v : Value) (h : w.heap[b]? = some (.cells cs t f)) : (w.setCell ⟨b, j, none⟩ v).heap[b]? = some (.cells (cs.setIfInBounds j v) t f) := by
  simp only [World.setCell, Array.getElem?_modify, h]
  simp
theorem Sp.set {B : Nat} {X : List Nat} {w w' : World} {b j : Nat} {cs : Array Value} (h : Sp B X w w') (hb : b < w.heap.size) (hB : B ≤ b) (hX : b ∉ X) (hc : w.heap[b]? = some (.cells cs 69 (0, 0))) (v : Value) : Sp B X w (w'.setCell ⟨b, j, none⟩ v) := by
  refine ⟨h.os, h.tape, h.output, Nat.le_trans h.size (by simp [World.setCell]), fun i hi => ?_⟩
  by_cases e : i = b
  · subst e
    obtain ⟨c1, e1, e2⟩ := h.cells hi hc
    exact .inr ⟨hB, hX, cs, _, hc, heap_setCell_at v e1, by simp [e2]⟩
  · rw [Below.heap_setCell _ _ _ _ e]
    exact h.block i hi
theorem cell_other {w : World} {b j r o : Nat} (v : Value) (h : r ≠ b) : (w.setCell ⟨b, j, none⟩ v).cell? ⟨r, o, none⟩ = w.cell? ⟨r, o, none⟩ := World.cell?_of_block (Below.heap_setCell _ _ _ _ h)
theorem Sh.sp {B : Nat} {X : List Nat} {w w' : World} {A : Option Addr} {n : Nat} (h : Sh B X w A n) (hs : Sp B X w w') : Sh B X w' A n := ⟨h.1, fun hn => by
  obtain ⟨b, off, cs, e, g1, g2, g3, g4, g5⟩ := h.2 hn
  obtain ⟨c1, e1, e2⟩ := hs.cells g1 g4
  exact ⟨b, off, c1, e, Nat.lt_of_lt_of_le g1 hs.size, g2, g3, e1, by omega⟩⟩
/-- The cell of a row's element. -/
theorem Sh.at {B : Nat} {X : List Nat} {w w' : World} {A : Option Addr} {n : Nat} (h : Sh B X w A n) (hs : Sp B X w w') {k : Nat} (hk : k < n) : ∃ b off cs x, A = some ⟨b, off, none⟩ ∧ b < w.heap.size ∧ B ≤ b ∧ b ∉ X ∧ w.heap[b]? = some (.cells cs 69 (0, 0)) ∧ w'.cell? ⟨b, off + k, none⟩ = some x ∧ w'.frozen? ⟨b, off + k, none⟩ = false := by
  obtain ⟨b, off, cs, e, g1, g2, g3, g4, g5⟩ := h.2 (by omega)
  obtain ⟨c1, e1, e2⟩ := hs.cells g1 g4
  have hlt : off + k < c1.size := by omega
  refine ⟨b, off, cs, c1[off + k], e, g1, g3, g2, g4, ?_, ?_⟩
  · unfold World.cell?
    simp [e1, hlt]
  · unfold World.frozen?
    simp [e1]
set_option maxRecDepth 20000 in
set_option maxHeartbeats 2000000 in
theorem cL_spoil {X : List Nat} {w : World} {v : Value} {B : Nat} (h : (VTy.jk B).holds X w v) : Calls Tryz.prog 30 #[v] w fun e w' => e = .returned (.tuple #[]) ∧ Sp B X w w' := by
  obtain ⟨s, A, n, c, s2, A2, n2, c2, rfl, h1, h2⟩ := h
  have m1 := h1.1
  have m2 := h2.1
  have hs0 := (Sp.refl B X w).alloc (.cells #[.bool s, .slice A n c, .bool s2, .slice A2 n2 c2] 26)
  have hh : (w.alloc (.cells #[.bool s, .slice A n c, .bool s2, .slice A2 n2 c2] 26)).heap[w.heap.size]? = some (.cells #[.bool s, .slice A n c, .bool s2, .slice A2 n2 c2] 26 (0, 0)) := heap_new _ _
  have p1 : (w.alloc (.cells #[.bool s, .slice A n c, .bool s2, .slice A2 n2 c2] 26)).cell? ⟨w.heap.size, 1, none⟩ = some (.slice A n c) := cell_at hh rfl
  have p3 : (w.alloc (.cells #[.bool s, .slice A n c, .bool s2, .slice A2 n2 c2] 26)).cell? ⟨w.heap.size, 3, none⟩ = some (.slice A2 n2 c2) := cell_at hh rfl
  clear hh
  have H1 := Lib.hid h1
  have H2 := Lib.hid h2
  have S0 := Lib.hid hs0
  clear h1 h2 hs0
  go_enter Tryz.func30, Tryz.ntmps30
  go_wp2_with fail
  generalize w.alloc (.cells #[.bool s, .slice A n c, .bool s2, .slice A2 n2 c2] 26) = W0 at S0 p1 p3 ⊢
  go_loopw [2] (fun i wr => ∃ k : Nat, k ≤ n ∧ i = .int .i64 k ∧ Sp B X w wr ∧ wr.cell? ⟨w.heap.size, 1, none⟩ = some (.slice A n c) ∧ wr.cell? ⟨w.heap.size, 3, none⟩ = some (.slice A2 n2 c2)) (fun i _ => n - (intOf i).toNat)
  case atStart => exact ⟨0, Nat.zero_le _, rfl, S0.out, p1, p3⟩
  case round =>
    obtain ⟨k, hk, rfl, hsp, q1, q3⟩ := hrel
    clear S0 p1 p3
    by_cases hlt : k < n
    · obtain ⟨b, off, cs, x, rfl, g1, g2, g3, g4, hcell, hfr⟩ := H1.out.at hsp hlt
      have hnext := Lib.hid (hsp.set (j := off + k) g1 g2 g3 g4 (.int .u32 77))
      have hki : (k : Int) < (n : Int) := by omega
      have G := Lib.hid g1
      clear hsp g2 g3 g4 g1
      go_wp2_with fail
      go_roundw
      case rel =>
        have hne : w.heap.size ≠ b := by have := G.out; omega
        exact ⟨k + 1, by omega, by go_num, hnext.out, (cell_other _ hne).trans q1, (cell_other _ hne).trans q3⟩
      case measure => simp [intOf] <;> omega
    · have HS := Lib.hid hsp
      clear hsp
      go_wp2_with fail
      go_loopw [3] (fun i wr => ∃ k : Nat, k ≤ n2 ∧ i = .int .i64 k ∧ Sp B X w wr ∧ wr.cell? ⟨w.heap.size, 3, none⟩ = some (.slice A2 n2 c2)) (fun i _ => n2 - (intOf i).toNat)
      case atStart => exact ⟨0, Nat.zero_le _, rfl, HS.out, q3⟩
      case round =>
        clear HS q1 q3
        obtain ⟨k, hk, rfl, hsp, q3⟩ := hrel
        by_cases hlt : k < n2
        · obtain ⟨b, off, cs, x, rfl, g1, g2, g3, g4, hcell, hfr⟩ := H2.out.at hsp hlt
          have hnext := Lib.hid (hsp.set (j := off + k) g1 g2 g3 g4 (.int .u32 77))
          have hki : (k : Int) < (n2 : Int) := by omega
          have G := Lib.hid g1
          clear hsp g2 g3 g4 g1
          go_wp2_with fail
          go_roundw
          case rel =>
            have hne : w.heap.size ≠ b := by have := G.out; omega
            exact ⟨k + 1, by omega, by go_num, hnext.out, (cell_other _ hne).trans q3⟩
          case measure => simp [intOf] <;> omega
        · have HS := Lib.hid hsp
          clear hsp
          go_wp2_with fail
          go_end0
          exact ⟨rfl, HS.out⟩
section
variable {w00 : World} {N : Nat} {L : List Loc} {E : List (Nat × VTy)} {d : Nat} {t0 : TypeId} {pos : String} {af : Array Edge} {gd : Option (Nat × Bool)} {ats : Array TypeId}
end
section
variable {P : Program} {w00 : World} {N : Nat} {L : List Loc} {E : List (Nat × VTy)} {d : Nat} {t0 : TypeId} {pos : String} {af : Array Edge} {gd : Option (Nat × Bool)} {ats : Array TypeId}
theorem sz1 {f : Nat} {o0 : Operand} {T0 T : VTy} [h0 : OpC E o0 T0] (hcf : Enters P f) (hcall : ∀ X w v0, Mem w00 X L w → T0.holds X w v0 → Calls P f #[v0] w (Gives X w T)) :
    StepT P w00 N L E ⟨some d, .call { callee := .value (.func f), args := #[o0], argTypes := ats }, t0, pos, af, gd⟩ T := by
  constructor
  intro X ρ w hc hf hN hm hsl
  have e0 : T0.holds X w (ρ o0) := h0.get hc fun p hp e => hsl p hp (by simp [Op.operands, Call.operands, e])
  have hr : (execOp ρ ⟨some d, .call { callee := .value (.func f), args := #[o0], argTypes := ats }, t0, pos, af, gd⟩).run P w = .ok (.enter f #[ρ o0]) w := by
    have hff := hf f
    clear hsl hcall hm hN hc e0
    go_simp
    exact hcf _ _
  unfold Yields
  rw [hr]
  refine (hcall X w _ hm e0).mono ?_
  rintro e w' ⟨v, rfl, hT, hB⟩
  exact ⟨v, rfl, hT, hB⟩
theorem sz2 {f : Nat} {o0 o1 : Operand} {T0 T1 T : VTy} [h0 : OpC E o0 T0] [h1 : OpC E o1 T1] (hcf : Enters P f) (hcall : ∀ X w v0 v1, Mem w00 X L w → T0.holds X w v0 → T1.holds X w v1 → Calls P f #[v0, v1] w (Gives X w T)) :
    StepT P w00 N L E ⟨some d, .call { callee := .value (.func f), args := #[o0, o1], argTypes := ats }, t0, pos, af, gd⟩ T := by
  constructor
  intro X ρ w hc hf hN hm hsl
  have e0 : T0.holds X w (ρ o0) := h0.get hc fun p hp e => hsl p hp (by simp [Op.operands, Call.operands, e])
  have e1 : T1.holds X w (ρ o1) := h1.get hc fun p hp e => hsl p hp (by simp [Op.operands, Call.operands, e])
  have hr : (execOp ρ ⟨some d, .call { callee := .value (.func f), args := #[o0, o1], argTypes := ats }, t0, pos, af, gd⟩).run P w = .ok (.enter f #[ρ o0, ρ o1]) w := by
    have hff := hf f
    clear hsl hcall hm hN hc e0 e1
    go_simp
    exact hcf _ _
  unfold Yields
  rw [hr]
  refine (hcall X w _ _ hm e0 e1).mono ?_
  rintro e w' ⟨v, rfl, hT, hB⟩
  exact ⟨v, rfl, hT, hB⟩
end
section
variable {w00 : World} {N : Nat} {L : List Loc} {E : List (Nat × VTy)} {d : Nat} {t0 : TypeId} {pos : String} {af : Array Edge} {gd : Option (Nat × Bool)} {ats : Array TypeId}
theorem srn_add {o0 : Operand} {T0 : VTy} {p : Rat} {L0 : Nat} {o1 : Operand} {T1 : VTy} {q : Rat} {K0 : Nat} {B : Nat} [OpC E o0 T0] [a0 : AsQ T0 p L0] [OpC E o1 T1] [a1 : AsQ T1 q K0] [sz : SzC L B] (hE : Tab w00) (hb : L0 ≤ 90 ∧ K0 ≤ 90) : StepT Tryz.prog w00 N L E ⟨some d, .call { callee := .value (.func 12), args := #[o0, o1], argTypes := ats }, t0, pos, af, gd⟩ (.qn (p + q) (L0 + K0 + 1) (B)) :=
  sz2 er_add fun X w v0 v1 hm h0 h1 => by
    have hl := sz.ok hm
    refine (crn_add (hE.below hm.below) hm.far (a0.ok h0) (a1.ok h1) hb).mono fun e w' h => ?_
    obtain ⟨v, rfl, hT, hb⟩ := h; exact ⟨v, rfl, nw_le hT hl, hb⟩
theorem srn_sub {o0 : Operand} {T0 : VTy} {p : Rat} {L0 : Nat} {o1 : Operand} {T1 : VTy} {q : Rat} {K0 : Nat} {B : Nat} [OpC E o0 T0] [a0 : AsQ T0 p L0] [OpC E o1 T1] [a1 : AsQ T1 q K0] [sz : SzC L B] (hE : Tab w00) (hb : L0 ≤ 90 ∧ K0 ≤ 90) : StepT Tryz.prog w00 N L E ⟨some d, .call { callee := .value (.func 13), args := #[o0, o1], argTypes := ats }, t0, pos, af, gd⟩ (.qn (p - q) (L0 + K0 + 1) (B)) :=
  sz2 er_sub fun X w v0 v1 hm h0 h1 => by
    have hl := sz.ok hm
    refine (crn_sub (hE.below hm.below) hm.far (a0.ok h0) (a1.ok h1) hb).mono fun e w' h => ?_
    obtain ⟨v, rfl, hT, hb⟩ := h; exact ⟨v, rfl, nw_le hT hl, hb⟩
theorem srn_mul {o0 : Operand} {T0 : VTy} {p : Rat} {L0 : Nat} {o1 : Operand} {T1 : VTy} {q : Rat} {K0 : Nat} {B : Nat} [OpC E o0 T0] [a0 : AsQ T0 p L0] [OpC E o1 T1] [a1 : AsQ T1 q K0] [sz : SzC L B] (hE : Tab w00) (hb : L0 ≤ 90 ∧ K0 ≤ 90) : StepT Tryz.prog w00 N L E ⟨some d, .call { callee := .value (.func 14), args := #[o0, o1], argTypes := ats }, t0, pos, af, gd⟩ (.qn (p * q) (L0 + K0) (B)) :=
  sz2 er_mul fun X w v0 v1 hm h0 h1 => by
    have hl := sz.ok hm
    refine (crn_mul (hE.below hm.below) hm.far (a0.ok h0) (a1.ok h1) hb).mono fun e w' h => ?_
    obtain ⟨v, rfl, hT, hb⟩ := h; exact ⟨v, rfl, nw_le hT hl, hb⟩
theorem srn_div {o0 : Operand} {T0 : VTy} {p : Rat} {L0 : Nat} {o1 : Operand} {T1 : VTy} {q : Rat} {K0 : Nat} {B : Nat} [OpC E o0 T0] [a0 : AsQ T0 p L0] [OpC E o1 T1] [a1 : AsQ T1 q K0] [sz : SzC L B] (hE : Tab w00) (hb : L0 ≤ 90 ∧ K0 ≤ 90) (hq : q ≠ 0) : StepT Tryz.prog w00 N L E ⟨some d, .call { callee := .value (.func 15), args := #[o0, o1], argTypes := ats }, t0, pos, af, gd⟩ (.tup [.qn (p / q) (L0 + K0) (B), .is (.int .i64 0)]) :=
  sz2 er_div fun X w v0 v1 hm h0 h1 => by
    have hl := sz.ok hm
    refine (crn_div (hE.below hm.below) hm.far (a0.ok h0) (a1.ok h1) hb hq).mono fun e w' h => ?_
    obtain ⟨v, rfl, ⟨vs, e, hT⟩, hb⟩ := h; exact ⟨v, rfl, ⟨vs, e, by match vs, hT with | [_, _], ⟨g1, g2⟩ => exact ⟨nw_le g1 hl, g2⟩⟩, hb⟩
theorem srn_div0 {o0 : Operand} {T0 : VTy} {p : Rat} {L0 : Nat} {o1 : Operand} {T1 : VTy} {q : Rat} {K0 : Nat} {B : Nat} [OpC E o0 T0] [a0 : AsQ T0 p L0] [OpC E o1 T1] [a1 : AsQ T1 q K0] [sz : SzC L B] (hE : Tab w00) (hb : L0 ≤ 90 ∧ K0 ≤ 90) (hq : q = 0) : StepT Tryz.prog w00 N L E ⟨some d, .call { callee := .value (.func 15), args := #[o0, o1], argTypes := ats }, t0, pos, af, gd⟩ (.tup [.qg 0 2 (B), .is (.int .i64 20)]) :=
  sz2 er_div fun X w v0 v1 hm h0 h1 => by
    have hl := sz.ok hm
    refine (crn_div0 (hE.below hm.below) hm.far (a0.ok h0) (a1.ok h1) hb hq).mono fun e w' h => ?_
    obtain ⟨v, rfl, ⟨vs, e, hT⟩, hb⟩ := h; exact ⟨v, rfl, ⟨vs, e, by match vs, hT with | [_, _], ⟨g1, g2⟩ => exact ⟨nw_le g1 hl, g2⟩⟩, hb⟩
theorem srn_neg {o0 : Operand} {T0 : VTy} {p : Rat} {L0 : Nat} {B : Nat} [OpC E o0 T0] [a0 : AsQ T0 p L0] [sz : SzC L B] (hE : Tab w00) (hb : L0 ≤ 90) : StepT Tryz.prog w00 N L E ⟨some d, .call { callee := .value (.func 16), args := #[o0], argTypes := ats }, t0, pos, af, gd⟩ (.qn (-p) L0 (B)) :=
  sz1 er_neg fun X w v0 hm h0 => by
    have hl := sz.ok hm
    refine (crn_neg (hE.below hm.below) hm.far (a0.ok h0) hb).mono fun e w' h => ?_
    obtain ⟨v, rfl, hT, hb⟩ := h; exact ⟨v, rfl, nw_le hT hl, hb⟩
set_option maxRecDepth 20000 in
theorem st_neqB' {o0 o1 : Operand} {x y : Bool} {t1 : TypeId} {u : Bool} [h0 : OpC E o0 (.is (.bool x))] [h1 : OpC E o1 (.is (.bool y))] (hu : (x != y) = u) : StepT Tryz.prog w00 N L E ⟨some d, .binOp .neq 4 o0 o1 t1, t0, pos, af, gd⟩ (.is (.bool u)) := by
  constructor
  intro X ρ w hc _ hN hm hsl
  have e0 : ρ o0 = .bool x := h0.get (X := X) (w := w) hc fun p hp e => hsl p hp (by simp [Op.operands, e])
  have e1 : ρ o1 = .bool y := h1.get (X := X) (w := w) hc fun p hp e => hsl p hp (by simp [Op.operands, e])
  clear hc hsl h0 h1
  unfold Yields
  have hb := Tryz.underlying4
  subst hu
  cases x <;> cases y <;> go_simp <;> exact ⟨rfl, Below.refl _ _⟩
theorem sL_isCC {o0 o1 : Operand} {T0 T1 : VTy} {p q : Rat} {L0 K0 : Nat} [OpC E o0 T0] [a0 : AsC T0 p L0] [OpC E o1 T1] [a1 : AsC T1 q K0] (hq : p = q) : StepT Tryz.prog w00 N L E ⟨some d, .call { callee := .value (.func 17), args := #[o0, o1], argTypes := ats }, t0, pos, af, gd⟩ (.is (.bool true)) :=
  sc2 eL_is fun X w v0 v1 hX _ _ h0 h1 => cL_isC hX (a0.ok h0) (by rw [hq]; exact a1.ok h1)
theorem sL_isXX {o0 o1 : Operand} {T0 T1 : VTy} {x : RawQ} {L0 K0 : Nat} [OpC E o0 T0] [a0 : AsX T0 x L0] [OpC E o1 T1] [a1 : AsX T1 x K0] : StepT Tryz.prog w00 N L E ⟨some d, .call { callee := .value (.func 17), args := #[o0, o1], argTypes := ats }, t0, pos, af, gd⟩ (.is (.bool true)) :=
  sc2 eL_is fun X w v0 v1 hX _ _ h0 h1 => cL_isX hX (a0.ok h0) (a1.ok h1)
theorem sr_rightX {o0 : Operand} {T0 : VTy} {x : RawQ} {L0 : Nat} [OpC E o0 T0] [a0 : AsX T0 x L0] (hE : Tab w00) (hb : L0 ≤ 90) : StepT Tryz.prog w00 N L E ⟨some d, .call { callee := .value (.func 23), args := #[o0], argTypes := ats }, t0, pos, af, gd⟩ (.is (.bool (qrt x))) :=
  sc1 er_right fun X w v0 hX _ hB h0 => cr_right (hE.below hB) hX (a0.ok h0) hb
theorem s4_rightX {o0 : Operand} {T0 : VTy} {x : RawQ} {L0 : Nat} [OpC E o0 T0] [a0 : AsX T0 x L0] (hb : L0 ≤ 1000) : StepT Tryz.prog w00 N L E ⟨some d, .call { callee := .value (.func 24), args := #[o0], argTypes := ats }, t0, pos, af, gd⟩ (.is (.bool (qrt x))) :=
  sc1 e4_right fun X w v0 hX _ _ h0 => c4_right hX (a0.ok h0) hb
end
theorem bne_selfB (b : Bool) : (b != b) = false := by cases b <;> rfl
/-- What becomes of a value where blocks from B on have been written over. -/
class SurvC (B : Nat) (T : VTy) (T' : outParam VTy) : Prop where
  ok : ∀ {X : List Nat} {w w' : World} {v : Value}, T.holds X w v → Sp B X w w' → T'.holds X w' v
instance {B : Nat} {c : Value} : SurvC B (.is c) (.is c) := ⟨fun h _ => h⟩
instance {B : Nat} {T : VTy} : SurvC B (.und B T) (.und B T) := ⟨fun {X w w' v} ⟨hB, h⟩ hs => ⟨Nat.le_trans hB hs.size, T.stable h ⟨hs.size, fun b hb hx => by
  rcases hs.block b hb with e | ⟨g, _⟩
  · exact e
  · exact absurd (List.mem_append_right _ (mem_above.2 ⟨hb, g⟩)) hx⟩ (fun b hb hlt => by
  rcases List.mem_append.1 hb with hb | hb
  · exact List.mem_append_left _ hb
  · exact List.mem_append_right _ (mem_above.2 ⟨hlt, (mem_above.1 hb).2⟩))⟩⟩
instance SurvC.jk {B : Nat} : SurvC B (.jk B) (.jk B) := ⟨fun {X w w' v} ⟨s, A, n, c, s2, A2, n2, c2, e, h1, h2⟩ hs => ⟨s, A, n, c, s2, A2, n2, c2, e, h1.sp hs, h2.sp hs⟩⟩
instance {B : Nat} {p : RawQ → Prop} : SurvC B (.nw p B) (.jk B) := ⟨fun h hs => SurvC.jk.ok (nw_jk h) hs⟩
instance {B L : Nat} {q : Rat} : SurvC B (.qn q L B) (.jk B) := ⟨fun h hs => SurvC.jk.ok (nw_jk h) hs⟩
instance {B L : Nat} {q : Rat} : SurvC B (.qg q L B) (.jk B) := ⟨fun h hs => SurvC.jk.ok (nw_jk h) hs⟩
class SurvL (B : Nat) (L : List Loc) (L' : outParam (List Loc)) : Prop where
  keys : L'.map Prod.fst = L.map Prod.fst
  ok : ∀ p ∈ L', ∃ T, (p.1, T) ∈ L ∧ ∀ {X : List Nat} {w w' : World} {v : Value}, T.holds X w v → Sp B X w w' → p.2.holds X w' v
instance SurvL.nil {B : Nat} : SurvL B [] [] := ⟨rfl, fun _ h => by cases h⟩
instance SurvL.cons {B r : Nat} {L L' : List Loc} {T T' : VTy} [a : SurvC B T T'] [k : SurvL B L L'] : SurvL B ((r, T) :: L) ((r, T') :: L') := ⟨by rw [List.map_cons, List.map_cons, k.keys], fun p hp => by
  rcases List.mem_cons.1 hp with rfl | hp
  · exact ⟨T, List.mem_cons_self, a.ok⟩
  · obtain ⟨U, h1, h2⟩ := k.ok p hp
    exact ⟨U, List.mem_cons_of_mem _ h1, h2⟩⟩
class AsJ (T : VTy) (B : Nat) : Prop where
  ok : ∀ {X w v}, T.holds X w v → (VTy.jk B).holds X w v
instance {B : Nat} : AsJ (.jk B) B := ⟨fun h => h⟩
instance {B L : Nat} {q : Rat} : AsJ (.qn q L B) B := ⟨nw_jk⟩
instance {B L : Nat} {q : Rat} : AsJ (.qg q L B) B := ⟨nw_jk⟩
section
variable {w00 w : World} {X : List Nat} {L L' : List Loc} {E E' : List (Nat × VTy)} {n : Nat} {a : Act} {Q : Exit → Act → World → Prop} {ops : Array Oper} {rest : List Oper}
theorem eL_spoil : Enters Tryz.prog 30 := fun _ _ => by kernel_rfl
theorem TS.surv {B : Nat} {w' : World} (h : TS w00 X L E n a w) (hs : Sp B X w w') (hB : w00.heap.size ≤ B) [kL : SurvL B L L'] [kE : SurvL B E E'] : TS w00 X L' E' n a w' := by
  refine ⟨h.size, h.df, fun p hp => ?_, ⟨fun p hp => ?_, fun b hb => Nat.lt_of_lt_of_le (h.mem.far b hb) hs.size, by rw [kL.keys]; exact h.mem.nodup, ?_⟩⟩
  · obtain ⟨T, h1, h2⟩ := kE.ok p hp
    exact h2 (h.slots _ h1) hs
  · obtain ⟨T, h1, h2⟩ := kL.ok p hp
    obtain ⟨g1, g2, v, ty, g3, g4⟩ := h.mem.loc _ h1
    refine ⟨g1, g2, v, ty, h2 g3 hs, ?_⟩
    rcases hs.block p.1 (h.mem.far _ g1) with e | ⟨_, g, _⟩
    · exact e.trans g4
    · exact absurd g1 g
  · refine h.mem.below.trans ⟨hs.os, hs.tape, hs.output, hs.size, fun b hb => ?_⟩
    rcases hs.block b (Nat.lt_of_lt_of_le hb h.mem.below.size) with e | ⟨g, _⟩
    · exact e
    · omega
set_option maxRecDepth 20000 in
/-- An answer is written over. -/
theorem sq_spoil {B s d : Nat} {t0 : TypeId} {pos : String} {af : Array Edge} {ats : Array TypeId} {T : VTy} (h : TS w00 X L E n a w) (hB : w00.heap.size ≤ B) [hs : Look E s T] [hj : AsJ T B] [kL : SurvL B L L'] [kE : SurvL B E E'] (hd : (Nat.blt d n && !(E'.map Prod.fst).elem d) = true)
    (next : ∀ a w, TS w00 X L' E' n a w → WL Tryz.prog ops Q rest a w) : WL Tryz.prog ops Q (⟨some d, .call { callee := .value (.func 30), args := #[.tmp s], argTypes := ats }, t0, pos, af, none⟩ :: rest) a w := by
  refine wpList_run rfl ?_
  simp only [Bool.and_eq_true, Bool.not_eq_true'] at hd
  have hv := hj.ok (h.slots _ hs.mem)
  have hy : Yields Tryz.prog ⟨some d, .call { callee := .value (.func 30), args := #[.tmp s], argTypes := ats }, t0, pos, af, none⟩ a.eval w fun v w' => Sp B X w w' := by
    have hr : (execOp a.eval ⟨some d, .call { callee := .value (.func 30), args := #[.tmp s], argTypes := ats }, t0, pos, af, none⟩).run Tryz.prog w = .ok (.enter 30 #[a.tmps.getD s undef]) w := by
      have hff : a.eval (.func 30) = .func (.func 30) #[] #[] := rfl
      have hfs : a.eval (.tmp s) = a.tmps.getD s undef := rfl
      clear hv hj hs kL kE next hd h
      go_simp
      try exact eL_spoil _ _
    unfold Yields
    rw [hr]
    refine (cL_spoil hv).mono ?_
    rintro e w' ⟨rfl, hsp⟩
    exact ⟨_, rfl, hsp⟩
  refine Oper.wp_mono (fun a' w' hh => ?_) hy.wp
  obtain ⟨v, rfl, hsp⟩ := hh
  have h2 := h.surv hsp hB (L' := L') (E' := E')
  have h3 := h2.new (s := d) (T := .any) (v := v) hd.2 (by rw [← Nat.blt_eq]; exact hd.1) trivial (Below.refl _ _)
  exact next _ _ (h3.sub fun p hp => List.mem_cons_of_mem _ hp)
/-- The same, the state in the goal. -/
theorem g_spoil {cs : List Code} {B s d : Nat} {t0 : TypeId} {pos : String} {af : Array Edge} {ats : Array TypeId} {T : VTy} {Q : Exit → Act → World → Prop} (hB : w00.heap.size ≤ B) [hs : Look E s T] [hj : AsJ T B] [kL : SurvL B L L'] [kE : SurvL B E E'] (hd : (Nat.blt d n && !(E'.map Prod.fst).elem d) = true)
    (h : GR Tryz.prog w00 X L' E' n ops rest cs Q) : GR Tryz.prog w00 X L E n ops (⟨some d, .call { callee := .value (.func 30), args := #[.tmp s], argTypes := ats }, t0, pos, af, none⟩ :: rest) cs Q := ⟨fun _ _ ht => sq_spoil ht hB hd fun a w h' => h.run a w h'⟩
theorem g_spoil0 {cs : List Code} {E0 : List (Nat × VTy)} {B s d : Nat} {t0 : TypeId} {pos : String} {af : Array Edge} {ats : Array TypeId} {T : VTy} {Q : Exit → Act → World → Prop} (ss : List Nat) (hB : w00.heap.size ≤ B) [k0 : KeepC E ss E0] [hs : Look E0 s T] [hj : AsJ T B] [kL : SurvL B L L'] [kE : SurvL B E0 E'] (hd : (Nat.blt d n && !(E'.map Prod.fst).elem d) = true)
    (h : GR Tryz.prog w00 X L' E' n ops rest cs Q) : GR Tryz.prog w00 X L E n ops (⟨some d, .call { callee := .value (.func 30), args := #[.tmp s], argTypes := ats }, t0, pos, af, none⟩ :: rest) cs Q := ⟨fun _ _ ht => sq_spoil (ht.keep ss) hB hd fun a w h' => h.run a w h'⟩
theorem TS.age (h : TS w00 X L E n a w) : TS w00 X (L.map fun p => (p.1, .und w.heap.size p.2)) E n a w :=
  ⟨h.size, h.df, h.slots, ⟨fun p hp => by
    obtain ⟨q, hq, rfl⟩ := List.mem_map.1 hp
    obtain ⟨g1, g2, v, ty, g3, g4⟩ := h.mem.loc q hq
    exact ⟨g1, g2, v, ty, und_new g3, g4⟩, h.mem.far, by rw [List.map_map]; exact h.mem.nodup, h.mem.below⟩⟩
end
set_option synthInstance.maxSize 4000 in
set_option synthInstance.maxHeartbeats 400000 in
set_option maxRecDepth 20000 in
set_option maxHeartbeats 8000000 in
theorem cL_twoA {X : List Nat} {w : World} (hE : Tab w) (hX : ∀ b ∈ X, b < w.heap.size) {v0 v1 : Value} {x y : RawQ} (h0 : (VTy.qx x 4).holds X w v0) (h1 : (VTy.qx y 4).holds X w v1) (e0 : (decide ((x.1.2.length : Int) ≤ 4) && decide ((x.2.2.length : Int) ≤ 4)) = true) (e1 : (decide ((y.1.2.length : Int) ≤ 4) && decide ((y.2.2.length : Int) ≤ 4)) = true) :
    Calls Tryz.prog 3 #[v0, v1] w (Gives X w (.is (.bool true))) := by
  have z0 : (cmpQ 0 0 != 0) = false := by decide +kernel
  have z1 := cmpQ_self (qv x)
  by_cases hq : qv y = 0
  · skip
    refine ts_enter (Ts := [.qx x 4, .qx y 4]) (vs := [v0, v1]) Tryz.func3 rfl Tryz.ntmps3 (by simp) hX ⟨h0, h1, trivial⟩ fun a h => ?_
    clear h0 h1 hX
    simp only [argE, Nat.zero_add, Nat.reduceAdd] at h
    refine g_of h ?_
    clear h
    repeat' first|kernel_rfl|apply g_seq|apply g_reg|apply g_nil|apply g_draw (id:=3) [] [] 6|apply o_all|apply o_go|exact OpsT.nil|exact GuardC.nil|exact UndefC.nil|refine @GuardC.cons _ _ _ _ inferInstance ?_|refine @UndefC.cons _ _ _ inferInstance ?_|apply g_box|apply g_all|apply g_sto|apply g_asg|refine g_run rfl inferInstance (by first|exact sL_fewU (by assumption)|exact sL_works hE|exact sL_isXX|exact sL_isCC rfl|exact st_load'|exact st_not' (b := true) (u := false) rfl|exact st_not' (b := false) (u := true) rfl|exact st_not' rfl|exact st_loadE') (by kernel_rfl) ?_|refine g_sk rfl inferInstance rfl (by kernel_rfl) ?_|refine g_un rfl inferInstance (by kernel_rfl) ?_|apply g_st|apply g_skip|apply g_ct|apply g_cf|apply g_ret|refine r_1 rfl ?_|apply g_cl|exact sL_fewU (by assumption)|exact sL_works hE|exact sL_ref (by decide)|exact s4_div (by omega) (by assumption)|exact s4_div0 (by omega) (by assumption)|exact srn_add hE (by omega)|exact srn_sub hE (by omega)|exact srn_mul hE (by omega)|exact srn_neg hE (by omega)|exact srn_div hE (by omega) (by assumption)|exact srn_div0 hE (by omega) (by assumption)|exact s4_add (by omega)|exact s4_sub (by omega)|exact s4_mul (by omega)|exact s4_neg (by omega)|exact s4_cmp (by omega)|exact s4_sign (by omega)|exact s4_sameQ (by omega)|exact s4_rightX (by omega)|exact sr_rightX hE (by omega)|exact sL_isXX|exact sL_isCC rfl|exact st_neqB' (bne_selfB _)|exact st_neq' (bne_self' _)|exact sr_cmp hE (by omega)|exact sr_sign hE (by omega)|exact sr_sameU hE (by omega) (by assumption)|exact sr_same hE (by omega)|exact st_add' hw|exact st_move'|exact st_assign'|exact st_load'|exact st_extract'|exact st_and_t'|exact st_and_f'|exact st_or_f'|exact st_or_t'|exact st_not' (b := true) (u := false) rfl|exact st_not' (b := false) (u := true) rfl|exact st_not' rfl|exact st_eq' (by first|assumption|rfl)|exact st_neq' (by first|assumption|rfl)|exact st_lss' (by first|assumption|rfl)|exact st_loadE'|exact Cv.rfl'|(intro _;simp only[newX,newL,ptrs,List.map,List.cons_append,List.nil_append])|intro _
    refine g_stop fun a w h => ?_
    replace h := h.keep [9, 8, 7, 5, 6, 3, 2]
    replace h := h.age
    simp only [List.map] at h
    have hB0 := h.mem.below.size
    obtain ⟨B, hBe⟩ : ∃ B, B = w.heap.size := ⟨_, rfl⟩
    rw [← hBe] at h hB0
    clear hBe
    refine cw_block ?_
    refine cw_loop (fun k a w => ∃ i : Nat, i + k = 2 ∧ TS _ _ [(_, VTy.und B (VTy.qc 0 1)), (_, VTy.und B (VTy.qx x 4)), (_, VTy.und B (VTy.qx y 4)), (_, VTy.und B (VTy.qx y 4)), (_, VTy.und B (VTy.qx x 4))] [(9, .is (.int .i64 (i : Int))), (8, .is (.int .i64 20)), (7, VTy.is (.pointer (some ⟨_, 0, none⟩))), (5, VTy.is (.pointer (some ⟨_, 0, none⟩))), (6, VTy.is (.pointer (some ⟨_, 0, none⟩))), (3, VTy.is (.pointer (some ⟨_, 0, none⟩))), (2, VTy.is (.pointer (some ⟨_, 0, none⟩)))] 164 a w) 2 ⟨0, by omega, h⟩ ?_
    clear h
    rintro k a w ⟨i, hi, h⟩
    by_cases hlt : i < 2
    · have hc1 : decide ((i : Int) < 2) = true := decide_eq_true (by omega)
      have hw : IntKind.i64.wrap ((i : Int) + 1) = ((i + 1 : Nat) : Int) := by rw [IntKind.wrap_i64]; omega
      refine g_of h ?_
      clear h
      repeat' first|kernel_rfl|apply g_seq|apply g_reg|apply g_nil|apply g_draw (id:=8) [] [] 12|apply o_all|apply o_go|exact OpsT.nil|exact GuardC.nil|exact UndefC.nil|refine @GuardC.cons _ _ _ _ inferInstance ?_|refine @UndefC.cons _ _ _ inferInstance ?_|apply g_box|apply g_all|apply g_sto|apply g_asg|refine g_run rfl inferInstance (by first|exact sL_fewU (by assumption)|exact sL_works hE|exact sL_isXX|exact sL_isCC rfl|exact st_load'|exact st_not' (b := true) (u := false) rfl|exact st_not' (b := false) (u := true) rfl|exact st_not' rfl|exact st_loadE') (by kernel_rfl) ?_|refine g_sk rfl inferInstance rfl (by kernel_rfl) ?_|refine g_un rfl inferInstance (by kernel_rfl) ?_|apply g_st|apply g_skip|apply g_ct|apply g_cf|apply g_ret|refine r_1 rfl ?_|apply g_blk|apply g_eb|apply g_ex|apply e_t|apply e_h|refine e_o rfl ?_|apply r_t|apply r_b|apply g_cl|exact sL_fewU (by assumption)|exact sL_works hE|exact sL_ref (by decide)|exact s4_div (by omega) (by assumption)|exact s4_div0 (by omega) (by assumption)|exact srn_add hE (by omega)|exact srn_sub hE (by omega)|exact srn_mul hE (by omega)|exact srn_neg hE (by omega)|exact srn_div hE (by omega) (by assumption)|exact srn_div0 hE (by omega) (by assumption)|exact s4_add (by omega)|exact s4_sub (by omega)|exact s4_mul (by omega)|exact s4_neg (by omega)|exact s4_cmp (by omega)|exact s4_sign (by omega)|exact s4_sameQ (by omega)|exact s4_rightX (by omega)|exact sr_rightX hE (by omega)|exact sL_isXX|exact sL_isCC rfl|exact st_neqB' (bne_selfB _)|exact st_neq' (bne_self' _)|exact sr_cmp hE (by omega)|exact sr_sign hE (by omega)|exact sr_sameU hE (by omega) (by assumption)|exact sr_same hE (by omega)|exact st_add' hw|exact st_move'|exact st_assign'|exact st_load'|exact st_extract'|exact st_and_t'|exact st_and_f'|exact st_or_f'|exact st_or_t'|exact st_not' (b := true) (u := false) rfl|exact st_not' (b := false) (u := true) rfl|exact st_not' rfl|exact st_eq' (by first|assumption|rfl)|exact st_neq' (by first|assumption|rfl)|exact st_lss' (by first|assumption|rfl)|exact st_loadE'|exact Cv.rfl'|(intro _;simp only[newX,newL,ptrs,List.map,List.cons_append,List.nil_append])|intro _
      refine g_stop fun a w h => ?_
      replace h := h.keep [2, 3, 5, 6, 7, 8, 9, 10, 11, 12, 13, 14, 15]
      refine g_of h ?_
      clear h
      repeat' first|kernel_rfl|apply g_seq|apply g_reg|apply g_nil|apply g_draw (id:=11) [(62, false), (70, false), (78, false), (85, false)] [] 33|apply o_all|apply o_go|exact OpsT.nil|exact GuardC.nil|exact UndefC.nil|refine @GuardC.cons _ _ _ _ inferInstance ?_|refine @UndefC.cons _ _ _ inferInstance ?_|apply g_box|apply g_all|apply g_sto|apply g_asg|refine g_run rfl inferInstance (by first|exact sL_fewU (by assumption)|exact sL_works hE|exact sL_isXX|exact sL_isCC rfl|exact st_load'|exact st_not' (b := true) (u := false) rfl|exact st_not' (b := false) (u := true) rfl|exact st_not' rfl|exact st_loadE') (by kernel_rfl) ?_|refine g_sk rfl inferInstance rfl (by kernel_rfl) ?_|refine g_un rfl inferInstance (by kernel_rfl) ?_|apply g_st|apply g_skip|apply g_ct|apply g_cf|apply g_ret|refine r_1 rfl ?_|apply g_blk|apply g_eb|apply g_ex|apply e_t|apply e_h|refine e_o rfl ?_|apply r_t|apply r_b|apply g_cl|exact sL_fewU (by assumption)|exact sL_works hE|exact sL_ref (by decide)|exact s4_div (by omega) (by assumption)|exact s4_div0 (by omega) (by assumption)|exact srn_add hE (by omega)|exact srn_sub hE (by omega)|exact srn_mul hE (by omega)|exact srn_neg hE (by omega)|exact srn_div hE (by omega) (by assumption)|exact srn_div0 hE (by omega) (by assumption)|exact s4_add (by omega)|exact s4_sub (by omega)|exact s4_mul (by omega)|exact s4_neg (by omega)|exact s4_cmp (by omega)|exact s4_sign (by omega)|exact s4_sameQ (by omega)|exact s4_rightX (by omega)|exact sr_rightX hE (by omega)|exact sL_isXX|exact sL_isCC rfl|exact st_neqB' (bne_selfB _)|exact st_neq' (bne_self' _)|exact sr_cmp hE (by omega)|exact sr_sign hE (by omega)|exact sr_sameU hE (by omega) (by assumption)|exact sr_same hE (by omega)|exact st_add' hw|exact st_move'|exact st_assign'|exact st_load'|exact st_extract'|exact st_and_t'|exact st_and_f'|exact st_or_f'|exact st_or_t'|exact st_not' (b := true) (u := false) rfl|exact st_not' (b := false) (u := true) rfl|exact st_not' rfl|exact st_eq' (by first|assumption|rfl)|exact st_neq' (by first|assumption|rfl)|exact st_lss' (by first|assumption|rfl)|exact st_loadE'|exact Cv.rfl'|(intro _;simp only[newX,newL,ptrs,List.map,List.cons_append,List.nil_append])|intro _
      refine g_stop fun a w h => ?_
      replace h := h.keep [2, 3, 5, 6, 7, 8, 9, 10, 11, 12, 13, 14, 15]
      refine g_of h ?_
      clear h
      repeat' first|kernel_rfl|apply g_seq|apply g_reg|apply g_nil|apply g_draw (id:=13) [(92, false), (98, false), (101, true), (107, false)] [] 23|(apply o_sk;(focus rfl);(focus kernel_rfl))|apply o_all|apply o_go|exact OpsT.nil|exact GuardC.nil|exact UndefC.nil|refine @GuardC.cons _ _ _ _ inferInstance ?_|refine @UndefC.cons _ _ _ inferInstance ?_|apply g_box|apply g_all|apply g_sto|apply g_asg|refine g_run rfl inferInstance (by first|exact sL_fewU (by assumption)|exact sL_works hE|exact sL_isXX|exact sL_isCC rfl|exact st_load'|exact st_not' (b := true) (u := false) rfl|exact st_not' (b := false) (u := true) rfl|exact st_not' rfl|exact st_loadE') (by kernel_rfl) ?_|refine g_sk rfl inferInstance rfl (by kernel_rfl) ?_|refine g_un rfl inferInstance (by kernel_rfl) ?_|apply g_st|apply g_skip|apply g_ct|apply g_cf|apply g_ret|refine r_1 rfl ?_|apply g_blk|apply g_eb|apply g_ex|apply e_t|apply e_h|refine e_o rfl ?_|apply r_t|apply r_b|apply g_cl|exact sL_fewU (by assumption)|exact sL_works hE|exact sL_ref (by decide)|exact s4_div (by omega) (by assumption)|exact s4_div0 (by omega) (by assumption)|exact srn_add hE (by omega)|exact srn_sub hE (by omega)|exact srn_mul hE (by omega)|exact srn_neg hE (by omega)|exact srn_div hE (by omega) (by assumption)|exact srn_div0 hE (by omega) (by assumption)|exact s4_add (by omega)|exact s4_sub (by omega)|exact s4_mul (by omega)|exact s4_neg (by omega)|exact s4_cmp (by omega)|exact s4_sign (by omega)|exact s4_sameQ (by omega)|exact s4_rightX (by omega)|exact sr_rightX hE (by omega)|exact sL_isXX|exact sL_isCC rfl|exact st_neqB' (bne_selfB _)|exact st_neq' (bne_self' _)|exact sr_cmp hE (by omega)|exact sr_sign hE (by omega)|exact sr_sameU hE (by omega) (by assumption)|exact sr_same hE (by omega)|exact st_add' hw|exact st_move'|exact st_assign'|exact st_load'|exact st_extract'|exact st_and_t'|exact st_and_f'|exact st_or_f'|exact st_or_t'|exact st_not' (b := true) (u := false) rfl|exact st_not' (b := false) (u := true) rfl|exact st_not' rfl|exact st_eq' (by first|assumption|rfl)|exact st_neq' (by first|assumption|rfl)|exact st_lss' (by first|assumption|rfl)|exact st_loadE'|exact Cv.rfl'|(intro _;simp only[newX,newL,ptrs,List.map,List.cons_append,List.nil_append])|intro _
      refine g_stop fun a w h => ?_
      replace h := h.keep [2, 3, 5, 6, 7, 8, 9, 10, 11, 12, 13, 14, 15]
      refine g_of h ?_
      clear h
      repeat' first|kernel_rfl|apply g_spoil0 (s:=143) (B:=B) [2, 3, 5, 6, 7, 8, 9, 10, 11, 12, 13, 14, 15, 143] hB0|apply g_spoil (B:=B) hB0|exact g_done fun _ _ h=>⟨k - 1, by omega, i + 1, by omega, ((h.keep [9, 8, 7, 5, 6, 3, 2]).tail.tail.tail.tail.tail).less (fun b hb => List.mem_cons_of_mem _ (List.mem_cons_of_mem _ (List.mem_cons_of_mem _ (List.mem_cons_of_mem _ (List.mem_cons_of_mem _ hb))))) (fun p hp => by simp only [List.mem_cons, List.not_mem_nil, or_false] at hp; rcases hp with rfl | rfl | rfl | rfl | rfl <;> simp)⟩|apply g_seq|apply g_reg|apply g_nil|apply g_draw (id:=15) [(121, false), (128, false), (137, false)] [] 28|apply o_all|apply o_go|exact OpsT.nil|exact GuardC.nil|exact UndefC.nil|refine @GuardC.cons _ _ _ _ inferInstance ?_|refine @UndefC.cons _ _ _ inferInstance ?_|apply g_box|apply g_all|apply g_sto|apply g_asg|refine g_run rfl inferInstance (by first|exact sL_fewU (by assumption)|exact sL_works hE|exact sL_isXX|exact sL_isCC rfl|exact st_load'|exact st_not' (b := true) (u := false) rfl|exact st_not' (b := false) (u := true) rfl|exact st_not' rfl|exact st_loadE') (by kernel_rfl) ?_|refine g_sk rfl inferInstance rfl (by kernel_rfl) ?_|refine g_un rfl inferInstance (by kernel_rfl) ?_|apply g_st|apply g_skip|apply g_ct|apply g_cf|apply g_ret|refine r_1 rfl ?_|apply g_blk|apply g_eb|apply g_ex|apply e_t|apply e_h|refine e_o rfl ?_|apply r_t|apply r_b|apply g_cl|exact sL_fewU (by assumption)|exact sL_works hE|exact sL_ref (by decide)|exact s4_div (by omega) (by assumption)|exact s4_div0 (by omega) (by assumption)|exact srn_add hE (by omega)|exact srn_sub hE (by omega)|exact srn_mul hE (by omega)|exact srn_neg hE (by omega)|exact srn_div hE (by omega) (by assumption)|exact srn_div0 hE (by omega) (by assumption)|exact s4_add (by omega)|exact s4_sub (by omega)|exact s4_mul (by omega)|exact s4_neg (by omega)|exact s4_cmp (by omega)|exact s4_sign (by omega)|exact s4_sameQ (by omega)|exact s4_rightX (by omega)|exact sr_rightX hE (by omega)|exact sL_isXX|exact sL_isCC rfl|exact st_neqB' (bne_selfB _)|exact st_neq' (bne_self' _)|exact sr_cmp hE (by omega)|exact sr_sign hE (by omega)|exact sr_sameU hE (by omega) (by assumption)|exact sr_same hE (by omega)|exact st_add' hw|exact st_move'|exact st_assign'|exact st_load'|exact st_extract'|exact st_and_t'|exact st_and_f'|exact st_or_f'|exact st_or_t'|exact st_not' (b := true) (u := false) rfl|exact st_not' (b := false) (u := true) rfl|exact st_not' rfl|exact st_eq' (by first|assumption|rfl)|exact st_neq' (by first|assumption|rfl)|exact st_lss' (by first|assumption|rfl)|exact st_loadE'|exact Cv.rfl'|(intro _;simp only[newX,newL,ptrs,List.map,List.cons_append,List.nil_append])|intro _
    · have hc1 : decide ((i : Int) < 2) = false := decide_eq_false (by omega)
      refine g_of h ?_
      clear h
      repeat' first|kernel_rfl|apply g_seq|apply g_reg|apply g_nil|apply o_all|apply o_go|exact OpsT.nil|exact GuardC.nil|exact UndefC.nil|refine @GuardC.cons _ _ _ _ inferInstance ?_|refine @UndefC.cons _ _ _ inferInstance ?_|apply g_box|apply g_all|apply g_sto|apply g_asg|refine g_run rfl inferInstance (by first|exact sL_fewU (by assumption)|exact sL_works hE|exact sL_isXX|exact sL_isCC rfl|exact st_load'|exact st_not' (b := true) (u := false) rfl|exact st_not' (b := false) (u := true) rfl|exact st_not' rfl|exact st_loadE') (by kernel_rfl) ?_|refine g_sk rfl inferInstance rfl (by kernel_rfl) ?_|refine g_un rfl inferInstance (by kernel_rfl) ?_|apply g_st|apply g_skip|apply g_ct|apply g_cf|apply g_ret|refine r_1 rfl ?_|apply g_blk|apply g_eb|apply g_ex|apply e_t|apply e_h|refine e_o rfl ?_|apply r_t|apply r_b|apply g_cl|exact sL_fewU (by assumption)|exact sL_works hE|exact sL_ref (by decide)|exact s4_div (by omega) (by assumption)|exact s4_div0 (by omega) (by assumption)|exact srn_add hE (by omega)|exact srn_sub hE (by omega)|exact srn_mul hE (by omega)|exact srn_neg hE (by omega)|exact srn_div hE (by omega) (by assumption)|exact srn_div0 hE (by omega) (by assumption)|exact s4_add (by omega)|exact s4_sub (by omega)|exact s4_mul (by omega)|exact s4_neg (by omega)|exact s4_cmp (by omega)|exact s4_sign (by omega)|exact s4_sameQ (by omega)|exact s4_rightX (by omega)|exact sr_rightX hE (by omega)|exact sL_isXX|exact sL_isCC rfl|exact st_neqB' (bne_selfB _)|exact st_neq' (bne_self' _)|exact sr_cmp hE (by omega)|exact sr_sign hE (by omega)|exact sr_sameU hE (by omega) (by assumption)|exact sr_same hE (by omega)|exact st_add' hw|exact st_move'|exact st_assign'|exact st_load'|exact st_extract'|exact st_and_t'|exact st_and_f'|exact st_or_f'|exact st_or_t'|exact st_not' (b := true) (u := false) rfl|exact st_not' (b := false) (u := true) rfl|exact st_not' rfl|exact st_eq' (by first|assumption|rfl)|exact st_neq' (by first|assumption|rfl)|exact st_lss' (by first|assumption|rfl)|exact st_loadE'|exact Cv.rfl'|(intro _;simp only[newX,newL,ptrs,List.map,List.cons_append,List.nil_append])|intro _
  · skip
    refine ts_enter (Ts := [.qx x 4, .qx y 4]) (vs := [v0, v1]) Tryz.func3 rfl Tryz.ntmps3 (by simp) hX ⟨h0, h1, trivial⟩ fun a h => ?_
    clear h0 h1 hX
    simp only [argE, Nat.zero_add, Nat.reduceAdd] at h
    refine g_of h ?_
    clear h
    repeat' first|kernel_rfl|apply g_seq|apply g_reg|apply g_nil|apply g_draw (id:=3) [] [] 6|apply o_all|apply o_go|exact OpsT.nil|exact GuardC.nil|exact UndefC.nil|refine @GuardC.cons _ _ _ _ inferInstance ?_|refine @UndefC.cons _ _ _ inferInstance ?_|apply g_box|apply g_all|apply g_sto|apply g_asg|refine g_run rfl inferInstance (by first|exact sL_fewU (by assumption)|exact sL_works hE|exact sL_isXX|exact sL_isCC rfl|exact st_load'|exact st_not' (b := true) (u := false) rfl|exact st_not' (b := false) (u := true) rfl|exact st_not' rfl|exact st_loadE') (by kernel_rfl) ?_|refine g_sk rfl inferInstance rfl (by kernel_rfl) ?_|refine g_un rfl inferInstance (by kernel_rfl) ?_|apply g_st|apply g_skip|apply g_ct|apply g_cf|apply g_ret|refine r_1 rfl ?_|apply g_cl|exact sL_fewU (by assumption)|exact sL_works hE|exact sL_ref (by decide)|exact s4_div (by omega) (by assumption)|exact s4_div0 (by omega) (by assumption)|exact srn_add hE (by omega)|exact srn_sub hE (by omega)|exact srn_mul hE (by omega)|exact srn_neg hE (by omega)|exact srn_div hE (by omega) (by assumption)|exact srn_div0 hE (by omega) (by assumption)|exact s4_add (by omega)|exact s4_sub (by omega)|exact s4_mul (by omega)|exact s4_neg (by omega)|exact s4_cmp (by omega)|exact s4_sign (by omega)|exact s4_sameQ (by omega)|exact s4_rightX (by omega)|exact sr_rightX hE (by omega)|exact sL_isXX|exact sL_isCC rfl|exact st_neqB' (bne_selfB _)|exact st_neq' (bne_self' _)|exact sr_cmp hE (by omega)|exact sr_sign hE (by omega)|exact sr_sameU hE (by omega) (by assumption)|exact sr_same hE (by omega)|exact st_add' hw|exact st_move'|exact st_assign'|exact st_load'|exact st_extract'|exact st_and_t'|exact st_and_f'|exact st_or_f'|exact st_or_t'|exact st_not' (b := true) (u := false) rfl|exact st_not' (b := false) (u := true) rfl|exact st_not' rfl|exact st_eq' (by first|assumption|rfl)|exact st_neq' (by first|assumption|rfl)|exact st_lss' (by first|assumption|rfl)|exact st_loadE'|exact Cv.rfl'|(intro _;simp only[newX,newL,ptrs,List.map,List.cons_append,List.nil_append])|intro _
    refine g_stop fun a w h => ?_
    replace h := h.keep [9, 8, 7, 5, 6, 3, 2]
    replace h := h.age
    simp only [List.map] at h
    have hB0 := h.mem.below.size
    obtain ⟨B, hBe⟩ : ∃ B, B = w.heap.size := ⟨_, rfl⟩
    rw [← hBe] at h hB0
    clear hBe
    refine cw_block ?_
    refine cw_loop (fun k a w => ∃ i : Nat, i + k = 2 ∧ TS _ _ [(_, VTy.und B (VTy.qc (qv x / qv y) (4 + 4))), (_, VTy.und B (VTy.qx x 4)), (_, VTy.und B (VTy.qx y 4)), (_, VTy.und B (VTy.qx y 4)), (_, VTy.und B (VTy.qx x 4))] [(9, .is (.int .i64 (i : Int))), (8, .is (.int .i64 0)), (7, VTy.is (.pointer (some ⟨_, 0, none⟩))), (5, VTy.is (.pointer (some ⟨_, 0, none⟩))), (6, VTy.is (.pointer (some ⟨_, 0, none⟩))), (3, VTy.is (.pointer (some ⟨_, 0, none⟩))), (2, VTy.is (.pointer (some ⟨_, 0, none⟩)))] 164 a w) 2 ⟨0, by omega, h⟩ ?_
    clear h
    rintro k a w ⟨i, hi, h⟩
    by_cases hlt : i < 2
    · have hc1 : decide ((i : Int) < 2) = true := decide_eq_true (by omega)
      have hw : IntKind.i64.wrap ((i : Int) + 1) = ((i + 1 : Nat) : Int) := by rw [IntKind.wrap_i64]; omega
      refine g_of h ?_
      clear h
      repeat' first|kernel_rfl|apply g_seq|apply g_reg|apply g_nil|apply g_draw (id:=8) [] [] 12|apply o_all|apply o_go|exact OpsT.nil|exact GuardC.nil|exact UndefC.nil|refine @GuardC.cons _ _ _ _ inferInstance ?_|refine @UndefC.cons _ _ _ inferInstance ?_|apply g_box|apply g_all|apply g_sto|apply g_asg|refine g_run rfl inferInstance (by first|exact sL_fewU (by assumption)|exact sL_works hE|exact sL_isXX|exact sL_isCC rfl|exact st_load'|exact st_not' (b := true) (u := false) rfl|exact st_not' (b := false) (u := true) rfl|exact st_not' rfl|exact st_loadE') (by kernel_rfl) ?_|refine g_sk rfl inferInstance rfl (by kernel_rfl) ?_|refine g_un rfl inferInstance (by kernel_rfl) ?_|apply g_st|apply g_skip|apply g_ct|apply g_cf|apply g_ret|refine r_1 rfl ?_|apply g_blk|apply g_eb|apply g_ex|apply e_t|apply e_h|refine e_o rfl ?_|apply r_t|apply r_b|apply g_cl|exact sL_fewU (by assumption)|exact sL_works hE|exact sL_ref (by decide)|exact s4_div (by omega) (by assumption)|exact s4_div0 (by omega) (by assumption)|exact srn_add hE (by omega)|exact srn_sub hE (by omega)|exact srn_mul hE (by omega)|exact srn_neg hE (by omega)|exact srn_div hE (by omega) (by assumption)|exact srn_div0 hE (by omega) (by assumption)|exact s4_add (by omega)|exact s4_sub (by omega)|exact s4_mul (by omega)|exact s4_neg (by omega)|exact s4_cmp (by omega)|exact s4_sign (by omega)|exact s4_sameQ (by omega)|exact s4_rightX (by omega)|exact sr_rightX hE (by omega)|exact sL_isXX|exact sL_isCC rfl|exact st_neqB' (bne_selfB _)|exact st_neq' (bne_self' _)|exact sr_cmp hE (by omega)|exact sr_sign hE (by omega)|exact sr_sameU hE (by omega) (by assumption)|exact sr_same hE (by omega)|exact st_add' hw|exact st_move'|exact st_assign'|exact st_load'|exact st_extract'|exact st_and_t'|exact st_and_f'|exact st_or_f'|exact st_or_t'|exact st_not' (b := true) (u := false) rfl|exact st_not' (b := false) (u := true) rfl|exact st_not' rfl|exact st_eq' (by first|assumption|rfl)|exact st_neq' (by first|assumption|rfl)|exact st_lss' (by first|assumption|rfl)|exact st_loadE'|exact Cv.rfl'|(intro _;simp only[newX,newL,ptrs,List.map,List.cons_append,List.nil_append])|intro _
      refine g_stop fun a w h => ?_
      replace h := h.keep [2, 3, 5, 6, 7, 8, 9, 10, 11, 12, 13, 14, 15]
      refine g_of h ?_
      clear h
      repeat' first|kernel_rfl|apply g_seq|apply g_reg|apply g_nil|apply g_draw (id:=11) [(62, false), (70, false), (78, false), (85, false)] [] 33|apply o_all|apply o_go|exact OpsT.nil|exact GuardC.nil|exact UndefC.nil|refine @GuardC.cons _ _ _ _ inferInstance ?_|refine @UndefC.cons _ _ _ inferInstance ?_|apply g_box|apply g_all|apply g_sto|apply g_asg|refine g_run rfl inferInstance (by first|exact sL_fewU (by assumption)|exact sL_works hE|exact sL_isXX|exact sL_isCC rfl|exact st_load'|exact st_not' (b := true) (u := false) rfl|exact st_not' (b := false) (u := true) rfl|exact st_not' rfl|exact st_loadE') (by kernel_rfl) ?_|refine g_sk rfl inferInstance rfl (by kernel_rfl) ?_|refine g_un rfl inferInstance (by kernel_rfl) ?_|apply g_st|apply g_skip|apply g_ct|apply g_cf|apply g_ret|refine r_1 rfl ?_|apply g_blk|apply g_eb|apply g_ex|apply e_t|apply e_h|refine e_o rfl ?_|apply r_t|apply r_b|apply g_cl|exact sL_fewU (by assumption)|exact sL_works hE|exact sL_ref (by decide)|exact s4_div (by omega) (by assumption)|exact s4_div0 (by omega) (by assumption)|exact srn_add hE (by omega)|exact srn_sub hE (by omega)|exact srn_mul hE (by omega)|exact srn_neg hE (by omega)|exact srn_div hE (by omega) (by assumption)|exact srn_div0 hE (by omega) (by assumption)|exact s4_add (by omega)|exact s4_sub (by omega)|exact s4_mul (by omega)|exact s4_neg (by omega)|exact s4_cmp (by omega)|exact s4_sign (by omega)|exact s4_sameQ (by omega)|exact s4_rightX (by omega)|exact sr_rightX hE (by omega)|exact sL_isXX|exact sL_isCC rfl|exact st_neqB' (bne_selfB _)|exact st_neq' (bne_self' _)|exact sr_cmp hE (by omega)|exact sr_sign hE (by omega)|exact sr_sameU hE (by omega) (by assumption)|exact sr_same hE (by omega)|exact st_add' hw|exact st_move'|exact st_assign'|exact st_load'|exact st_extract'|exact st_and_t'|exact st_and_f'|exact st_or_f'|exact st_or_t'|exact st_not' (b := true) (u := false) rfl|exact st_not' (b := false) (u := true) rfl|exact st_not' rfl|exact st_eq' (by first|assumption|rfl)|exact st_neq' (by first|assumption|rfl)|exact st_lss' (by first|assumption|rfl)|exact st_loadE'|exact Cv.rfl'|(intro _;simp only[newX,newL,ptrs,List.map,List.cons_append,List.nil_append])|intro _
      refine g_stop fun a w h => ?_
      replace h := h.keep [2, 3, 5, 6, 7, 8, 9, 10, 11, 12, 13, 14, 15]
      refine g_of h ?_
      clear h
      repeat' first|kernel_rfl|apply g_seq|apply g_reg|apply g_nil|apply g_draw (id:=13) [(92, true), (98, false), (101, false), (107, false)] [] 23|(apply o_sk;(focus rfl);(focus kernel_rfl))|apply o_all|apply o_go|exact OpsT.nil|exact GuardC.nil|exact UndefC.nil|refine @GuardC.cons _ _ _ _ inferInstance ?_|refine @UndefC.cons _ _ _ inferInstance ?_|apply g_box|apply g_all|apply g_sto|apply g_asg|refine g_run rfl inferInstance (by first|exact sL_fewU (by assumption)|exact sL_works hE|exact sL_isXX|exact sL_isCC rfl|exact st_load'|exact st_not' (b := true) (u := false) rfl|exact st_not' (b := false) (u := true) rfl|exact st_not' rfl|exact st_loadE') (by kernel_rfl) ?_|refine g_sk rfl inferInstance rfl (by kernel_rfl) ?_|refine g_un rfl inferInstance (by kernel_rfl) ?_|apply g_st|apply g_skip|apply g_ct|apply g_cf|apply g_ret|refine r_1 rfl ?_|apply g_blk|apply g_eb|apply g_ex|apply e_t|apply e_h|refine e_o rfl ?_|apply r_t|apply r_b|apply g_cl|exact sL_fewU (by assumption)|exact sL_works hE|exact sL_ref (by decide)|exact s4_div (by omega) (by assumption)|exact s4_div0 (by omega) (by assumption)|exact srn_add hE (by omega)|exact srn_sub hE (by omega)|exact srn_mul hE (by omega)|exact srn_neg hE (by omega)|exact srn_div hE (by omega) (by assumption)|exact srn_div0 hE (by omega) (by assumption)|exact s4_add (by omega)|exact s4_sub (by omega)|exact s4_mul (by omega)|exact s4_neg (by omega)|exact s4_cmp (by omega)|exact s4_sign (by omega)|exact s4_sameQ (by omega)|exact s4_rightX (by omega)|exact sr_rightX hE (by omega)|exact sL_isXX|exact sL_isCC rfl|exact st_neqB' (bne_selfB _)|exact st_neq' (bne_self' _)|exact sr_cmp hE (by omega)|exact sr_sign hE (by omega)|exact sr_sameU hE (by omega) (by assumption)|exact sr_same hE (by omega)|exact st_add' hw|exact st_move'|exact st_assign'|exact st_load'|exact st_extract'|exact st_and_t'|exact st_and_f'|exact st_or_f'|exact st_or_t'|exact st_not' (b := true) (u := false) rfl|exact st_not' (b := false) (u := true) rfl|exact st_not' rfl|exact st_eq' (by first|assumption|rfl)|exact st_neq' (by first|assumption|rfl)|exact st_lss' (by first|assumption|rfl)|exact st_loadE'|exact Cv.rfl'|(intro _;simp only[newX,newL,ptrs,List.map,List.cons_append,List.nil_append])|intro _
      refine g_stop fun a w h => ?_
      replace h := h.keep [2, 3, 5, 6, 7, 8, 9, 10, 11, 12, 13, 14, 15]
      refine g_of h ?_
      clear h
      repeat' first|kernel_rfl|apply g_spoil0 (s:=143) (B:=B) [2, 3, 5, 6, 7, 8, 9, 10, 11, 12, 13, 14, 15, 143] hB0|apply g_spoil (B:=B) hB0|exact g_done fun _ _ h=>⟨k - 1, by omega, i + 1, by omega, ((h.keep [9, 8, 7, 5, 6, 3, 2]).tail.tail.tail.tail.tail).less (fun b hb => List.mem_cons_of_mem _ (List.mem_cons_of_mem _ (List.mem_cons_of_mem _ (List.mem_cons_of_mem _ (List.mem_cons_of_mem _ hb))))) (fun p hp => by simp only [List.mem_cons, List.not_mem_nil, or_false] at hp; rcases hp with rfl | rfl | rfl | rfl | rfl <;> simp)⟩|apply g_seq|apply g_reg|apply g_nil|apply g_draw (id:=15) [(121, false), (128, false), (137, false)] [] 28|apply o_all|apply o_go|exact OpsT.nil|exact GuardC.nil|exact UndefC.nil|refine @GuardC.cons _ _ _ _ inferInstance ?_|refine @UndefC.cons _ _ _ inferInstance ?_|apply g_box|apply g_all|apply g_sto|apply g_asg|refine g_run rfl inferInstance (by first|exact sL_fewU (by assumption)|exact sL_works hE|exact sL_isXX|exact sL_isCC rfl|exact st_load'|exact st_not' (b := true) (u := false) rfl|exact st_not' (b := false) (u := true) rfl|exact st_not' rfl|exact st_loadE') (by kernel_rfl) ?_|refine g_sk rfl inferInstance rfl (by kernel_rfl) ?_|refine g_un rfl inferInstance (by kernel_rfl) ?_|apply g_st|apply g_skip|apply g_ct|apply g_cf|apply g_ret|refine r_1 rfl ?_|apply g_blk|apply g_eb|apply g_ex|apply e_t|apply e_h|refine e_o rfl ?_|apply r_t|apply r_b|apply g_cl|exact sL_fewU (by assumption)|exact sL_works hE|exact sL_ref (by decide)|exact s4_div (by omega) (by assumption)|exact s4_div0 (by omega) (by assumption)|exact srn_add hE (by omega)|exact srn_sub hE (by omega)|exact srn_mul hE (by omega)|exact srn_neg hE (by omega)|exact srn_div hE (by omega) (by assumption)|exact srn_div0 hE (by omega) (by assumption)|exact s4_add (by omega)|exact s4_sub (by omega)|exact s4_mul (by omega)|exact s4_neg (by omega)|exact s4_cmp (by omega)|exact s4_sign (by omega)|exact s4_sameQ (by omega)|exact s4_rightX (by omega)|exact sr_rightX hE (by omega)|exact sL_isXX|exact sL_isCC rfl|exact st_neqB' (bne_selfB _)|exact st_neq' (bne_self' _)|exact sr_cmp hE (by omega)|exact sr_sign hE (by omega)|exact sr_sameU hE (by omega) (by assumption)|exact sr_same hE (by omega)|exact st_add' hw|exact st_move'|exact st_assign'|exact st_load'|exact st_extract'|exact st_and_t'|exact st_and_f'|exact st_or_f'|exact st_or_t'|exact st_not' (b := true) (u := false) rfl|exact st_not' (b := false) (u := true) rfl|exact st_not' rfl|exact st_eq' (by first|assumption|rfl)|exact st_neq' (by first|assumption|rfl)|exact st_lss' (by first|assumption|rfl)|exact st_loadE'|exact Cv.rfl'|(intro _;simp only[newX,newL,ptrs,List.map,List.cons_append,List.nil_append])|intro _
    · have hc1 : decide ((i : Int) < 2) = false := decide_eq_false (by omega)
      refine g_of h ?_
      clear h
      repeat' first|kernel_rfl|apply g_seq|apply g_reg|apply g_nil|apply o_all|apply o_go|exact OpsT.nil|exact GuardC.nil|exact UndefC.nil|refine @GuardC.cons _ _ _ _ inferInstance ?_|refine @UndefC.cons _ _ _ inferInstance ?_|apply g_box|apply g_all|apply g_sto|apply g_asg|refine g_run rfl inferInstance (by first|exact sL_fewU (by assumption)|exact sL_works hE|exact sL_isXX|exact sL_isCC rfl|exact st_load'|exact st_not' (b := true) (u := false) rfl|exact st_not' (b := false) (u := true) rfl|exact st_not' rfl|exact st_loadE') (by kernel_rfl) ?_|refine g_sk rfl inferInstance rfl (by kernel_rfl) ?_|refine g_un rfl inferInstance (by kernel_rfl) ?_|apply g_st|apply g_skip|apply g_ct|apply g_cf|apply g_ret|refine r_1 rfl ?_|apply g_blk|apply g_eb|apply g_ex|apply e_t|apply e_h|refine e_o rfl ?_|apply r_t|apply r_b|apply g_cl|exact sL_fewU (by assumption)|exact sL_works hE|exact sL_ref (by decide)|exact s4_div (by omega) (by assumption)|exact s4_div0 (by omega) (by assumption)|exact srn_add hE (by omega)|exact srn_sub hE (by omega)|exact srn_mul hE (by omega)|exact srn_neg hE (by omega)|exact srn_div hE (by omega) (by assumption)|exact srn_div0 hE (by omega) (by assumption)|exact s4_add (by omega)|exact s4_sub (by omega)|exact s4_mul (by omega)|exact s4_neg (by omega)|exact s4_cmp (by omega)|exact s4_sign (by omega)|exact s4_sameQ (by omega)|exact s4_rightX (by omega)|exact sr_rightX hE (by omega)|exact sL_isXX|exact sL_isCC rfl|exact st_neqB' (bne_selfB _)|exact st_neq' (bne_self' _)|exact sr_cmp hE (by omega)|exact sr_sign hE (by omega)|exact sr_sameU hE (by omega) (by assumption)|exact sr_same hE (by omega)|exact st_add' hw|exact st_move'|exact st_assign'|exact st_load'|exact st_extract'|exact st_and_t'|exact st_and_f'|exact st_or_f'|exact st_or_t'|exact st_not' (b := true) (u := false) rfl|exact st_not' (b := false) (u := true) rfl|exact st_not' rfl|exact st_eq' (by first|assumption|rfl)|exact st_neq' (by first|assumption|rfl)|exact st_lss' (by first|assumption|rfl)|exact st_loadE'|exact Cv.rfl'|(intro _;simp only[newX,newL,ptrs,List.map,List.cons_append,List.nil_append])|intro _
set_option synthInstance.maxSize 4000 in
set_option synthInstance.maxHeartbeats 400000 in
set_option maxRecDepth 20000 in
set_option maxHeartbeats 8000000 in
theorem cL_two {X : List Nat} {w : World} (hE : Tab w) (hX : ∀ b ∈ X, b < w.heap.size) {v0 v1 : Value} {x y : RawQ} (h0 : (VTy.qz x).holds X w v0) (h1 : (VTy.qz y).holds X w v1) :
    Calls Tryz.prog 3 #[v0, v1] w (Gives X w (.is (.bool true))) := by
  cases e0 : (decide ((x.1.2.length : Int) ≤ 4) && decide ((x.2.2.length : Int) ≤ 4)) with
  | false =>
    refine ts_enter (Ts := [.qz x, .qz y]) (vs := [v0, v1]) Tryz.func3 rfl Tryz.ntmps3 (by simp) hX ⟨h0, h1, trivial⟩ fun a h => ?_
    clear h0 h1 hX
    simp only [argE, Nat.zero_add, Nat.reduceAdd] at h
    refine g_of h ?_
    clear h
    repeat' first|kernel_rfl|apply g_seq|apply g_reg|apply g_nil|apply o_all|apply o_go|exact OpsT.nil|exact GuardC.nil|exact UndefC.nil|refine @GuardC.cons _ _ _ _ inferInstance ?_|refine @UndefC.cons _ _ _ inferInstance ?_|apply g_box|apply g_all|apply g_sto|apply g_asg|refine g_run rfl inferInstance (by first|exact sL_fewU (by assumption)|exact sL_works hE|exact st_load'|exact st_not' (b := true) (u := false) rfl|exact st_not' (b := false) (u := true) rfl|exact st_not' rfl|exact st_loadE') (by kernel_rfl) ?_|refine g_sk rfl inferInstance rfl (by kernel_rfl) ?_|refine g_un rfl inferInstance (by kernel_rfl) ?_|apply g_st|apply g_skip|apply g_ct|apply g_cf|apply g_ret|refine r_1 rfl ?_|apply g_cl|exact sL_fewU (by assumption)|exact sL_works hE|exact st_move'|exact st_assign'|exact st_load'|exact st_extract'|exact st_and_t'|exact st_and_f'|exact st_or_f'|exact st_or_t'|exact st_not' (b := true) (u := false) rfl|exact st_not' (b := false) (u := true) rfl|exact st_not' rfl|exact st_eq' (by first|assumption|rfl)|exact st_neq' (by first|assumption|rfl)|exact st_lss' (by first|assumption|rfl)|exact st_loadE'|exact Cv.rfl'|(intro _;simp only[newX,newL,ptrs,List.map,List.cons_append,List.nil_append])|intro _
  | true =>
    cases e1 : (decide ((y.1.2.length : Int) ≤ 4) && decide ((y.2.2.length : Int) ≤ 4)) with
    | false =>
      refine ts_enter (Ts := [.qz x, .qz y]) (vs := [v0, v1]) Tryz.func3 rfl Tryz.ntmps3 (by simp) hX ⟨h0, h1, trivial⟩ fun a h => ?_
      clear h0 h1 hX
      simp only [argE, Nat.zero_add, Nat.reduceAdd] at h
      refine g_of h ?_
      clear h
      repeat' first|kernel_rfl|apply g_seq|apply g_reg|apply g_nil|apply o_all|apply o_go|exact OpsT.nil|exact GuardC.nil|exact UndefC.nil|refine @GuardC.cons _ _ _ _ inferInstance ?_|refine @UndefC.cons _ _ _ inferInstance ?_|apply g_box|apply g_all|apply g_sto|apply g_asg|refine g_run rfl inferInstance (by first|exact sL_fewU (by assumption)|exact sL_works hE|exact st_load'|exact st_not' (b := true) (u := false) rfl|exact st_not' (b := false) (u := true) rfl|exact st_not' rfl|exact st_loadE') (by kernel_rfl) ?_|refine g_sk rfl inferInstance rfl (by kernel_rfl) ?_|refine g_un rfl inferInstance (by kernel_rfl) ?_|apply g_st|apply g_skip|apply g_ct|apply g_cf|apply g_ret|refine r_1 rfl ?_|apply g_cl|exact sL_fewU (by assumption)|exact sL_works hE|exact st_move'|exact st_assign'|exact st_load'|exact st_extract'|exact st_and_t'|exact st_and_f'|exact st_or_f'|exact st_or_t'|exact st_not' (b := true) (u := false) rfl|exact st_not' (b := false) (u := true) rfl|exact st_not' rfl|exact st_eq' (by first|assumption|rfl)|exact st_neq' (by first|assumption|rfl)|exact st_lss' (by first|assumption|rfl)|exact st_loadE'|exact Cv.rfl'|(intro _;simp only[newX,newL,ptrs,List.map,List.cons_append,List.nil_append])|intro _
    | true => exact cL_twoA hE hX (few_qa (k := 4) (by decide) h0 e0) (few_qa (k := 4) (by decide) h1 e1) e0 e1
/-- A block that holds no cells of this type. -/
def FreeK (e : TypeId) (X : List Nat) (w : World) (b : Nat) : Prop := Free X w b ∧ ∃ cs t f, w.heap[b]? = some (.cells cs t f) ∧ t ≠ e
theorem FreeK.mono {e : TypeId} {X X' : List Nat} {w w' : World} (hk : Keeps X w w') (hX : ∀ b ∈ X', b < w.heap.size → b ∈ X) (b : Nat) (h : FreeK e X w b) : FreeK e X' w' b := by
  obtain ⟨h1, cs, t, f, h3, h4⟩ := h
  exact ⟨Free.mono hk hX b h1, cs, t, f, (hk.block b h1.1 h1.2).trans h3, h4⟩
theorem Rp.upK {α : Type} (r : Rp α) {e : TypeId} {X X' : List Nat} {w w' : World} {a : α} {cs : List Value} (h : r.rd w (FreeK e X w) a cs) (hk : Keeps X w w') (hX : ∀ b ∈ X', b < w.heap.size → b ∈ X) : r.rd w' (FreeK e X' w') a cs :=
  r.more (r.keep h fun b hb => hk.block b hb.1.1 hb.1.2) (FreeK.mono hk hX)
theorem Rp.unK {α : Type} (r : Rp α) {e : TypeId} {X : List Nat} {w : World} {a : α} {cs : List Value} (h : r.rd w (FreeK e X w) a cs) : r.rd w (Free X w) a cs := r.more h fun _ hb => hb.1
theorem OwnV.same {sz : Nat} {e : TypeId} {w w' : World} {B : Nat} {A : Option Addr} {n c : Nat} {vs : List Value} (h : OwnV sz e w B A n c vs) (hk : ∀ g, blk A = some g → w'.heap[g]? = w.heap[g]?) : OwnV sz e w' B A n c vs := by
  refine ⟨h.1, ?_⟩
  rcases h.2 with h1 | ⟨g, cap, cur, h1, h2, h3, h4⟩
  · exact .inl h1
  · refine .inr ⟨g, cap, cur, h1, h2, (hk g ?_).trans h3, h4⟩
    injection h1 with h1
    rw [h1]; rfl
theorem OwnV.type {sz : Nat} {e : TypeId} {w : World} {B : Nat} {A : Option Addr} {n c : Nat} {vs : List Value} (h : OwnV sz e w B A n c vs) {g : Nat} (hg : blk A = some g) : ∃ cur, w.heap[g]? = some (.cells cur e (0, 0)) := by
  rcases h.2 with ⟨h1, _⟩ | ⟨g', cap, cur, h1, h2, h3, h4⟩
  · injection h1 with h1
    rw [h1] at hg; cases hg
  · injection h1 with h1
    rw [h1] at hg
    injection hg with hg
    subst hg
    exact ⟨cur, h3⟩
/-- A struct whose blocks hold no cells of the type e; a row of one such; a row of the call's own, from B on. -/
def VTy.kx {α : Type} (r : Rp α) (e : TypeId) (p : α → Prop) (a : α) : VTy := ⟨fun X w v => p a ∧ ∃ cs : List Value, v = .agg cs.toArray ∧ r.rd w (FreeK e X w) a cs, fun ⟨hp, cs, e, h⟩ hk hX => ⟨hp, cs, e, r.upK h hk hX⟩⟩
def VTy.r1 {α : Type} (r : Rp α) (e : TypeId) (p : α → Prop) (a : α) : VTy := ⟨fun X w v => p a ∧ ∃ b o cs, v = .slice (some ⟨b, o, none⟩) 1 1 ∧ Free X w b ∧ w.rangeAt b o cs ∧ r.rd w (FreeK e X w) a cs,
  fun ⟨hp, b, o, cs, e, hb, h1, h2⟩ hk hX => ⟨hp, b, o, cs, e, Free.mono hk hX b hb, rangeAt_keep h1 (hk.block b hb.1 hb.2), r.upK h2 hk hX⟩⟩
def VTy.ow {α : Type} (r : Rp α) (e : TypeId) (p : α → Prop) (B : Nat) (l : List α) : VTy := ⟨fun X w v => ∃ (A : Option Addr) (c : Nat) (ps : List (α × List Value)), v = .slice A l.length c ∧ ps.map Prod.fst = l ∧ (∀ q ∈ ps, p q.1 ∧ r.rd w (FreeK e X w) q.1 q.2) ∧ OwnV r.k e w B A l.length c (ps.flatMap Prod.snd) ∧ (∀ g, blk A = some g → Free X w g) ∧ (l = [] → A = none),
  fun ⟨A, c, ps, h1, h2, h3, h4, h5, h6⟩ hk hX => ⟨A, c, ps, h1, h2, fun q hq => ⟨(h3 q hq).1, r.upK (h3 q hq).2 hk hX⟩, h4.same fun g hg => hk.block g (h5 g hg).1 (h5 g hg).2, fun g hg => Free.mono hk hX g (h5 g hg), h6⟩⟩
instance {α : Type} {r : Rp α} {e : TypeId} {p : α → Prop} {B : Nat} {l : List α} : SizeV (.ow r e p B l) 1 false := ⟨fun {X w v} ⟨A, c, ps, h1, _⟩ => by rw [h1]; exact ⟨rfl, by simp [Value.cells, Value.oneCell'], (fun h => by cases h), fun _ => rfl⟩⟩
theorem ow_nil {α : Type} {r : Rp α} {e : TypeId} {p : α → Prop} {B : Nat} {X : List Nat} {w : World} {v : Value} (h : (VTy.is (.slice none 0 0)).holds X w v) : (VTy.ow r e p B []).holds X w v := by
  obtain rfl : v = _ := h
  exact ⟨none, 0, [], rfl, rfl, (fun _ h => by cases h), OwnV.nil, (fun g hg => by cases hg), fun _ => rfl⟩
theorem flat_get {α : Type} {k : Nat} : ∀ {ps : List (α × List Value)} (hl : ∀ q ∈ ps, q.2.length = k) {j i : Nat} {q : α × List Value} {u : Value}, ps[j]? = some q → q.2[i]? = some u → (ps.flatMap Prod.snd)[j * k + i]? = some u
  | [], _, _, _, _, _, h, _ => by simp at h
  | q0 :: ps, hl, 0, i, q, u, h, hu => by
    have e : q0 = q := by simpa using h
    subst e
    rw [List.flatMap_cons, Nat.zero_mul, Nat.zero_add, List.getElem?_append_left (List.getElem?_eq_some_iff.1 hu).1]
    exact hu
  | q0 :: ps, hl, j + 1, i, q, u, h, hu => by
    have h0 := hl q0 List.mem_cons_self
    rw [List.flatMap_cons, List.getElem?_append_right (by rw [h0, Nat.succ_mul]; omega), h0]
    have := flat_get (fun q hq => hl q (List.mem_cons_of_mem _ hq)) (show ps[j]? = some q by simpa using h) hu
    rw [show (j + 1) * k + i - k = j * k + i by rw [Nat.succ_mul]; omega]
    exact this
theorem ow_rw {α : Type} {r : Rp α} {e : TypeId} {p : α → Prop} {B : Nat} {l : List α} {X : List Nat} {w : World} {v : Value} (h : (VTy.ow r e p B l).holds X w v) : (VTy.rw r p l).holds X w v := by
  obtain ⟨A, c, ps, rfl, rfl, h3, h4, h5, _⟩ := h
  refine ⟨fun a ha => ?_, A, _, c, rfl, rfl, ?_⟩
  · obtain ⟨q, hq, rfl⟩ := List.mem_map.1 ha
    exact (h3 q hq).1
  · obtain ⟨g1, g2, g3, g4, g5⟩ := h4.sl
    refine ⟨g2, g3, g4, fun hn => ?_⟩
    obtain ⟨b, off, rfl, hb, hc⟩ := g5 hn
    refine ⟨b, off, rfl, h5 b rfl, fun j a ha => ?_⟩
    rw [List.getElem?_map] at ha
    cases hq : ps[j]? with
    | none => rw [hq] at ha; cases ha
    | some q =>
      rw [hq] at ha
      obtain rfl : q.1 = a := by simpa using ha
      refine ⟨q.2, fun i u hu => ?_, r.unK (h3 q (List.mem_of_getElem? hq)).2⟩
      have := hc (j * r.k + i) u (flat_get (fun q hq => r.len (h3 q hq).2) hq hu)
      rw [Nat.add_assoc]
      exact this
/-- What is set aside, and what lies below B, stays. -/
structure Ch (B : Nat) (X : List Nat) (w w' : World) : Prop where
  os : w'.os = w.os
  tape : w'.tape = w.tape
  output : w'.output = w.output
  size : w.heap.size ≤ w'.heap.size
  block : ∀ b, b < w.heap.size → w'.heap[b]? = w.heap[b]? ∨ (B ≤ b ∧ b ∉ X)
class SurvU (B : Nat) (T : VTy) : Prop where
  ok : ∀ {X : List Nat} {w w' : World} {v : Value}, T.holds X w v → Ch B X w w' → T.holds X w' v
instance {B : Nat} {c : Value} : SurvU B (.is c) := ⟨fun h _ => h⟩
instance {B : Nat} {T : VTy} : SurvU B (.und B T) := ⟨fun {X w w' v} ⟨hB, h⟩ hs => ⟨Nat.le_trans hB hs.size, T.stable h ⟨hs.size, fun b hb hx => by
  rcases hs.block b hb with e | ⟨g, _⟩
  · exact e
  · exact absurd (List.mem_append_right _ (mem_above.2 ⟨hb, g⟩)) hx⟩ (fun b hb hlt => by
  rcases List.mem_append.1 hb with hb | hb
  · exact List.mem_append_left _ hb
  · exact List.mem_append_right _ (mem_above.2 ⟨hlt, (mem_above.1 hb).2⟩))⟩⟩
class SurvUL (B : Nat) (L : List Loc) : Prop where
  ok : ∀ p ∈ L, ∀ {X : List Nat} {w w' : World} {v : Value}, p.2.holds X w v → Ch B X w w' → p.2.holds X w' v
instance SurvUL.nil {B : Nat} : SurvUL B [] := ⟨fun _ h => by cases h⟩
instance SurvUL.cons {B r : Nat} {L : List Loc} {T : VTy} [a : SurvU B T] [k : SurvUL B L] : SurvUL B ((r, T) :: L) := ⟨fun p hp => by
  rcases List.mem_cons.1 hp with rfl | hp
  · exact a.ok
  · exact k.ok p hp⟩
section
variable {P : Program} {w00 w : World} {X : List Nat} {L : List Loc} {E E0 : List (Nat × VTy)} {n : Nat} {a : Act} {Q : Exit → Act → World → Prop} {ops : Array Oper} {rest : List Oper}
theorem TS.ch {B : Nat} {w' : World} (h : TS w00 X L E n a w) (hs : Ch B X w w') (hB : w00.heap.size ≤ B) [kL : SurvUL B L] [kE : SurvUL B E] : TS w00 X L E n a w' := by
  refine ⟨h.size, h.df, fun p hp => kE.ok p hp (h.slots p hp) hs, ⟨fun p hp => ?_, fun b hb => Nat.lt_of_lt_of_le (h.mem.far b hb) hs.size, h.mem.nodup, ?_⟩⟩
  · obtain ⟨g1, g2, v, ty, g3, g4⟩ := h.mem.loc p hp
    refine ⟨g1, g2, v, ty, kL.ok p hp g3 hs, ?_⟩
    rcases hs.block p.1 (h.mem.far _ g1) with e | ⟨_, g⟩
    · exact e.trans g4
    · exact absurd g1 g
  · refine h.mem.below.trans ⟨hs.os, hs.tape, hs.output, hs.size, fun b hb => ?_⟩
    rcases hs.block b (Nat.lt_of_lt_of_le hb h.mem.below.size) with e | ⟨g, _⟩
    · exact e
    · omega
/-- Append of one element to a row of the call's own. -/
theorem sq_append {α : Type} {r : Rp α} {e t t0 : TypeId} {pos : String} {af : Array Edge} {p : α → Prop} {B s x d bytes : Nat} {l : List α} {y : α} (ss : List Nat) (h : TS w00 X L E n a w) (hB0 : w00.heap.size ≤ B) [sz : SzC L B] [hs : Look E s (.ow r e p B l)] [hx : Look E x (.r1 r e p y)] [k : KeepC E ss E0] [kL : SurvUL B L] [kE : SurvUL B E0] (T : ElemV P t e r.k bytes)
    (hlen : l.length ≤ 1000000) (hby : bytes ≤ 1000) (hd : (Nat.blt d n && !(E0.map Prod.fst).elem d) = true)
    (next : ∀ a w, TS w00 X L ((d, .ow r e p B (l ++ [y])) :: E0) n a w → WL P ops Q rest a w) : WL P ops Q (⟨some d, .call { callee := .builtin .append, args := #[.tmp s, .tmp x], argTypes := #[t, t] }, t0, pos, af, none⟩ :: rest) a w := by
  simp only [Bool.and_eq_true, Bool.not_eq_true'] at hd
  have hBw := sz.ok h.mem
  obtain ⟨A, c, ps, es, hps, hrd, hown, hfree, _⟩ := h.slots _ hs.mem
  obtain ⟨hp, b, o, cs, ex, hb, hra, hrc⟩ := h.slots _ hx.mem
  have hcl := r.len hrc
  have hpos := T.pos
  have hmx : l.length + 1 ≤ maxLen := by unfold maxLen; omega
  have hsl : SlV r.k w w.heap.size (some ⟨b, o, none⟩) 1 1 cs := ⟨by rw [hcl]; omega, Nat.le_refl _, by unfold maxLen; omega, (fun h => by cases h), fun _ => ⟨b, o, rfl, hb.1, fun j u hu => hra j u hu⟩⟩
  obtain ⟨A', c', w', hr, h2, h3, h4⟩ := run_appV (A := A) (A2 := some ⟨b, o, none⟩) T t0 hown hsl (r.one hrc) (by have := Nat.mul_le_mul (show l.length + 1 ≤ 1000001 by omega) hby; omega) hmx hBw
  have hch : Ch B X w w' := ⟨h3.os, h3.tape, h3.output, h3.size, fun g hg => by
    by_cases hA : blk A = some g
    · exact .inr ⟨(hown.blk_ g hA).1, (hfree g hA).2⟩
    · exact .inl (h3.block g hg (fun e => hA e.symm))⟩
  have hkK : ∀ g, FreeK e X w g → w'.heap[g]? = w.heap[g]? := fun g hg => h3.block g hg.1.1 (fun e' => by
    obtain ⟨cur, hcur⟩ := hown.type e'.symm
    obtain ⟨_, cs', t', f', h5, h6⟩ := hg
    rw [hcur] at h5
    injection h5 with h5
    injection h5 with _ h5 _
    exact h6 h5.symm)
  have hmoreK : ∀ g, FreeK e X w g → FreeK e X w' g := fun g hg => by
    obtain ⟨h1, cs', t', f', h5, h6⟩ := hg
    exact ⟨⟨Nat.lt_of_lt_of_le h1.1 h3.size, h1.2⟩, cs', t', f', (hkK g ⟨h1, cs', t', f', h5, h6⟩).trans h5, h6⟩
  have hT : (VTy.ow r e p B (l ++ [y])).holds X w' (.slice A' (l.length + 1) c') := by
    refine ⟨A', c', ps ++ [(y, cs)], by simp, by simp [hps], fun q hq => ?_, by simpa using h2, fun g hg => ?_, fun h => by simp at h⟩
    · rcases List.mem_append.1 hq with hq | hq
      · exact ⟨(hrd q hq).1, r.more (r.keep (hrd q hq).2 hkK) hmoreK⟩
      · rw [List.mem_singleton.1 hq]
        exact ⟨hp, r.more (r.keep hrc hkK) hmoreK⟩
    · have hlt := (h2.blk_ g hg).2
      rcases h4 g hg with h5 | h5
      · exact ⟨hlt, (hfree g h5).2⟩
      · exact ⟨hlt, fun hx => by have := h.mem.far g hx; omega⟩
  have h5 := (h.keep (E' := E0) ss).ch hch hB0
  refine ⟨wpList_plain rfl fun K hK' => ?_⟩
  have e1 : a.eval (.tmp s) = .slice A l.length c := es
  have e2 : a.eval (.tmp x) = .slice (some ⟨b, o, none⟩) 1 1 := ex
  unfold Oper.wp execOp
  simp only [resolve, invoke, builtin, Sem.run_bind, Sem.run_pure, Result.andThen_ok, List.map_toArray, List.map_cons, List.map_nil, e1, e2, hr]
  exact hK' _ _ (next _ _ (h5.new hd.2 (by rw [← Nat.blt_eq]; exact hd.1) hT (Below.refl _ _))).out
/-- The same, the state in the goal. -/
theorem g_append {α : Type} {r : Rp α} {e t t0 : TypeId} {pos : String} {af : Array Edge} {p : α → Prop} {B s x d bytes : Nat} {l : List α} {y : α} {cs : List Code} (ss : List Nat) (hB0 : w00.heap.size ≤ B) [sz : SzC L B] [hs : Look E s (.ow r e p B l)] [hx : Look E x (.r1 r e p y)] [k : KeepC E ss E0] [kL : SurvUL B L] [kE : SurvUL B E0] (T : ElemV P t e r.k bytes)
    (hlen : l.length ≤ 1000000) (hby : bytes ≤ 1000) (hd : (Nat.blt d n && !(E0.map Prod.fst).elem d) = true)
    (h : GR P w00 X L ((d, .ow r e p B (l ++ [y])) :: E0) n ops rest cs Q) : GR P w00 X L E n ops (⟨some d, .call { callee := .builtin .append, args := #[.tmp s, .tmp x], argTypes := #[t, t] }, t0, pos, af, none⟩ :: rest) cs Q := ⟨fun _ _ ht => sq_append ss ht hB0 T hlen hby hd fun a w h' => h.run a w h'⟩
theorem TS.cast {s : Nat} {T T' : VTy} (h : TS w00 X L ((s, T) :: E) n a w) (hT : ∀ X w v, T.holds X w v → T'.holds X w v) : TS w00 X L ((s, T') :: E) n a w := ⟨h.size, h.df, fun p hp => by
  rcases List.mem_cons.1 hp with rfl | hp
  · exact hT _ _ _ (h.slots _ List.mem_cons_self)
  · exact h.slots p (List.mem_cons_of_mem _ hp), h.mem⟩
theorem TS.ageE {s : Nat} {T : VTy} (h : TS w00 X L ((s, T) :: E) n a w) : TS w00 X L ((s, .und w.heap.size T) :: E) n a w := ⟨h.size, h.df, fun p hp => by
  rcases List.mem_cons.1 hp with rfl | hp
  · exact und_new (h.slots _ List.mem_cons_self)
  · exact h.slots p (List.mem_cons_of_mem _ hp), h.mem⟩
end
theorem elemQ4 : ElemV Tryz.prog 61 31 4 64 := ⟨Tryz.underlying61, by decide, by
  obtain ⟨i, h1, h2, h3, h4⟩ : ∃ i, Tryz.prog.info? 31 = some i ∧ i.zero = some (.agg #[.bool false, .slice none 0 0, .bool false, .slice none 0 0]) ∧ i.size = 4 ∧ i.bytes = 64 := info_parts (by kernel_rfl)
  exact ⟨i, _, h1, h2, h3, h4, rfl⟩⟩
/-- A fraction of the reference's, whose rows of limbs are no rows of fractions. -/
abbrev VTy.kq (x : RawQ) (L : Nat) : VTy := .kx Rp.frac 31 (fewQ L) x
abbrev VTy.kn (x : RawI) (L : Nat) : VTy := .kx Rp.num 31 (fun y => y.2.length ≤ L) x
abbrev VTy.kr (x : RawQ) (L : Nat) : VTy := .r1 Rp.frac 31 (fewQ L) x
abbrev VTy.oq (B L : Nat) (l : List RawQ) : VTy := .ow Rp.frac 31 (fewQ L) B l
theorem kx_ex {α : Type} {r : Rp α} {e : TypeId} {p : α → Prop} {a : α} {X : List Nat} {w : World} {v : Value} (h : (VTy.kx r e p a).holds X w v) : (VTy.ex r (fun y => y = a ∧ p y)).holds X w v := by
  obtain ⟨hp, cs, rfl, h⟩ := h
  exact ⟨a, ⟨rfl, hp⟩, cs, rfl, r.unK h⟩
instance {α : Type} {r : Rp α} {e : TypeId} {p : α → Prop} {a : α} : SizeV (.kx r e p a) r.k true := ⟨fun h => (inferInstance : SizeV (.ex r _) r.k true).ok (kx_ex h)⟩
instance {α : Type} {r : Rp α} {e : TypeId} {p : α → Prop} {a : α} : SizeV (.r1 r e p a) 1 false := ⟨fun {X w v} ⟨_, b, o, cs, h, _⟩ => by rw [h]; exact ⟨rfl, by simp [Value.cells, Value.oneCell'], (fun h => by cases h), fun _ => rfl⟩⟩
instance {e : TypeId} {p : RawQ → Prop} {x : RawQ} : SizeV (.kx Rp.frac e p x) 4 true := inferInstanceAs (SizeV (.kx Rp.frac e p x) Rp.frac.k true)
/-- As a row whose elements have a property. -/
class AsW {α : outParam Type} (T : VTy) (r : outParam (Rp α)) (p : outParam (α → Prop)) (l : outParam (List α)) : Prop where
  ok : ∀ {X w v}, T.holds X w v → (VTy.rw r p l).holds X w v
instance {α : Type} {r : Rp α} {p : α → Prop} {l : List α} : AsW (.rw r p l) r p l := ⟨fun h => h⟩
instance {α : Type} {r : Rp α} {p : α → Prop} {l : List α} {T : VTy} {B : Nat} [a : AsW T r p l] : AsW (.und B T) r p l := ⟨fun h => a.ok (und_weak h)⟩
instance {α : Type} {r : Rp α} {e : TypeId} {p : α → Prop} {B : Nat} {l : List α} : AsW (.ow r e p B l) r p l := ⟨ow_rw⟩
instance {p : RawQ → Prop} {x : RawQ} : AsZ (.el Rp.frac p x) x := ⟨fun ⟨y, h, g⟩ => ⟨y, h.1, g⟩⟩
theorem few_all {X : List Nat} {w : World} {v : Value} {l : List RawQ} {p p' : RawQ → Prop} (h : (VTy.rw Rp.frac p l).holds X w v) (hp : ∀ x ∈ l, p' x) : (VTy.rw Rp.frac p' l).holds X w v := ⟨hp, h.2⟩
section
variable {w00 : World} {N : Nat} {L : List Loc} {E : List (Nat × VTy)} {d : Nat} {t0 : TypeId} {pos : String} {af : Array Edge} {gd : Option (Nat × Bool)} {ats : Array TypeId}
theorem st_lenW {α : Type} {r : Rp α} {p : α → Prop} {l : List α} {s k : Nat} {ty : TypeId} {T : VTy} [ho : Look E s T] [aw : AsW T r p l] [ht : SliceC Tryz.prog ty k] : StepT Tryz.prog w00 N L E ⟨some d, .call { callee := .builtin .len, args := #[.tmp s], argTypes := #[ty] }, t0, pos, af, gd⟩ (.is (.int .i64 l.length)) := by
  constructor
  intro X ρ w hc _ hN hm hsl
  obtain ⟨_, A, n, c, e, h⟩ := aw.ok (hsl _ ho.mem (by simp [Op.operands, Call.operands]))
  have e1 : ρ (.tmp s) = .slice A n c := by simpa using e
  obtain ⟨el, hu, _⟩ := ht.ok
  have hl := h.1
  clear hc hsl ho ht h e hm
  unfold Yields
  go_simp
  exact ⟨rfl, Below.refl _ _⟩
theorem st_indexW {α : Type} {r : Rp α} {p : α → Prop} {l : List α} {a : α} {o oi : Operand} {ty : TypeId} {j : Nat} {T : VTy} [ho : OpC E o T] [aw : AsW T r p l] [hi : OpC E oi (.is (.int .i64 (j : Int)))] [ht : SliceC Tryz.prog ty r.k] (ha : l[j]? = some a) : StepT Tryz.prog w00 N L E ⟨some d, .indexAddr ty o oi, t0, pos, af, gd⟩ (.pe r p a) := by
  constructor
  intro X ρ w hc hf hN hm hsl
  have h1 := aw.ok (ho.get (X := X) (w := w) hc fun p hp e => hsl p hp (by simp [Op.operands, e]))
  have h2 := hi.get (X := X) (w := w) hc fun p hp e => hsl p hp (by simp [Op.operands, e])
  -- over two slots that hold just these
  have st := (st_indexAddr' (P := Tryz.prog) (w00 := w00) (N := N) (L := L) (E := [(0, .rw r p l), (1, .is (.int .i64 (j : Int)))]) (d := d) (t0 := t0) (pos := pos) (af := af) (gd := gd) (o := .tmp 0) (oi := .tmp 1) (ty := ty) (j := j) ha).run X (fun x => match x with | .tmp 0 => ρ o | .tmp 1 => ρ oi | y => ρ y) w (fun c => hc c) (fun f => hf f) hN hm (fun q hq _ => by
    rcases List.mem_cons.1 hq with rfl | hq
    · exact h1
    · rw [List.mem_singleton.1 hq]; exact h2)
  exact st
end
theorem Own.type {k : IntKind} {e : TypeId} {w : World} {B : Nat} {A : Option Addr} {n c : Nat} {xs : List Int} (h : Own k e w B A n c xs) {g : Nat} (hg : blk A = some g) : ∃ cur, w.heap[g]? = some (.cells cur e (0, 0)) := by
  rcases h.2 with ⟨h1, _⟩ | ⟨g', cap, cur, h1, h2, h3, h4⟩
  · injection h1 with h1
    rw [h1] at hg; cases hg
  · injection h1 with h1
    rw [h1] at hg
    injection hg with hg
    subst hg
    exact ⟨cur, h3⟩
section
variable {w00 : World} {N : Nat} {L : List Loc} {E : List (Nat × VTy)} {d : Nat} {t0 : TypeId} {pos : String} {af : Array Edge} {gd : Option (Nat × Bool)} {ats : Array TypeId}
theorem cL_plainK {X : List Nat} {w : World} {v0 : Value} {x : RawI} {L : Nat} (hX : ∀ b ∈ X, b < w.heap.size) (h0 : (VTy.nx x L).holds X w v0) (hb : L ≤ 1000) : Calls Tryz.prog 35 #[v0] w (Gives X w (.kn x L)) := by
  obtain ⟨y, ⟨rfl, hl⟩, cs, rfl, hr⟩ := h0
  obtain ⟨A, n, c, rfl, hs, hd⟩ := num_rd.1 hr
  have hn := hs.1.len
  refine (plain4_any (s := y.1) hs.1 (Nat.le_refl _) (by omega)).mono ?_
  rintro e w' ⟨A5, n5, c5, rfl, ho, hb⟩
  refine ⟨_, rfl, ⟨hl, [.bool y.1, .slice A5 n5 c5], rfl, num_rd.2 ⟨A5, n5, c5, rfl, ⟨ho.sl, fun hn b hb' => ?_⟩, hd⟩⟩, hb⟩
  obtain ⟨g1, g2⟩ := ho.blk_ b hb'
  obtain ⟨cur, hcur⟩ := ho.type hb'
  exact ⟨⟨g2, fun hx => by have := hX b hx; omega⟩, cur, _, _, hcur, by decide⟩
theorem sL_plainK {o0 : Operand} {x : RawI} {L0 : Nat} [OpC E o0 (.nx x L0)] (hb : L0 ≤ 1000) : StepT Tryz.prog w00 N L E ⟨some d, .call { callee := .value (.func 35), args := #[o0], argTypes := ats }, t0, pos, af, gd⟩ (.kn x L0) :=
  sc1 eL_plain fun X w v0 hX _ _ h0 => cL_plainK hX h0 hb
set_option maxRecDepth 20000 in
theorem sL_buildK {o0 o1 : Operand} {a b : RawI} {L0 : Nat} [h0 : OpC E o0 (.kn a L0)] [h1 : OpC E o1 (.kn b L0)] (hl : 0 < L0) : StepT Tryz.prog w00 N L E ⟨some d, .build 31 #[(0, o0), (1, o1)], t0, pos, af, gd⟩ (.kq (a, b) L0) := by
  constructor
  intro X ρ w hc _ hN hm hsl
  obtain ⟨a2, cs, e0, g0⟩ := h0.get (X := X) (w := w) hc fun p hp e => hsl p hp (by simp [Op.operands, e])
  obtain ⟨b2, ds, e1, g1⟩ := h1.get (X := X) (w := w) hc fun p hp e => hsl p hp (by simp [Op.operands, e])
  obtain ⟨A, n, c, rfl, _⟩ := num_rd.1 g0
  obtain ⟨A2, n2, c2, rfl, _⟩ := num_rd.1 g1
  have hT : (VTy.kq (a, b) L0).holds X w (.agg #[.bool a.1, .slice A n c, .bool b.1, .slice A2 n2 c2]) :=
    ⟨⟨a2, b2, hl⟩, [.bool a.1, .slice A n c] ++ [.bool b.1, .slice A2 n2 c2], rfl, _, _, rfl, g0, g1⟩
  have HT := Lib.hid hT
  clear hT hsl hm hc a2 b2 g0 g1 h0 h1
  unfold Yields
  go_simp
  exact ⟨HT.out, Below.refl _ _⟩
set_option maxRecDepth 20000 in
/-- A row of one. -/
theorem st_build1 {o0 : Operand} {x : RawQ} {L0 : Nat} [h0 : OpC E o0 (.kq x L0)] : StepT Tryz.prog w00 N L E ⟨some d, .buildSlice 61 1 #[(0, o0)], t0, pos, af, gd⟩ (.kr x L0) := by
  constructor
  intro X ρ w hc _ hN hm hsl
  obtain ⟨a2, cs, e0, g0⟩ := h0.get (X := X) (w := w) hc fun p hp e => hsl p hp (by simp [Op.operands, e])
  obtain ⟨c1, c2, rfl, r1, r2⟩ := frac_rd.1 g0
  obtain ⟨A, n, c, rfl, _⟩ := num_rd.1 r1
  obtain ⟨A2, n2, c2, rfl, _⟩ := num_rd.1 r2
  have hb : Below w.heap.size w (w.alloc (.cells #[.bool x.1.1, .slice A n c, .bool x.2.1, .slice A2 n2 c2] 31)) := (Below.refl _ _).alloc (Nat.le_refl _) _
  have hT : (VTy.kr x L0).holds X (w.alloc (.cells #[.bool x.1.1, .slice A n c, .bool x.2.1, .slice A2 n2 c2] 31)) (.slice (some ⟨w.heap.size, 0, none⟩) 1 1) := by
    refine ⟨a2, w.heap.size, 0, _, rfl, ⟨by rw [size_one]; omega, fun hx => by have := hm.far _ hx; omega⟩, ?_, Rp.upK Rp.frac g0 (Below.keeps hb X) fun _ h _ => h⟩
    intro j u hj
    have := rangeAt_new (w := w) (T := 31) (pre := []) (cs := [.bool x.1.1, .slice A n c, .bool x.2.1, .slice A2 n2 c2]) (ds := [.bool x.1.1, .slice A n c, .bool x.2.1, .slice A2 n2 c2]) (List.prefix_refl _) j u hj
    simpa using this
  have e0' : ρ o0 = .agg #[.bool x.1.1, .slice A n c, .bool x.2.1, .slice A2 n2 c2] := e0
  have HT := Lib.hid hT
  have HB := Lib.hid hb
  clear hT hb hsl hm hc g0 r1 r2 h0 e0
  unfold Yields
  go_simp
  exact ⟨HT.out, HB.out⟩
end
set_option maxRecDepth 20000 in
set_option maxHeartbeats 1000000 in
theorem cL_refK {X : List Nat} {w : World} (hX : ∀ b ∈ X, b < w.heap.size) {v0 : Value} {x : RawQ} {L : Nat} (h0 : (VTy.qx x L).holds X w v0) (hb : L ≤ 1000) :
    Calls Tryz.prog 10 #[v0] w (Gives X w (.kq x L)) := by
  have hl : 0 < L := by obtain ⟨_, ⟨_, _, _, g⟩, _⟩ := h0; exact g
  refine ts_enter (Ts := [.qx x L]) (vs := [v0]) Tryz.func10 rfl Tryz.ntmps10 (by simp) hX ⟨h0, trivial⟩ fun a h => ?_
  clear h0 hX
  simp only [argE, Nat.zero_add, Nat.reduceAdd] at h
  refine g_of h ?_
  clear h
  repeat' first|kernel_rfl|apply g_seq|apply g_reg|apply g_nil|apply g_draw (id:=1) [] [] 7|apply o_all|apply o_go|exact OpsT.nil|exact GuardC.nil|exact UndefC.nil|apply g_box|apply g_all|apply g_sto|apply g_asg|apply g_st|apply g_skip|apply g_ct|apply g_cf|apply g_ret|refine r_1 rfl ?_|apply g_cl|exact sL_plainK (by omega)|exact sL_buildK (by omega)|exact st_load'|exact st_fieldAddr'|exact st_loadE'|exact Cv.rfl'|(intro _;simp only[newX,newL,ptrs,List.map,List.cons_append,List.nil_append])|intro _
section
variable {w00 : World} {N : Nat} {L : List Loc} {E : List (Nat × VTy)} {d : Nat} {t0 : TypeId} {pos : String} {af : Array Edge} {gd : Option (Nat × Bool)} {ats : Array TypeId}
theorem sL_refK {o0 : Operand} {T0 : VTy} {x : RawQ} {k : Nat} [OpC E o0 T0] [a0 : AsZ T0 x] (hk : 0 < k ∧ k ≤ 1000) (hf : (decide ((x.1.2.length : Int) ≤ (k : Int)) && decide ((x.2.2.length : Int) ≤ (k : Int))) = true) : StepT Tryz.prog w00 N L E ⟨some d, .call { callee := .value (.func 10), args := #[o0], argTypes := ats }, t0, pos, af, gd⟩ (.kq x k) :=
  sc1 eL_ref fun X w v0 hX _ _ h0 => cL_refK hX (few_qa hk.1 (a0.ok h0) hf) hk.2
theorem e4_rows1 : Enters Tryz.prog 39 := fun _ _ => by kernel_rfl
theorem e4_rows2 : Enters Tryz.prog 41 := fun _ _ => by kernel_rfl
theorem e4_rows3 : Enters Tryz.prog 43 := fun _ _ => by kernel_rfl
theorem e4_rows4 : Enters Tryz.prog 45 := fun _ _ => by kernel_rfl
theorem s4_sumW {o0 : Operand} {T0 : VTy} {l : List RawQ} {K : Nat} [OpC E o0 T0] [a0 : AsW T0 Rp.frac (fewQ K) l] (hb : (1 + (K + 1) * l.length) ≤ 180 ∧ K ≤ 180) : StepT Tryz.prog w00 N L E ⟨some d, .call { callee := .value (.func 39), args := #[o0], argTypes := ats }, t0, pos, af, gd⟩ (.qc (sumQ l) (1 + (K + 1) * l.length)) := sc1 e4_rows1 fun X w v0 hX _ _ h0 => c4_sum hX (a0.ok h0) hb
theorem s4_prodW {o0 : Operand} {T0 : VTy} {l : List RawQ} {K : Nat} [OpC E o0 T0] [a0 : AsW T0 Rp.frac (fewQ K) l] (hb : (2 + (K + 1) * l.length) ≤ 180 ∧ K ≤ 180) : StepT Tryz.prog w00 N L E ⟨some d, .call { callee := .value (.func 41), args := #[o0], argTypes := ats }, t0, pos, af, gd⟩ (.qc (prodQ l) (2 + (K + 1) * l.length)) := sc1 e4_rows2 fun X w v0 hX _ _ h0 => c4_prod hX (a0.ok h0) hb
theorem s4_minW {o0 : Operand} {T0 : VTy} {l : List RawQ} {K : Nat} [OpC E o0 T0] [a0 : AsW T0 Rp.frac (fewQ K) l] (hb : K ≤ 80) (hl0 : 0 < l.length) : StepT Tryz.prog w00 N L E ⟨some d, .call { callee := .value (.func 43), args := #[o0], argTypes := ats }, t0, pos, af, gd⟩ (.qc (minQ l) K) := sc1 e4_rows3 fun X w v0 hX _ _ h0 => c4_min hX (a0.ok h0) hb hl0
theorem s4_maxW {o0 : Operand} {T0 : VTy} {l : List RawQ} {K : Nat} [OpC E o0 T0] [a0 : AsW T0 Rp.frac (fewQ K) l] (hb : K ≤ 80) (hl0 : 0 < l.length) : StepT Tryz.prog w00 N L E ⟨some d, .call { callee := .value (.func 45), args := #[o0], argTypes := ats }, t0, pos, af, gd⟩ (.qc (maxQ l) K) := sc1 e4_rows4 fun X w v0 hX _ _ h0 => c4_max hX (a0.ok h0) hb hl0
/-- As a row of one. -/
class AsO (T : VTy) (y : outParam RawQ) (K : outParam Nat) : Prop where
  ok : ∀ {X w v}, T.holds X w v → (VTy.kr y K).holds X w v
instance {y : RawQ} {K : Nat} : AsO (.kr y K) y K := ⟨fun h => h⟩
instance {y : RawQ} {K B : Nat} {T : VTy} [a : AsO T y K] : AsO (.und B T) y K := ⟨fun h => a.ok (und_weak h)⟩
/-- A row of one, and a whole row behind it. -/
theorem st_appendAll {s x K B : Nat} {y : RawQ} {l : List RawQ} {T0 : VTy} [hs : Look E s T0] [ho : AsO T0 y K] [hx : Look E x (.oq B K l)] (hlen : l.length ≤ 1000) : StepT Tryz.prog w00 N L E ⟨some d, .call { callee := .builtin .append, args := #[.tmp s, .tmp x], argTypes := #[61, 61] }, t0, pos, af, gd⟩ (.rq K (y :: l)) := by
  constructor
  intro X ρ w hc _ hN hm hsl
  obtain ⟨hp, b, o, cs, e1, hb, hra, hrc⟩ := ho.ok (hsl _ hs.mem (by simp [Op.operands, Call.operands]))
  obtain ⟨A, c, ps, e2, rfl, hrd, hown, hfree, hnil⟩ := hsl _ hx.mem (by simp [Op.operands, Call.operands])
  have e1' : ρ (.tmp s) = .slice (some ⟨b, o, none⟩) 1 1 := e1
  have e2' : ρ (.tmp x) = .slice A (ps.map Prod.fst).length c := e2
  obtain ⟨i, z, hi, hz, hsz, hby, hzc⟩ := elemQ4.info
  have hcl : cs.length = 4 := Rp.frac.len hrc
  have hmx : 1 + (ps.map Prod.fst).length ≤ maxLen := by unfold maxLen; omega
  obtain ⟨v', w', hr, hT, hB⟩ : ∃ v' w', (Builtin.append_ #[61, 61] t0 #[.slice (some ⟨b, o, none⟩) 1 1, .slice A (ps.map Prod.fst).length c]).run Tryz.prog w = .ok v' w' ∧ (VTy.rq K (y :: ps.map Prod.fst)).holds X w' v' ∧ Below w.heap.size w w' := by
    obtain ⟨q1, q2, q3, q4, q5⟩ := hown.sl
    by_cases h0 : ps = []
    · subst h0
      have hA : A = none ∧ c = 0 := by
        rcases hown.form with ⟨h1, _, h3⟩ | ⟨g, h1, _⟩
        · exact ⟨h1, h3⟩
        · exact absurd (hnil rfl) (by rw [h1]; simp)
      obtain ⟨rfl, rfl⟩ := hA
      refine ⟨.slice (some ⟨b, o, none⟩) 1 1, w, ?_, ⟨fun a ha => by rw [List.mem_singleton.1 ha]; exact hp, some ⟨b, o, none⟩, 1, 1, rfl, rfl, Nat.le_refl _, by unfold maxLen; omega, (fun h => by cases h), fun _ => ⟨b, o, rfl, hb, fun j a ha => ?_⟩⟩, Below.refl _ _⟩
      · simp [Builtin.append_, run_underlying elemQ4.slice, sizeOf, typeInfo, hi, Builtin.lenOf, Builtin.firstCells, storeCells]
      · cases j with
        | zero =>
          obtain rfl : y = a := by simpa using ha
          exact ⟨cs, by simpa using hra, Rp.frac.unK hrc⟩
        | succ j => simp at ha
    · have hne : 0 < (ps.map Prod.fst).length := by rw [List.length_map]; exact List.length_pos_iff.2 h0
      obtain ⟨b2, off2, rfl, hb2, hc2⟩ := q5 hne
      obtain ⟨v', w', hr, r1, r2⟩ := run_append_arg_grows (P := Tryz.prog) w 61 t0 31 i z 4 64 elemQ4.slice hi hz hsz hby hzc (by decide) ⟨b, o, none⟩ 1 1 cs (by rw [hcl]) (fun j u hj => by rw [Addr.add_lit]; exact hra j u hj) ⟨b2, off2, none⟩ (ps.map Prod.fst).length c (ps.flatMap Prod.snd) q1 (fun j u hj => by rw [Addr.add_lit]; exact hc2 j u hj) (by omega) hmx (by omega)
      have hbel : Below w.heap.size w w' := (Below.refl _ _).grown r2 (Nat.le_refl _) (fun k hk => by cases hk)
      have hform : ∃ A' c', v' = .slice A' (1 + (ps.map Prod.fst).length) c' := by
        rcases r1.2 with ⟨_, h0⟩ | ⟨g, cap, cur, hv, _⟩
        · omega
        · exact ⟨_, _, hv⟩
      obtain ⟨A', c', rfl⟩ := hform
      refine ⟨_, w', hr, ?_, hbel⟩
      have hown' : OwnV 4 31 w' w.heap.size A' (1 + (ps.map Prod.fst).length) c' (cs ++ ps.flatMap Prod.snd) := r1
      have h5 : (VTy.oq w.heap.size K (y :: ps.map Prod.fst)).holds X w' (.slice A' (1 + (ps.map Prod.fst).length) c') := by
        refine ⟨A', c', (y, cs) :: ps, by rw [List.length_cons, Nat.add_comm], rfl, fun q hq => ?_, by rw [List.length_cons, Nat.add_comm]; exact hown', fun g hg => ⟨(hown'.blk_ g hg).2, fun hx => by have := hm.far g hx; have := (hown'.blk_ g hg).1; omega⟩, (fun h => by cases h)⟩
        rcases List.mem_cons.1 hq with rfl | hq
        · exact ⟨hp, Rp.upK Rp.frac hrc (Below.keeps hbel X) fun _ h _ => h⟩
        · exact ⟨(hrd q hq).1, Rp.upK Rp.frac (hrd q hq).2 (Below.keeps hbel X) fun _ h _ => h⟩
      exact ow_rw h5
  unfold Yields execOp
  simp only [resolve, invoke, builtin, Sem.run_bind, Sem.run_pure, Result.andThen_ok, List.map_toArray, List.map_cons, List.map_nil, e1', e2', hr]
  exact ⟨hT, hB⟩
end
instance {L : Nat} {l : List RawQ} : AsW (.rq L l) Rp.frac (fewQ L) l := ⟨fun h => h⟩
instance {B L : Nat} {qs : List Rat} {T : VTy} [a : AsR T qs L] : AsR (.und B T) qs L := ⟨fun h => a.ok (und_weak h)⟩
set_option synthInstance.maxSize 4000 in
set_option synthInstance.maxHeartbeats 400000 in
set_option maxRecDepth 20000 in
set_option maxHeartbeats 8000000 in
theorem cL_rowsA {X : List Nat} {w : World} (hE : Tab w) (hX : ∀ b ∈ X, b < w.heap.size) {v0 v1 : Value} {f : RawQ} {l : List RawQ} (h0 : (VTy.qx f 2).holds X w v0) (h1 : (VTy.rw Rp.frac (fun _ => True) l).holds X w v1) (e0 : (decide ((f.1.2.length : Int) ≤ 2) && decide ((f.2.2.length : Int) ≤ 2)) = true) (e1 : decide ((6 : Int) < (l.length : Int)) = false) :
    Calls Tryz.prog 5 #[v0, v1] w (Gives X w (.is (.bool true))) := by
  have hl6 : l.length ≤ 6 := by have := of_decide_eq_false e1; omega
  have hmx : l.length ≤ 9223372036854775807 := by omega
  have k1 : sumR (l.map qv) = sumQ l := (sumQ_V l).symm
  have k2 : prodR (l.map qv) = prodQ l := (prodQ_V l).symm
  have k3 : minR (qv f :: l.map qv) = minQ (f :: l) := (bestQ_V (fun a b => decide (cmpQ a b < 0)) (f :: l)).symm
  have k4 : maxR (qv f :: l.map qv) = maxQ (f :: l) := (bestQ_V (fun a b => decide (0 < cmpQ a b)) (f :: l)).symm
  refine ts_enter (Ts := [.qx f 2, .rw Rp.frac (fun _ => True) l]) (vs := [v0, v1]) Tryz.func5 rfl Tryz.ntmps5 (by simp) hX ⟨h0, h1, trivial⟩ fun a h => ?_
  clear h0 h1 hX
  simp only [argE, Nat.zero_add, Nat.reduceAdd] at h
  refine g_of h ?_
  clear h
  repeat' first|kernel_rfl|apply g_seq|apply g_reg|apply g_nil|apply g_box|apply g_all|apply g_sto|apply g_asg|refine g_run rfl inferInstance (by first|exact sL_fewU (by assumption)|exact sL_works hE|exact sr_prod hE (by simp only [List.length_map]; omega)|exact sr_min hE (by omega)|exact sr_max hE (by omega)|exact s4_prodW (by omega)|exact s4_minW (by omega) (by simp)|exact s4_maxW (by omega) (by simp)|exact sL_isCC (by assumption)|exact st_move'|exact st_load'|exact st_not' (b := true) (u := false) rfl|exact st_not' (b := false) (u := true) rfl|exact st_not' rfl|exact st_loadE') (by kernel_rfl) ?_|refine g_sk rfl inferInstance rfl (by kernel_rfl) ?_|refine g_un rfl inferInstance (by kernel_rfl) ?_|apply g_st|apply g_skip|apply g_ct|apply g_cf|apply g_ret|refine r_1 rfl ?_|apply g_cl|exact st_lenW|exact st_indexW (by assumption)|exact sL_fewU (by assumption)|exact sL_works hE|exact sL_refK (k := 2) (by decide) (by assumption)|exact st_build1|exact st_appendAll (by omega)|exact st_add' hw|exact sr_sum hE (by simp only [List.length_map]; omega)|exact sr_prod hE (by simp only [List.length_map]; omega)|exact sr_min hE (by omega)|exact sr_max hE (by omega)|exact s4_sumW (by omega)|exact s4_prodW (by omega)|exact s4_minW (by omega) (by simp)|exact s4_maxW (by omega) (by simp)|exact sL_isCC (by assumption)|exact st_move'|exact st_assign'|exact st_load'|exact st_and_t'|exact st_and_f'|exact st_or_f'|exact st_or_t'|exact st_not' (b := true) (u := false) rfl|exact st_not' (b := false) (u := true) rfl|exact st_not' rfl|exact st_lss' (by first|assumption|rfl)|exact st_gtr' (by first|assumption|rfl)|exact st_len'|exact st_indexAddr' (by assumption)|exact st_loadE'|exact Cv.rfl'|intro _
  refine g_stop fun a w h => ?_
  replace h := h.age
  simp only [List.map] at h
  replace h := (h.keep [1, 6, 5, 7, 2]).ageE
  replace h := (h.keep [6, 1, 5, 7, 2]).ageE
  have hB0 := h.mem.below.size
  obtain ⟨B, hBe⟩ : ∃ B, B = w.heap.size := ⟨_, rfl⟩
  rw [← hBe] at h hB0
  clear hBe
  replace h := (h.keep [5, 6, 1, 7, 2]).cast (T' := .oq B 2 []) (fun _ _ _ hv => ow_nil hv)
  refine cw_block ?_
  refine cw_loop (fun k a w => ∃ i : Nat, i + k = l.length ∧ (∀ x ∈ l.take i, fewQ 2 x) ∧ TS _ _ [(_, VTy.und B (VTy.qx f 2))] [(5, VTy.oq B 2 (l.take i)), (6, VTy.und B (VTy.kr f 2)), (1, VTy.und B (VTy.rw Rp.frac (fun _ => True) l)), (7, .is (.int .i64 (i : Int))), (2, VTy.is (.pointer (some ⟨_, 0, none⟩)))] 75 a w) l.length ⟨0, by omega, (fun _ h => by cases h), h⟩ ?_
  clear h
  rintro k a w ⟨i, hi, hfw, h⟩
  by_cases hlt : i < l.length
  · obtain ⟨x, hx⟩ : ∃ x, l[i]? = some x := ⟨_, List.getElem?_eq_getElem hlt⟩
    have hc1 : decide ((i : Int) < (l.length : Int)) = true := decide_eq_true (by omega)
    have hw := i64_next hlt hmx
    have ht : l.take i ++ [x] = l.take (i + 1) := (take_one hx).symm
    cases hf : (decide ((x.1.2.length : Int) ≤ 2) && decide ((x.2.2.length : Int) ≤ 2)) with
    | false =>
      refine g_of h ?_
      clear h
      repeat' first|kernel_rfl|apply g_seq|apply g_reg|apply g_nil|apply g_box|apply g_all|apply g_sto|apply g_asg|refine g_run rfl inferInstance (by first|exact sL_fewU (by assumption)|exact sL_works hE|exact sr_prod hE (by simp only [List.length_map]; omega)|exact sr_min hE (by omega)|exact sr_max hE (by omega)|exact s4_prodW (by omega)|exact s4_minW (by omega) (by simp)|exact s4_maxW (by omega) (by simp)|exact sL_isCC (by assumption)|exact st_move'|exact st_load'|exact st_not' (b := true) (u := false) rfl|exact st_not' (b := false) (u := true) rfl|exact st_not' rfl|exact st_loadE') (by kernel_rfl) ?_|refine g_sk rfl inferInstance rfl (by kernel_rfl) ?_|refine g_un rfl inferInstance (by kernel_rfl) ?_|apply g_st|apply g_skip|apply g_ct|apply g_cf|apply g_ret|refine r_1 rfl ?_|apply g_blk|apply g_eb|apply g_ex|apply e_t|apply e_h|refine e_o rfl ?_|apply r_t|apply r_b|apply g_cl|exact st_lenW|exact st_indexW (by assumption)|exact sL_fewU (by assumption)|exact sL_works hE|exact sL_refK (k := 2) (by decide) (by assumption)|exact st_build1|exact st_appendAll (by omega)|exact st_add' hw|exact sr_sum hE (by simp only [List.length_map]; omega)|exact sr_prod hE (by simp only [List.length_map]; omega)|exact sr_min hE (by omega)|exact sr_max hE (by omega)|exact s4_sumW (by omega)|exact s4_prodW (by omega)|exact s4_minW (by omega) (by simp)|exact s4_maxW (by omega) (by simp)|exact sL_isCC (by assumption)|exact st_move'|exact st_assign'|exact st_load'|exact st_and_t'|exact st_and_f'|exact st_or_f'|exact st_or_t'|exact st_not' (b := true) (u := false) rfl|exact st_not' (b := false) (u := true) rfl|exact st_not' rfl|exact st_lss' (by first|assumption|rfl)|exact st_gtr' (by first|assumption|rfl)|exact st_len'|exact st_indexAddr' (by assumption)|exact st_loadE'|exact Cv.rfl'|intro _
    | true =>
      have hfx : fewQ 2 x := by
        rw [Bool.and_eq_true, decide_eq_true_eq, decide_eq_true_eq] at hf
        exact ⟨by omega, by omega, by decide⟩
      have hfw' : ∀ y ∈ l.take (i + 1), fewQ 2 y := fun y hy => by
        rw [← ht] at hy
        rcases List.mem_append.1 hy with hy | hy
        · exact hfw y hy
        · rw [List.mem_singleton.1 hy]; exact hfx
      refine g_of h ?_
      clear h
      repeat' first|kernel_rfl|(refine g_append (B:=B) [6,1,7,2] hB0 elemQ4 (by rw[List.length_take];omega) (by decide) (by kernel_rfl) ?_;rw[ht])|exact g_done fun _ _ h=>⟨k - 1, by omega, i + 1, by omega, hfw', h.keep [5, 6, 1, 7, 2]⟩|apply g_seq|apply g_reg|apply g_nil|apply g_box|apply g_all|apply g_sto|apply g_asg|refine g_run rfl inferInstance (by first|exact sL_fewU (by assumption)|exact sL_works hE|exact sr_prod hE (by simp only [List.length_map]; omega)|exact sr_min hE (by omega)|exact sr_max hE (by omega)|exact s4_prodW (by omega)|exact s4_minW (by omega) (by simp)|exact s4_maxW (by omega) (by simp)|exact sL_isCC (by assumption)|exact st_move'|exact st_load'|exact st_not' (b := true) (u := false) rfl|exact st_not' (b := false) (u := true) rfl|exact st_not' rfl|exact st_loadE') (by kernel_rfl) ?_|refine g_sk rfl inferInstance rfl (by kernel_rfl) ?_|refine g_un rfl inferInstance (by kernel_rfl) ?_|apply g_st|apply g_skip|apply g_ct|apply g_cf|apply g_ret|refine r_1 rfl ?_|apply g_blk|apply g_eb|apply g_ex|apply e_t|apply e_h|refine e_o rfl ?_|apply r_t|apply r_b|apply g_cl|exact st_lenW|exact st_indexW (by assumption)|exact sL_fewU (by assumption)|exact sL_works hE|exact sL_refK (k := 2) (by decide) (by assumption)|exact st_build1|exact st_appendAll (by omega)|exact st_add' hw|exact sr_sum hE (by simp only [List.length_map]; omega)|exact sr_prod hE (by simp only [List.length_map]; omega)|exact sr_min hE (by omega)|exact sr_max hE (by omega)|exact s4_sumW (by omega)|exact s4_prodW (by omega)|exact s4_minW (by omega) (by simp)|exact s4_maxW (by omega) (by simp)|exact sL_isCC (by assumption)|exact st_move'|exact st_assign'|exact st_load'|exact st_and_t'|exact st_and_f'|exact st_or_f'|exact st_or_t'|exact st_not' (b := true) (u := false) rfl|exact st_not' (b := false) (u := true) rfl|exact st_not' rfl|exact st_lss' (by first|assumption|rfl)|exact st_gtr' (by first|assumption|rfl)|exact st_len'|exact st_indexAddr' (by assumption)|exact st_loadE'|exact Cv.rfl'|intro _
  · have hc1 : decide ((i : Int) < (l.length : Int)) = false := decide_eq_false (by omega)
    obtain rfl : i = l.length := by omega
    rw [List.take_length] at h hfw
    replace h := (h.keep [1, 5, 6, 7, 2]).cast (T' := .und B (.rq 2 l)) (fun X w v hv => ⟨hv.1, few_all hv.2 hfw⟩)
    refine g_of h ?_
    clear h
    repeat' first|kernel_rfl|apply g_seq|apply g_reg|apply g_nil|apply g_box|apply g_all|apply g_sto|apply g_asg|refine g_run rfl inferInstance (by first|exact sL_fewU (by assumption)|exact sL_works hE|exact sr_prod hE (by simp only [List.length_map]; omega)|exact sr_min hE (by omega)|exact sr_max hE (by omega)|exact s4_prodW (by omega)|exact s4_minW (by omega) (by simp)|exact s4_maxW (by omega) (by simp)|exact sL_isCC (by assumption)|exact st_move'|exact st_load'|exact st_not' (b := true) (u := false) rfl|exact st_not' (b := false) (u := true) rfl|exact st_not' rfl|exact st_loadE') (by kernel_rfl) ?_|refine g_sk rfl inferInstance rfl (by kernel_rfl) ?_|refine g_un rfl inferInstance (by kernel_rfl) ?_|apply g_st|apply g_skip|apply g_ct|apply g_cf|apply g_ret|refine r_1 rfl ?_|apply g_blk|apply g_eb|apply g_ex|apply e_t|apply e_h|refine e_o rfl ?_|apply r_t|apply r_b|apply g_cl|exact st_lenW|exact st_indexW (by assumption)|exact sL_fewU (by assumption)|exact sL_works hE|exact sL_refK (k := 2) (by decide) (by assumption)|exact st_build1|exact st_appendAll (by omega)|exact st_add' hw|exact sr_sum hE (by simp only [List.length_map]; omega)|exact sr_prod hE (by simp only [List.length_map]; omega)|exact sr_min hE (by omega)|exact sr_max hE (by omega)|exact s4_sumW (by omega)|exact s4_prodW (by omega)|exact s4_minW (by omega) (by simp)|exact s4_maxW (by omega) (by simp)|exact sL_isCC (by assumption)|exact st_move'|exact st_assign'|exact st_load'|exact st_and_t'|exact st_and_f'|exact st_or_f'|exact st_or_t'|exact st_not' (b := true) (u := false) rfl|exact st_not' (b := false) (u := true) rfl|exact st_not' rfl|exact st_lss' (by first|assumption|rfl)|exact st_gtr' (by first|assumption|rfl)|exact st_len'|exact st_indexAddr' (by assumption)|exact st_loadE'|exact Cv.rfl'|intro _
set_option synthInstance.maxSize 4000 in
set_option synthInstance.maxHeartbeats 400000 in
set_option maxRecDepth 20000 in
set_option maxHeartbeats 8000000 in
theorem cL_rows {X : List Nat} {w : World} (hE : Tab w) (hX : ∀ b ∈ X, b < w.heap.size) {v0 v1 : Value} {f : RawQ} {l : List RawQ} (h0 : (VTy.qz f).holds X w v0) (h1 : (VTy.rw Rp.frac (fun _ => True) l).holds X w v1) :
    Calls Tryz.prog 5 #[v0, v1] w (Gives X w (.is (.bool true))) := by
  cases e1 : decide ((6 : Int) < (l.length : Int)) with
  | true =>
    refine ts_enter (Ts := [.qz f, .rw Rp.frac (fun _ => True) l]) (vs := [v0, v1]) Tryz.func5 rfl Tryz.ntmps5 (by simp) hX ⟨h0, h1, trivial⟩ fun a h => ?_
    clear h0 h1 hX
    simp only [argE, Nat.zero_add, Nat.reduceAdd] at h
    refine g_of h ?_
    clear h
    repeat' first|kernel_rfl|apply g_seq|apply g_reg|apply g_nil|apply g_box|apply g_all|apply g_sto|apply g_asg|refine g_run rfl inferInstance (by first|exact sL_fewU (by assumption)|exact sL_works hE|exact st_move'|exact st_load'|exact st_not' (b := true) (u := false) rfl|exact st_not' (b := false) (u := true) rfl|exact st_not' rfl|exact st_loadE') (by kernel_rfl) ?_|refine g_sk rfl inferInstance rfl (by kernel_rfl) ?_|refine g_un rfl inferInstance (by kernel_rfl) ?_|apply g_st|apply g_skip|apply g_ct|apply g_cf|apply g_ret|refine r_1 rfl ?_|apply g_cl|exact st_lenW|exact sL_fewU (by assumption)|exact sL_works hE|exact st_move'|exact st_assign'|exact st_load'|exact st_and_t'|exact st_and_f'|exact st_or_f'|exact st_or_t'|exact st_not' (b := true) (u := false) rfl|exact st_not' (b := false) (u := true) rfl|exact st_not' rfl|exact st_lss' (by first|assumption|rfl)|exact st_gtr' (by first|assumption|rfl)|exact st_len'|exact st_indexAddr' (by assumption)|exact st_loadE'|exact Cv.rfl'|intro _
  | false =>
    cases e0 : (decide ((f.1.2.length : Int) ≤ 2) && decide ((f.2.2.length : Int) ≤ 2)) with
    | false =>
      refine ts_enter (Ts := [.qz f, .rw Rp.frac (fun _ => True) l]) (vs := [v0, v1]) Tryz.func5 rfl Tryz.ntmps5 (by simp) hX ⟨h0, h1, trivial⟩ fun a h => ?_
      clear h0 h1 hX
      simp only [argE, Nat.zero_add, Nat.reduceAdd] at h
      refine g_of h ?_
      clear h
      repeat' first|kernel_rfl|apply g_seq|apply g_reg|apply g_nil|apply g_box|apply g_all|apply g_sto|apply g_asg|refine g_run rfl inferInstance (by first|exact sL_fewU (by assumption)|exact sL_works hE|exact st_move'|exact st_load'|exact st_not' (b := true) (u := false) rfl|exact st_not' (b := false) (u := true) rfl|exact st_not' rfl|exact st_loadE') (by kernel_rfl) ?_|refine g_sk rfl inferInstance rfl (by kernel_rfl) ?_|refine g_un rfl inferInstance (by kernel_rfl) ?_|apply g_st|apply g_skip|apply g_ct|apply g_cf|apply g_ret|refine r_1 rfl ?_|apply g_cl|exact st_lenW|exact sL_fewU (by assumption)|exact sL_works hE|exact st_move'|exact st_assign'|exact st_load'|exact st_and_t'|exact st_and_f'|exact st_or_f'|exact st_or_t'|exact st_not' (b := true) (u := false) rfl|exact st_not' (b := false) (u := true) rfl|exact st_not' rfl|exact st_lss' (by first|assumption|rfl)|exact st_gtr' (by first|assumption|rfl)|exact st_len'|exact st_indexAddr' (by assumption)|exact st_loadE'|exact Cv.rfl'|intro _
    | true => exact cL_rowsA hE hX (few_qa (k := 2) (by decide) h0 e0) h1 e0 e1
/-- Some limbs; some number; some fraction; some row of so many. -/
def VTy.lany : VTy := ⟨fun X w v => ∃ xs, (VTy.rc Rp.limbs xs).holds X w v, fun ⟨xs, h⟩ hk hX => ⟨xs, (VTy.rc Rp.limbs xs).stable h hk hX⟩⟩
def VTy.nany : VTy := VTy.ex Rp.num (fun _ => True)
def VTy.qany : VTy := VTy.ex Rp.frac (fun _ => True)
def VTy.rany (n : Nat) : VTy := ⟨fun X w v => ∃ l : List RawQ, l.length = n ∧ (VTy.rw Rp.frac (fun _ => True) l).holds X w v, fun ⟨l, e, h⟩ hk hX => ⟨l, e, (VTy.rw Rp.frac (fun _ => True) l).stable h hk hX⟩⟩
class AnyN (T : VTy) : Prop where
  ok : ∀ {X w v}, T.holds X w v → VTy.nany.holds X w v
theorem ex_nany {p : RawI → Prop} {X : List Nat} {w : World} {v : Value} (h : (VTy.ex Rp.num p).holds X w v) : VTy.nany.holds X w v := ⟨h.choose, trivial, h.choose_spec.2⟩
instance : AnyN .nany := ⟨fun h => h⟩
instance {N : Int} {L : Nat} : AnyN (.nc N L) := ⟨ex_nany⟩
class AnyQ (T : VTy) : Prop where
  ok : ∀ {X w v}, T.holds X w v → VTy.qany.holds X w v
theorem ex_qany {p : RawQ → Prop} {X : List Nat} {w : World} {v : Value} (h : (VTy.ex Rp.frac p).holds X w v) : VTy.qany.holds X w v := ⟨h.choose, trivial, h.choose_spec.2⟩
instance : AnyQ .qany := ⟨fun h => h⟩
instance {q : Rat} {L : Nat} : AnyQ (.qc q L) := ⟨ex_qany⟩
instance {p : RawQ → Prop} {x : RawQ} : AnyQ (.el Rp.frac p x) := ⟨ex_qany⟩
class AnyW (T : VTy) : Prop where
  ok : ∀ {X w v}, T.holds X w v → ∃ n, (VTy.rany n).holds X w v
instance {n : Nat} : AnyW (.rany n) := ⟨fun h => ⟨n, h⟩⟩
instance {qs : List Rat} {L : Nat} : AnyW (.rv qs L) := ⟨fun ⟨l, _, h⟩ => ⟨l.length, l, rfl, few_all (p := fewQ L) h fun _ _ => trivial⟩⟩
instance : AnyW (.is (.slice none 0 0)) := ⟨fun {X w v} h => ⟨0, [], rfl, by
  obtain rfl : v = _ := h
  exact ⟨(fun _ h => by cases h), none, 0, 0, rfl, rfl, Nat.le_refl _, Nat.zero_le _, fun _ => rfl, fun h => absurd h (by omega)⟩⟩⟩
theorem nany_nz {X : List Nat} {w : World} {v : Value} (h : VTy.nany.holds X w v) : ∃ x, (VTy.nz x).holds X w v := by
  obtain ⟨x, _, g⟩ := h
  exact ⟨x, x, rfl, g⟩
theorem qany_qz {X : List Nat} {w : World} {v : Value} (h : VTy.qany.holds X w v) : ∃ x, (VTy.qz x).holds X w v := by
  obtain ⟨x, _, g⟩ := h
  exact ⟨x, x, rfl, g⟩
theorem wrap_small {z : Int} (h : -9223372036854775808 ≤ z ∧ z ≤ 9223372036854775807) : IntKind.i64.wrap z = z := by rw [IntKind.wrap_i64]; omega
section
variable {w00 : World} {N : Nat} {L : List Loc} {E : List (Nat × VTy)} {d : Nat} {t0 : TypeId} {pos : String} {af : Array Edge} {gd : Option (Nat × Bool)} {ats : Array TypeId}
theorem st_sub' {o0 o1 : Operand} {x y z : Int} {k : IntKind} {ty t1 : TypeId} [h0 : OpC E o0 (.is (.int k x))] [h1 : OpC E o1 (.is (.int k y))] (hz : k.wrap (x - y) = z) : StepT Tryz.prog w00 N L E ⟨some d, .binOp .sub ty o0 o1 t1, t0, pos, af, gd⟩ (.is (.int k z)) := by
  constructor
  intro X ρ w hc _ hN hm hsl
  have e0 : ρ o0 = .int k x := h0.get (X := X) (w := w) hc fun p hp e => hsl p hp (by simp [Op.operands, e])
  have e1 : ρ o1 = .int k y := h1.get (X := X) (w := w) hc fun p hp e => hsl p hp (by simp [Op.operands, e])
  clear hc hsl h0 h1
  unfold Yields
  go_simp
  exact ⟨rfl, Below.refl _ _⟩
theorem eL_two : Enters Tryz.prog 3 := fun _ _ => by kernel_rfl
theorem eL_makes : Enters Tryz.prog 4 := fun _ _ => by kernel_rfl
theorem eL_rows : Enters Tryz.prog 5 := fun _ _ => by kernel_rfl
theorem eL_field : Enters Tryz.prog 6 := fun _ _ => by kernel_rfl
theorem sL_two {o0 o1 : Operand} {T0 T1 : VTy} [OpC E o0 T0] [a0 : AnyQ T0] [OpC E o1 T1] [a1 : AnyQ T1] (hE : Tab w00) : StepT Tryz.prog w00 N L E ⟨some d, .call { callee := .value (.func 3), args := #[o0, o1], argTypes := ats }, t0, pos, af, gd⟩ (.is (.bool true)) :=
  sc2 eL_two fun X w v0 v1 hX _ hB h0 h1 => by
    obtain ⟨x, hx⟩ := qany_qz (a0.ok h0)
    obtain ⟨y, hy⟩ := qany_qz (a1.ok h1)
    exact cL_two (hE.below hB) hX hx hy
theorem sL_rows {o0 o1 : Operand} {T0 T1 : VTy} [OpC E o0 T0] [a0 : AnyQ T0] [OpC E o1 T1] [a1 : AnyW T1] (hE : Tab w00) : StepT Tryz.prog w00 N L E ⟨some d, .call { callee := .value (.func 5), args := #[o0, o1], argTypes := ats }, t0, pos, af, gd⟩ (.is (.bool true)) :=
  sc2 eL_rows fun X w v0 v1 hX _ hB h0 h1 => by
    obtain ⟨x, hx⟩ := qany_qz (a0.ok h0)
    obtain ⟨n, l, _, hl⟩ := a1.ok h1
    exact cL_rows (hE.below hB) hX hx hl
theorem sL_field {o0 o1 o2 : Operand} {T0 T1 T2 : VTy} [OpC E o0 T0] [a0 : AnyQ T0] [OpC E o1 T1] [a1 : AnyQ T1] [OpC E o2 T2] [a2 : AnyQ T2] (hE : Tab w00) : StepT Tryz.prog w00 N L E ⟨some d, .call { callee := .value (.func 6), args := #[o0, o1, o2], argTypes := ats }, t0, pos, af, gd⟩ (.is (.bool true)) :=
  sc3 eL_field fun X w v0 v1 v2 hX _ hB h0 h1 h2 => by
    obtain ⟨x, hx⟩ := qany_qz (a0.ok h0)
    obtain ⟨y, hy⟩ := qany_qz (a1.ok h1)
    obtain ⟨z, hz⟩ := qany_qz (a2.ok h2)
    exact cL_field (hE.below hB) hX hx hy hz
theorem sL_makes {o0 o1 o2 o3 : Operand} {T0 T1 : VTy} {k m : Int} [h0 : OpC E o0 T0] [a0 : AnyN T0] [h1 : OpC E o1 T1] [a1 : AnyN T1] [h2 : OpC E o2 (.is (.int .i64 k))] [h3 : OpC E o3 (.is (.int .i64 m))] (hE : Tab w00) (hk : -9223372036854775808 ≤ k ∧ k ≤ 9223372036854775807) (hm : -9223372036854775808 ≤ m ∧ m ≤ 9223372036854775807) : StepT Tryz.prog w00 N L E ⟨some d, .call { callee := .value (.func 4), args := #[o0, o1, o2, o3], argTypes := ats }, t0, pos, af, gd⟩ (.is (.bool true)) := by
  constructor
  intro X ρ w hc hf hN hmm hsl
  have e0 : VTy.nany.holds X w (ρ o0) := a0.ok (h0.get hc fun p hp e => hsl p hp (by simp [Op.operands, Call.operands, e]))
  have e1 : VTy.nany.holds X w (ρ o1) := a1.ok (h1.get hc fun p hp e => hsl p hp (by simp [Op.operands, Call.operands, e]))
  have e2 : (VTy.is (.int .i64 k)).holds X w (ρ o2) := h2.get hc fun p hp e => hsl p hp (by simp [Op.operands, Call.operands, e])
  have e3 : (VTy.is (.int .i64 m)).holds X w (ρ o3) := h3.get hc fun p hp e => hsl p hp (by simp [Op.operands, Call.operands, e])
  obtain ⟨x, hx⟩ := nany_nz e0
  obtain ⟨y, hy⟩ := nany_nz e1
  have hr : (execOp ρ ⟨some d, .call { callee := .value (.func 4), args := #[o0, o1, o2, o3], argTypes := ats }, t0, pos, af, gd⟩).run Tryz.prog w = .ok (.enter 4 #[ρ o0, ρ o1, ρ o2, ρ o3]) w := by
    have hff := hf 4
    clear hsl hmm hN hc e0 e1 e2 e3 hx hy
    go_simp
    try exact eL_makes _ _
  unfold Yields
  rw [hr]
  refine (cL_makes (hE.below hmm.below) hmm.far hx hy e2 e3 hk hm).mono ?_
  rintro e w' ⟨v, rfl, hT, hB⟩
  exact ⟨v, rfl, hT, hB⟩
/-- Written-out rows of limbs. -/
theorem st_limbs1 {c : Int} (hc0 : 0 ≤ c ∧ c < 4294967296) : StepT Tryz.prog w00 N L E ⟨some d, .buildSlice 22 1 #[(0, .const (.int .u32 c))], t0, pos, af, gd⟩ .lany := by
  constructor
  intro X ρ w hc _ hN hm hsl
  have hT : VTy.lany.holds X (w.alloc (.cells #[.int .u32 c] 69)) (.slice (some ⟨w.heap.size, 0, none⟩) 1 1) := ⟨[c], some ⟨w.heap.size, 0, none⟩, 1, 1, rfl, ⟨by rw [size_one]; exact lit1 w w.heap.size rfl c 69, fun _ b hb => by
    injection hb with hb
    subst hb
    exact ⟨by rw [size_one]; exact Nat.lt_succ_self _, fun hx => Nat.lt_irrefl _ (hm.far _ hx)⟩⟩, dg1 hc0⟩
  have HT := Lib.hid hT
  have e := hc (.int .u32 c)
  clear hT hsl hm hc
  unfold Yields
  go_simp
  exact ⟨HT.out, (Below.refl _ _).alloc (Nat.le_refl _) _⟩
theorem st_limbs2 {c c' : Int} (hc0 : 0 ≤ c ∧ c < 4294967296) (hc1 : 0 ≤ c' ∧ c' < 4294967296) : StepT Tryz.prog w00 N L E ⟨some d, .buildSlice 22 2 #[(0, .const (.int .u32 c)), (1, .const (.int .u32 c'))], t0, pos, af, gd⟩ .lany := by
  constructor
  intro X ρ w hc _ hN hm hsl
  have hT : VTy.lany.holds X (w.alloc (.cells #[.int .u32 c, .int .u32 c'] 69)) (.slice (some ⟨w.heap.size, 0, none⟩) 2 2) := ⟨[c, c'], some ⟨w.heap.size, 0, none⟩, 2, 2, rfl, ⟨by rw [size_one]; exact lit2 w w.heap.size rfl c c' 69, fun _ b hb => by
    injection hb with hb
    subst hb
    exact ⟨by rw [size_one]; exact Nat.lt_succ_self _, fun hx => Nat.lt_irrefl _ (hm.far _ hx)⟩⟩, dg2 hc0 hc1⟩
  have HT := Lib.hid hT
  have e := hc (.int .u32 c)
  have e' := hc (.int .u32 c')
  clear hT hsl hm hc
  unfold Yields
  go_simp
  exact ⟨HT.out, (Below.refl _ _).alloc (Nat.le_refl _) _⟩
end
section
variable {w00 : World} {N : Nat} {L : List Loc} {E : List (Nat × VTy)} {d : Nat} {t0 : TypeId} {pos : String} {af : Array Edge} {gd : Option (Nat × Bool)} {ats : Array TypeId}
theorem num0 {X : List Nat} {w : World} (b : Bool) : Rp.num.rd w (Free X w) (b, []) [.bool b, .slice none 0 0] := num_rd.2 ⟨none, 0, 0, rfl, ⟨Sl.nil, fun h => by omega⟩, Dg.nil⟩
set_option maxRecDepth 20000 in
theorem st_bnL {o : Operand} [hl : OpC E o .lany] : StepT Tryz.prog w00 N L E ⟨some d, .build 24 #[(1, o)], t0, pos, af, gd⟩ .nany := by
  constructor
  intro X ρ w hc _ hN hm hsl
  obtain ⟨xs, A, n, c, e, hs, hd⟩ := hl.get (X := X) (w := w) hc fun p hp e => hsl p hp (by simp [Op.operands, e])
  have e1 : ρ o = .slice A n c := by simpa using e
  have hT : VTy.nany.holds X w (.agg #[.bool false, .slice A n c]) := ⟨(false, xs), trivial, _, rfl, num_rd.2 ⟨A, n, c, rfl, hs, hd⟩⟩
  clear hl e hs hd
  have HT := Lib.hid hT
  clear hT hsl hm
  unfold Yields
  go_simp
  exact ⟨HT.out, Below.refl _ _⟩
set_option maxRecDepth 20000 in
theorem st_bnBL {o : Operand} {b : Bool} [hl : OpC E o .lany] : StepT Tryz.prog w00 N L E ⟨some d, .build 24 #[(0, .const (.bool b)), (1, o)], t0, pos, af, gd⟩ .nany := by
  constructor
  intro X ρ w hc _ hN hm hsl
  obtain ⟨xs, A, n, c, e, hs, hd⟩ := hl.get (X := X) (w := w) hc fun p hp e => hsl p hp (by simp [Op.operands, e])
  have e1 : ρ o = .slice A n c := by simpa using e
  have e2 := hc (.bool b)
  have hT : VTy.nany.holds X w (.agg #[.bool b, .slice A n c]) := ⟨(b, xs), trivial, _, rfl, num_rd.2 ⟨A, n, c, rfl, hs, hd⟩⟩
  clear hl e hs hd
  have HT := Lib.hid hT
  clear hT hsl hm
  unfold Yields
  go_simp
  exact ⟨HT.out, Below.refl _ _⟩
set_option maxRecDepth 20000 in
theorem st_bnB {b : Bool} : StepT Tryz.prog w00 N L E ⟨some d, .build 24 #[(0, .const (.bool b))], t0, pos, af, gd⟩ .nany := by
  constructor
  intro X ρ w hc _ hN hm hsl
  have e2 := hc (.bool b)
  have hT : VTy.nany.holds X w (.agg #[.bool b, .slice none 0 0]) := ⟨(b, []), trivial, _, rfl, num0 b⟩
  have HT := Lib.hid hT
  clear hT hsl hm
  unfold Yields
  go_simp
  exact ⟨HT.out, Below.refl _ _⟩
set_option maxRecDepth 20000 in
theorem st_bn0 : StepT Tryz.prog w00 N L E ⟨some d, .build 24 #[], t0, pos, af, gd⟩ .nany := by
  constructor
  intro X ρ w hc _ hN hm hsl
  have hT : VTy.nany.holds X w (.agg #[.bool false, .slice none 0 0]) := ⟨(false, []), trivial, _, rfl, num0 false⟩
  have HT := Lib.hid hT
  clear hT hsl hm
  unfold Yields
  go_simp
  exact ⟨HT.out, Below.refl _ _⟩
set_option maxRecDepth 20000 in
theorem st_bq0 : StepT Tryz.prog w00 N L E ⟨some d, .build 26 #[], t0, pos, af, gd⟩ .qany := by
  constructor
  intro X ρ w hc _ hN hm hsl
  have hT : VTy.qany.holds X w (.agg #[.bool false, .slice none 0 0, .bool false, .slice none 0 0]) := ⟨((false, []), (false, [])), trivial, [.bool false, .slice none 0 0] ++ [.bool false, .slice none 0 0], rfl, _, _, rfl, num0 false, num0 false⟩
  have HT := Lib.hid hT
  clear hT hsl hm
  unfold Yields
  go_simp
  exact ⟨HT.out, Below.refl _ _⟩
set_option maxRecDepth 20000 in
theorem st_bqN {o0 : Operand} [h0 : OpC E o0 .nany] : StepT Tryz.prog w00 N L E ⟨some d, .build 26 #[(0, o0)], t0, pos, af, gd⟩ .qany := by
  constructor
  intro X ρ w hc _ hN hm hsl
  obtain ⟨x0, _, cs0, e0, g0⟩ := h0.get (X := X) (w := w) hc fun p hp e => hsl p hp (by simp [Op.operands, e])
  obtain ⟨A0, n0, c0, rfl, _⟩ := num_rd.1 g0
  have e0' : ρ o0 = .agg #[.bool x0.1, .slice A0 n0 c0] := e0
  have hT : VTy.qany.holds X w (.agg #[.bool x0.1, .slice A0 n0 c0, .bool false, .slice none 0 0]) := ⟨(x0, (false, [])), trivial, [.bool x0.1, .slice A0 n0 c0] ++ [.bool false, .slice none 0 0], rfl, _, _, rfl, g0, num0 false⟩
  clear e0 g0 h0
  have HT := Lib.hid hT
  clear hT hsl hm
  unfold Yields
  go_simp
  exact ⟨HT.out, Below.refl _ _⟩
set_option maxRecDepth 20000 in
theorem st_bqD {o1 : Operand} [h1 : OpC E o1 .nany] : StepT Tryz.prog w00 N L E ⟨some d, .build 26 #[(1, o1)], t0, pos, af, gd⟩ .qany := by
  constructor
  intro X ρ w hc _ hN hm hsl
  obtain ⟨x1, _, cs1, e1, g1⟩ := h1.get (X := X) (w := w) hc fun p hp e => hsl p hp (by simp [Op.operands, e])
  obtain ⟨A1, n1, c1, rfl, _⟩ := num_rd.1 g1
  have e1' : ρ o1 = .agg #[.bool x1.1, .slice A1 n1 c1] := e1
  have hT : VTy.qany.holds X w (.agg #[.bool false, .slice none 0 0, .bool x1.1, .slice A1 n1 c1]) := ⟨((false, []), x1), trivial, [.bool false, .slice none 0 0] ++ [.bool x1.1, .slice A1 n1 c1], rfl, _, _, rfl, num0 false, g1⟩
  clear e1 g1 h1
  have HT := Lib.hid hT
  clear hT hsl hm
  unfold Yields
  go_simp
  exact ⟨HT.out, Below.refl _ _⟩
set_option maxRecDepth 20000 in
theorem st_bqND {o0 : Operand} {o1 : Operand} [h0 : OpC E o0 .nany] [h1 : OpC E o1 .nany] : StepT Tryz.prog w00 N L E ⟨some d, .build 26 #[(0, o0), (1, o1)], t0, pos, af, gd⟩ .qany := by
  constructor
  intro X ρ w hc _ hN hm hsl
  obtain ⟨x0, _, cs0, e0, g0⟩ := h0.get (X := X) (w := w) hc fun p hp e => hsl p hp (by simp [Op.operands, e])
  obtain ⟨A0, n0, c0, rfl, _⟩ := num_rd.1 g0
  have e0' : ρ o0 = .agg #[.bool x0.1, .slice A0 n0 c0] := e0
  obtain ⟨x1, _, cs1, e1, g1⟩ := h1.get (X := X) (w := w) hc fun p hp e => hsl p hp (by simp [Op.operands, e])
  obtain ⟨A1, n1, c1, rfl, _⟩ := num_rd.1 g1
  have e1' : ρ o1 = .agg #[.bool x1.1, .slice A1 n1 c1] := e1
  have hT : VTy.qany.holds X w (.agg #[.bool x0.1, .slice A0 n0 c0, .bool x1.1, .slice A1 n1 c1]) := ⟨(x0, x1), trivial, [.bool x0.1, .slice A0 n0 c0] ++ [.bool x1.1, .slice A1 n1 c1], rfl, _, _, rfl, g0, g1⟩
  clear e0 g0 h0 e1 g1 h1
  have HT := Lib.hid hT
  clear hT hsl hm
  unfold Yields
  go_simp
  exact ⟨HT.out, Below.refl _ _⟩
theorem few_big (xs : List (RawQ × List Value)) : ∃ L, ∀ p ∈ xs, fewQ L p.1 := by
  induction xs with
  | nil => exact ⟨1, fun _ h => by cases h⟩
  | cons y xs ih =>
    obtain ⟨L, h⟩ := ih
    refine ⟨L + y.1.1.2.length + y.1.2.2.length + 1, fun p hp => ?_⟩
    rcases List.mem_cons.1 hp with rfl | hp
    · exact ⟨by omega, by omega, by omega⟩
    · obtain ⟨h1, h2, h3⟩ := h p hp
      exact ⟨by omega, by omega, by omega⟩
theorem rany_new {X : List Nat} {w : World} {T : TypeId} (hX : ∀ b ∈ X, b < w.heap.size) (xs : List (RawQ × List Value)) (h : ∀ p ∈ xs, Rp.frac.rd w (Free X w) p.1 p.2) (hl : xs.length ≤ 100) :
    (VTy.rany xs.length).holds X (w.alloc (.cells (xs.flatMap Prod.snd).toArray T)) (.slice (some ⟨w.heap.size, 0, none⟩) xs.length xs.length) := by
  obtain ⟨K, hK⟩ := few_big xs
  exact ⟨xs.map Prod.fst, by simp, few_all (p := fewQ K) (rv_new (T := T) hX xs (fun p hp => ⟨hK p hp, h p hp⟩) hl) fun _ _ => trivial⟩
theorem qany_cells {X : List Nat} {w : World} {v : Value} (h : VTy.qany.holds X w v) : ∃ x A n c A2 n2 c2, v = .agg #[.bool x.1.1, .slice A n c, .bool x.2.1, .slice A2 n2 c2] ∧ Rp.frac.rd w (Free X w) x [.bool x.1.1, .slice A n c, .bool x.2.1, .slice A2 n2 c2] := by
  obtain ⟨x, _, cs, rfl, c1, c2, rfl, g1, g2⟩ := h
  obtain ⟨A, n, c, rfl, _⟩ := num_rd.1 g1
  obtain ⟨A2, n2, c2, rfl, _⟩ := num_rd.1 g2
  exact ⟨x, A, n, c, A2, n2, c2, rfl, _, _, rfl, g1, g2⟩
set_option maxRecDepth 40000 in
set_option maxHeartbeats 4000000 in
theorem st_row2 {o0 o1 : Operand} {T0 T1 : VTy} [h0 : OpC E o0 T0] [a0 : AnyQ T0] [h1 : OpC E o1 T1] [a1 : AnyQ T1] : StepT Tryz.prog w00 N L E ⟨some d, .buildSlice 60 2 #[(0, o0), (1, o1)], t0, pos, af, gd⟩ (.rany 2) := by
  constructor
  intro X ρ w hc _ hN hm hsl
  obtain ⟨x0, A0, n0, c0, B0, m0, k0, e0, g0⟩ := qany_cells (a0.ok (h0.get (X := X) (w := w) hc fun p hp e => hsl p hp (by simp [Op.operands, e])))
  obtain ⟨x1, A1, n1, c1, B1, m1, k1, e1, g1⟩ := qany_cells (a1.ok (h1.get (X := X) (w := w) hc fun p hp e => hsl p hp (by simp [Op.operands, e])))
  have hR := rany_new (X := X) (w := w) (T := 26) hm.far [(x0, [.bool x0.1.1, .slice A0 n0 c0, .bool x0.2.1, .slice B0 m0 k0]), (x1, [.bool x1.1.1, .slice A1 n1 c1, .bool x1.2.1, .slice B1 m1 k1])] (by
    intro p hp
    simp only [List.mem_cons, List.not_mem_nil, or_false] at hp
    rcases hp with rfl | rfl
    · exact g0
    · exact g1) (by simp)
  have HR := Lib.hid hR
  clear hR hsl hm hc g0 h0 a0 g1 h1 a1
  unfold Yields
  go_simp
  exact ⟨HR.out, (Below.refl _ _).alloc (Nat.le_refl _) _⟩
set_option maxRecDepth 40000 in
set_option maxHeartbeats 4000000 in
theorem st_row3 {o0 o1 o2 : Operand} {T0 T1 T2 : VTy} [h0 : OpC E o0 T0] [a0 : AnyQ T0] [h1 : OpC E o1 T1] [a1 : AnyQ T1] [h2 : OpC E o2 T2] [a2 : AnyQ T2] : StepT Tryz.prog w00 N L E ⟨some d, .buildSlice 60 3 #[(0, o0), (1, o1), (2, o2)], t0, pos, af, gd⟩ (.rany 3) := by
  constructor
  intro X ρ w hc _ hN hm hsl
  obtain ⟨x0, A0, n0, c0, B0, m0, k0, e0, g0⟩ := qany_cells (a0.ok (h0.get (X := X) (w := w) hc fun p hp e => hsl p hp (by simp [Op.operands, e])))
  obtain ⟨x1, A1, n1, c1, B1, m1, k1, e1, g1⟩ := qany_cells (a1.ok (h1.get (X := X) (w := w) hc fun p hp e => hsl p hp (by simp [Op.operands, e])))
  obtain ⟨x2, A2, n2, c2, B2, m2, k2, e2, g2⟩ := qany_cells (a2.ok (h2.get (X := X) (w := w) hc fun p hp e => hsl p hp (by simp [Op.operands, e])))
  have hR := rany_new (X := X) (w := w) (T := 26) hm.far [(x0, [.bool x0.1.1, .slice A0 n0 c0, .bool x0.2.1, .slice B0 m0 k0]), (x1, [.bool x1.1.1, .slice A1 n1 c1, .bool x1.2.1, .slice B1 m1 k1]), (x2, [.bool x2.1.1, .slice A2 n2 c2, .bool x2.2.1, .slice B2 m2 k2])] (by
    intro p hp
    simp only [List.mem_cons, List.not_mem_nil, or_false] at hp
    rcases hp with rfl | rfl | rfl
    · exact g0
    · exact g1
    · exact g2) (by simp)
  have HR := Lib.hid hR
  clear hR hsl hm hc g0 h0 a0 g1 h1 a1 g2 h2 a2
  unfold Yields
  go_simp
  exact ⟨HR.out, (Below.refl _ _).alloc (Nat.le_refl _) _⟩
set_option maxRecDepth 40000 in
set_option maxHeartbeats 4000000 in
theorem st_row10 {o0 o1 o2 o3 o4 o5 o6 o7 o8 o9 : Operand} {T0 T1 T2 T3 T4 T5 T6 T7 T8 T9 : VTy} [h0 : OpC E o0 T0] [a0 : AnyQ T0] [h1 : OpC E o1 T1] [a1 : AnyQ T1] [h2 : OpC E o2 T2] [a2 : AnyQ T2] [h3 : OpC E o3 T3] [a3 : AnyQ T3] [h4 : OpC E o4 T4] [a4 : AnyQ T4] [h5 : OpC E o5 T5] [a5 : AnyQ T5] [h6 : OpC E o6 T6] [a6 : AnyQ T6] [h7 : OpC E o7 T7] [a7 : AnyQ T7] [h8 : OpC E o8 T8] [a8 : AnyQ T8] [h9 : OpC E o9 T9] [a9 : AnyQ T9] : StepT Tryz.prog w00 N L E ⟨some d, .buildSlice 60 10 #[(0, o0), (1, o1), (2, o2), (3, o3), (4, o4), (5, o5), (6, o6), (7, o7), (8, o8), (9, o9)], t0, pos, af, gd⟩ (.rany 10) := by
  constructor
  intro X ρ w hc _ hN hm hsl
  obtain ⟨x0, A0, n0, c0, B0, m0, k0, e0, g0⟩ := qany_cells (a0.ok (h0.get (X := X) (w := w) hc fun p hp e => hsl p hp (by simp [Op.operands, e])))
  obtain ⟨x1, A1, n1, c1, B1, m1, k1, e1, g1⟩ := qany_cells (a1.ok (h1.get (X := X) (w := w) hc fun p hp e => hsl p hp (by simp [Op.operands, e])))
  obtain ⟨x2, A2, n2, c2, B2, m2, k2, e2, g2⟩ := qany_cells (a2.ok (h2.get (X := X) (w := w) hc fun p hp e => hsl p hp (by simp [Op.operands, e])))
  obtain ⟨x3, A3, n3, c3, B3, m3, k3, e3, g3⟩ := qany_cells (a3.ok (h3.get (X := X) (w := w) hc fun p hp e => hsl p hp (by simp [Op.operands, e])))
  obtain ⟨x4, A4, n4, c4, B4, m4, k4, e4, g4⟩ := qany_cells (a4.ok (h4.get (X := X) (w := w) hc fun p hp e => hsl p hp (by simp [Op.operands, e])))
  obtain ⟨x5, A5, n5, c5, B5, m5, k5, e5, g5⟩ := qany_cells (a5.ok (h5.get (X := X) (w := w) hc fun p hp e => hsl p hp (by simp [Op.operands, e])))
  obtain ⟨x6, A6, n6, c6, B6, m6, k6, e6, g6⟩ := qany_cells (a6.ok (h6.get (X := X) (w := w) hc fun p hp e => hsl p hp (by simp [Op.operands, e])))
  obtain ⟨x7, A7, n7, c7, B7, m7, k7, e7, g7⟩ := qany_cells (a7.ok (h7.get (X := X) (w := w) hc fun p hp e => hsl p hp (by simp [Op.operands, e])))
  obtain ⟨x8, A8, n8, c8, B8, m8, k8, e8, g8⟩ := qany_cells (a8.ok (h8.get (X := X) (w := w) hc fun p hp e => hsl p hp (by simp [Op.operands, e])))
  obtain ⟨x9, A9, n9, c9, B9, m9, k9, e9, g9⟩ := qany_cells (a9.ok (h9.get (X := X) (w := w) hc fun p hp e => hsl p hp (by simp [Op.operands, e])))
  have hR := rany_new (X := X) (w := w) (T := 26) hm.far [(x0, [.bool x0.1.1, .slice A0 n0 c0, .bool x0.2.1, .slice B0 m0 k0]), (x1, [.bool x1.1.1, .slice A1 n1 c1, .bool x1.2.1, .slice B1 m1 k1]), (x2, [.bool x2.1.1, .slice A2 n2 c2, .bool x2.2.1, .slice B2 m2 k2]), (x3, [.bool x3.1.1, .slice A3 n3 c3, .bool x3.2.1, .slice B3 m3 k3]), (x4, [.bool x4.1.1, .slice A4 n4 c4, .bool x4.2.1, .slice B4 m4 k4]), (x5, [.bool x5.1.1, .slice A5 n5 c5, .bool x5.2.1, .slice B5 m5 k5]), (x6, [.bool x6.1.1, .slice A6 n6 c6, .bool x6.2.1, .slice B6 m6 k6]), (x7, [.bool x7.1.1, .slice A7 n7 c7, .bool x7.2.1, .slice B7 m7 k7]), (x8, [.bool x8.1.1, .slice A8 n8 c8, .bool x8.2.1, .slice B8 m8 k8]), (x9, [.bool x9.1.1, .slice A9 n9 c9, .bool x9.2.1, .slice B9 m9 k9])] (by
    intro p hp
    simp only [List.mem_cons, List.not_mem_nil, or_false] at hp
    rcases hp with rfl | rfl | rfl | rfl | rfl | rfl | rfl | rfl | rfl | rfl
    · exact g0
    · exact g1
    · exact g2
    · exact g3
    · exact g4
    · exact g5
    · exact g6
    · exact g7
    · exact g8
    · exact g9) (by simp)
  have HR := Lib.hid hR
  clear hR hsl hm hc g0 h0 a0 g1 h1 a1 g2 h2 a2 g3 h3 a3 g4 h4 a4 g5 h5 a5 g6 h6 a6 g7 h7 a7 g8 h8 a8 g9 h9 a9
  unfold Yields
  go_simp
  exact ⟨HR.out, (Below.refl _ _).alloc (Nat.le_refl _) _⟩
end
theorem yields_mono {P : Program} {o : Oper} {ρ : Operand → Value} {w : World} {Q Q' : Value → World → Prop} (h : Yields P o ρ w Q) (hq : ∀ v w', Q v w' → Q' v w') : Yields P o ρ w Q' := by
  unfold Yields at h ⊢
  split at h
  · exact hq _ _ h
  · exact Calls.mono h fun e w' ⟨v, e1, h1⟩ => ⟨v, e1, hq _ _ h1⟩
  · exact h.elim
/-- Where some fraction, some number, lies. -/
def VTy.pany : VTy := ⟨fun X w v => ∃ x, (VTy.pe Rp.frac (fun _ => True) x).holds X w v, fun ⟨x, h⟩ hk hX => ⟨x, (VTy.pe Rp.frac (fun _ => True) x).stable h hk hX⟩⟩
def VTy.pnum : VTy := ⟨fun X w v => ∃ x, (VTy.pe Rp.num (fun _ => True) x).holds X w v, fun ⟨x, h⟩ hk hX => ⟨x, (VTy.pe Rp.num (fun _ => True) x).stable h hk hX⟩⟩
section
variable {w00 : World} {N : Nat} {L : List Loc} {E : List (Nat × VTy)} {d : Nat} {t0 : TypeId} {pos : String} {af : Array Edge} {gd : Option (Nat × Bool)} {ats : Array TypeId}
theorem st_lenR {s n k : Nat} {ty : TypeId} [ho : Look E s (.rany n)] [ht : SliceC Tryz.prog ty k] : StepT Tryz.prog w00 N L E ⟨some d, .call { callee := .builtin .len, args := #[.tmp s], argTypes := #[ty] }, t0, pos, af, gd⟩ (.is (.int .i64 (n : Int))) := by
  constructor
  intro X ρ w hc hf hN hm hsl
  obtain ⟨l, rfl, hl⟩ := hsl _ ho.mem (by simp [Op.operands, Call.operands])
  have st := (st_len' (P := Tryz.prog) (w00 := w00) (N := N) (L := L) (E := [(s, .rw Rp.frac (fun _ => True) l)]) (d := d) (t0 := t0) (pos := pos) (af := af) (gd := gd) (s := s) (ty := ty) (k := k)).run X ρ w hc hf hN hm (fun q hq _ => by rw [List.mem_singleton.1 hq]; exact hl)
  exact st
theorem st_indexR {o oi : Operand} {ty : TypeId} {j n : Nat} [ho : OpC E o (.rany n)] [hi : OpC E oi (.is (.int .i64 (j : Int)))] [ht : SliceC Tryz.prog ty 4] (hj : j < n) : StepT Tryz.prog w00 N L E ⟨some d, .indexAddr ty o oi, t0, pos, af, gd⟩ .pany := by
  constructor
  intro X ρ w hc hf hN hm hsl
  obtain ⟨l, rfl, h1⟩ := ho.get (X := X) (w := w) hc fun p hp e => hsl p hp (by simp [Op.operands, e])
  have h2 := hi.get (X := X) (w := w) hc fun p hp e => hsl p hp (by simp [Op.operands, e])
  obtain ⟨x, hx⟩ : ∃ x, l[j]? = some x := ⟨_, List.getElem?_eq_getElem hj⟩
  haveI : SliceC Tryz.prog ty Rp.frac.k := ht
  have st := (st_indexAddr' (P := Tryz.prog) (r := Rp.frac) (p := fun _ => True) (w00 := w00) (N := N) (L := L) (E := [(0, .rw Rp.frac (fun _ => True) l), (1, .is (.int .i64 (j : Int)))]) (d := d) (t0 := t0) (pos := pos) (af := af) (gd := gd) (o := .tmp 0) (oi := .tmp 1) (ty := ty) (j := j) hx).run X (fun x => match x with | .tmp 0 => ρ o | .tmp 1 => ρ oi | y => ρ y) w (fun c => hc c) (fun f => hf f) hN hm (fun q hq _ => by
    rcases List.mem_cons.1 hq with rfl | hq
    · exact h1
    · rw [List.mem_singleton.1 hq]; exact h2)
  exact yields_mono st fun v w' h => ⟨⟨x, h.1⟩, h.2⟩
theorem st_loadQ {s : Nat} [ho : Look E s .pany] : StepT Tryz.prog w00 N L E ⟨some d, .load 26 (.tmp s), t0, pos, af, gd⟩ .qany := by
  constructor
  intro X ρ w hc hf hN hm hsl
  obtain ⟨x, hx⟩ := hsl _ ho.mem (by simp [Op.operands])
  haveI : TyC Tryz.prog 26 Rp.frac.k true := inferInstanceAs (TyC Tryz.prog 26 4 true)
  have st := (st_loadE' (P := Tryz.prog) (r := Rp.frac) (p := fun _ => True) (a := x) (w00 := w00) (N := N) (L := L) (E := [(s, .pe Rp.frac (fun _ => True) x)]) (d := d) (t0 := t0) (pos := pos) (af := af) (gd := gd) (ty := 26) (s := s)).run X ρ w hc hf hN hm (fun q hq _ => by rw [List.mem_singleton.1 hq]; exact hx)
  exact yields_mono st fun v w' h => ⟨ex_qany h.1, h.2⟩
theorem st_loadN {s : Nat} [ho : Look E s .pnum] : StepT Tryz.prog w00 N L E ⟨some d, .load 24 (.tmp s), t0, pos, af, gd⟩ .nany := by
  constructor
  intro X ρ w hc hf hN hm hsl
  obtain ⟨x, hx⟩ := hsl _ ho.mem (by simp [Op.operands])
  haveI : TyC Tryz.prog 24 Rp.num.k true := inferInstanceAs (TyC Tryz.prog 24 2 true)
  have st := (st_loadE' (P := Tryz.prog) (r := Rp.num) (p := fun _ => True) (a := x) (w00 := w00) (N := N) (L := L) (E := [(s, .pe Rp.num (fun _ => True) x)]) (d := d) (t0 := t0) (pos := pos) (af := af) (gd := gd) (ty := 24) (s := s)).run X ρ w hc hf hN hm (fun q hq _ => by rw [List.mem_singleton.1 hq]; exact hx)
  exact yields_mono st fun v w' h => ⟨ex_nany h.1, h.2⟩
set_option maxRecDepth 20000 in
theorem st_fieldP0 {s : Nat} [ho : Look E s .pany] : StepT Tryz.prog w00 N L E ⟨some d, .fieldAddr 26 (.tmp s) 0, t0, pos, af, gd⟩ .pnum := by
  constructor
  intro X ρ w hc hf hN hm hsl
  obtain ⟨x, _, b, o, cs, e, hb, h1, h2⟩ := hsl _ ho.mem (by simp [Op.operands])
  haveI : AddC o 0 (o + 0) := ⟨rfl⟩
  have st := (st_fieldAddr' (P := Tryz.prog) (w00 := w00) (N := N) (L := L) (E := [(s, .is (.pointer (some ⟨b, o, none⟩)))]) (d := d) (t0 := t0) (pos := pos) (af := af) (gd := gd) (ty := 26) (s := s) (i := 0)).run X ρ w hc hf hN hm (fun q hq _ => by rw [List.mem_singleton.1 hq]; exact e)
  refine yields_mono st fun v w' h => ⟨?_, h.2⟩
  obtain ⟨c1, c2, rfl, g1, g2⟩ := frac_rd.1 h2
  have hl1 : c1.length = 2 := Rp.num.len g1
  have hk := Below.keeps h.2 X
  refine ⟨x.1, trivial, b, o + 0, c1, h.1, Free.mono hk (fun _ h _ => h) b hb, ?_, Rp.num.up g1 hk fun _ h _ => h⟩
  refine rangeAt_keep (fun j u hj => ?_) (hk.block b hb.1 hb.2)
  have hjl := (List.getElem?_eq_some_iff.1 hj).1
  have := h1 j u (by rw [List.getElem?_append_left hjl]; exact hj)
  simpa using this
set_option maxRecDepth 20000 in
theorem st_fieldP1 {s : Nat} [ho : Look E s .pany] : StepT Tryz.prog w00 N L E ⟨some d, .fieldAddr 26 (.tmp s) 1, t0, pos, af, gd⟩ .pnum := by
  constructor
  intro X ρ w hc hf hN hm hsl
  obtain ⟨x, _, b, o, cs, e, hb, h1, h2⟩ := hsl _ ho.mem (by simp [Op.operands])
  haveI : AddC o 2 (o + 2) := ⟨rfl⟩
  have st := (st_fieldAddr' (P := Tryz.prog) (w00 := w00) (N := N) (L := L) (E := [(s, .is (.pointer (some ⟨b, o, none⟩)))]) (d := d) (t0 := t0) (pos := pos) (af := af) (gd := gd) (ty := 26) (s := s) (i := 1)).run X ρ w hc hf hN hm (fun q hq _ => by rw [List.mem_singleton.1 hq]; exact e)
  refine yields_mono st fun v w' h => ⟨?_, h.2⟩
  obtain ⟨c1, c2, rfl, g1, g2⟩ := frac_rd.1 h2
  have hl1 : c1.length = 2 := Rp.num.len g1
  have hk := Below.keeps h.2 X
  refine ⟨x.2, trivial, b, o + 2, c2, h.1, Free.mono hk (fun _ h _ => h) b hb, ?_, Rp.num.up g2 hk fun _ h _ => h⟩
  refine rangeAt_keep (fun j u hj => ?_) (hk.block b hb.1 hb.2)
  have hjl := (List.getElem?_eq_some_iff.1 hj).1
  have := h1 (2 + j) u (by rw [List.getElem?_append_right (by omega), hl1, Nat.add_sub_cancel_left]; exact hj)
  rw [Nat.add_assoc]
  exact this
end
set_option synthInstance.maxSize 4000 in
set_option synthInstance.maxHeartbeats 400000 in
set_option maxRecDepth 20000 in
set_option maxHeartbeats 8000000 in
theorem cL_known {X : List Nat} {w : World} (hE : Tab w) (hX : ∀ b ∈ X, b < w.heap.size) : Calls Tryz.prog 7 #[] w (Gives X w (.is (.bool true))) := by
  refine ts_enter (Ts := []) (vs := []) Tryz.func7 rfl Tryz.ntmps7 (by simp) hX trivial fun a h => ?_
  clear hX
  simp only [argE] at h
  refine g_of h ?_
  clear h
  repeat' first|kernel_rfl|apply g_seq|apply g_reg|apply g_nil|apply o_all|apply o_go|exact OpsT.nil|exact GuardC.nil|exact UndefC.nil|refine @GuardC.cons _ _ _ _ inferInstance ?_|refine @UndefC.cons _ _ _ inferInstance ?_|apply g_box|apply g_all|apply g_sto|apply g_asg|refine g_run rfl inferInstance (by first|exact sb_of (by omega)|exact sL_makes hE (by omega) (by omega)|exact sL_by hE (by omega) (by omega) (by decide)|exact sL_two hE|exact sL_rows hE|exact sL_field hE|exact sL_works hE|exact st_row2|exact st_row3|exact st_row10|exact st_add' (wrap_small (by omega))|exact st_sub' (wrap_small (by omega))|exact st_limbs1 (by decide)|exact st_limbs2 (by decide) (by decide)|exact st_bnL|exact st_bnBL|exact st_bnB|exact st_bn0|exact st_bq0|exact st_bqN|exact st_bqD|exact st_bqND|exact st_move'|exact st_not' (b := true) (u := false) rfl|exact st_not' (b := false) (u := true) rfl|exact st_not' rfl) (by kernel_rfl) ?_|refine g_sk rfl inferInstance rfl (by kernel_rfl) ?_|refine g_un rfl inferInstance (by kernel_rfl) ?_|apply g_st|apply g_skip|apply g_ct|apply g_cf|apply g_ret|refine r_1 rfl ?_|apply g_cl|exact sb_of (by omega)|exact sL_makes hE (by omega) (by omega)|exact sL_by hE (by omega) (by omega) (by decide)|exact sL_two hE|exact sL_rows hE|exact sL_field hE|exact sL_works hE|exact st_row2|exact st_row3|exact st_row10|exact st_add' (wrap_small (by omega))|exact st_sub' (wrap_small (by omega))|exact st_limbs1 (by decide)|exact st_limbs2 (by decide) (by decide)|exact st_bnL|exact st_bnBL|exact st_bnB|exact st_bn0|exact st_bq0|exact st_bqN|exact st_bqD|exact st_bqND|exact st_lenR|exact st_indexR (by omega)|exact st_loadQ|exact st_loadN|exact st_fieldP0|exact st_fieldP1|exact st_move'|exact st_assign'|exact st_load'|exact st_fieldAddr'|exact st_and_t'|exact st_and_f'|exact st_or_f'|exact st_or_t'|exact st_not' (b := true) (u := false) rfl|exact st_not' (b := false) (u := true) rfl|exact st_not' rfl|exact st_lss' (by first|assumption|rfl)|exact st_len'|exact st_indexAddr' (by assumption)|exact st_loadE'|exact Cv.rfl'|(intro _;simp only[newX,newL,ptrs,List.map,List.cons_append,List.nil_append])|intro _
  refine g_stop fun a w h => ?_
  replace h := h.keep [1]
  refine cw_block ?_
  refine cw_loop (fun k a w => ∃ n : Int, -4 ≤ n ∧ n + (k : Int) = 5 ∧ TS _ _ [] [(1, .is (.int .i64 n))] 177 a w) 9 ⟨-4, by decide, by decide, h⟩ ?_
  clear h
  rintro k a w ⟨n, hn0, hn, h⟩
  have hkn : 0 ≤ (k : Int) := by omega
  by_cases hlt : n < 5
  · have hc1 : decide (n < 5) = true := decide_eq_true hlt
    refine g_of h ?_
    clear h
    repeat' first|kernel_rfl|apply g_seq|apply g_reg|apply g_nil|apply o_all|apply o_go|exact OpsT.nil|exact GuardC.nil|exact UndefC.nil|refine @GuardC.cons _ _ _ _ inferInstance ?_|refine @UndefC.cons _ _ _ inferInstance ?_|apply g_box|apply g_all|apply g_sto|apply g_asg|refine g_run rfl inferInstance (by first|exact sb_of (by omega)|exact sL_makes hE (by omega) (by omega)|exact sL_by hE (by omega) (by omega) (by decide)|exact sL_two hE|exact sL_rows hE|exact sL_field hE|exact sL_works hE|exact st_row2|exact st_row3|exact st_row10|exact st_add' (wrap_small (by omega))|exact st_sub' (wrap_small (by omega))|exact st_limbs1 (by decide)|exact st_limbs2 (by decide) (by decide)|exact st_bnL|exact st_bnBL|exact st_bnB|exact st_bn0|exact st_bq0|exact st_bqN|exact st_bqD|exact st_bqND|exact st_move'|exact st_not' (b := true) (u := false) rfl|exact st_not' (b := false) (u := true) rfl|exact st_not' rfl) (by kernel_rfl) ?_|refine g_sk rfl inferInstance rfl (by kernel_rfl) ?_|refine g_un rfl inferInstance (by kernel_rfl) ?_|apply g_st|apply g_skip|apply g_ct|apply g_cf|apply g_ret|refine r_1 rfl ?_|apply g_blk|apply g_eb|apply g_ex|apply e_t|apply e_h|refine e_o rfl ?_|apply r_t|apply r_b|apply g_cl|exact sb_of (by omega)|exact sL_makes hE (by omega) (by omega)|exact sL_by hE (by omega) (by omega) (by decide)|exact sL_two hE|exact sL_rows hE|exact sL_field hE|exact sL_works hE|exact st_row2|exact st_row3|exact st_row10|exact st_add' (wrap_small (by omega))|exact st_sub' (wrap_small (by omega))|exact st_limbs1 (by decide)|exact st_limbs2 (by decide) (by decide)|exact st_bnL|exact st_bnBL|exact st_bnB|exact st_bn0|exact st_bq0|exact st_bqN|exact st_bqD|exact st_bqND|exact st_lenR|exact st_indexR (by omega)|exact st_loadQ|exact st_loadN|exact st_fieldP0|exact st_fieldP1|exact st_move'|exact st_assign'|exact st_load'|exact st_fieldAddr'|exact st_and_t'|exact st_and_f'|exact st_or_f'|exact st_or_t'|exact st_not' (b := true) (u := false) rfl|exact st_not' (b := false) (u := true) rfl|exact st_not' rfl|exact st_lss' (by first|assumption|rfl)|exact st_len'|exact st_indexAddr' (by assumption)|exact st_loadE'|exact Cv.rfl'|(intro _;simp only[newX,newL,ptrs,List.map,List.cons_append,List.nil_append])|intro _
    refine g_stop fun a w h => ?_
    replace h := h.keep [2, 1]
    refine cw_loop (fun k a w => ∃ d : Int, -3 ≤ d ∧ d + (k : Int) = 5 ∧ TS _ _ [] [(2, .is (.int .i64 d)), (1, .is (.int .i64 n))] 177 a w) 8 ⟨-3, by decide, by decide, h⟩ ?_
    clear h
    rintro k2 a w ⟨d, hd0, hd, h⟩
    have hkd : 0 ≤ (k2 : Int) := by omega
    by_cases hlt2 : d < 5
    · have hc2 : decide (d < 5) = true := decide_eq_true hlt2
      refine g_of h ?_
      clear h
      repeat' first|kernel_rfl|exact g_done fun _ _ h=>⟨k2 - 1, by omega, d + 1, by omega, by omega, h.keep [2, 1]⟩|apply g_seq|apply g_reg|apply g_nil|apply o_all|apply o_go|exact OpsT.nil|exact GuardC.nil|exact UndefC.nil|refine @GuardC.cons _ _ _ _ inferInstance ?_|refine @UndefC.cons _ _ _ inferInstance ?_|apply g_box|apply g_all|apply g_sto|apply g_asg|refine g_run rfl inferInstance (by first|exact sb_of (by omega)|exact sL_makes hE (by omega) (by omega)|exact sL_by hE (by omega) (by omega) (by decide)|exact sL_two hE|exact sL_rows hE|exact sL_field hE|exact sL_works hE|exact st_row2|exact st_row3|exact st_row10|exact st_add' (wrap_small (by omega))|exact st_sub' (wrap_small (by omega))|exact st_limbs1 (by decide)|exact st_limbs2 (by decide) (by decide)|exact st_bnL|exact st_bnBL|exact st_bnB|exact st_bn0|exact st_bq0|exact st_bqN|exact st_bqD|exact st_bqND|exact st_move'|exact st_not' (b := true) (u := false) rfl|exact st_not' (b := false) (u := true) rfl|exact st_not' rfl) (by kernel_rfl) ?_|refine g_sk rfl inferInstance rfl (by kernel_rfl) ?_|refine g_un rfl inferInstance (by kernel_rfl) ?_|apply g_st|apply g_skip|apply g_ct|apply g_cf|apply g_ret|refine r_1 rfl ?_|apply g_blk|apply g_eb|apply g_ex|apply e_t|apply e_h|refine e_o rfl ?_|apply r_t|apply r_b|apply g_cl|exact sb_of (by omega)|exact sL_makes hE (by omega) (by omega)|exact sL_by hE (by omega) (by omega) (by decide)|exact sL_two hE|exact sL_rows hE|exact sL_field hE|exact sL_works hE|exact st_row2|exact st_row3|exact st_row10|exact st_add' (wrap_small (by omega))|exact st_sub' (wrap_small (by omega))|exact st_limbs1 (by decide)|exact st_limbs2 (by decide) (by decide)|exact st_bnL|exact st_bnBL|exact st_bnB|exact st_bn0|exact st_bq0|exact st_bqN|exact st_bqD|exact st_bqND|exact st_lenR|exact st_indexR (by omega)|exact st_loadQ|exact st_loadN|exact st_fieldP0|exact st_fieldP1|exact st_move'|exact st_assign'|exact st_load'|exact st_fieldAddr'|exact st_and_t'|exact st_and_f'|exact st_or_f'|exact st_or_t'|exact st_not' (b := true) (u := false) rfl|exact st_not' (b := false) (u := true) rfl|exact st_not' rfl|exact st_lss' (by first|assumption|rfl)|exact st_len'|exact st_indexAddr' (by assumption)|exact st_loadE'|exact Cv.rfl'|(intro _;simp only[newX,newL,ptrs,List.map,List.cons_append,List.nil_append])|intro _
    · have hc2 : decide (d < 5) = false := decide_eq_false hlt2
      refine g_of h ?_
      clear h
      repeat' first|kernel_rfl|exact g_done fun _ _ h=>⟨k - 1, by omega, n + 1, by omega, by omega, h.keep [1]⟩|apply g_seq|apply g_reg|apply g_nil|apply o_all|apply o_go|exact OpsT.nil|exact GuardC.nil|exact UndefC.nil|refine @GuardC.cons _ _ _ _ inferInstance ?_|refine @UndefC.cons _ _ _ inferInstance ?_|apply g_box|apply g_all|apply g_sto|apply g_asg|refine g_run rfl inferInstance (by first|exact sb_of (by omega)|exact sL_makes hE (by omega) (by omega)|exact sL_by hE (by omega) (by omega) (by decide)|exact sL_two hE|exact sL_rows hE|exact sL_field hE|exact sL_works hE|exact st_row2|exact st_row3|exact st_row10|exact st_add' (wrap_small (by omega))|exact st_sub' (wrap_small (by omega))|exact st_limbs1 (by decide)|exact st_limbs2 (by decide) (by decide)|exact st_bnL|exact st_bnBL|exact st_bnB|exact st_bn0|exact st_bq0|exact st_bqN|exact st_bqD|exact st_bqND|exact st_move'|exact st_not' (b := true) (u := false) rfl|exact st_not' (b := false) (u := true) rfl|exact st_not' rfl) (by kernel_rfl) ?_|refine g_sk rfl inferInstance rfl (by kernel_rfl) ?_|refine g_un rfl inferInstance (by kernel_rfl) ?_|apply g_st|apply g_skip|apply g_ct|apply g_cf|apply g_ret|refine r_1 rfl ?_|apply g_blk|apply g_eb|apply g_ex|apply e_t|apply e_h|refine e_o rfl ?_|apply r_t|apply r_b|apply g_cl|exact sb_of (by omega)|exact sL_makes hE (by omega) (by omega)|exact sL_by hE (by omega) (by omega) (by decide)|exact sL_two hE|exact sL_rows hE|exact sL_field hE|exact sL_works hE|exact st_row2|exact st_row3|exact st_row10|exact st_add' (wrap_small (by omega))|exact st_sub' (wrap_small (by omega))|exact st_limbs1 (by decide)|exact st_limbs2 (by decide) (by decide)|exact st_bnL|exact st_bnBL|exact st_bnB|exact st_bn0|exact st_bq0|exact st_bqN|exact st_bqD|exact st_bqND|exact st_lenR|exact st_indexR (by omega)|exact st_loadQ|exact st_loadN|exact st_fieldP0|exact st_fieldP1|exact st_move'|exact st_assign'|exact st_load'|exact st_fieldAddr'|exact st_and_t'|exact st_and_f'|exact st_or_f'|exact st_or_t'|exact st_not' (b := true) (u := false) rfl|exact st_not' (b := false) (u := true) rfl|exact st_not' rfl|exact st_lss' (by first|assumption|rfl)|exact st_len'|exact st_indexAddr' (by assumption)|exact st_loadE'|exact Cv.rfl'|(intro _;simp only[newX,newL,ptrs,List.map,List.cons_append,List.nil_append])|intro _
  · have hc1 : decide (n < 5) = false := decide_eq_false hlt
    clear hn0 hn hkn
    refine g_of h ?_
    clear h
    repeat' first|kernel_rfl|apply g_seq|apply g_reg|apply g_nil|apply o_all|apply o_go|exact OpsT.nil|exact GuardC.nil|exact UndefC.nil|refine @GuardC.cons _ _ _ _ inferInstance ?_|refine @UndefC.cons _ _ _ inferInstance ?_|apply g_box|apply g_all|apply g_sto|apply g_asg|refine g_run rfl inferInstance (by first|exact sb_of (by omega)|exact sL_makes hE (by omega) (by omega)|exact sL_by hE (by omega) (by omega) (by decide)|exact sL_two hE|exact sL_rows hE|exact sL_field hE|exact sL_works hE|exact st_row2|exact st_row3|exact st_row10|exact st_add' (wrap_small (by omega))|exact st_sub' (wrap_small (by omega))|exact st_limbs1 (by decide)|exact st_limbs2 (by decide) (by decide)|exact st_bnL|exact st_bnBL|exact st_bnB|exact st_bn0|exact st_bq0|exact st_bqN|exact st_bqD|exact st_bqND|exact st_move'|exact st_not' (b := true) (u := false) rfl|exact st_not' (b := false) (u := true) rfl|exact st_not' rfl) (by kernel_rfl) ?_|refine g_sk rfl inferInstance rfl (by kernel_rfl) ?_|refine g_un rfl inferInstance (by kernel_rfl) ?_|apply g_st|apply g_skip|apply g_ct|apply g_cf|apply g_ret|refine r_1 rfl ?_|apply g_blk|apply g_eb|apply g_ex|apply e_t|apply e_h|refine e_o rfl ?_|apply r_t|apply r_b|apply g_cl|exact sb_of (by omega)|exact sL_makes hE (by omega) (by omega)|exact sL_by hE (by omega) (by omega) (by decide)|exact sL_two hE|exact sL_rows hE|exact sL_field hE|exact sL_works hE|exact st_row2|exact st_row3|exact st_row10|exact st_add' (wrap_small (by omega))|exact st_sub' (wrap_small (by omega))|exact st_limbs1 (by decide)|exact st_limbs2 (by decide) (by decide)|exact st_bnL|exact st_bnBL|exact st_bnB|exact st_bn0|exact st_bq0|exact st_bqN|exact st_bqD|exact st_bqND|exact st_lenR|exact st_indexR (by omega)|exact st_loadQ|exact st_loadN|exact st_fieldP0|exact st_fieldP1|exact st_move'|exact st_assign'|exact st_load'|exact st_fieldAddr'|exact st_and_t'|exact st_and_f'|exact st_or_f'|exact st_or_t'|exact st_not' (b := true) (u := false) rfl|exact st_not' (b := false) (u := true) rfl|exact st_not' rfl|exact st_lss' (by first|assumption|rfl)|exact st_len'|exact st_indexAddr' (by assumption)|exact st_loadE'|exact Cv.rfl'|(intro _;simp only[newX,newL,ptrs,List.map,List.cons_append,List.nil_append])|intro _
    refine g_stop fun a w h => ?_
    replace h := h.keep [4, 3]
    refine cw_loop (fun k a w => ∃ i : Nat, i + k = 10 ∧ TS _ _ [] [(4, .is (.int .i64 (i : Int))), (3, VTy.rany 10)] 177 a w) 10 ⟨0, by omega, h⟩ ?_
    clear h
    rintro k a w ⟨i, hi, h⟩
    by_cases hlt3 : i < 10
    · have hc3 : decide ((i : Int) < ((10 : Nat) : Int)) = true := decide_eq_true (by omega)
      refine g_of h ?_
      clear h
      repeat' first|kernel_rfl|apply g_seq|apply g_reg|apply g_nil|apply o_all|apply o_go|exact OpsT.nil|exact GuardC.nil|exact UndefC.nil|refine @GuardC.cons _ _ _ _ inferInstance ?_|refine @UndefC.cons _ _ _ inferInstance ?_|apply g_box|apply g_all|apply g_sto|apply g_asg|refine g_run rfl inferInstance (by first|exact sb_of (by omega)|exact sL_makes hE (by omega) (by omega)|exact sL_by hE (by omega) (by omega) (by decide)|exact sL_two hE|exact sL_rows hE|exact sL_field hE|exact sL_works hE|exact st_row2|exact st_row3|exact st_row10|exact st_add' (wrap_small (by omega))|exact st_sub' (wrap_small (by omega))|exact st_limbs1 (by decide)|exact st_limbs2 (by decide) (by decide)|exact st_bnL|exact st_bnBL|exact st_bnB|exact st_bn0|exact st_bq0|exact st_bqN|exact st_bqD|exact st_bqND|exact st_move'|exact st_not' (b := true) (u := false) rfl|exact st_not' (b := false) (u := true) rfl|exact st_not' rfl) (by kernel_rfl) ?_|refine g_sk rfl inferInstance rfl (by kernel_rfl) ?_|refine g_un rfl inferInstance (by kernel_rfl) ?_|apply g_st|apply g_skip|apply g_ct|apply g_cf|apply g_ret|refine r_1 rfl ?_|apply g_blk|apply g_eb|apply g_ex|apply e_t|apply e_h|refine e_o rfl ?_|apply r_t|apply r_b|apply g_cl|exact sb_of (by omega)|exact sL_makes hE (by omega) (by omega)|exact sL_by hE (by omega) (by omega) (by decide)|exact sL_two hE|exact sL_rows hE|exact sL_field hE|exact sL_works hE|exact st_row2|exact st_row3|exact st_row10|exact st_add' (wrap_small (by omega))|exact st_sub' (wrap_small (by omega))|exact st_limbs1 (by decide)|exact st_limbs2 (by decide) (by decide)|exact st_bnL|exact st_bnBL|exact st_bnB|exact st_bn0|exact st_bq0|exact st_bqN|exact st_bqD|exact st_bqND|exact st_lenR|exact st_indexR (by omega)|exact st_loadQ|exact st_loadN|exact st_fieldP0|exact st_fieldP1|exact st_move'|exact st_assign'|exact st_load'|exact st_fieldAddr'|exact st_and_t'|exact st_and_f'|exact st_or_f'|exact st_or_t'|exact st_not' (b := true) (u := false) rfl|exact st_not' (b := false) (u := true) rfl|exact st_not' rfl|exact st_lss' (by first|assumption|rfl)|exact st_len'|exact st_indexAddr' (by assumption)|exact st_loadE'|exact Cv.rfl'|(intro _;simp only[newX,newL,ptrs,List.map,List.cons_append,List.nil_append])|intro _
      refine g_stop fun a w h => ?_
      replace h := h.keep [5, 4, 3]
      refine cw_loop (fun k a w => ∃ j : Nat, j + k = 10 ∧ TS _ _ [] [(5, .is (.int .i64 (j : Int))), (4, .is (.int .i64 (i : Int))), (3, VTy.rany 10)] 177 a w) 10 ⟨0, by omega, h⟩ ?_
      clear h
      rintro k2 a w ⟨j, hj, h⟩
      by_cases hlt4 : j < 10
      · have hc4 : decide ((j : Int) < ((10 : Nat) : Int)) = true := decide_eq_true (by omega)
        refine g_of h ?_
        clear h
        repeat' first|kernel_rfl|exact g_done fun _ _ h=>⟨k2 - 1, by omega, j + 1, by omega, h.keep [5, 4, 3]⟩|apply g_seq|apply g_reg|apply g_nil|apply g_draw (id:=16) [(118, false), (132, false), (145, false)] [] 53|apply o_all|apply o_go|exact OpsT.nil|exact GuardC.nil|exact UndefC.nil|refine @GuardC.cons _ _ _ _ inferInstance ?_|refine @UndefC.cons _ _ _ inferInstance ?_|apply g_box|apply g_all|apply g_sto|apply g_asg|refine g_run rfl inferInstance (by first|exact sb_of (by omega)|exact sL_makes hE (by omega) (by omega)|exact sL_by hE (by omega) (by omega) (by decide)|exact sL_two hE|exact sL_rows hE|exact sL_field hE|exact sL_works hE|exact st_row2|exact st_row3|exact st_row10|exact st_add' (wrap_small (by omega))|exact st_sub' (wrap_small (by omega))|exact st_limbs1 (by decide)|exact st_limbs2 (by decide) (by decide)|exact st_bnL|exact st_bnBL|exact st_bnB|exact st_bn0|exact st_bq0|exact st_bqN|exact st_bqD|exact st_bqND|exact st_move'|exact st_not' (b := true) (u := false) rfl|exact st_not' (b := false) (u := true) rfl|exact st_not' rfl) (by kernel_rfl) ?_|refine g_sk rfl inferInstance rfl (by kernel_rfl) ?_|refine g_un rfl inferInstance (by kernel_rfl) ?_|apply g_st|apply g_skip|apply g_ct|apply g_cf|apply g_ret|refine r_1 rfl ?_|apply g_blk|apply g_eb|apply g_ex|apply e_t|apply e_h|refine e_o rfl ?_|apply r_t|apply r_b|apply g_cl|exact sb_of (by omega)|exact sL_makes hE (by omega) (by omega)|exact sL_by hE (by omega) (by omega) (by decide)|exact sL_two hE|exact sL_rows hE|exact sL_field hE|exact sL_works hE|exact st_row2|exact st_row3|exact st_row10|exact st_add' (wrap_small (by omega))|exact st_sub' (wrap_small (by omega))|exact st_limbs1 (by decide)|exact st_limbs2 (by decide) (by decide)|exact st_bnL|exact st_bnBL|exact st_bnB|exact st_bn0|exact st_bq0|exact st_bqN|exact st_bqD|exact st_bqND|exact st_lenR|exact st_indexR (by omega)|exact st_loadQ|exact st_loadN|exact st_fieldP0|exact st_fieldP1|exact st_move'|exact st_assign'|exact st_load'|exact st_fieldAddr'|exact st_and_t'|exact st_and_f'|exact st_or_f'|exact st_or_t'|exact st_not' (b := true) (u := false) rfl|exact st_not' (b := false) (u := true) rfl|exact st_not' rfl|exact st_lss' (by first|assumption|rfl)|exact st_len'|exact st_indexAddr' (by assumption)|exact st_loadE'|exact Cv.rfl'|(intro _;simp only[newX,newL,ptrs,List.map,List.cons_append,List.nil_append])|intro _
      · have hc4 : decide ((j : Int) < ((10 : Nat) : Int)) = false := decide_eq_false (by omega)
        refine g_of h ?_
        clear h
        repeat' first|kernel_rfl|exact g_done fun _ _ h=>⟨k - 1, by omega, i + 1, by omega, h.keep [4, 3]⟩|apply g_seq|apply g_reg|apply g_nil|apply o_all|apply o_go|exact OpsT.nil|exact GuardC.nil|exact UndefC.nil|refine @GuardC.cons _ _ _ _ inferInstance ?_|refine @UndefC.cons _ _ _ inferInstance ?_|apply g_box|apply g_all|apply g_sto|apply g_asg|refine g_run rfl inferInstance (by first|exact sb_of (by omega)|exact sL_makes hE (by omega) (by omega)|exact sL_by hE (by omega) (by omega) (by decide)|exact sL_two hE|exact sL_rows hE|exact sL_field hE|exact sL_works hE|exact st_row2|exact st_row3|exact st_row10|exact st_add' (wrap_small (by omega))|exact st_sub' (wrap_small (by omega))|exact st_limbs1 (by decide)|exact st_limbs2 (by decide) (by decide)|exact st_bnL|exact st_bnBL|exact st_bnB|exact st_bn0|exact st_bq0|exact st_bqN|exact st_bqD|exact st_bqND|exact st_move'|exact st_not' (b := true) (u := false) rfl|exact st_not' (b := false) (u := true) rfl|exact st_not' rfl) (by kernel_rfl) ?_|refine g_sk rfl inferInstance rfl (by kernel_rfl) ?_|refine g_un rfl inferInstance (by kernel_rfl) ?_|apply g_st|apply g_skip|apply g_ct|apply g_cf|apply g_ret|refine r_1 rfl ?_|apply g_blk|apply g_eb|apply g_ex|apply e_t|apply e_h|refine e_o rfl ?_|apply r_t|apply r_b|apply g_cl|exact sb_of (by omega)|exact sL_makes hE (by omega) (by omega)|exact sL_by hE (by omega) (by omega) (by decide)|exact sL_two hE|exact sL_rows hE|exact sL_field hE|exact sL_works hE|exact st_row2|exact st_row3|exact st_row10|exact st_add' (wrap_small (by omega))|exact st_sub' (wrap_small (by omega))|exact st_limbs1 (by decide)|exact st_limbs2 (by decide) (by decide)|exact st_bnL|exact st_bnBL|exact st_bnB|exact st_bn0|exact st_bq0|exact st_bqN|exact st_bqD|exact st_bqND|exact st_lenR|exact st_indexR (by omega)|exact st_loadQ|exact st_loadN|exact st_fieldP0|exact st_fieldP1|exact st_move'|exact st_assign'|exact st_load'|exact st_fieldAddr'|exact st_and_t'|exact st_and_f'|exact st_or_f'|exact st_or_t'|exact st_not' (b := true) (u := false) rfl|exact st_not' (b := false) (u := true) rfl|exact st_not' rfl|exact st_lss' (by first|assumption|rfl)|exact st_len'|exact st_indexAddr' (by assumption)|exact st_loadE'|exact Cv.rfl'|(intro _;simp only[newX,newL,ptrs,List.map,List.cons_append,List.nil_append])|intro _
    · have hc3 : decide ((i : Int) < ((10 : Nat) : Int)) = false := decide_eq_false (by omega)
      refine g_of h ?_
      clear h
      repeat' first|kernel_rfl|apply g_seq|apply g_reg|apply g_nil|apply o_all|apply o_go|exact OpsT.nil|exact GuardC.nil|exact UndefC.nil|refine @GuardC.cons _ _ _ _ inferInstance ?_|refine @UndefC.cons _ _ _ inferInstance ?_|apply g_box|apply g_all|apply g_sto|apply g_asg|refine g_run rfl inferInstance (by first|exact sb_of (by omega)|exact sL_makes hE (by omega) (by omega)|exact sL_by hE (by omega) (by omega) (by decide)|exact sL_two hE|exact sL_rows hE|exact sL_field hE|exact sL_works hE|exact st_row2|exact st_row3|exact st_row10|exact st_add' (wrap_small (by omega))|exact st_sub' (wrap_small (by omega))|exact st_limbs1 (by decide)|exact st_limbs2 (by decide) (by decide)|exact st_bnL|exact st_bnBL|exact st_bnB|exact st_bn0|exact st_bq0|exact st_bqN|exact st_bqD|exact st_bqND|exact st_move'|exact st_not' (b := true) (u := false) rfl|exact st_not' (b := false) (u := true) rfl|exact st_not' rfl) (by kernel_rfl) ?_|refine g_sk rfl inferInstance rfl (by kernel_rfl) ?_|refine g_un rfl inferInstance (by kernel_rfl) ?_|apply g_st|apply g_skip|apply g_ct|apply g_cf|apply g_ret|refine r_1 rfl ?_|apply g_blk|apply g_eb|apply g_ex|apply e_t|apply e_h|refine e_o rfl ?_|apply r_t|apply r_b|apply g_cl|exact sb_of (by omega)|exact sL_makes hE (by omega) (by omega)|exact sL_by hE (by omega) (by omega) (by decide)|exact sL_two hE|exact sL_rows hE|exact sL_field hE|exact sL_works hE|exact st_row2|exact st_row3|exact st_row10|exact st_add' (wrap_small (by omega))|exact st_sub' (wrap_small (by omega))|exact st_limbs1 (by decide)|exact st_limbs2 (by decide) (by decide)|exact st_bnL|exact st_bnBL|exact st_bnB|exact st_bn0|exact st_bq0|exact st_bqN|exact st_bqD|exact st_bqND|exact st_lenR|exact st_indexR (by omega)|exact st_loadQ|exact st_loadN|exact st_fieldP0|exact st_fieldP1|exact st_move'|exact st_assign'|exact st_load'|exact st_fieldAddr'|exact st_and_t'|exact st_and_f'|exact st_or_f'|exact st_or_t'|exact st_not' (b := true) (u := false) rfl|exact st_not' (b := false) (u := true) rfl|exact st_not' rfl|exact st_lss' (by first|assumption|rfl)|exact st_len'|exact st_indexAddr' (by assumption)|exact st_loadE'|exact Cv.rfl'|(intro _;simp only[newX,newL,ptrs,List.map,List.cons_append,List.nil_append])|intro _
theorem openBig : OpenR Tryz.prog 24 Rp.num := OpenR.pair Tryz.underlying24 (OpenR.bool Tryz.underlying4 (by kernel_rfl)) (OpenR.limbs Tryz.underlying22 Tryz.underlying69 (by kernel_rfl) (by kernel_rfl)) rfl rfl (by kernel_rfl)
theorem openRat : OpenR Tryz.prog 26 Rp.frac := OpenR.pair Tryz.underlying26 openBig openBig rfl rfl (by kernel_rfl)
theorem openRats : OpenR Tryz.prog 60 Rp.frac.row := OpenR.row Tryz.underlying60 openRat (by kernel_rfl) (by decide)
theorem gives_true {P : Program} {f : FuncId} {args : Array Value} {X : List Nat} {w : World} (h : Calls P f args w (Gives X w (.is (.bool true)))) : Calls P f args w fun e w' => e = .returned (.bool true) ∧ Below w.heap.size w w' :=
  h.mono fun _ _ ⟨_, h1, h2, h3⟩ => ⟨by rw [h1, show _ = _ from h2], h3⟩
end Go.Proofs.YtjedonnmhplffaaGreatDoor
