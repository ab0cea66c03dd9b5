/- What stays when an answer is written over: what stands in older blocks; answers in new blocks; what is left of them. The steps over package rat that say that answers are new. -/
import Derived.Test.YtngfkjlpgodfhaaGreatDoorGJ
import Derived.Test.YtngfkjlpgodfhaaGreatDoorGH
import Derived.Test.YtngfkjlpgodfhaaGreatDoorGE
import Derived.Test.YtngfkjlpgodfhaaGreatDoorGG
set_option linter.unusedSimpArgs false
set_option linter.unusedVariables false
namespace Go.Proofs.YtngfkjlpgodfhaaGreatDoor
open Go Go.RowKit
/-- The blocks from B on. -/
def above (B : Nat) (w : World) : List Nat := (List.range w.heap.size).filter (fun b => decide (B ≤ b))
theorem mem_above {B : Nat} {w : World} {b : Nat} : b ∈ above B w ↔ b < w.heap.size ∧ B ≤ b := by simp [above]
/-- It hangs on no block from B on. -/
def VTy.und (B : Nat) (T : VTy) : VTy := ⟨fun X w v => B ≤ w.heap.size ∧ T.holds (X ++ above B w) w v, fun ⟨hB, h⟩ hk hX => ⟨Nat.le_trans hB hk.size, T.stable h ⟨hk.size, fun b hb hx => hk.block b hb (fun h => hx (List.mem_append_left _ h))⟩ (fun b hb hlt => by
  rcases List.mem_append.1 hb with hb | hb
  · exact List.mem_append_left _ (hX b hb hlt)
  · exact List.mem_append_right _ (mem_above.2 ⟨hlt, (mem_above.1 hb).2⟩))⟩⟩
theorem und_weak {B : Nat} {T : VTy} {X : List Nat} {w : World} {v : Value} (h : (VTy.und B T).holds X w v) : T.holds X w v := T.stable h.2 (Keeps.rfl' _ _) (fun _ hb _ => List.mem_append_left _ hb)
theorem und_new {T : VTy} {X : List Nat} {w : World} {v : Value} (h : T.holds X w v) : (VTy.und w.heap.size T).holds X w v := ⟨Nat.le_refl _, T.stable h (Keeps.rfl' _ _) (fun b hb hlt => by
  rcases List.mem_append.1 hb with hb | hb
  · exact hb
  · have := (mem_above.1 hb).2; omega)⟩
instance {B k : Nat} {ag : Bool} {T : VTy} [z : SizeV T k ag] : SizeV (.und B T) k ag := ⟨fun h => z.ok (und_weak h)⟩
instance {B off k : Nat} {ag : Bool} {T T' : VTy} [p : PartC T off k ag T'] : PartC (.und B T) off k ag (.und B T') := ⟨p.one, fun {X w v} h => by
  obtain ⟨hB, h⟩ := h
  obtain ⟨cs, h1, h2, h3⟩ := p.ok h
  exact ⟨cs, h1, h2, fun u hu hu' => ⟨hB, h3 u hu hu'⟩⟩⟩
instance {B L : Nat} {q : Rat} {T : VTy} [a : AsQ T q L] : AsQ (.und B T) q L := ⟨fun h => a.ok (und_weak h)⟩
instance {B : Nat} {x : RawQ} {T : VTy} [a : AsZ T x] : AsZ (.und B T) x := ⟨fun h => a.ok (und_weak h)⟩
instance {B L : Nat} {q : Rat} {T : VTy} [a : AsC T q L] : AsC (.und B T) q L := ⟨fun h => a.ok (und_weak h)⟩
class AsX (T : VTy) (x : outParam RawQ) (L : outParam Nat) : Prop where
  ok : ∀ {X w v}, T.holds X w v → (VTy.qx x L).holds X w v
instance {x : RawQ} {L : Nat} : AsX (.qx x L) x L := ⟨fun h => h⟩
instance {B L : Nat} {x : RawQ} {T : VTy} [a : AsX T x L] : AsX (.und B T) x L := ⟨fun h => a.ok (und_weak h)⟩
/-- Memory is B blocks at least. -/
class SzC (L : List Loc) (B : outParam Nat) : Prop where
  ok : ∀ {w00 : World} {X : List Nat} {w : World}, Mem w00 X L w → B ≤ w.heap.size
instance SzC.here {L : List Loc} {r B : Nat} {T : VTy} : SzC ((r, .und B T) :: L) B := ⟨fun h => by obtain ⟨_, _, v, ty, h1, _⟩ := h.loc _ List.mem_cons_self; exact h1.1⟩
instance (priority := low) SzC.there {L : List Loc} {p : Loc} {B : Nat} [k : SzC L B] : SzC (p :: L) B := ⟨fun h => k.ok ⟨fun p hp => h.loc p (List.mem_cons_of_mem _ hp), h.far, by have := h.nodup; rw [List.map_cons, List.nodup_cons] at this; exact this.2, h.below⟩⟩
/-- What is left of an answer: two rows that may be written over, in new blocks. -/
def Sh (B : Nat) (X : List Nat) (w : World) (A : Option Addr) (n : Nat) : Prop :=
  n ≤ 9223372036854775807 ∧ (0 < n → ∃ b off cs, A = some ⟨b, off, none⟩ ∧ b < w.heap.size ∧ b ∉ X ∧ B ≤ b ∧ w.heap[b]? = some (.cells cs 38 (0, 0)) ∧ off + n ≤ cs.size)
def VTy.jk (B : Nat) : VTy := ⟨fun X w v => ∃ s A n c s2 A2 n2 c2, v = .agg #[.bool s, .slice A n c, .bool s2, .slice A2 n2 c2] ∧ Sh B X w A n ∧ Sh B X w A2 n2, fun {X X' w w' v} ⟨s, A, n, c, s2, A2, n2, c2, e, h1, h2⟩ hk hX => by
  have key : ∀ {A : Option Addr} {n : Nat}, Sh B X w A n → Sh B X' w' A n := fun {A n} h => ⟨h.1, fun hn => by
    obtain ⟨b, off, cs, e, g1, g2, g3, g4, g5⟩ := h.2 hn
    exact ⟨b, off, cs, e, Nat.lt_of_lt_of_le g1 hk.size, fun hb => g2 (hX b hb g1), g3, (hk.block b g1 g2).trans g4, g5⟩⟩
  exact ⟨s, A, n, c, s2, A2, n2, c2, e, key h1, key h2⟩⟩
instance {B : Nat} : SizeV (.jk B) 4 true := ⟨fun {X w v} ⟨s, A, n, c, s2, A2, n2, c2, e, h1, h2⟩ => by rw [e]; exact ⟨rfl, by simp [Value.cells, Value.oneCell'], fun _ => rfl, fun h => by cases h⟩⟩
instance {B : Nat} : PartC (.jk B) 0 4 true (.jk B) := .whole inferInstance
theorem sh_of {B : Nat} {X : List Nat} {w : World} {A : Option Addr} {n c : Nat} {xs : List Int} (h : SlF .u32 w (NewB B X w) A n c xs) : Sh B X w A n := by
  refine ⟨h.1.lenMax, fun hn => ?_⟩
  obtain ⟨b, off, x, rfl, _, _, hc⟩ := h.1.at_ (j := n - 1) (by omega)
  obtain ⟨g1, g2, cs, g3⟩ := h.2 hn b rfl
  refine ⟨b, off, cs, rfl, g1.1, g1.2, g2, g3, ?_⟩
  unfold World.cell? at hc
  simp only [g3] at hc
  have := (Array.getElem?_eq_some_iff.1 (show cs[off + (n - 1)]? = some _ from by simpa using hc)).1
  omega
theorem nw_jk {p : RawQ → Prop} {B : Nat} {X : List Nat} {w : World} {v : Value} (h : (VTy.nw p B).holds X w v) : (VTy.jk B).holds X w v := by
  obtain ⟨x, hp, cs, rfl, c1, c2, rfl, h1, h2⟩ := h
  obtain ⟨A, n, c, rfl, s1, _⟩ := num_rd.1 h1
  obtain ⟨A2, n2, c2, rfl, s2, _⟩ := num_rd.1 h2
  exact ⟨x.1.1, A, n, c, x.2.1, A2, n2, c2, rfl, sh_of s1, sh_of s2⟩
/-- Some limbs of blocks from B on, that are not set aside, have been written over. -/
structure Sp (B : Nat) (X : List Nat) (w w' : World) : Prop where
  os : w'.os = w.os
  tape : w'.tape = w.tape
  output : w'.output = w.output
  size : w.heap.size ≤ w'.heap.size
  block : ∀ b, b < w.heap.size → w'.heap[b]? = w.heap[b]? ∨ (B ≤ b ∧ b ∉ X ∧ ∃ cs cs' : Array Value, w.heap[b]? = some (.cells cs 38 (0, 0)) ∧ w'.heap[b]? = some (.cells cs' 38 (0, 0)) ∧ cs'.size = cs.size)
theorem Sp.refl (B : Nat) (X : List Nat) (w : World) : Sp B X w w := ⟨rfl, rfl, rfl, Nat.le_refl _, fun _ _ => .inl rfl⟩
theorem Sp.alloc {B : Nat} {X : List Nat} {w w' : World} (h : Sp B X w w') (o : Obj) : Sp B X w (w'.alloc o) := by
  refine ⟨h.os, h.tape, h.output, Nat.le_trans h.size (by simp), fun b hb => ?_⟩
  rw [Below.heap_alloc _ _ _ (Nat.lt_of_lt_of_le hb h.size)]
  exact h.block b hb
theorem Sp.cells {B : Nat} {X : List Nat} {w w' : World} {b : Nat} {cs : Array Value} (h : Sp B X w w') (hb : b < w.heap.size) (hc : w.heap[b]? = some (.cells cs 38 (0, 0))) : ∃ cs' : Array Value, w'.heap[b]? = some (.cells cs' 38 (0, 0)) ∧ cs'.size = cs.size := by
  rcases h.block b hb with e | ⟨_, _, c0, c1, e0, e1, e2⟩
  · exact ⟨cs, e.trans hc, rfl⟩
  · rw [hc] at e0
    injection e0 with e0
    injection e0 with e0
    subst e0
    exact ⟨c1, e1, e2⟩
theorem heap_setCell_at {w : World} {b j : Nat} {cs : Array Value} {t : TypeId} {f : Nat × Nat} (v : Value) (h : w.heap[b]? = some (.cells cs t f)) : (w.setCell ⟨b, j, none⟩ v).heap[b]? = some (.cells (cs.setIfInBounds j v) t f) := by
  simp only [World.setCell, Array.getElem?_modify, h]
  simp
theorem Sp.set {B : Nat} {X : List Nat} {w w' : World} {b j : Nat} {cs : Array Value} (h : Sp B X w w') (hb : b < w.heap.size) (hB : B ≤ b) (hX : b ∉ X) (hc : w.heap[b]? = some (.cells cs 38 (0, 0))) (v : Value) : Sp B X w (w'.setCell ⟨b, j, none⟩ v) := by
  refine ⟨h.os, h.tape, h.output, Nat.le_trans h.size (by simp [World.setCell]), fun i hi => ?_⟩
  by_cases e : i = b
  · subst e
    obtain ⟨c1, e1, e2⟩ := h.cells hi hc
    exact .inr ⟨hB, hX, cs, _, hc, heap_setCell_at v e1, by simp [e2]⟩
  · rw [Below.heap_setCell _ _ _ _ e]
    exact h.block i hi
theorem Sh.sp {B : Nat} {X : List Nat} {w w' : World} {A : Option Addr} {n : Nat} (h : Sh B X w A n) (hs : Sp B X w w') : Sh B X w' A n := ⟨h.1, fun hn => by
  obtain ⟨b, off, cs, e, g1, g2, g3, g4, g5⟩ := h.2 hn
  obtain ⟨c1, e1, e2⟩ := hs.cells g1 g4
  exact ⟨b, off, c1, e, Nat.lt_of_lt_of_le g1 hs.size, g2, g3, e1, by omega⟩⟩
/-- The cell of a row's element. -/
theorem Sh.at {B : Nat} {X : List Nat} {w w' : World} {A : Option Addr} {n : Nat} (h : Sh B X w A n) (hs : Sp B X w w') {k : Nat} (hk : k < n) : ∃ b off cs x, A = some ⟨b, off, none⟩ ∧ b < w.heap.size ∧ B ≤ b ∧ b ∉ X ∧ w.heap[b]? = some (.cells cs 38 (0, 0)) ∧ w'.cell? ⟨b, off + k, none⟩ = some x ∧ w'.frozen? ⟨b, off + k, none⟩ = false := by
  obtain ⟨b, off, cs, e, g1, g2, g3, g4, g5⟩ := h.2 (by omega)
  obtain ⟨c1, e1, e2⟩ := hs.cells g1 g4
  have hlt : off + k < c1.size := by omega
  refine ⟨b, off, cs, c1[off + k], e, g1, g3, g2, g4, ?_, ?_⟩
  · unfold World.cell?
    simp [e1, hlt]
  · unfold World.frozen?
    simp [e1]
section
variable {w00 : World} {N : Nat} {L : List Loc} {E : List (Nat × VTy)} {d : Nat} {t0 : TypeId} {pos : String} {af : Array Edge} {gd : Option (Nat × Bool)} {ats : Array TypeId}
end
section
variable {P : Program} {w00 : World} {N : Nat} {L : List Loc} {E : List (Nat × VTy)} {d : Nat} {t0 : TypeId} {pos : String} {af : Array Edge} {gd : Option (Nat × Bool)} {ats : Array TypeId}
end
section
variable {w00 : World} {N : Nat} {L : List Loc} {E : List (Nat × VTy)} {d : Nat} {t0 : TypeId} {pos : String} {af : Array Edge} {gd : Option (Nat × Bool)} {ats : Array TypeId}
theorem s4_rightX {o0 : Operand} {T0 : VTy} {x : RawQ} {L0 : Nat} [OpC E o0 T0] [a0 : AsX T0 x L0] (hb : L0 ≤ 1000) : StepT Tryz.prog w00 N L E ⟨some d, .call { callee := .value (.func 46), args := #[o0], argTypes := ats }, t0, pos, af, gd⟩ (.is (.bool (qrt x))) :=
  sc1 e4_right fun X w v0 hX _ _ h0 => c4_right hX (a0.ok h0) hb
end
/-- What becomes of a value where blocks from B on have been written over. -/
class SurvC (B : Nat) (T : VTy) (T' : outParam VTy) : Prop where
  ok : ∀ {X : List Nat} {w w' : World} {v : Value}, T.holds X w v → Sp B X w w' → T'.holds X w' v
instance {B : Nat} {c : Value} : SurvC B (.is c) (.is c) := ⟨fun h _ => h⟩
instance {B : Nat} {T : VTy} : SurvC B (.und B T) (.und B T) := ⟨fun {X w w' v} ⟨hB, h⟩ hs => ⟨Nat.le_trans hB hs.size, T.stable h ⟨hs.size, fun b hb hx => by
  rcases hs.block b hb with e | ⟨g, _⟩
  · exact e
  · exact absurd (List.mem_append_right _ (mem_above.2 ⟨hb, g⟩)) hx⟩ (fun b hb hlt => by
  rcases List.mem_append.1 hb with hb | hb
  · exact List.mem_append_left _ hb
  · exact List.mem_append_right _ (mem_above.2 ⟨hlt, (mem_above.1 hb).2⟩))⟩⟩
instance SurvC.jk {B : Nat} : SurvC B (.jk B) (.jk B) := ⟨fun {X w w' v} ⟨s, A, n, c, s2, A2, n2, c2, e, h1, h2⟩ hs => ⟨s, A, n, c, s2, A2, n2, c2, e, h1.sp hs, h2.sp hs⟩⟩
instance {B : Nat} {p : RawQ → Prop} : SurvC B (.nw p B) (.jk B) := ⟨fun h hs => SurvC.jk.ok (nw_jk h) hs⟩
instance {B L : Nat} {q : Rat} : SurvC B (.qn q L B) (.jk B) := ⟨fun h hs => SurvC.jk.ok (nw_jk h) hs⟩
instance {B L : Nat} {q : Rat} : SurvC B (.qg q L B) (.jk B) := ⟨fun h hs => SurvC.jk.ok (nw_jk h) hs⟩
class SurvL (B : Nat) (L : List Loc) (L' : outParam (List Loc)) : Prop where
  keys : L'.map Prod.fst = L.map Prod.fst
  ok : ∀ p ∈ L', ∃ T, (p.1, T) ∈ L ∧ ∀ {X : List Nat} {w w' : World} {v : Value}, T.holds X w v → Sp B X w w' → p.2.holds X w' v
instance SurvL.nil {B : Nat} : SurvL B [] [] := ⟨rfl, fun _ h => by cases h⟩
instance SurvL.cons {B r : Nat} {L L' : List Loc} {T T' : VTy} [a : SurvC B T T'] [k : SurvL B L L'] : SurvL B ((r, T) :: L) ((r, T') :: L') := ⟨by rw [List.map_cons, List.map_cons, k.keys], fun p hp => by
  rcases List.mem_cons.1 hp with rfl | hp
  · exact ⟨T, List.mem_cons_self, a.ok⟩
  · obtain ⟨U, h1, h2⟩ := k.ok p hp
    exact ⟨U, List.mem_cons_of_mem _ h1, h2⟩⟩
class AsJ (T : VTy) (B : Nat) : Prop where
  ok : ∀ {X w v}, T.holds X w v → (VTy.jk B).holds X w v
instance {B : Nat} : AsJ (.jk B) B := ⟨fun h => h⟩
instance {B L : Nat} {q : Rat} : AsJ (.qn q L B) B := ⟨nw_jk⟩
instance {B L : Nat} {q : Rat} : AsJ (.qg q L B) B := ⟨nw_jk⟩
section
variable {w00 w : World} {X : List Nat} {L L' : List Loc} {E E' : List (Nat × VTy)} {n : Nat} {a : Act} {Q : Exit → Act → World → Prop} {ops : Array Oper} {rest : List Oper}
theorem TS.age (h : TS w00 X L E n a w) : TS w00 X (L.map fun p => (p.1, .und w.heap.size p.2)) E n a w :=
  ⟨h.size, h.df, h.slots, ⟨fun p hp => by
    obtain ⟨q, hq, rfl⟩ := List.mem_map.1 hp
    obtain ⟨g1, g2, v, ty, g3, g4⟩ := h.mem.loc q hq
    exact ⟨g1, g2, v, ty, und_new g3, g4⟩, h.mem.far, by rw [List.map_map]; exact h.mem.nodup, h.mem.below⟩⟩
end
/-- A block that holds no cells of this type. -/
def FreeK (e : TypeId) (X : List Nat) (w : World) (b : Nat) : Prop := Free X w b ∧ ∃ cs t f, w.heap[b]? = some (.cells cs t f) ∧ t ≠ e
theorem FreeK.mono {e : TypeId} {X X' : List Nat} {w w' : World} (hk : Keeps X w w') (hX : ∀ b ∈ X', b < w.heap.size → b ∈ X) (b : Nat) (h : FreeK e X w b) : FreeK e X' w' b := by
  obtain ⟨h1, cs, t, f, h3, h4⟩ := h
  exact ⟨Free.mono hk hX b h1, cs, t, f, (hk.block b h1.1 h1.2).trans h3, h4⟩
theorem Rp.upK {α : Type} (r : Rp α) {e : TypeId} {X X' : List Nat} {w w' : World} {a : α} {cs : List Value} (h : r.rd w (FreeK e X w) a cs) (hk : Keeps X w w') (hX : ∀ b ∈ X', b < w.heap.size → b ∈ X) : r.rd w' (FreeK e X' w') a cs :=
  r.more (r.keep h fun b hb => hk.block b hb.1.1 hb.1.2) (FreeK.mono hk hX)
theorem Rp.unK {α : Type} (r : Rp α) {e : TypeId} {X : List Nat} {w : World} {a : α} {cs : List Value} (h : r.rd w (FreeK e X w) a cs) : r.rd w (Free X w) a cs := r.more h fun _ hb => hb.1
theorem OwnV.same {sz : Nat} {e : TypeId} {w w' : World} {B : Nat} {A : Option Addr} {n c : Nat} {vs : List Value} (h : OwnV sz e w B A n c vs) (hk : ∀ g, blk A = some g → w'.heap[g]? = w.heap[g]?) : OwnV sz e w' B A n c vs := by
  refine ⟨h.1, ?_⟩
  rcases h.2 with h1 | ⟨g, cap, cur, h1, h2, h3, h4⟩
  · exact .inl h1
  · refine .inr ⟨g, cap, cur, h1, h2, (hk g ?_).trans h3, h4⟩
    injection h1 with h1
    rw [h1]; rfl
theorem OwnV.type {sz : Nat} {e : TypeId} {w : World} {B : Nat} {A : Option Addr} {n c : Nat} {vs : List Value} (h : OwnV sz e w B A n c vs) {g : Nat} (hg : blk A = some g) : ∃ cur, w.heap[g]? = some (.cells cur e (0, 0)) := by
  rcases h.2 with ⟨h1, _⟩ | ⟨g', cap, cur, h1, h2, h3, h4⟩
  · injection h1 with h1
    rw [h1] at hg; cases hg
  · injection h1 with h1
    rw [h1] at hg
    injection hg with hg
    subst hg
    exact ⟨cur, h3⟩
/-- A struct whose blocks hold no cells of the type e; a row of one such; a row of the call's own, from B on. -/
def VTy.kx {α : Type} (r : Rp α) (e : TypeId) (p : α → Prop) (a : α) : VTy := ⟨fun X w v => p a ∧ ∃ cs : List Value, v = .agg cs.toArray ∧ r.rd w (FreeK e X w) a cs, fun ⟨hp, cs, e, h⟩ hk hX => ⟨hp, cs, e, r.upK h hk hX⟩⟩
def VTy.r1 {α : Type} (r : Rp α) (e : TypeId) (p : α → Prop) (a : α) : VTy := ⟨fun X w v => p a ∧ ∃ b o cs, v = .slice (some ⟨b, o, none⟩) 1 1 ∧ Free X w b ∧ w.rangeAt b o cs ∧ r.rd w (FreeK e X w) a cs,
  fun ⟨hp, b, o, cs, e, hb, h1, h2⟩ hk hX => ⟨hp, b, o, cs, e, Free.mono hk hX b hb, rangeAt_keep h1 (hk.block b hb.1 hb.2), r.upK h2 hk hX⟩⟩
def VTy.ow {α : Type} (r : Rp α) (e : TypeId) (p : α → Prop) (B : Nat) (l : List α) : VTy := ⟨fun X w v => ∃ (A : Option Addr) (c : Nat) (ps : List (α × List Value)), v = .slice A l.length c ∧ ps.map Prod.fst = l ∧ (∀ q ∈ ps, p q.1 ∧ r.rd w (FreeK e X w) q.1 q.2) ∧ OwnV r.k e w B A l.length c (ps.flatMap Prod.snd) ∧ (∀ g, blk A = some g → Free X w g) ∧ (l = [] → A = none),
  fun ⟨A, c, ps, h1, h2, h3, h4, h5, h6⟩ hk hX => ⟨A, c, ps, h1, h2, fun q hq => ⟨(h3 q hq).1, r.upK (h3 q hq).2 hk hX⟩, h4.same fun g hg => hk.block g (h5 g hg).1 (h5 g hg).2, fun g hg => Free.mono hk hX g (h5 g hg), h6⟩⟩
instance {α : Type} {r : Rp α} {e : TypeId} {p : α → Prop} {B : Nat} {l : List α} : SizeV (.ow r e p B l) 1 false := ⟨fun {X w v} ⟨A, c, ps, h1, _⟩ => by rw [h1]; exact ⟨rfl, by simp [Value.cells, Value.oneCell'], (fun h => by cases h), fun _ => rfl⟩⟩
theorem ow_nil {α : Type} {r : Rp α} {e : TypeId} {p : α → Prop} {B : Nat} {X : List Nat} {w : World} {v : Value} (h : (VTy.is (.slice none 0 0)).holds X w v) : (VTy.ow r e p B []).holds X w v := by
  obtain rfl : v = _ := h
  exact ⟨none, 0, [], rfl, rfl, (fun _ h => by cases h), OwnV.nil, (fun g hg => by cases hg), fun _ => rfl⟩
theorem flat_get {α : Type} {k : Nat} : ∀ {ps : List (α × List Value)} (hl : ∀ q ∈ ps, q.2.length = k) {j i : Nat} {q : α × List Value} {u : Value}, ps[j]? = some q → q.2[i]? = some u → (ps.flatMap Prod.snd)[j * k + i]? = some u
  | [], _, _, _, _, _, h, _ => by simp at h
  | q0 :: ps, hl, 0, i, q, u, h, hu => by
    have e : q0 = q := by simpa using h
    subst e
    rw [List.flatMap_cons, Nat.zero_mul, Nat.zero_add, List.getElem?_append_left (List.getElem?_eq_some_iff.1 hu).1]
    exact hu
  | q0 :: ps, hl, j + 1, i, q, u, h, hu => by
    have h0 := hl q0 List.mem_cons_self
    rw [List.flatMap_cons, List.getElem?_append_right (by rw [h0, Nat.succ_mul]; omega), h0]
    have := flat_get (fun q hq => hl q (List.mem_cons_of_mem _ hq)) (show ps[j]? = some q by simpa using h) hu
    rw [show (j + 1) * k + i - k = j * k + i by rw [Nat.succ_mul]; omega]
    exact this
theorem ow_rw {α : Type} {r : Rp α} {e : TypeId} {p : α → Prop} {B : Nat} {l : List α} {X : List Nat} {w : World} {v : Value} (h : (VTy.ow r e p B l).holds X w v) : (VTy.rw r p l).holds X w v := by
  obtain ⟨A, c, ps, rfl, rfl, h3, h4, h5, _⟩ := h
  refine ⟨fun a ha => ?_, A, _, c, rfl, rfl, ?_⟩
  · obtain ⟨q, hq, rfl⟩ := List.mem_map.1 ha
    exact (h3 q hq).1
  · obtain ⟨g1, g2, g3, g4, g5⟩ := h4.sl
    refine ⟨g2, g3, g4, fun hn => ?_⟩
    obtain ⟨b, off, rfl, hb, hc⟩ := g5 hn
    refine ⟨b, off, rfl, h5 b rfl, fun j a ha => ?_⟩
    rw [List.getElem?_map] at ha
    cases hq : ps[j]? with
    | none => rw [hq] at ha; cases ha
    | some q =>
      rw [hq] at ha
      obtain rfl : q.1 = a := by simpa using ha
      refine ⟨q.2, fun i u hu => ?_, r.unK (h3 q (List.mem_of_getElem? hq)).2⟩
      have := hc (j * r.k + i) u (flat_get (fun q hq => r.len (h3 q hq).2) hq hu)
      rw [Nat.add_assoc]
      exact this
/-- What is set aside, and what lies below B, stays. -/
structure Ch (B : Nat) (X : List Nat) (w w' : World) : Prop where
  os : w'.os = w.os
  tape : w'.tape = w.tape
  output : w'.output = w.output
  size : w.heap.size ≤ w'.heap.size
  block : ∀ b, b < w.heap.size → w'.heap[b]? = w.heap[b]? ∨ (B ≤ b ∧ b ∉ X)
class SurvU (B : Nat) (T : VTy) : Prop where
  ok : ∀ {X : List Nat} {w w' : World} {v : Value}, T.holds X w v → Ch B X w w' → T.holds X w' v
instance {B : Nat} {c : Value} : SurvU B (.is c) := ⟨fun h _ => h⟩
instance {B : Nat} {T : VTy} : SurvU B (.und B T) := ⟨fun {X w w' v} ⟨hB, h⟩ hs => ⟨Nat.le_trans hB hs.size, T.stable h ⟨hs.size, fun b hb hx => by
  rcases hs.block b hb with e | ⟨g, _⟩
  · exact e
  · exact absurd (List.mem_append_right _ (mem_above.2 ⟨hb, g⟩)) hx⟩ (fun b hb hlt => by
  rcases List.mem_append.1 hb with hb | hb
  · exact List.mem_append_left _ hb
  · exact List.mem_append_right _ (mem_above.2 ⟨hlt, (mem_above.1 hb).2⟩))⟩⟩
class SurvUL (B : Nat) (L : List Loc) : Prop where
  ok : ∀ p ∈ L, ∀ {X : List Nat} {w w' : World} {v : Value}, p.2.holds X w v → Ch B X w w' → p.2.holds X w' v
instance SurvUL.nil {B : Nat} : SurvUL B [] := ⟨fun _ h => by cases h⟩
instance SurvUL.cons {B r : Nat} {L : List Loc} {T : VTy} [a : SurvU B T] [k : SurvUL B L] : SurvUL B ((r, T) :: L) := ⟨fun p hp => by
  rcases List.mem_cons.1 hp with rfl | hp
  · exact a.ok
  · exact k.ok p hp⟩
section
variable {P : Program} {w00 w : World} {X : List Nat} {L : List Loc} {E E0 : List (Nat × VTy)} {n : Nat} {a : Act} {Q : Exit → Act → World → Prop} {ops : Array Oper} {rest : List Oper}
theorem TS.ch {B : Nat} {w' : World} (h : TS w00 X L E n a w) (hs : Ch B X w w') (hB : w00.heap.size ≤ B) [kL : SurvUL B L] [kE : SurvUL B E] : TS w00 X L E n a w' := by
  refine ⟨h.size, h.df, fun p hp => kE.ok p hp (h.slots p hp) hs, ⟨fun p hp => ?_, fun b hb => Nat.lt_of_lt_of_le (h.mem.far b hb) hs.size, h.mem.nodup, ?_⟩⟩
  · obtain ⟨g1, g2, v, ty, g3, g4⟩ := h.mem.loc p hp
    refine ⟨g1, g2, v, ty, kL.ok p hp g3 hs, ?_⟩
    rcases hs.block p.1 (h.mem.far _ g1) with e | ⟨_, g⟩
    · exact e.trans g4
    · exact absurd g1 g
  · refine h.mem.below.trans ⟨hs.os, hs.tape, hs.output, hs.size, fun b hb => ?_⟩
    rcases hs.block b (Nat.lt_of_lt_of_le hb h.mem.below.size) with e | ⟨g, _⟩
    · exact e
    · omega
/-- Append of one element to a row of the call's own. -/
theorem sq_append {α : Type} {r : Rp α} {e t t0 : TypeId} {pos : String} {af : Array Edge} {p : α → Prop} {B s x d bytes : Nat} {l : List α} {y : α} (ss : List Nat) (h : TS w00 X L E n a w) (hB0 : w00.heap.size ≤ B) [sz : SzC L B] [hs : Look E s (.ow r e p B l)] [hx : Look E x (.r1 r e p y)] [k : KeepC E ss E0] [kL : SurvUL B L] [kE : SurvUL B E0] (T : ElemV P t e r.k bytes)
    (hlen : l.length ≤ 1000000) (hby : bytes ≤ 1000) (hd : (Nat.blt d n && !(E0.map Prod.fst).elem d) = true)
    (next : ∀ a w, TS w00 X L ((d, .ow r e p B (l ++ [y])) :: E0) n a w → WL P ops Q rest a w) : WL P ops Q (⟨some d, .call { callee := .builtin .append, args := #[.tmp s, .tmp x], argTypes := #[t, t] }, t0, pos, af, none⟩ :: rest) a w := by
  simp only [Bool.and_eq_true, Bool.not_eq_true'] at hd
  have hBw := sz.ok h.mem
  obtain ⟨A, c, ps, es, hps, hrd, hown, hfree, _⟩ := h.slots _ hs.mem
  obtain ⟨hp, b, o, cs, ex, hb, hra, hrc⟩ := h.slots _ hx.mem
  have hcl := r.len hrc
  have hpos := T.pos
  have hmx : l.length + 1 ≤ maxLen := by unfold maxLen; omega
  have hsl : SlV r.k w w.heap.size (some ⟨b, o, none⟩) 1 1 cs := ⟨by rw [hcl]; omega, Nat.le_refl _, by unfold maxLen; omega, (fun h => by cases h), fun _ => ⟨b, o, rfl, hb.1, fun j u hu => hra j u hu⟩⟩
  obtain ⟨A', c', w', hr, h2, h3, h4⟩ := run_appV (A := A) (A2 := some ⟨b, o, none⟩) T t0 hown hsl (r.one hrc) (by have := Nat.mul_le_mul (show l.length + 1 ≤ 1000001 by omega) hby; omega) hmx hBw
  have hch : Ch B X w w' := ⟨h3.os, h3.tape, h3.output, h3.size, fun g hg => by
    by_cases hA : blk A = some g
    · exact .inr ⟨(hown.blk_ g hA).1, (hfree g hA).2⟩
    · exact .inl (h3.block g hg (fun e => hA e.symm))⟩
  have hkK : ∀ g, FreeK e X w g → w'.heap[g]? = w.heap[g]? := fun g hg => h3.block g hg.1.1 (fun e' => by
    obtain ⟨cur, hcur⟩ := hown.type e'.symm
    obtain ⟨_, cs', t', f', h5, h6⟩ := hg
    rw [hcur] at h5
    injection h5 with h5
    injection h5 with _ h5 _
    exact h6 h5.symm)
  have hmoreK : ∀ g, FreeK e X w g → FreeK e X w' g := fun g hg => by
    obtain ⟨h1, cs', t', f', h5, h6⟩ := hg
    exact ⟨⟨Nat.lt_of_lt_of_le h1.1 h3.size, h1.2⟩, cs', t', f', (hkK g ⟨h1, cs', t', f', h5, h6⟩).trans h5, h6⟩
  have hT : (VTy.ow r e p B (l ++ [y])).holds X w' (.slice A' (l.length + 1) c') := by
    refine ⟨A', c', ps ++ [(y, cs)], by simp, by simp [hps], fun q hq => ?_, by simpa using h2, fun g hg => ?_, fun h => by simp at h⟩
    · rcases List.mem_append.1 hq with hq | hq
      · exact ⟨(hrd q hq).1, r.more (r.keep (hrd q hq).2 hkK) hmoreK⟩
      · rw [List.mem_singleton.1 hq]
        exact ⟨hp, r.more (r.keep hrc hkK) hmoreK⟩
    · have hlt := (h2.blk_ g hg).2
      rcases h4 g hg with h5 | h5
      · exact ⟨hlt, (hfree g h5).2⟩
      · exact ⟨hlt, fun hx => by have := h.mem.far g hx; omega⟩
  have h5 := (h.keep (E' := E0) ss).ch hch hB0
  refine ⟨wpList_plain rfl fun K hK' => ?_⟩
  have e1 : a.eval (.tmp s) = .slice A l.length c := es
  have e2 : a.eval (.tmp x) = .slice (some ⟨b, o, none⟩) 1 1 := ex
  unfold Oper.wp execOp
  simp only [resolve, invoke, builtin, Sem.run_bind, Sem.run_pure, Result.andThen_ok, List.map_toArray, List.map_cons, List.map_nil, e1, e2, hr]
  exact hK' _ _ (next _ _ (h5.new hd.2 (by rw [← Nat.blt_eq]; exact hd.1) hT (Below.refl _ _))).out
/-- The same, the state in the goal. -/
theorem g_append {α : Type} {r : Rp α} {e t t0 : TypeId} {pos : String} {af : Array Edge} {p : α → Prop} {B s x d bytes : Nat} {l : List α} {y : α} {cs : List Code} (ss : List Nat) (hB0 : w00.heap.size ≤ B) [sz : SzC L B] [hs : Look E s (.ow r e p B l)] [hx : Look E x (.r1 r e p y)] [k : KeepC E ss E0] [kL : SurvUL B L] [kE : SurvUL B E0] (T : ElemV P t e r.k bytes)
    (hlen : l.length ≤ 1000000) (hby : bytes ≤ 1000) (hd : (Nat.blt d n && !(E0.map Prod.fst).elem d) = true)
    (h : GR P w00 X L ((d, .ow r e p B (l ++ [y])) :: E0) n ops rest cs Q) : GR P w00 X L E n ops (⟨some d, .call { callee := .builtin .append, args := #[.tmp s, .tmp x], argTypes := #[t, t] }, t0, pos, af, none⟩ :: rest) cs Q := ⟨fun _ _ ht => sq_append ss ht hB0 T hlen hby hd fun a w h' => h.run a w h'⟩
theorem TS.cast {s : Nat} {T T' : VTy} (h : TS w00 X L ((s, T) :: E) n a w) (hT : ∀ X w v, T.holds X w v → T'.holds X w v) : TS w00 X L ((s, T') :: E) n a w := ⟨h.size, h.df, fun p hp => by
  rcases List.mem_cons.1 hp with rfl | hp
  · exact hT _ _ _ (h.slots _ List.mem_cons_self)
  · exact h.slots p (List.mem_cons_of_mem _ hp), h.mem⟩
theorem TS.ageE {s : Nat} {T : VTy} (h : TS w00 X L ((s, T) :: E) n a w) : TS w00 X L ((s, .und w.heap.size T) :: E) n a w := ⟨h.size, h.df, fun p hp => by
  rcases List.mem_cons.1 hp with rfl | hp
  · exact und_new (h.slots _ List.mem_cons_self)
  · exact h.slots p (List.mem_cons_of_mem _ hp), h.mem⟩
end
theorem elemQ4 : ElemV Tryz.prog 46 31 4 64 := ⟨Tryz.underlying46, by decide, by
  obtain ⟨i, h1, h2, h3, h4⟩ : ∃ i, Tryz.prog.info? 31 = some i ∧ i.zero = some (.agg #[.bool false, .slice none 0 0, .bool false, .slice none 0 0]) ∧ i.size = 4 ∧ i.bytes = 64 := info_parts (by kernel_rfl)
  exact ⟨i, _, h1, h2, h3, h4, rfl⟩⟩
/-- A fraction of the reference's, whose rows of limbs are no rows of fractions. -/
abbrev VTy.kq (x : RawQ) (L : Nat) : VTy := .kx Rp.frac 31 (fewQ L) x
abbrev VTy.kn (x : RawI) (L : Nat) : VTy := .kx Rp.num 31 (fun y => y.2.length ≤ L) x
abbrev VTy.kr (x : RawQ) (L : Nat) : VTy := .r1 Rp.frac 31 (fewQ L) x
abbrev VTy.oq (B L : Nat) (l : List RawQ) : VTy := .ow Rp.frac 31 (fewQ L) B l
theorem kx_ex {α : Type} {r : Rp α} {e : TypeId} {p : α → Prop} {a : α} {X : List Nat} {w : World} {v : Value} (h : (VTy.kx r e p a).holds X w v) : (VTy.ex r (fun y => y = a ∧ p y)).holds X w v := by
  obtain ⟨hp, cs, rfl, h⟩ := h
  exact ⟨a, ⟨rfl, hp⟩, cs, rfl, r.unK h⟩
instance {α : Type} {r : Rp α} {e : TypeId} {p : α → Prop} {a : α} : SizeV (.kx r e p a) r.k true := ⟨fun h => (inferInstance : SizeV (.ex r _) r.k true).ok (kx_ex h)⟩
instance {α : Type} {r : Rp α} {e : TypeId} {p : α → Prop} {a : α} : SizeV (.r1 r e p a) 1 false := ⟨fun {X w v} ⟨_, b, o, cs, h, _⟩ => by rw [h]; exact ⟨rfl, by simp [Value.cells, Value.oneCell'], (fun h => by cases h), fun _ => rfl⟩⟩
instance {e : TypeId} {p : RawQ → Prop} {x : RawQ} : SizeV (.kx Rp.frac e p x) 4 true := inferInstanceAs (SizeV (.kx Rp.frac e p x) Rp.frac.k true)
/-- As a row whose elements have a property. -/
class AsW {α : outParam Type} (T : VTy) (r : outParam (Rp α)) (p : outParam (α → Prop)) (l : outParam (List α)) : Prop where
  ok : ∀ {X w v}, T.holds X w v → (VTy.rw r p l).holds X w v
instance {α : Type} {r : Rp α} {p : α → Prop} {l : List α} : AsW (.rw r p l) r p l := ⟨fun h => h⟩
instance {α : Type} {r : Rp α} {p : α → Prop} {l : List α} {T : VTy} {B : Nat} [a : AsW T r p l] : AsW (.und B T) r p l := ⟨fun h => a.ok (und_weak h)⟩
instance {α : Type} {r : Rp α} {e : TypeId} {p : α → Prop} {B : Nat} {l : List α} : AsW (.ow r e p B l) r p l := ⟨ow_rw⟩
instance {p : RawQ → Prop} {x : RawQ} : AsZ (.el Rp.frac p x) x := ⟨fun ⟨y, h, g⟩ => ⟨y, h.1, g⟩⟩
theorem few_all {X : List Nat} {w : World} {v : Value} {l : List RawQ} {p p' : RawQ → Prop} (h : (VTy.rw Rp.frac p l).holds X w v) (hp : ∀ x ∈ l, p' x) : (VTy.rw Rp.frac p' l).holds X w v := ⟨hp, h.2⟩
section
variable {w00 : World} {N : Nat} {L : List Loc} {E : List (Nat × VTy)} {d : Nat} {t0 : TypeId} {pos : String} {af : Array Edge} {gd : Option (Nat × Bool)} {ats : Array TypeId}
theorem st_lenW {α : Type} {r : Rp α} {p : α → Prop} {l : List α} {s k : Nat} {ty : TypeId} {T : VTy} [ho : Look E s T] [aw : AsW T r p l] [ht : SliceC Tryz.prog ty k] : StepT Tryz.prog w00 N L E ⟨some d, .call { callee := .builtin .len, args := #[.tmp s], argTypes := #[ty] }, t0, pos, af, gd⟩ (.is (.int .i64 l.length)) := by
  constructor
  intro X ρ w hc _ hN hm hsl
  obtain ⟨_, A, n, c, e, h⟩ := aw.ok (hsl _ ho.mem (by simp [Op.operands, Call.operands]))
  have e1 : ρ (.tmp s) = .slice A n c := by simpa using e
  obtain ⟨el, hu, _⟩ := ht.ok
  have hl := h.1
  clear hc hsl ho ht h e hm
  unfold Yields
  go_simp
  exact ⟨rfl, Below.refl _ _⟩
theorem st_indexW {α : Type} {r : Rp α} {p : α → Prop} {l : List α} {a : α} {o oi : Operand} {ty : TypeId} {j : Nat} {T : VTy} [ho : OpC E o T] [aw : AsW T r p l] [hi : OpC E oi (.is (.int .i64 (j : Int)))] [ht : SliceC Tryz.prog ty r.k] (ha : l[j]? = some a) : StepT Tryz.prog w00 N L E ⟨some d, .indexAddr ty o oi, t0, pos, af, gd⟩ (.pe r p a) := by
  constructor
  intro X ρ w hc hf hN hm hsl
  have h1 := aw.ok (ho.get (X := X) (w := w) hc fun p hp e => hsl p hp (by simp [Op.operands, e]))
  have h2 := hi.get (X := X) (w := w) hc fun p hp e => hsl p hp (by simp [Op.operands, e])
  -- over two slots that hold just these
  have st := (st_indexAddr' (P := Tryz.prog) (w00 := w00) (N := N) (L := L) (E := [(0, .rw r p l), (1, .is (.int .i64 (j : Int)))]) (d := d) (t0 := t0) (pos := pos) (af := af) (gd := gd) (o := .tmp 0) (oi := .tmp 1) (ty := ty) (j := j) ha).run X (fun x => match x with | .tmp 0 => ρ o | .tmp 1 => ρ oi | y => ρ y) w (fun c => hc c) (fun f => hf f) hN hm (fun q hq _ => by
    rcases List.mem_cons.1 hq with rfl | hq
    · exact h1
    · rw [List.mem_singleton.1 hq]; exact h2)
  exact st
end
theorem Own.type {k : IntKind} {e : TypeId} {w : World} {B : Nat} {A : Option Addr} {n c : Nat} {xs : List Int} (h : Own k e w B A n c xs) {g : Nat} (hg : blk A = some g) : ∃ cur, w.heap[g]? = some (.cells cur e (0, 0)) := by
  rcases h.2 with ⟨h1, _⟩ | ⟨g', cap, cur, h1, h2, h3, h4⟩
  · injection h1 with h1
    rw [h1] at hg; cases hg
  · injection h1 with h1
    rw [h1] at hg
    injection hg with hg
    subst hg
    exact ⟨cur, h3⟩
section
variable {w00 : World} {N : Nat} {L : List Loc} {E : List (Nat × VTy)} {d : Nat} {t0 : TypeId} {pos : String} {af : Array Edge} {gd : Option (Nat × Bool)} {ats : Array TypeId}
set_option maxRecDepth 20000 in
/-- A row of one. -/
theorem st_build1 {o0 : Operand} {x : RawQ} {L0 : Nat} [h0 : OpC E o0 (.kq x L0)] : StepT Tryz.prog w00 N L E ⟨some d, .buildSlice 46 1 #[(0, o0)], t0, pos, af, gd⟩ (.kr x L0) := by
  constructor
  intro X ρ w hc _ hN hm hsl
  obtain ⟨a2, cs, e0, g0⟩ := h0.get (X := X) (w := w) hc fun p hp e => hsl p hp (by simp [Op.operands, e])
  obtain ⟨c1, c2, rfl, r1, r2⟩ := frac_rd.1 g0
  obtain ⟨A, n, c, rfl, _⟩ := num_rd.1 r1
  obtain ⟨A2, n2, c2, rfl, _⟩ := num_rd.1 r2
  have hb : Below w.heap.size w (w.alloc (.cells #[.bool x.1.1, .slice A n c, .bool x.2.1, .slice A2 n2 c2] 31)) := (Below.refl _ _).alloc (Nat.le_refl _) _
  have hT : (VTy.kr x L0).holds X (w.alloc (.cells #[.bool x.1.1, .slice A n c, .bool x.2.1, .slice A2 n2 c2] 31)) (.slice (some ⟨w.heap.size, 0, none⟩) 1 1) := by
    refine ⟨a2, w.heap.size, 0, _, rfl, ⟨by rw [size_one]; omega, fun hx => by have := hm.far _ hx; omega⟩, ?_, Rp.upK Rp.frac g0 (Below.keeps hb X) fun _ h _ => h⟩
    intro j u hj
    have := rangeAt_new (w := w) (T := 31) (pre := []) (cs := [.bool x.1.1, .slice A n c, .bool x.2.1, .slice A2 n2 c2]) (ds := [.bool x.1.1, .slice A n c, .bool x.2.1, .slice A2 n2 c2]) (List.prefix_refl _) j u hj
    simpa using this
  have e0' : ρ o0 = .agg #[.bool x.1.1, .slice A n c, .bool x.2.1, .slice A2 n2 c2] := e0
  have HT := Lib.hid hT
  have HB := Lib.hid hb
  clear hT hb hsl hm hc g0 r1 r2 h0 e0
  unfold Yields
  go_simp
  exact ⟨HT.out, HB.out⟩
end
section
variable {w00 : World} {N : Nat} {L : List Loc} {E : List (Nat × VTy)} {d : Nat} {t0 : TypeId} {pos : String} {af : Array Edge} {gd : Option (Nat × Bool)} {ats : Array TypeId}
/-- As a row of one. -/
class AsO (T : VTy) (y : outParam RawQ) (K : outParam Nat) : Prop where
  ok : ∀ {X w v}, T.holds X w v → (VTy.kr y K).holds X w v
instance {y : RawQ} {K : Nat} : AsO (.kr y K) y K := ⟨fun h => h⟩
instance {y : RawQ} {K B : Nat} {T : VTy} [a : AsO T y K] : AsO (.und B T) y K := ⟨fun h => a.ok (und_weak h)⟩
end
instance {L : Nat} {l : List RawQ} : AsW (.rq L l) Rp.frac (fewQ L) l := ⟨fun h => h⟩
instance {B L : Nat} {qs : List Rat} {T : VTy} [a : AsR T qs L] : AsR (.und B T) qs L := ⟨fun h => a.ok (und_weak h)⟩
def VTy.nany : VTy := VTy.ex Rp.num (fun _ => True)
def VTy.qany : VTy := VTy.ex Rp.frac (fun _ => True)
def VTy.rany (n : Nat) : VTy := ⟨fun X w v => ∃ l : List RawQ, l.length = n ∧ (VTy.rw Rp.frac (fun _ => True) l).holds X w v, fun ⟨l, e, h⟩ hk hX => ⟨l, e, (VTy.rw Rp.frac (fun _ => True) l).stable h hk hX⟩⟩
class AnyN (T : VTy) : Prop where
  ok : ∀ {X w v}, T.holds X w v → VTy.nany.holds X w v
theorem ex_nany {p : RawI → Prop} {X : List Nat} {w : World} {v : Value} (h : (VTy.ex Rp.num p).holds X w v) : VTy.nany.holds X w v := ⟨h.choose, trivial, h.choose_spec.2⟩
instance : AnyN .nany := ⟨fun h => h⟩
instance {N : Int} {L : Nat} : AnyN (.nc N L) := ⟨ex_nany⟩
class AnyQ (T : VTy) : Prop where
  ok : ∀ {X w v}, T.holds X w v → VTy.qany.holds X w v
theorem ex_qany {p : RawQ → Prop} {X : List Nat} {w : World} {v : Value} (h : (VTy.ex Rp.frac p).holds X w v) : VTy.qany.holds X w v := ⟨h.choose, trivial, h.choose_spec.2⟩
instance : AnyQ .qany := ⟨fun h => h⟩
instance {q : Rat} {L : Nat} : AnyQ (.qc q L) := ⟨ex_qany⟩
instance {p : RawQ → Prop} {x : RawQ} : AnyQ (.el Rp.frac p x) := ⟨ex_qany⟩
class AnyW (T : VTy) : Prop where
  ok : ∀ {X w v}, T.holds X w v → ∃ n, (VTy.rany n).holds X w v
instance {n : Nat} : AnyW (.rany n) := ⟨fun h => ⟨n, h⟩⟩
instance {qs : List Rat} {L : Nat} : AnyW (.rv qs L) := ⟨fun ⟨l, _, h⟩ => ⟨l.length, l, rfl, few_all (p := fewQ L) h fun _ _ => trivial⟩⟩
instance : AnyW (.is (.slice none 0 0)) := ⟨fun {X w v} h => ⟨0, [], rfl, by
  obtain rfl : v = _ := h
  exact ⟨(fun _ h => by cases h), none, 0, 0, rfl, rfl, Nat.le_refl _, Nat.zero_le _, fun _ => rfl, fun h => absurd h (by omega)⟩⟩⟩
theorem qany_qz {X : List Nat} {w : World} {v : Value} (h : VTy.qany.holds X w v) : ∃ x, (VTy.qz x).holds X w v := by
  obtain ⟨x, _, g⟩ := h
  exact ⟨x, x, rfl, g⟩
theorem wrap_small {z : Int} (h : -9223372036854775808 ≤ z ∧ z ≤ 9223372036854775807) : IntKind.i64.wrap z = z := by rw [IntKind.wrap_i64]; omega
section
variable {w00 : World} {N : Nat} {L : List Loc} {E : List (Nat × VTy)} {d : Nat} {t0 : TypeId} {pos : String} {af : Array Edge} {gd : Option (Nat × Bool)} {ats : Array TypeId}
end
section
variable {w00 : World} {N : Nat} {L : List Loc} {E : List (Nat × VTy)} {d : Nat} {t0 : TypeId} {pos : String} {af : Array Edge} {gd : Option (Nat × Bool)} {ats : Array TypeId}
theorem num0 {X : List Nat} {w : World} (b : Bool) : Rp.num.rd w (Free X w) (b, []) [.bool b, .slice none 0 0] := num_rd.2 ⟨none, 0, 0, rfl, ⟨Sl.nil, fun h => by omega⟩, Dg.nil⟩
set_option maxRecDepth 20000 in
theorem st_bnB {b : Bool} : StepT Tryz.prog w00 N L E ⟨some d, .build 24 #[(0, .const (.bool b))], t0, pos, af, gd⟩ .nany := by
  constructor
  intro X ρ w hc _ hN hm hsl
  have e2 := hc (.bool b)
  have hT : VTy.nany.holds X w (.agg #[.bool b, .slice none 0 0]) := ⟨(b, []), trivial, _, rfl, num0 b⟩
  have HT := Lib.hid hT
  clear hT hsl hm
  unfold Yields
  go_simp
  exact ⟨HT.out, Below.refl _ _⟩
set_option maxRecDepth 20000 in
theorem st_bq0 : StepT Tryz.prog w00 N L E ⟨some d, .build 26 #[], t0, pos, af, gd⟩ .qany := by
  constructor
  intro X ρ w hc _ hN hm hsl
  have hT : VTy.qany.holds X w (.agg #[.bool false, .slice none 0 0, .bool false, .slice none 0 0]) := ⟨((false, []), (false, [])), trivial, [.bool false, .slice none 0 0] ++ [.bool false, .slice none 0 0], rfl, _, _, rfl, num0 false, num0 false⟩
  have HT := Lib.hid hT
  clear hT hsl hm
  unfold Yields
  go_simp
  exact ⟨HT.out, Below.refl _ _⟩
set_option maxRecDepth 20000 in
theorem st_bqN {o0 : Operand} [h0 : OpC E o0 .nany] : StepT Tryz.prog w00 N L E ⟨some d, .build 26 #[(0, o0)], t0, pos, af, gd⟩ .qany := by
  constructor
  intro X ρ w hc _ hN hm hsl
  obtain ⟨x0, _, cs0, e0, g0⟩ := h0.get (X := X) (w := w) hc fun p hp e => hsl p hp (by simp [Op.operands, e])
  obtain ⟨A0, n0, c0, rfl, _⟩ := num_rd.1 g0
  have e0' : ρ o0 = .agg #[.bool x0.1, .slice A0 n0 c0] := e0
  have hT : VTy.qany.holds X w (.agg #[.bool x0.1, .slice A0 n0 c0, .bool false, .slice none 0 0]) := ⟨(x0, (false, [])), trivial, [.bool x0.1, .slice A0 n0 c0] ++ [.bool false, .slice none 0 0], rfl, _, _, rfl, g0, num0 false⟩
  clear e0 g0 h0
  have HT := Lib.hid hT
  clear hT hsl hm
  unfold Yields
  go_simp
  exact ⟨HT.out, Below.refl _ _⟩
set_option maxRecDepth 20000 in
theorem st_bqND {o0 : Operand} {o1 : Operand} [h0 : OpC E o0 .nany] [h1 : OpC E o1 .nany] : StepT Tryz.prog w00 N L E ⟨some d, .build 26 #[(0, o0), (1, o1)], t0, pos, af, gd⟩ .qany := by
  constructor
  intro X ρ w hc _ hN hm hsl
  obtain ⟨x0, _, cs0, e0, g0⟩ := h0.get (X := X) (w := w) hc fun p hp e => hsl p hp (by simp [Op.operands, e])
  obtain ⟨A0, n0, c0, rfl, _⟩ := num_rd.1 g0
  have e0' : ρ o0 = .agg #[.bool x0.1, .slice A0 n0 c0] := e0
  obtain ⟨x1, _, cs1, e1, g1⟩ := h1.get (X := X) (w := w) hc fun p hp e => hsl p hp (by simp [Op.operands, e])
  obtain ⟨A1, n1, c1, rfl, _⟩ := num_rd.1 g1
  have e1' : ρ o1 = .agg #[.bool x1.1, .slice A1 n1 c1] := e1
  have hT : VTy.qany.holds X w (.agg #[.bool x0.1, .slice A0 n0 c0, .bool x1.1, .slice A1 n1 c1]) := ⟨(x0, x1), trivial, [.bool x0.1, .slice A0 n0 c0] ++ [.bool x1.1, .slice A1 n1 c1], rfl, _, _, rfl, g0, g1⟩
  clear e0 g0 h0 e1 g1 h1
  have HT := Lib.hid hT
  clear hT hsl hm
  unfold Yields
  go_simp
  exact ⟨HT.out, Below.refl _ _⟩
theorem few_big (xs : List (RawQ × List Value)) : ∃ L, ∀ p ∈ xs, fewQ L p.1 := by
  induction xs with
  | nil => exact ⟨1, fun _ h => by cases h⟩
  | cons y xs ih =>
    obtain ⟨L, h⟩ := ih
    refine ⟨L + y.1.1.2.length + y.1.2.2.length + 1, fun p hp => ?_⟩
    rcases List.mem_cons.1 hp with rfl | hp
    · exact ⟨by omega, by omega, by omega⟩
    · obtain ⟨h1, h2, h3⟩ := h p hp
      exact ⟨by omega, by omega, by omega⟩
theorem rany_new {X : List Nat} {w : World} {T : TypeId} (hX : ∀ b ∈ X, b < w.heap.size) (xs : List (RawQ × List Value)) (h : ∀ p ∈ xs, Rp.frac.rd w (Free X w) p.1 p.2) (hl : xs.length ≤ 100) :
    (VTy.rany xs.length).holds X (w.alloc (.cells (xs.flatMap Prod.snd).toArray T)) (.slice (some ⟨w.heap.size, 0, none⟩) xs.length xs.length) := by
  obtain ⟨K, hK⟩ := few_big xs
  exact ⟨xs.map Prod.fst, by simp, few_all (p := fewQ K) (rv_new (T := T) hX xs (fun p hp => ⟨hK p hp, h p hp⟩) hl) fun _ _ => trivial⟩
theorem qany_cells {X : List Nat} {w : World} {v : Value} (h : VTy.qany.holds X w v) : ∃ x A n c A2 n2 c2, v = .agg #[.bool x.1.1, .slice A n c, .bool x.2.1, .slice A2 n2 c2] ∧ Rp.frac.rd w (Free X w) x [.bool x.1.1, .slice A n c, .bool x.2.1, .slice A2 n2 c2] := by
  obtain ⟨x, _, cs, rfl, c1, c2, rfl, g1, g2⟩ := h
  obtain ⟨A, n, c, rfl, _⟩ := num_rd.1 g1
  obtain ⟨A2, n2, c2, rfl, _⟩ := num_rd.1 g2
  exact ⟨x, A, n, c, A2, n2, c2, rfl, _, _, rfl, g1, g2⟩
set_option maxRecDepth 40000 in
set_option maxHeartbeats 4000000 in
theorem st_row2 {o0 o1 : Operand} {T0 T1 : VTy} [h0 : OpC E o0 T0] [a0 : AnyQ T0] [h1 : OpC E o1 T1] [a1 : AnyQ T1] : StepT Tryz.prog w00 N L E ⟨some d, .buildSlice 48 2 #[(0, o0), (1, o1)], t0, pos, af, gd⟩ (.rany 2) := by
  constructor
  intro X ρ w hc _ hN hm hsl
  obtain ⟨x0, A0, n0, c0, B0, m0, k0, e0, g0⟩ := qany_cells (a0.ok (h0.get (X := X) (w := w) hc fun p hp e => hsl p hp (by simp [Op.operands, e])))
  obtain ⟨x1, A1, n1, c1, B1, m1, k1, e1, g1⟩ := qany_cells (a1.ok (h1.get (X := X) (w := w) hc fun p hp e => hsl p hp (by simp [Op.operands, e])))
  have hR := rany_new (X := X) (w := w) (T := 26) hm.far [(x0, [.bool x0.1.1, .slice A0 n0 c0, .bool x0.2.1, .slice B0 m0 k0]), (x1, [.bool x1.1.1, .slice A1 n1 c1, .bool x1.2.1, .slice B1 m1 k1])] (by
    intro p hp
    simp only [List.mem_cons, List.not_mem_nil, or_false] at hp
    rcases hp with rfl | rfl
    · exact g0
    · exact g1) (by simp)
  have HR := Lib.hid hR
  clear hR hsl hm hc g0 h0 a0 g1 h1 a1
  unfold Yields
  go_simp
  exact ⟨HR.out, (Below.refl _ _).alloc (Nat.le_refl _) _⟩
end
theorem yields_mono {P : Program} {o : Oper} {ρ : Operand → Value} {w : World} {Q Q' : Value → World → Prop} (h : Yields P o ρ w Q) (hq : ∀ v w', Q v w' → Q' v w') : Yields P o ρ w Q' := by
  unfold Yields at h ⊢
  split at h
  · exact hq _ _ h
  · exact Calls.mono h fun e w' ⟨v, e1, h1⟩ => ⟨v, e1, hq _ _ h1⟩
  · exact h.elim
/-- Where some fraction, some number, lies. -/
def VTy.pany : VTy := ⟨fun X w v => ∃ x, (VTy.pe Rp.frac (fun _ => True) x).holds X w v, fun ⟨x, h⟩ hk hX => ⟨x, (VTy.pe Rp.frac (fun _ => True) x).stable h hk hX⟩⟩
section
variable {w00 : World} {N : Nat} {L : List Loc} {E : List (Nat × VTy)} {d : Nat} {t0 : TypeId} {pos : String} {af : Array Edge} {gd : Option (Nat × Bool)} {ats : Array TypeId}
theorem st_lenR {s n k : Nat} {ty : TypeId} [ho : Look E s (.rany n)] [ht : SliceC Tryz.prog ty k] : StepT Tryz.prog w00 N L E ⟨some d, .call { callee := .builtin .len, args := #[.tmp s], argTypes := #[ty] }, t0, pos, af, gd⟩ (.is (.int .i64 (n : Int))) := by
  constructor
  intro X ρ w hc hf hN hm hsl
  obtain ⟨l, rfl, hl⟩ := hsl _ ho.mem (by simp [Op.operands, Call.operands])
  have st := (st_len' (P := Tryz.prog) (w00 := w00) (N := N) (L := L) (E := [(s, .rw Rp.frac (fun _ => True) l)]) (d := d) (t0 := t0) (pos := pos) (af := af) (gd := gd) (s := s) (ty := ty) (k := k)).run X ρ w hc hf hN hm (fun q hq _ => by rw [List.mem_singleton.1 hq]; exact hl)
  exact st
theorem st_indexR {o oi : Operand} {ty : TypeId} {j n : Nat} [ho : OpC E o (.rany n)] [hi : OpC E oi (.is (.int .i64 (j : Int)))] [ht : SliceC Tryz.prog ty 4] (hj : j < n) : StepT Tryz.prog w00 N L E ⟨some d, .indexAddr ty o oi, t0, pos, af, gd⟩ .pany := by
  constructor
  intro X ρ w hc hf hN hm hsl
  obtain ⟨l, rfl, h1⟩ := ho.get (X := X) (w := w) hc fun p hp e => hsl p hp (by simp [Op.operands, e])
  have h2 := hi.get (X := X) (w := w) hc fun p hp e => hsl p hp (by simp [Op.operands, e])
  obtain ⟨x, hx⟩ : ∃ x, l[j]? = some x := ⟨_, List.getElem?_eq_getElem hj⟩
  haveI : SliceC Tryz.prog ty Rp.frac.k := ht
  have st := (st_indexAddr' (P := Tryz.prog) (r := Rp.frac) (p := fun _ => True) (w00 := w00) (N := N) (L := L) (E := [(0, .rw Rp.frac (fun _ => True) l), (1, .is (.int .i64 (j : Int)))]) (d := d) (t0 := t0) (pos := pos) (af := af) (gd := gd) (o := .tmp 0) (oi := .tmp 1) (ty := ty) (j := j) hx).run X (fun x => match x with | .tmp 0 => ρ o | .tmp 1 => ρ oi | y => ρ y) w (fun c => hc c) (fun f => hf f) hN hm (fun q hq _ => by
    rcases List.mem_cons.1 hq with rfl | hq
    · exact h1
    · rw [List.mem_singleton.1 hq]; exact h2)
  exact yields_mono st fun v w' h => ⟨⟨x, h.1⟩, h.2⟩
theorem st_loadQ {s : Nat} [ho : Look E s .pany] : StepT Tryz.prog w00 N L E ⟨some d, .load 26 (.tmp s), t0, pos, af, gd⟩ .qany := by
  constructor
  intro X ρ w hc hf hN hm hsl
  obtain ⟨x, hx⟩ := hsl _ ho.mem (by simp [Op.operands])
  haveI : TyC Tryz.prog 26 Rp.frac.k true := inferInstanceAs (TyC Tryz.prog 26 4 true)
  have st := (st_loadE' (P := Tryz.prog) (r := Rp.frac) (p := fun _ => True) (a := x) (w00 := w00) (N := N) (L := L) (E := [(s, .pe Rp.frac (fun _ => True) x)]) (d := d) (t0 := t0) (pos := pos) (af := af) (gd := gd) (ty := 26) (s := s)).run X ρ w hc hf hN hm (fun q hq _ => by rw [List.mem_singleton.1 hq]; exact hx)
  exact yields_mono st fun v w' h => ⟨ex_qany h.1, h.2⟩
end
theorem openBig : OpenR Tryz.prog 24 Rp.num := OpenR.pair Tryz.underlying24 (OpenR.bool Tryz.underlying4 (by kernel_rfl)) (OpenR.limbs Tryz.underlying22 Tryz.underlying38 (by kernel_rfl) (by kernel_rfl)) rfl rfl (by kernel_rfl)
theorem openRat : OpenR Tryz.prog 26 Rp.frac := OpenR.pair Tryz.underlying26 openBig openBig rfl rfl (by kernel_rfl)
theorem openRats : OpenR Tryz.prog 48 Rp.frac.row := OpenR.row Tryz.underlying48 openRat (by kernel_rfl) (by decide)
theorem gives_true {P : Program} {f : FuncId} {args : Array Value} {X : List Nat} {w : World} (h : Calls P f args w (Gives X w (.is (.bool true)))) : Calls P f args w fun e w' => e = .returned (.bool true) ∧ Below w.heap.size w w' :=
  h.mono fun _ _ ⟨_, h1, h2, h3⟩ => ⟨by rw [h1, show _ = _ from h2], h3⟩
/-- A slot whose type hangs on the memory's sizes β 0 .. β bnd. -/
structure Ent where
  slot : Nat
  bnd : Nat
  ty : (Nat → Nat) → VTy
def Ent.at (β : Nat → Nat) (e : Ent) : Nat × VTy := (e.slot, e.ty β)
def Rise (β : Nat → Nat) (c : Nat) : Prop := ∀ i, i < c → β i ≤ β (i + 1)
def Ent.ok (e : Ent) : Prop := ∀ β β' : Nat → Nat, (∀ i, i ≤ e.bnd → β i = β' i) → e.ty β = e.ty β'
def Ent.old (p : Nat × VTy) : Ent := ⟨p.1, 0, fun _ => p.2⟩
def Ent.fix (d : Nat) (T : VTy) : Ent := ⟨d, 0, fun _ => T⟩
def Ent.cal (d c : Nat) (T : Nat → VTy) : Ent := ⟨d, c + 1, fun β => .und (β (c + 1)) (T (β c))⟩
/-- Operations in turn: a value; a call that comes c-th; a value that hangs on all calls so far. -/
inductive OpsB (P : Program) (w00 : World) (L : List Loc) : Nat → List Ent → List Oper → List Ent → List (Option (Nat × Bool)) → Prop
  | nil {c : Nat} {F : List Ent} : OpsB P w00 L c F [] F []
  | step {c : Nat} {F F' : List Ent} {o : Oper} {os : List Oper} {ks : List (Option (Nat × Bool))} {d : Nat} {T : VTy} (h : ∀ β, StepT P w00 0 L (F.map (Ent.at β)) o T) (hd : o.dst = some d) (t : OpsB P w00 L c (Ent.fix d T :: F) os F' ks) : OpsB P w00 L c F (o :: os) F' (none :: ks)
  | call {c : Nat} {F F' : List Ent} {o : Oper} {os : List Oper} {ks : List (Option (Nat × Bool))} {d : Nat} {T : Nat → VTy} (h : ∀ β, StepT P w00 (β c) L (F.map (Ent.at β)) o (T (β c))) (hd : o.dst = some d) (t : OpsB P w00 L (c + 1) (Ent.cal d c T :: F) os F' ks) : OpsB P w00 L c F (o :: os) F' (some (c, true) :: ks)
  | dep {c : Nat} {F F' : List Ent} {o : Oper} {os : List Oper} {ks : List (Option (Nat × Bool))} {d : Nat} {T : (Nat → Nat) → VTy} (h : ∀ β, Rise β (c + 1) → StepT P w00 0 L (F.map (Ent.at β)) o (T β)) (ho : ∀ β β' : Nat → Nat, (∀ i, i ≤ c + 1 → β i = β' i) → T β = T β') (hd : o.dst = some d) (t : OpsB P w00 L (c + 1) (⟨d, c + 1, T⟩ :: F) os F' ks) : OpsB P w00 L (c + 1) F (o :: os) F' (some (c, false) :: ks)
section
variable {P : Program} {w00 : World} {X : List Nat} {L : List Loc} {n : Nat} {Q : Exit → Act → World → Prop}
/-- What is known of the i-th. -/
def AtB (P : Program) (w00 : World) (L : List Loc) (F : List Ent) (o : Oper) : Option (Nat × Bool) → Prop
  | none => ∃ d T, o.dst = some d ∧ Ent.fix d T ∈ F ∧ ∀ β, StepT P w00 0 L (F.map (Ent.at β)) o T
  | some (c, true) => ∃ d T, o.dst = some d ∧ Ent.cal d c T ∈ F ∧ ∀ β, StepT P w00 (β c) L (F.map (Ent.at β)) o (T (β c))
  | some (c, false) => ∃ d T, o.dst = some d ∧ (⟨d, c + 1, T⟩ : Ent) ∈ F ∧ (∀ β β' : Nat → Nat, (∀ i, i ≤ c + 1 → β i = β' i) → T β = T β') ∧ ∀ β, Rise β (c + 1) → StepT P w00 0 L (F.map (Ent.at β)) o (T β)
theorem StepT.moreN {N : Nat} {E E' : List (Nat × VTy)} {o : Oper} {T : VTy} (h : StepT P w00 N L E o T) (hs : ∀ p ∈ E, p ∈ E') : StepT P w00 N L E' o T := ⟨fun X ρ w hc hf hN hm hsl => h.run X ρ w hc hf hN hm fun p hp => hsl p (hs p hp)⟩
theorem map_at {F F' : List Ent} (h : ∀ e ∈ F, e ∈ F') (β : Nat → Nat) : ∀ p ∈ F.map (Ent.at β), p ∈ F'.map (Ent.at β) := fun p hp => by
  obtain ⟨e, he, rfl⟩ := List.mem_map.1 hp
  exact List.mem_map.2 ⟨e, h e he, rfl⟩
theorem OpsB.sub {c : Nat} {F F' : List Ent} {l : List Oper} {ks : List (Option (Nat × Bool))} (h : OpsB P w00 L c F l F' ks) : ∀ e ∈ F, e ∈ F' := by
  induction h with
  | nil => exact fun _ h => h
  | step _ _ _ ih => exact fun p hp => ih p (List.mem_cons_of_mem _ hp)
  | call _ _ _ ih => exact fun p hp => ih p (List.mem_cons_of_mem _ hp)
  | dep _ _ _ _ ih => exact fun p hp => ih p (List.mem_cons_of_mem _ hp)
theorem OpsB.len {c : Nat} {F F' : List Ent} {l : List Oper} {ks : List (Option (Nat × Bool))} (h : OpsB P w00 L c F l F' ks) : ks.length = l.length := by
  induction h with
  | nil => rfl
  | step _ _ _ ih => simp [ih]
  | call _ _ _ ih => simp [ih]
  | dep _ _ _ _ ih => simp [ih]
theorem OpsB.new {c : Nat} {F F' : List Ent} {l : List Oper} {ks : List (Option (Nat × Bool))} (h : OpsB P w00 L c F l F' ks) : ∀ e ∈ F', e ∈ F ∨ ∃ o ∈ l, o.dst = some e.slot := by
  induction h with
  | nil => exact fun _ h => .inl h
  | step _ hd _ ih =>
    intro p hp
    rcases ih p hp with h | ⟨q, h, h'⟩
    · rcases List.mem_cons.1 h with rfl | h
      · exact .inr ⟨_, List.mem_cons_self, hd⟩
      · exact .inl h
    · exact .inr ⟨q, List.mem_cons_of_mem _ h, h'⟩
  | call _ hd _ ih =>
    intro p hp
    rcases ih p hp with h | ⟨q, h, h'⟩
    · rcases List.mem_cons.1 h with rfl | h
      · exact .inr ⟨_, List.mem_cons_self, hd⟩
      · exact .inl h
    · exact .inr ⟨q, List.mem_cons_of_mem _ h, h'⟩
  | dep _ _ hd _ ih =>
    intro p hp
    rcases ih p hp with h | ⟨q, h, h'⟩
    · rcases List.mem_cons.1 h with rfl | h
      · exact .inr ⟨_, List.mem_cons_self, hd⟩
      · exact .inl h
    · exact .inr ⟨q, List.mem_cons_of_mem _ h, h'⟩
theorem OpsB.at {c : Nat} {F F' : List Ent} {l : List Oper} {ks : List (Option (Nat × Bool))} (h : OpsB P w00 L c F l F' ks) : ∀ (i : Nat) (o : Oper) (k : Option (Nat × Bool)), l[i]? = some o → ks[i]? = some k → AtB P w00 L F' o k := by
  induction h with
  | nil => intro i o k h; simp at h
  | @step c F F' o os ks d T hs hd t ih =>
    intro i o' k h1 h2
    cases i with
    | zero =>
      obtain rfl : o = o' := by simpa using h1
      obtain rfl : none = k := by simpa using h2
      exact ⟨d, T, hd, t.sub _ List.mem_cons_self, fun β => (hs β).moreN (map_at (fun e he => t.sub e (List.mem_cons_of_mem _ he)) β)⟩
    | succ i => exact ih i o' k (by simpa using h1) (by simpa using h2)
  | @call c F F' o os ks d T hs hd t ih =>
    intro i o' k h1 h2
    cases i with
    | zero =>
      obtain rfl : o = o' := by simpa using h1
      obtain rfl : some (c, true) = k := by simpa using h2
      exact ⟨d, T, hd, t.sub _ List.mem_cons_self, fun β => (hs β).moreN (map_at (fun e he => t.sub e (List.mem_cons_of_mem _ he)) β)⟩
    | succ i => exact ih i o' k (by simpa using h1) (by simpa using h2)
  | @dep c F F' o os ks d T hs ho hd t ih =>
    intro i o' k h1 h2
    cases i with
    | zero =>
      obtain rfl : o = o' := by simpa using h1
      obtain rfl : some (c, false) = k := by simpa using h2
      exact ⟨d, T, hd, t.sub _ List.mem_cons_self, ho, fun β hu => (hs β hu).moreN (map_at (fun e he => t.sub e (List.mem_cons_of_mem _ he)) β)⟩
    | succ i => exact ih i o' k (by simpa using h1) (by simpa using h2)
/-- Each call waits for the one ahead; what hangs on calls waits for the last of them. -/
def chkK (ops : Array Oper) (ks : List (Option (Nat × Bool))) (m : Nat) : Bool :=
  (List.range m).all fun i => match ks[i]? with
    | some (some (c, b)) => (b && Nat.beq c 0) || ((List.range m).any fun j => waitsB ops i j && (match ks[j]? with | some (some (c', true)) => Nat.beq (c' + (if b then 1 else 0)) c | _ => false))
    | _ => true
def uniqK (ks : List (Option (Nat × Bool))) (m : Nat) : Bool :=
  (List.range m).all fun i => (List.range m).all fun j => match ks[i]?, ks[j]? with
    | some (some (c, true)), some (some (c', true)) => Nat.beq i j || !Nat.beq c c'
    | _, _ => true
theorem wpAny_B {l : List Oper} {E : List (Nat × VTy)} {F' : List Ent} {ks : List (Option (Nat × Bool))} {m B : Nat} (ht : OpsB P w00 L 0 (E.map Ent.old) (l.take m) F' ks) (hc : (chkJ l.toArray (E.map Prod.fst) n m && chkK l.toArray ks m && uniqK ks m && distinctB (F'.map Ent.slot)) = true) (hfin : ∀ β a w, β 0 = B → TS w00 X L (F'.map (Ent.at β)) n a w → WL P l.toArray Q (l.drop m) a w) :
    ∀ (fuel : Nat) (listed : Array Bool) (a : Act) (w : World), listed.size = l.length → listed.getD m true = false → openN listed.toList ≤ fuel →
      (∀ i o, l[i]? = some o → listed.getD i false = true → ∀ e ∈ o.after.toList, Region.binds .any e = true → listed.getD e.on false = true) →
      (∃ j β E1, β 0 = B ∧ Rise β j ∧ (∀ i, i ≤ j → β i ≤ w.heap.size) ∧ (∀ i c, i < m → ks[i]? = some (some (c, true)) → (listed.getD i false = true ↔ c < j)) ∧ TS w00 X L E1 n a w ∧ ∀ e ∈ F', (e.slot ∈ E.map Prod.fst ∨ ∃ i o, l[i]? = some o ∧ listed.getD i false = true ∧ o.dst = some e.slot) → e.at β ∈ E1) → wpAny P .any l.toArray Q fuel listed a w := by
  rw [Bool.and_eq_true, Bool.and_eq_true, Bool.and_eq_true] at hc
  obtain ⟨⟨⟨hc, hck⟩, hun⟩, hdis⟩ := hc
  have hnd := nodup_of_distinctB hdis
  have heq : ∀ {e e' : Ent}, e ∈ F' → e' ∈ F' → e.slot = e'.slot → e = e' := by
    intro e e' h1 h2 he
    obtain ⟨i, hi⟩ := List.mem_iff_getElem?.1 h1
    obtain ⟨j, hj⟩ := List.mem_iff_getElem?.1 h2
    have hi' := (List.getElem?_eq_some_iff.1 hi)
    have hj' := (List.getElem?_eq_some_iff.1 hj)
    have : i = j := by
      refine (List.getElem_inj (h₀ := by simpa using hi'.1) (h₁ := by simpa using hj'.1) hnd).1 ?_
      simp [hi'.2, hj'.2, he]
    subst this
    rw [hi] at hj
    injection hj
  unfold chkJ at hc
  simp only [Bool.and_eq_true, List.all_eq_true, List.mem_range] at hc
  obtain ⟨⟨hsz, hall⟩, hw⟩ := hc
  have hsz : l.length = m + 1 := by have := Nat.eq_of_beq_eq_true hsz; simpa using this
  have hat : ∀ i, i < m + 1 → ∃ o, l[i]? = some o ∧ o.guard = none ∧ (∀ e ∈ o.after.toList, Region.binds .any e = true → e.on < i) ∧ (i < m → (∀ s, .tmp s ∈ o.op.operands.toList → s ∈ E.map Prod.fst ∨ ∃ e ∈ o.after.toList, Region.binds .any e = true ∧ ∃ oe, l[e.on]? = some oe ∧ oe.dst = some s) ∧ ∀ d, o.dst = some d → d < n ∧ d ∉ E.map Prod.fst) := by
    intro i hi
    obtain ⟨o, ho⟩ : ∃ o, l[i]? = some o := ⟨_, List.getElem?_eq_getElem (by omega)⟩
    have h := hall i hi
    rw [show l.toArray[i]? = some o by simpa using ho] at h
    simp only [Bool.and_eq_true, List.all_eq_true, Bool.or_eq_true, Bool.not_eq_true'] at h
    obtain ⟨⟨h1, h2⟩, h3⟩ := h
    refine ⟨o, ho, ?_, fun e he hb => ?_, fun him => ?_⟩
    · split at h1
      · assumption
      · cases h1
    · rcases h2 e he with h | h
      · rw [hb] at h; cases h
      · rwa [Nat.blt_eq] at h
    · rcases h3 with h3 | ⟨h3, h4⟩
      · have := Nat.eq_of_beq_eq_true h3; omega
      · refine ⟨fun s hs => ?_, fun d hd => ?_⟩
        · have := h3 _ hs
          simp only [Bool.or_eq_true, List.any_eq_true, Bool.and_eq_true] at this
          rcases this with h | ⟨e, he, hb, hd⟩
          · exact .inl (by simpa using h)
          · refine .inr ⟨e, he, hb, ?_⟩
            cases hoe : l[e.on]? with
            | none => rw [show l.toArray[e.on]? = none by simpa using hoe] at hd; simp at hd
            | some oe =>
              rw [show l.toArray[e.on]? = some oe by simpa using hoe, Option.bind_some] at hd
              cases hdo : oe.dst with
              | none => rw [hdo] at hd; simp at hd
              | some d => rw [hdo] at hd; exact ⟨oe, rfl, by rw [hdo, Nat.eq_of_beq_eq_true hd]⟩
        · rw [hd] at h4
          simp only [Bool.and_eq_true, Bool.not_eq_true'] at h4
          exact ⟨by have := h4.1; rwa [Nat.blt_eq] at this, by simpa using h4.2⟩
  have hlt : ∀ {i : Nat} {listed : Array Bool}, listed.size = l.length → i < m + 1 → ¬ listed.getD i false = true → listed.getD i true = false := by
    intro i listed hs hi h
    rw [Array.getD_eq_getD_getElem?, Array.getElem?_eq_getElem (by omega)] at h ⊢
    simpa using h
  have hrd : ∀ {listed : Array Bool}, listed.size = l.length → (∃ i, i < m + 1 ∧ ¬ listed.getD i false = true) → Region.ready .any l.toArray listed ≠ [] := by
    intro listed hs ⟨i, hi, hn⟩
    induction i using Nat.strongRecOn with
    | _ i ih =>
      obtain ⟨o, ho, _, he, _⟩ := hat i hi
      by_cases hd : ∃ e ∈ o.after.toList, Region.binds .any e = true ∧ ¬ listed.getD e.on false = true
      · obtain ⟨e, h1, h2, h3⟩ := hd
        exact ih e.on (he e h1 h2) (by have := he e h1 h2; omega) h3
      · intro h0
        have : i ∈ Region.ready .any l.toArray listed := mem_ready.2 ⟨hlt hs hi hn, o, by simpa using ho, fun e h1 h2 => Classical.byContradiction fun h3 => hd ⟨e, by simpa using h1, h2, h3⟩⟩
        rw [h0] at this
        cases this
  have hkl : ks.length = m := by rw [ht.len, List.length_take]; omega
  have hk : ∀ i c b, i < m → ks[i]? = some (some (c, b)) → (b = true ∧ c = 0) ∨ ∃ j c', waitsB l.toArray i j = true ∧ j < m ∧ ks[j]? = some (some (c', true)) ∧ c' + (if b then 1 else 0) = c := by
    intro i c b hi h
    unfold chkK at hck
    have h1 := List.all_eq_true.1 hck i (by simpa using hi)
    rw [h] at h1
    simp only [Bool.or_eq_true, Bool.and_eq_true, List.any_eq_true, List.mem_range] at h1
    rcases h1 with ⟨h1, h2⟩ | ⟨j, hj, h2, h3⟩
    · exact .inl ⟨h1, Nat.eq_of_beq_eq_true h2⟩
    · right
      split at h3
      · rename_i c' hj'
        exact ⟨j, c', h2, hj, hj', Nat.eq_of_beq_eq_true h3⟩
      · cases h3
  have huniq : ∀ i i' c, i < m → i' < m → ks[i]? = some (some (c, true)) → ks[i']? = some (some (c, true)) → i = i' := by
    intro i i' c hi hi' h1 h2
    unfold uniqK at hun
    have h3 := List.all_eq_true.1 (List.all_eq_true.1 hun i (by simpa using hi)) i' (by simpa using hi')
    rw [h1, h2] at h3
    simp only [Bool.or_eq_true, Bool.not_eq_true'] at h3
    rcases h3 with h3 | h3
    · exact Nat.eq_of_beq_eq_true h3
    · rw [Nat.beq_refl] at h3; cases h3
  have hkey : ∀ {e : Ent} {p : Nat × VTy}, e ∈ F' → p ∈ E → p.1 = e.slot → e = Ent.old p := fun {e p} he hp hs => heq he (ht.sub _ (List.mem_map.2 ⟨p, hp, rfl⟩)) hs.symm
  intro fuel
  induction fuel with
  | zero =>
    intro listed a w hs hm hf _ _
    have := openN_pos _ _ (openN_at (by omega) hm)
    omega
  | succ f ih =>
    intro listed a w hs hm hf hcl ⟨j, β, E1, hβ0, hup, hsz2, hcall, hts, hav⟩
    have hmn : ¬ listed.getD m false = true := fun h => by
      rw [Array.getD_eq_getD_getElem?, Array.getElem?_eq_getElem (by omega)] at h hm
      simp at h hm
      rw [h] at hm
      cases hm
    refine ⟨fun h0 => absurd h0 (hrd hs ⟨m, by omega, hmn⟩), fun i hi => ?_⟩
    rw [mem_ready] at hi
    obtain ⟨hun, o, ho, hdep⟩ := hi
    have ho : l[i]? = some o := by simpa using ho
    have him : i < m + 1 := by have := (List.getElem?_eq_some_iff.1 ho).1; omega
    obtain ⟨o', ho', hg, hed, hfr⟩ := hat i him
    rw [ho] at ho'
    injection ho' with ho'
    subst ho'
    have hwt : Region.wanted o (yielded l.toArray a.tmps) = true := by unfold Region.wanted; rw [hg]
    have hunf : ¬ listed.getD i false = true := fun h => by
      rw [Array.getD_eq_getD_getElem?, Array.getElem?_eq_getElem (by omega)] at h hun
      simp at h hun
      rw [h] at hun
      cases hun
    have hopen : openN (listed.setIfInBounds i true).toList ≤ f := by
      have := openN_set _ _ (openN_at (by omega) hun)
      rw [Array.toList_setIfInBounds]
      omega
    -- a call that something done waits for is done
    have hdone : ∀ i' c b, i' < m → ks[i']? = some (some (c, b)) → (listed.getD i' false = true ∨ i' = i) → (b = true ∧ c = 0) ∨ c < j + (if b then 1 else 0) := by
      intro i' c b hi' hki hl
      rcases hk i' c b hi' hki with h | ⟨j', c', hw', hj', hkj, hc'⟩
      · exact .inl h
      · right
        obtain ⟨o2, ho2, e, he, hb, heon⟩ := waitsB_spec hw'
        have ho2 : l[i']? = some o2 := by simpa using ho2
        have hlj : listed.getD j' false = true := by
          rcases hl with hl | rfl
          · rw [← heon]; exact hcl i' o2 ho2 hl e he hb
          · rw [ho] at ho2
            injection ho2 with ho2
            subst ho2
            rw [← heon]; exact hdep e (by simpa using he) hb
        have := (hcall j' c' hj' hkj).1 hlj
        cases b <;> simp at hc' ⊢ <;> omega
    rcases Nat.lt_or_eq_of_le (Nat.le_of_lt_succ him) with hlm | rfl
    · obtain ⟨hops, hdst⟩ := hfr hlm
      have hm' : (listed.setIfInBounds i true).getD m true = false := by rw [getD_set_ne true (by omega)]; exact hm
      have hcl' : ∀ i' o2, l[i']? = some o2 → (listed.setIfInBounds i true).getD i' false = true → ∀ e ∈ o2.after.toList, Region.binds .any e = true → (listed.setIfInBounds i true).getD e.on false = true := by
        intro i' o2 h1 h2 e he hb
        by_cases hii : i = i'
        · subst hii
          rw [ho] at h1
          injection h1 with h1
          subst h1
          exact getD_set_true (hdep e (by simpa using he) hb)
        · rw [getD_set_ne false hii] at h2
          exact getD_set_true (hcl i' o2 h1 h2 e he hb)
      have next : ∀ (d : Nat) (v : Value) (w' : World) (j' : Nat) (β' : Nat → Nat) (e0 : Ent), o.dst = some d → e0 ∈ F' → e0.slot = d → β' 0 = B → Rise β' j' → (∀ i, i ≤ j' → β' i ≤ w'.heap.size) → (∀ i' c, i' < m → ks[i']? = some (some (c, true)) → ((listed.setIfInBounds i true).getD i' false = true ↔ c < j')) → (∀ e ∈ F', (e.slot ∈ E.map Prod.fst ∨ ∃ i o, l[i]? = some o ∧ listed.getD i false = true ∧ o.dst = some e.slot) → e.at β' = e.at β) → (e0.ty β').holds X w' v → Below w.heap.size w w' → wpAny P .any l.toArray Q f (listed.setIfInBounds i true) (a.put (some d) v) w' := by
        intro d v w' j' β' e0 hd he0 hs0 hB0 hup' hsz' hcall' hsame hT hB
        obtain ⟨hdn, _⟩ := hdst d hd
        refine ih _ _ _ (by simpa using hs) hm' hopen hcl' ⟨j', β', (d, e0.ty β') :: E1.filter (fun p => !Nat.beq p.1 d), hB0, hup', hsz', hcall', ?_, fun e he hx => ?_⟩
        · refine (hts.sub (E' := E1.filter (fun p => !Nat.beq p.1 d)) fun p hp => (List.mem_filter.1 hp).1).new ?_ hdn hT hB
          rw [Bool.eq_false_iff]
          intro hx
          have hx' : d ∈ (E1.filter (fun p => !Nat.beq p.1 d)).map Prod.fst := List.elem_iff.1 hx
          obtain ⟨q, hq, rfl⟩ := List.mem_map.1 hx'
          have := (List.mem_filter.1 hq).2
          rw [Nat.beq_refl] at this
          cases this
        · by_cases hpd : e.slot = d
          · have := heq he he0 (by rw [hpd, hs0])
            rw [this]
            exact List.mem_cons.2 (.inl (by unfold Ent.at; rw [hs0]))
          · have hav' : e.slot ∈ E.map Prod.fst ∨ ∃ i o, l[i]? = some o ∧ listed.getD i false = true ∧ o.dst = some e.slot := by
              rcases hx with h | ⟨i', oj, h1, h2, h3⟩
              · exact .inl h
              · by_cases hji : i = i'
                · subst hji
                  rw [ho] at h1
                  injection h1 with h1
                  subst h1
                  rw [hd] at h3
                  injection h3 with h3
                  exact absurd h3.symm hpd
                · rw [getD_set_ne false hji] at h2
                  exact .inr ⟨i', oj, h1, h2, h3⟩
            rw [hsame e he hav']
            refine List.mem_cons_of_mem _ (List.mem_filter.2 ⟨hav e he hav', ?_⟩)
            rw [Bool.not_eq_true', Bool.eq_false_iff]
            exact fun h => hpd (Nat.eq_of_beq_eq_true h)
      have hin : ∀ p ∈ F'.map (Ent.at β), .tmp p.1 ∈ o.op.operands.toList → p ∈ E1 := by
        intro p hp hpo
        obtain ⟨e, he, rfl⟩ := List.mem_map.1 hp
        refine hav e he ?_
        rcases hops _ hpo with h | ⟨e, he, hb, oe, hoe, hd⟩
        · exact .inl h
        · exact .inr ⟨e.on, oe, hoe, hdep e (by simpa using he) hb, hd⟩
      have hot : (l.take m)[i]? = some o := by rw [List.getElem?_take, if_pos hlm]; exact ho
      have hcallsame : ∀ k, ks[i]? = some k → (∀ c, k ≠ some (c, true)) → ∀ i' c, i' < m → ks[i']? = some (some (c, true)) → ((listed.setIfInBounds i true).getD i' false = true ↔ c < j) := by
        intro k hki hne i' c hi' hk'
        have hii : i ≠ i' := fun h => by
          rw [← h, hki] at hk'
          injection hk' with hk'
          exact hne c hk'
        rw [getD_set_ne false hii]
        exact hcall i' c hi' hk'
      unfold wpOp
      simp only [show l.toArray[i]? = some o by simpa using ho]
      rw [if_pos hwt]
      left
      obtain ⟨k, hki⟩ : ∃ k, ks[i]? = some k := ⟨_, List.getElem?_eq_getElem (by omega)⟩
      have hA := ht.at i o k hot hki
      match k, hki, hA with
      | none, hki, ⟨d, T, hd, hF, hst⟩ =>
        have hy := (hst β).run X a.eval w (fun _ => rfl) (fun _ => rfl) (Nat.zero_le _) hts.mem fun p hp hpo => hts.slots p (hin p hp hpo)
        refine Oper.wp_mono (fun a' w' h => ?_) hy.wp
        obtain ⟨v, rfl, hT, hB⟩ := h
        rw [hd]
        exact next d v w' j β _ hd hF rfl hβ0 hup (fun i hi => Nat.le_trans (hsz2 i hi) hB.size) (hcallsame _ hki (fun c h => by cases h)) (fun _ _ _ => rfl) hT hB
      | some (c, false), hki, ⟨d, T, hd, hF, _, hst⟩ =>
        have hcj : c < j := by
          rcases hdone i c false hlm hki (.inr rfl) with ⟨h, _⟩ | h
          · cases h
          · simpa using h
        have hy := (hst β (fun i hi => hup i (by omega))).run X a.eval w (fun _ => rfl) (fun _ => rfl) (Nat.zero_le _) hts.mem fun p hp hpo => hts.slots p (hin p hp hpo)
        refine Oper.wp_mono (fun a' w' h => ?_) hy.wp
        obtain ⟨v, rfl, hT, hB⟩ := h
        rw [hd]
        exact next d v w' j β _ hd hF rfl hβ0 hup (fun i hi => Nat.le_trans (hsz2 i hi) hB.size) (hcallsame _ hki (fun c h => by cases h)) (fun _ _ _ => rfl) hT hB
      | some (c, true), hki, ⟨d, T, hd, hF, hst⟩ =>
        have hcj : c = j := by
          have h1 : ¬ c < j := fun h => hunf ((hcall i c hlm hki).2 h)
          rcases hdone i c true hlm hki (.inr rfl) with ⟨_, h⟩ | h
          · omega
          · simp at h; omega
        subst hcj
        have hy := (hst β).run X a.eval w (fun _ => rfl) (fun _ => rfl) (hsz2 c (Nat.le_refl _)) hts.mem fun p hp hpo => hts.slots p (hin p hp hpo)
        refine Oper.wp_mono (fun a' w' h => ?_) hy.wp
        obtain ⟨v, rfl, hT, hB⟩ := h
        rw [hd]
        refine next d v w' (c + 1) (fun i => if i = c + 1 then w'.heap.size else β i) _ hd hF rfl (by rw [if_neg (by omega)]; exact hβ0) ?_ ?_ ?_ ?_ ?_ hB
        · intro i hi
          show (if i = c + 1 then w'.heap.size else β i) ≤ (if i + 1 = c + 1 then w'.heap.size else β (i + 1))
          by_cases h : i = c
          · subst h
            rw [if_neg (by omega), if_pos rfl]
            exact Nat.le_trans (hsz2 _ (Nat.le_refl _)) hB.size
          · rw [if_neg (by omega), if_neg (by omega)]
            exact hup i (by omega)
        · intro i hi
          show (if i = c + 1 then w'.heap.size else β i) ≤ w'.heap.size
          by_cases h : i = c + 1
          · simp [h]
          · rw [if_neg h]
            exact Nat.le_trans (hsz2 i (by omega)) hB.size
        · intro i' c' hi' hk'
          by_cases hii : i = i'
          · subst hii
            rw [hki] at hk'
            injection hk' with hk'
            injection hk' with hk'
            have e1 : c = c' := by injection hk'
            refine ⟨fun _ => by omega, fun _ => ?_⟩
            have : i < listed.size := by omega
            simp [this]
          · rw [getD_set_ne false hii, hcall i' c' hi' hk']
            refine ⟨fun h => by omega, fun h => ?_⟩
            rcases Nat.lt_or_eq_of_le (Nat.le_of_lt_succ h) with h | rfl
            · exact h
            · exfalso
              exact hii (huniq i i' c' hlm hi' hki hk')
        · intro e he hx
          have hb : ∀ {x : Nat}, x ≤ c → (fun i => if i = c + 1 then w'.heap.size else β i) x = β x := fun {x} hx => if_neg (by omega)
          unfold Ent.at
          congr 1
          rcases hx with hx | ⟨i', o2, h1, h2, h3⟩
          · obtain ⟨p, hp, hps⟩ := List.mem_map.1 hx
            rw [hkey he hp hps]
            rfl
          · have hi' : i' < m := by
              rcases Nat.lt_or_ge i' m with h | h
              · exact h
              · have := (List.getElem?_eq_some_iff.1 h1).1
                have : i' = m := by omega
                subst this
                exact absurd h2 hmn
            obtain ⟨k2, hk2⟩ : ∃ k2, ks[i']? = some k2 := ⟨_, List.getElem?_eq_getElem (by omega)⟩
            have hA2 := ht.at i' o2 k2 (by rw [List.getElem?_take, if_pos hi']; exact h1) hk2
            match k2, hk2, hA2 with
            | none, _, ⟨d2, T2, hd2, hF2, _⟩ =>
              rw [h3] at hd2
              injection hd2 with hd2
              rw [heq he hF2 hd2]
              rfl
            | some (c2, true), hk2, ⟨d2, T2, hd2, hF2, _⟩ =>
              rw [h3] at hd2
              injection hd2 with hd2
              have := (hcall i' c2 hi' hk2).1 h2
              rw [heq he hF2 hd2]
              show VTy.und _ (T2 _) = VTy.und _ (T2 _)
              rw [hb (by omega), hb (by omega)]
            | some (c2, false), hk2, ⟨d2, T2, hd2, hF2, hok, _⟩ =>
              rw [h3] at hd2
              injection hd2 with hd2
              have : c2 < c := by
                rcases hdone i' c2 false hi' hk2 (.inl h2) with ⟨h, _⟩ | h
                · cases h
                · simpa using h
              rw [heq he hF2 hd2]
              exact hok _ _ fun x hx => hb (by omega)
        · show (VTy.und (if c + 1 = c + 1 then w'.heap.size else β (c + 1)) (T (if c = c + 1 then w'.heap.size else β c))).holds X w' v
          rw [if_pos rfl, if_neg (by omega)]
          exact und_new hT
    · have hal : ∀ j, j < i → listed.getD j false = true := by
        intro j hj
        obtain ⟨o2, ho2, e, he, hb, heon⟩ := waitsB_spec (hw j hj)
        rw [show l.toArray[i]? = some o by simpa using ho] at ho2
        injection ho2 with ho2
        subst ho2
        rw [← heon]
        exact hdep e (by simpa using he) hb
      have hTS : TS w00 X L (F'.map (Ent.at β)) n a w := hts.sub fun p hp => by
        obtain ⟨e, he, rfl⟩ := List.mem_map.1 hp
        refine hav e he ?_
        rcases ht.new e he with h | ⟨q, hq, hqd⟩
        · obtain ⟨p, hp', rfl⟩ := List.mem_map.1 h
          exact .inl (List.mem_map.2 ⟨p, hp', rfl⟩)
        · obtain ⟨j, hj⟩ := List.mem_iff_getElem?.1 hq
          rw [List.getElem?_take] at hj
          split at hj
          · exact .inr ⟨j, q, hj, hal j (by assumption), hqd⟩
          · cases hj
      have hlast := (hfin β a w hβ0 hTS).out
      have hdr : l.drop i = [o] := by
        rw [List.drop_eq_getElem_cons (by omega), List.drop_eq_nil_of_le (by omega)]
        congr 1
        rw [List.getElem?_eq_getElem (by omega)] at ho
        injection ho
      rw [hdr] at hlast
      unfold wpOp
      simp only [show l.toArray[i]? = some o by simpa using ho]
      unfold wpList at hlast
      rw [if_pos hwt] at hlast ⊢
      refine hlast.imp (Oper.wp_mono fun a' w' h => ?_) id
      unfold wpList at h
      refine wpAny_done ?_ h _
      rw [List.eq_nil_iff_forall_not_mem]
      intro j hj
      rw [mem_ready] at hj
      obtain ⟨h1, oj, h2, _⟩ := hj
      have hjl := (Array.getElem?_eq_some_iff.1 h2).1
      have hjl : j < i + 1 := by rw [← hsz]; simpa using hjl
      by_cases hji : i = j
      · subst hji
        simp [show i < listed.size by omega] at h1
      · rw [getD_set_ne true hji] at h1
        have := hal j (by omega)
        rw [Array.getD_eq_getD_getElem?, Array.getElem?_eq_getElem (by omega)] at h1 this
        simp at h1 this
        rw [h1] at this
        cases this
theorem g_drawB {E : List (Nat × VTy)} {F' : List Ent} {ks : List (Option (Nat × Bool))} {cs : List Code} {id : Nat} {l : List Oper} {B : Nat} [sz : SzC L B] (m : Nat) (ht : OpsB P w00 L 0 (E.map Ent.old) (l.take m) F' ks) (hc : (chkJ l.toArray (E.map Prod.fst) n m && chkK l.toArray ks m && uniqK ks m && distinctB (F'.map Ent.slot)) = true) (hm : P.follows .mixedOrders = true) (h : ∀ β : Nat → Nat, β 0 = B → GR P w00 X L (F'.map (Ent.at β)) n l.toArray (l.drop m) cs Q) : GC P w00 X L E n (Code.region id l.toArray true :: cs) Q := by
  refine ⟨fun a w hts => ?_⟩
  have hb : Below w.heap.size w w.drew := (Below.refl _ _).drew
  have hts' : TS w00 X L E n a w.drew := ⟨hts.size, hts.df, fun p hp => p.2.stable (hts.slots p hp) (Below.keeps hb _) fun _ h _ => h, hts.mem.same hb⟩
  have hsz : l.length = m + 1 := by
    have := hc
    unfold chkJ at this
    simp only [Bool.and_eq_true] at this
    have := Nat.eq_of_beq_eq_true this.1.1.1.1.1
    simpa using this
  have hnd := nodup_of_distinctB (by rw [Bool.and_eq_true] at hc; exact hc.2)
  have hno : ∀ i, (Array.replicate l.toArray.size false).getD i false = true → False := by
    intro i h2
    rw [Array.getD_eq_getD_getElem?] at h2
    cases h : (Array.replicate l.toArray.size false)[i]? with
    | none => rw [h] at h2; cases h2
    | some b =>
      have := Array.mem_of_getElem? h
      simp at this
      rw [h, this.2] at h2
      cases h2
  refine wp_region_any hm (wpAny_B ht hc (fun β a w h0 h' => (h β h0).run a w h') _ _ _ _ (by simp) ?_ (by simpa using openN_rep l.toArray.size) (fun i _ _ h => (hno i h).elim) ⟨0, fun _ => B, E, rfl, (fun i hi => absurd hi (Nat.not_lt_zero _)), (fun i hi => Nat.le_trans (sz.ok hts.mem) hb.size), (fun i c _ _ => ⟨fun h => (hno i h).elim, fun h => absurd h (Nat.not_lt_zero _)⟩), hts', fun e he hx => ?_⟩)
  · rw [Array.getD_eq_getD_getElem?, Array.getElem?_replicate, if_pos (by simp; omega)]
    rfl
  · rcases hx with hx | ⟨i, o, _, h2, _⟩
    · obtain ⟨q, hq, hqp⟩ := List.mem_map.1 hx
      obtain ⟨i, hi⟩ := List.mem_iff_getElem?.1 he
      obtain ⟨j, hj⟩ := List.mem_iff_getElem?.1 (ht.sub (Ent.old q) (List.mem_map.2 ⟨q, hq, rfl⟩))
      have hi' := (List.getElem?_eq_some_iff.1 hi)
      have hj' := (List.getElem?_eq_some_iff.1 hj)
      have : i = j := by
        refine (List.getElem_inj (h₀ := by simpa using hi'.1) (h₁ := by simpa using hj'.1) hnd).1 ?_
        simp [hi'.2, hj'.2]
        exact hqp.symm
      subst this
      rw [hi] at hj
      injection hj with hj
      rw [hj]
      exact hq
    · exact (hno i h2).elim
theorem b_step {c : Nat} {F F' : List Ent} {os : List Oper} {ks : List (Option (Nat × Bool))} {d : Nat} {op : Op} {T : VTy} {ty : TypeId} {pos : String} {af : Array Edge} {gd : Option (Nat × Bool)} (h : ∀ β, StepT P w00 0 L (F.map (Ent.at β)) ⟨some d, op, ty, pos, af, gd⟩ T) (t : OpsB P w00 L c (Ent.fix d T :: F) os F' ks) : OpsB P w00 L c F (⟨some d, op, ty, pos, af, gd⟩ :: os) F' (none :: ks) := .step h rfl t
theorem b_call {c : Nat} {F F' : List Ent} {os : List Oper} {ks : List (Option (Nat × Bool))} {d : Nat} {op : Op} {T : Nat → VTy} {ty : TypeId} {pos : String} {af : Array Edge} {gd : Option (Nat × Bool)} (h : ∀ β : Nat → Nat, StepT P w00 (β c) L (F.map (Ent.at β)) ⟨some d, op, ty, pos, af, gd⟩ (T (β c))) (t : OpsB P w00 L (c + 1) (Ent.cal d c T :: F) os F' ks) : OpsB P w00 L c F (⟨some d, op, ty, pos, af, gd⟩ :: os) F' (some (c, true) :: ks) := .call h rfl t
theorem b_dep {c : Nat} {F F' : List Ent} {os : List Oper} {ks : List (Option (Nat × Bool))} {d : Nat} {op : Op} {T : (Nat → Nat) → VTy} {ty : TypeId} {pos : String} {af : Array Edge} {gd : Option (Nat × Bool)} (h : ∀ β, Rise β (c + 1) → StepT P w00 0 L (F.map (Ent.at β)) ⟨some d, op, ty, pos, af, gd⟩ (T β)) (ho : ∀ β β' : Nat → Nat, (∀ i, i ≤ c + 1 → β i = β' i) → T β = T β') (t : OpsB P w00 L (c + 1) (⟨d, c + 1, T⟩ :: F) os F' ks) : OpsB P w00 L (c + 1) F (⟨some d, op, ty, pos, af, gd⟩ :: os) F' (some (c, false) :: ks) := .dep h ho rfl t
end
end Go.Proofs.YtngfkjlpgodfhaaGreatDoor
