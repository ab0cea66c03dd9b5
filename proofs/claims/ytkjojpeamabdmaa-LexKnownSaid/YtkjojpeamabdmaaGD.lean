/- Arguments of whatever depth as they are read: bools, numbers, texts, rows of limbs, structs of two, slices. No program stands in it. -/
import Derived.Test.YtkjojpeamabdmaaGC
import Derived.Test.YtkjojpeamabdmaaGA
import Derived.Test.YtkjojpeamabdmaaFrame
import Derived.Test.YtkjojpeamabdmaaGB
import Derived.Lib.TrimByte
import Derived.Lib.Strings
import Derived.Test.YtkjojpeamabdmaaShelf
set_option linter.unusedSimpArgs false
set_option linter.unusedVariables false
namespace Go.Proofs.Ytkjojpeamabdmaa
open Go Go.ChangeShapes Go.WideShapes Go.ChangeAt Go.RowKit Go.Deep
theorem list_of {α : Type} {Q : Nat → α → Prop} : ∀ {len : Nat}, (∀ i, i < len → ∃ x, Q i x) → ∃ l : List α, l.length = len ∧ ∀ i x, l[i]? = some x → Q i x
  | 0, _ => ⟨[], rfl, fun i x hx => by simp at hx⟩
  | n + 1, each => by
    obtain ⟨l, h1, h2⟩ := list_of (len := n) (fun i hi => each i (by omega))
    obtain ⟨x, g⟩ := each n (by omega)
    refine ⟨l ++ [x], by simp [h1], fun i y hy => ?_⟩
    by_cases hin : i < l.length
    · rw [List.getElem?_append_left hin] at hy
      exact h2 i y hy
    · have hlt := (List.getElem?_eq_some_iff.1 hy).1
      have e : i = n := by simp at hlt; omega
      subst e
      rw [List.getElem?_append_right (by omega), h1, Nat.sub_self] at hy
      obtain rfl : x = y := by simpa using hy
      exact g
/-- Memory that was there. -/
def There (W : World) (b : Nat) : Prop := b < W.heap.size
class OpenR {α : Type} (P : Program) (t : TypeId) (r : Rp α) : Prop where
  size : P.cellsOf t = r.k
  ok : ∀ {H : Type} {enc : TypeId × Value → H} {W : World} {fuel : Nat} {cs : List Value} {y : DataW H × List MemPlace}, DataW.trod enc P W 0 (fun _ => true) true fuel t cs = some y → ∃ a, r.rd W (There W) a cs
theorem OpenR.bool {P : Program} {t : TypeId} (hb : P.underlying t = some .bool) (hc : P.cellsOf t = 1) : OpenR P t Rp.bool := ⟨hc, fun h => by
  obtain ⟨b, rfl, _⟩ := DataW.trod_bool hb h
  exact ⟨b, rfl⟩⟩
theorem OpenR.pair {α β : Type} {P : Program} {t : TypeId} {f0 f1 : Field} {r : Rp α} {s : Rp β} (ht : P.underlying t = some (.struct #[f0, f1])) (h0 : OpenR P f0.type r) (h1 : OpenR P f1.type s) (o0 : f0.offset = 0) (o1 : f1.offset = r.k) (hk : P.cellsOf t = r.k + s.k) : OpenR P t (r.pair s) := ⟨hk, fun {H enc W fuel cs y} h => by
  obtain ⟨y0, y1, n, _, hl, g0, g1⟩ := trod_struct2 ht h
  rw [o0, h0.size, List.drop_zero] at g0
  rw [o1, h1.size, List.take_of_length_le (by rw [List.length_drop]; omega)] at g1
  obtain ⟨a, ha⟩ := h0.ok g0
  obtain ⟨b, hb⟩ := h1.ok g1
  exact ⟨(a, b), cs.take r.k, cs.drop r.k, (List.take_append_drop _ _).symm, ha, hb⟩⟩
theorem OpenR.row {α : Type} {P : Program} {t e : TypeId} {r : Rp α} (ht : P.underlying t = some (.slice e)) (h0 : OpenR P e r) (hk : P.cellsOf t = 1) (hp : 0 < r.k) : OpenR P t r.row := ⟨hk, fun {H enc W fuel cs y} h => by
  rcases Deep.open_slice ht h with ⟨rfl, _⟩ | ⟨a, len, cap, m, k, D, Pl, rfl, _, hl, hm, hmm, _, hi⟩
  · exact ⟨[], none, 0, 0, rfl, rfl, Nat.le_refl _, Nat.zero_le _, fun _ => rfl, fun h => absurd h (by omega)⟩
  · simp only [if_true] at hmm
    have each : ∀ i, i < len → ∃ (x : α) (cs' : List Value), W.cells? 0 (a.add (i * r.k)) r.k = some cs' ∧ r.rd W (There W) x cs' := by
      intro i hin
      obtain ⟨cs', hcs', hy⟩ := hi i (by omega)
      rw [h0.size] at hcs'
      obtain ⟨x, hx⟩ := h0.ok hy
      exact ⟨x, cs', hcs', hx⟩
    obtain ⟨l, hl1, hl2⟩ := list_of each
    refine ⟨l, some a, len, cap, rfl, hl1, hl, hm, (fun h => by cases h), fun hn => ?_⟩
    obtain ⟨b, off, spot⟩ := a
    obtain ⟨x0, hx0⟩ : ∃ x, l[0]? = some x := ⟨_, List.getElem?_eq_getElem (by omega)⟩
    obtain ⟨c0, hc0, hr0⟩ := hl2 0 x0 hx0
    obtain ⟨_, q1, q2⟩ := World.cells?_some hc0
    have t0 := q2 0 hp
    obtain ⟨u, hu⟩ : ∃ u, c0[0]? = some u := ⟨_, List.getElem?_eq_getElem (by rw [q1]; exact hp)⟩
    rw [hu] at t0
    have hspot : spot = none := by simpa [Addr.add] using World.cell?_spot t0
    subst hspot
    have hb0 := World.block_lt_of_cell? _ _ t0
    refine ⟨b, off, rfl, (by simpa [Addr.add_lit] using hb0 : b < W.heap.size), fun j x hx => ?_⟩
    obtain ⟨cs', hcs', hr⟩ := hl2 j x hx
    obtain ⟨_, p1, p2⟩ := World.cells?_some hcs'
    refine ⟨cs', fun i u hu => ?_, hr⟩
    have hi' := (List.getElem?_eq_some_iff.1 hu).1
    have := p2 i (by omega)
    rw [hu] at this
    simpa [Addr.add_lit, Nat.add_assoc] using this⟩
def Rp.num : Rp RawI := Rp.pair Rp.bool Rp.limbs
def Rp.frac : Rp RawQ := Rp.pair Rp.num Rp.num
theorem num_rd {w : World} {S : Nat → Prop} {x : RawI} {cs : List Value} : Rp.num.rd w S x cs ↔ ∃ A n c, cs = [.bool x.1, .slice A n c] ∧ SlF .u32 w S A n c x.2 ∧ Dg 4294967296 x.2 := by
  constructor
  · rintro ⟨c1, c2, rfl, rfl, A, n, c, rfl, h, d⟩
    exact ⟨A, n, c, rfl, h, d⟩
  · rintro ⟨A, n, c, rfl, h, d⟩
    exact ⟨[.bool x.1], [.slice A n c], rfl, rfl, A, n, c, rfl, h, d⟩
/-- Any number of value N, in at most L limbs; a right one; just this one. -/
def VTy.na (N : Int) (L : Nat) : VTy := VTy.ex Rp.num fun x => iv x = N ∧ x.2.length ≤ L
def VTy.nc (N : Int) (L : Nat) : VTy := VTy.ex Rp.num fun x => Whole N x.1 x.2 ∧ (N.natAbs : Int) < 4294967296 ^ L
def VTy.nx (x : RawI) (L : Nat) : VTy := VTy.ex Rp.num fun y => y = x ∧ x.2.length ≤ L
/-- Any fraction of value q; a right one; just this one; one of these parts. -/
def VTy.qa (q : Rat) (L : Nat) : VTy := VTy.ex Rp.frac fun x => qv x = q ∧ x.1.2.length ≤ L ∧ x.2.2.length ≤ L ∧ 0 < L
def VTy.qc (q : Rat) (L : Nat) : VTy := VTy.ex Rp.frac fun x => Frac q x ∧ Lq q L
def VTy.qx (x : RawQ) (L : Nat) : VTy := VTy.ex Rp.frac fun y => y = x ∧ x.1.2.length ≤ L ∧ x.2.2.length ≤ L ∧ 0 < L
def VTy.nd (N D : Int) (L : Nat) : VTy := VTy.ex Rp.frac fun x => Whole N x.1.1 x.1.2 ∧ Whole D x.2.1 x.2.2 ∧ (N.natAbs : Int) < 4294967296 ^ L ∧ (D.natAbs : Int) < 4294967296 ^ L
instance {N : Int} {L : Nat} : SizeV (.na N L) 2 true := inferInstanceAs (SizeV (.ex Rp.num _) Rp.num.k true)
instance {N : Int} {L : Nat} : SizeV (.nc N L) 2 true := inferInstanceAs (SizeV (.ex Rp.num _) Rp.num.k true)
instance {x : RawI} {L : Nat} : SizeV (.nx x L) 2 true := inferInstanceAs (SizeV (.ex Rp.num _) Rp.num.k true)
instance {q : Rat} {L : Nat} : SizeV (.qa q L) 4 true := inferInstanceAs (SizeV (.ex Rp.frac _) Rp.frac.k true)
instance {q : Rat} {L : Nat} : SizeV (.qc q L) 4 true := inferInstanceAs (SizeV (.ex Rp.frac _) Rp.frac.k true)
instance {x : RawQ} {L : Nat} : SizeV (.qx x L) 4 true := inferInstanceAs (SizeV (.ex Rp.frac _) Rp.frac.k true)
instance {N D : Int} {L : Nat} : SizeV (.nd N D L) 4 true := inferInstanceAs (SizeV (.ex Rp.frac _) Rp.frac.k true)
/-- The whole is a part of itself. -/
theorem PartC.whole {T : VTy} {k : Nat} (z : SizeV T k true) : PartC T 0 k true T := ⟨(fun h => by cases h), fun {X w v} h => by
  obtain ⟨h1, _, h3, _⟩ := z.ok h
  refine ⟨v.cells.toList, by simpa using h1, fun j u hj => by simpa using hj, fun u hu _ => ?_⟩
  rw [hu rfl]
  have := h3 rfl
  rw [show (Value.agg v.cells.toList.toArray) = v by simpa using this.symm]
  exact h⟩
theorem PartC.single {T : VTy} (z : SizeV T 1 false) : PartC T 0 1 false T := ⟨fun _ => rfl, fun {X w v} h => by
  obtain ⟨h1, _, _, h4⟩ := z.ok h
  have e := h4 rfl
  refine ⟨[v], rfl, fun j u hj => by rw [e]; simpa using hj, fun u _ hu => ?_⟩
  have := hu rfl
  simp at this
  rw [← this]
  exact h⟩
instance {N : Int} {L : Nat} : PartC (.na N L) 0 2 true (.na N L) := .whole inferInstance
instance {N : Int} {L : Nat} : PartC (.nc N L) 0 2 true (.nc N L) := .whole inferInstance
instance {x : RawI} {L : Nat} : PartC (.nx x L) 0 2 true (.nx x L) := .whole inferInstance
instance {q : Rat} {L : Nat} : PartC (.qa q L) 0 4 true (.qa q L) := .whole inferInstance
instance {q : Rat} {L : Nat} : PartC (.qc q L) 0 4 true (.qc q L) := .whole inferInstance
instance {x : RawQ} {L : Nat} : PartC (.qx x L) 0 4 true (.qx x L) := .whole inferInstance
instance {N D : Int} {L : Nat} : PartC (.nd N D L) 0 4 true (.nd N D L) := .whole inferInstance
/-- Above, and below. -/
theorem PartC.fst {p : RawQ → Prop} {p' : RawI → Prop} (h : ∀ x, p x → p' x.1) : PartC (.ex Rp.frac p) 0 2 true (.ex Rp.num p') := ⟨(fun h => by cases h), fun {X w v} hv => by
  obtain ⟨x, hp, cs, rfl, c1, c2, rfl, h1, h2⟩ := hv
  have hl : c1.length = 2 := Rp.num.len h1
  refine ⟨c1, hl, fun j u hj => ?_, fun u hu _ => ⟨x.1, h x hp, c1, hu rfl, h1⟩⟩
  have hjl := (List.getElem?_eq_some_iff.1 hj).1
  simp [Value.cells, List.getElem?_append_left hjl, hj]⟩
theorem PartC.snd {p : RawQ → Prop} {p' : RawI → Prop} (h : ∀ x, p x → p' x.2) : PartC (.ex Rp.frac p) 2 2 true (.ex Rp.num p') := ⟨(fun h => by cases h), fun {X w v} hv => by
  obtain ⟨x, hp, cs, rfl, c1, c2, rfl, h1, h2⟩ := hv
  have hl : c1.length = 2 := Rp.num.len h1
  refine ⟨c2, Rp.num.len h2, fun j u hj => ?_, fun u hu _ => ⟨x.2, h x hp, c2, hu rfl, h2⟩⟩
  simp [Value.cells, List.getElem?_append_right (show c1.length ≤ 2 + j by omega), hl, hj]⟩
instance {q : Rat} {L : Nat} : PartC (.qc q L) 0 2 true (.nc q.num L) := .fst fun _ h => ⟨h.1.num, h.2.1⟩
instance {q : Rat} {L : Nat} : PartC (.qc q L) 2 2 true (.nc (q.den : Int) L) := .snd fun _ h => ⟨h.1.den, den_lt h.2⟩
instance {x : RawQ} {L : Nat} : PartC (.qx x L) 0 2 true (.nx x.1 L) := .fst fun y h => ⟨by rw [h.1], h.2.1⟩
instance {x : RawQ} {L : Nat} : PartC (.qx x L) 2 2 true (.nx x.2 L) := .snd fun y h => ⟨by rw [h.1], h.2.2.1⟩
/-- As what a number, a fraction counts. -/
class AsN (T : VTy) (N : outParam Int) (L : outParam Nat) : Prop where
  ok : ∀ {X w v}, T.holds X w v → (VTy.na N L).holds X w v
instance {N : Int} {L : Nat} : AsN (.na N L) N L := ⟨fun h => h⟩
instance {N : Int} {L : Nat} : AsN (.nc N L) N L := ⟨fun ⟨x, h, g⟩ => ⟨x, ⟨h.1.val, h.1.len h.2⟩, g⟩⟩
instance {x : RawI} {L : Nat} : AsN (.nx x L) (iv x) L := ⟨fun ⟨y, h, g⟩ => ⟨y, ⟨by rw [h.1], by rw [h.1]; exact h.2⟩, g⟩⟩
class AsQ (T : VTy) (q : outParam Rat) (L : outParam Nat) : Prop where
  ok : ∀ {X w v}, T.holds X w v → (VTy.qa q L).holds X w v
instance {q : Rat} {L : Nat} : AsQ (.qa q L) q L := ⟨fun h => h⟩
instance {q : Rat} {L : Nat} : AsQ (.qc q L) q L := ⟨fun ⟨x, h, g⟩ => ⟨x, ⟨h.1.val, (h.1.len h.2).1, (h.1.len h.2).2, h.2.pos⟩, g⟩⟩
instance {x : RawQ} {L : Nat} : AsQ (.qx x L) (qv x) L := ⟨fun ⟨y, h, g⟩ => ⟨y, by rw [h.1]; exact ⟨rfl, h.2⟩, g⟩⟩
/-- Two noughts: no fraction yet. -/
def VTy.q0 : VTy := VTy.ex Rp.frac fun x => x = ((false, []), (false, []))
instance : SizeV .q0 4 true := inferInstanceAs (SizeV (.ex Rp.frac _) Rp.frac.k true)
theorem of_lt' {k : Int} (hk : -9223372036854775808 ≤ k ∧ k ≤ 9223372036854775807) : (k.natAbs : Int) < 4294967296 ^ 2 := by
  have e : (4294967296 : Int) ^ 2 = 18446744073709551616 := by decide
  omega
section
variable {w00 : World} {N : Nat} {L : List Loc} {E : List (Nat × VTy)} {d : Nat} {t0 : TypeId} {pos : String} {af : Array Edge} {gd : Option (Nat × Bool)} {ats : Array TypeId}
end
/-- A block of the answer's own: from B on, and not frozen. -/
def NewB (B : Nat) (X : List Nat) (w : World) (b : Nat) : Prop := Free X w b ∧ B ≤ b ∧ ∃ cs, w.heap[b]? = some (.cells cs 77 (0, 0))
/-- A fraction in new blocks, with a property. -/
def VTy.nw (p : RawQ → Prop) (B : Nat) : VTy := ⟨fun X w v => ∃ x, p x ∧ ∃ cs : List Value, v = .agg cs.toArray ∧ Rp.frac.rd w (NewB B X w) x cs, fun ⟨x, hp, cs, e, h⟩ hk hX => ⟨x, hp, cs, e, Rp.frac.more (Rp.frac.keep h (fun b hb => hk.block b hb.1.1 hb.1.2)) (fun b hb => by
  obtain ⟨h1, h2, c, h3⟩ := hb
  exact ⟨Free.mono hk hX b h1, h2, c, (hk.block b h1.1 h1.2).trans h3⟩)⟩⟩
def VTy.qn (q : Rat) (L B : Nat) : VTy := VTy.nw (fun x => Frac q x ∧ Lq q L) B
def VTy.qg (q : Rat) (L B : Nat) : VTy := VTy.nw (fun x => qv x = q ∧ x.1.2.length ≤ L ∧ x.2.2.length ≤ L ∧ 0 < L) B
theorem nw_ex {p : RawQ → Prop} {B : Nat} {X : List Nat} {w : World} {v : Value} (h : (VTy.nw p B).holds X w v) : (VTy.ex Rp.frac p).holds X w v := by
  obtain ⟨x, hp, cs, e, h⟩ := h
  exact ⟨x, hp, cs, e, Rp.frac.more h (fun b hb => hb.1)⟩
theorem nw_le {p : RawQ → Prop} {B B' : Nat} {X : List Nat} {w : World} {v : Value} (h : (VTy.nw p B).holds X w v) (hB : B' ≤ B) : (VTy.nw p B').holds X w v := by
  obtain ⟨x, hp, cs, e, h⟩ := h
  exact ⟨x, hp, cs, e, Rp.frac.more h (fun b hb => ⟨hb.1, Nat.le_trans hB hb.2.1, hb.2.2⟩)⟩
instance {p : RawQ → Prop} {B : Nat} : SizeV (.nw p B) 4 true := ⟨fun h => (inferInstance : SizeV (.ex Rp.frac p) Rp.frac.k true).ok (nw_ex h)⟩
instance {q : Rat} {L B : Nat} : SizeV (.qn q L B) 4 true := inferInstanceAs (SizeV (.nw _ _) 4 true)
instance {q : Rat} {L B : Nat} : SizeV (.qg q L B) 4 true := inferInstanceAs (SizeV (.nw _ _) 4 true)
instance {q : Rat} {L B : Nat} : PartC (.qn q L B) 0 4 true (.qn q L B) := .whole inferInstance
instance {q : Rat} {L B : Nat} : PartC (.qg q L B) 0 4 true (.qg q L B) := .whole inferInstance
instance {q : Rat} {L B : Nat} : AsQ (.qn q L B) q L := ⟨fun h => (inferInstance : AsQ (.qc q L) q L).ok (nw_ex h)⟩
instance {q : Rat} {L B : Nat} : AsQ (.qg q L B) q L := ⟨fun h => nw_ex h⟩
theorem tup_imp {X : List Nat} {w : World} {T T' U U' : VTy} (h1 : ∀ v, T.holds X w v → T'.holds X w v) (h2 : ∀ v, U.holds X w v → U'.holds X w v) (v : Value) (h : (VTy.tup [T, U]).holds X w v) : (VTy.tup [T', U']).holds X w v := by
  obtain ⟨vs, e, h⟩ := h
  match vs, h with
  | [a, b], ⟨g1, g2, _⟩ => exact ⟨[a, b], e, h1 _ g1, h2 _ g2, trivial⟩
section
variable {w00 : World} {N : Nat} {L : List Loc} {E : List (Nat × VTy)} {d : Nat} {t0 : TypeId} {pos : String} {af : Array Edge} {gd : Option (Nat × Bool)} {ats : Array TypeId}
end
section
variable {w00 : World} {N : Nat} {L : List Loc} {E : List (Nat × VTy)} {d : Nat} {t0 : TypeId} {pos : String} {af : Array Edge} {gd : Option (Nat × Bool)} {ats : Array TypeId}
end
section
variable {w00 : World} {N : Nat} {L : List Loc} {E : List (Nat × VTy)} {d : Nat} {t0 : TypeId} {pos : String} {af : Array Edge} {gd : Option (Nat × Bool)} {ats : Array TypeId}
end
section
variable {w00 : World} {N : Nat} {L : List Loc} {E : List (Nat × VTy)} {d : Nat} {t0 : TypeId} {pos : String} {af : Array Edge} {gd : Option (Nat × Bool)} {ats : Array TypeId}
end
section
variable {w00 : World} {N : Nat} {L : List Loc} {E : List (Nat × VTy)} {d : Nat} {t0 : TypeId} {pos : String} {af : Array Edge} {gd : Option (Nat × Bool)} {ats : Array TypeId}
end
section
variable {w00 : World} {N : Nat} {L : List Loc} {E : List (Nat × VTy)} {d : Nat} {t0 : TypeId} {pos : String} {af : Array Edge} {gd : Option (Nat × Bool)} {ats : Array TypeId}
end
section
variable {w00 : World} {N : Nat} {L : List Loc} {E : List (Nat × VTy)} {d : Nat} {t0 : TypeId} {pos : String} {af : Array Edge} {gd : Option (Nat × Bool)} {ats : Array TypeId}
end
section
variable {w00 : World} {N : Nat} {L : List Loc} {E : List (Nat × VTy)} {d : Nat} {t0 : TypeId} {pos : String} {af : Array Edge} {gd : Option (Nat × Bool)} {ats : Array TypeId}
end
section
variable {w00 : World} {N : Nat} {L : List Loc} {E : List (Nat × VTy)} {d : Nat} {t0 : TypeId} {pos : String} {af : Array Edge} {gd : Option (Nat × Bool)} {ats : Array TypeId}
end
section
variable {w00 : World} {N : Nat} {L : List Loc} {E : List (Nat × VTy)} {d : Nat} {t0 : TypeId} {pos : String} {af : Array Edge} {gd : Option (Nat × Bool)} {ats : Array TypeId}
end
section
variable {w00 : World} {N : Nat} {L : List Loc} {E : List (Nat × VTy)} {d : Nat} {t0 : TypeId} {pos : String} {af : Array Edge} {gd : Option (Nat × Bool)} {ats : Array TypeId}
end
section
variable {w00 : World} {N : Nat} {L : List Loc} {E : List (Nat × VTy)} {d : Nat} {t0 : TypeId} {pos : String} {af : Array Edge} {gd : Option (Nat × Bool)} {ats : Array TypeId}
end
section
variable {w00 : World} {N : Nat} {L : List Loc} {E : List (Nat × VTy)} {d : Nat} {t0 : TypeId} {pos : String} {af : Array Edge} {gd : Option (Nat × Bool)} {ats : Array TypeId}
end
section
variable {w00 : World} {N : Nat} {L : List Loc} {E : List (Nat × VTy)} {d : Nat} {t0 : TypeId} {pos : String} {af : Array Edge} {gd : Option (Nat × Bool)} {ats : Array TypeId}
end
section
variable {w00 : World} {N : Nat} {L : List Loc} {E : List (Nat × VTy)} {d : Nat} {t0 : TypeId} {pos : String} {af : Array Edge} {gd : Option (Nat × Bool)} {ats : Array TypeId}
end
section
variable {w00 : World} {N : Nat} {L : List Loc} {E : List (Nat × VTy)} {d : Nat} {t0 : TypeId} {pos : String} {af : Array Edge} {gd : Option (Nat × Bool)} {ats : Array TypeId}
end
section
variable {w00 : World} {N : Nat} {L : List Loc} {E : List (Nat × VTy)} {d : Nat} {t0 : TypeId} {pos : String} {af : Array Edge} {gd : Option (Nat × Bool)} {ats : Array TypeId}
end
theorem Lq.whole {k : Int} (hk : -9223372036854775808 ≤ k ∧ k ≤ 9223372036854775807) : Lq (k : Rat) 2 := ⟨of_lt' hk, by rw [show ((k : Rat).den : Int) = 1 from rfl]; decide⟩
section
variable {w00 : World} {N : Nat} {L : List Loc} {E : List (Nat × VTy)} {d : Nat} {t0 : TypeId} {pos : String} {af : Array Edge} {gd : Option (Nat × Bool)} {ats : Array TypeId}
end
section
variable {w00 : World} {N : Nat} {L : List Loc} {E : List (Nat × VTy)} {d : Nat} {t0 : TypeId} {pos : String} {af : Array Edge} {gd : Option (Nat × Bool)} {ats : Array TypeId}
end
/-- A fraction's limbs are at most so many. -/
def fewQ (L : Nat) (x : RawQ) : Prop := x.1.2.length ≤ L ∧ x.2.2.length ≤ L ∧ 0 < L
def VTy.rq (L : Nat) (l : List RawQ) : VTy := VTy.rw Rp.frac (fewQ L) l
instance {L : Nat} {x : RawQ} : AsQ (.el Rp.frac (fewQ L) x) (qv x) L := ⟨fun ⟨y, h, g⟩ => ⟨y, by rw [h.1]; exact ⟨rfl, by rw [← h.1]; exact h.2⟩, g⟩⟩
/-- A number in new blocks, with a property. -/
def VTy.nwn (p : RawI → Prop) (B : Nat) : VTy := ⟨fun X w v => ∃ x, p x ∧ ∃ cs : List Value, v = .agg cs.toArray ∧ Rp.num.rd w (NewB B X w) x cs, fun ⟨x, hp, cs, e, h⟩ hk hX => ⟨x, hp, cs, e, Rp.num.more (Rp.num.keep h (fun b hb => hk.block b hb.1.1 hb.1.2)) (fun b hb => by
  obtain ⟨h1, h2, c, h3⟩ := hb
  exact ⟨Free.mono hk hX b h1, h2, c, (hk.block b h1.1 h1.2).trans h3⟩)⟩⟩
def VTy.nn (N : Int) (L B : Nat) : VTy := VTy.nwn (fun x => Whole N x.1 x.2 ∧ (N.natAbs : Int) < 4294967296 ^ L) B
def VTy.ndn (N D : Int) (L B : Nat) : VTy := VTy.nw (fun x => Whole N x.1.1 x.1.2 ∧ Whole D x.2.1 x.2.2 ∧ (N.natAbs : Int) < 4294967296 ^ L ∧ (D.natAbs : Int) < 4294967296 ^ L) B
theorem nwn_ex {p : RawI → Prop} {B : Nat} {X : List Nat} {w : World} {v : Value} (h : (VTy.nwn p B).holds X w v) : (VTy.ex Rp.num p).holds X w v := by
  obtain ⟨x, hp, cs, e, h⟩ := h
  exact ⟨x, hp, cs, e, Rp.num.more h (fun b hb => hb.1)⟩
theorem nwn_le {p : RawI → Prop} {B B' : Nat} {X : List Nat} {w : World} {v : Value} (h : (VTy.nwn p B).holds X w v) (hB : B' ≤ B) : (VTy.nwn p B').holds X w v := by
  obtain ⟨x, hp, cs, e, h⟩ := h
  exact ⟨x, hp, cs, e, Rp.num.more h (fun b hb => ⟨hb.1, Nat.le_trans hB hb.2.1, hb.2.2⟩)⟩
instance {p : RawI → Prop} {B : Nat} : SizeV (.nwn p B) 2 true := ⟨fun h => (inferInstance : SizeV (.ex Rp.num p) Rp.num.k true).ok (nwn_ex h)⟩
instance {N : Int} {L B : Nat} : SizeV (.nn N L B) 2 true := inferInstanceAs (SizeV (.nwn _ _) 2 true)
instance {N D : Int} {L B : Nat} : SizeV (.ndn N D L B) 4 true := inferInstanceAs (SizeV (.nw _ _) 4 true)
instance {N : Int} {L B : Nat} : PartC (.nn N L B) 0 2 true (.nn N L B) := .whole inferInstance
instance {N D : Int} {L B : Nat} : PartC (.ndn N D L B) 0 4 true (.ndn N D L B) := .whole inferInstance
instance {N : Int} {L B : Nat} : AsN (.nn N L B) N L := ⟨fun h => (inferInstance : AsN (.nc N L) N L).ok (nwn_ex h)⟩
section
variable {w00 : World} {N : Nat} {L : List Loc} {E : List (Nat × VTy)} {d : Nat} {t0 : TypeId} {pos : String} {af : Array Edge} {gd : Option (Nat × Bool)} {ats : Array TypeId}
end
instance : AddC 2 1 3 := ⟨rfl⟩
/-- Just this fraction, however long. -/
def VTy.qz (x : RawQ) : VTy := VTy.ex Rp.frac fun y => y = x
instance {x : RawQ} : SizeV (.qz x) 4 true := inferInstanceAs (SizeV (.ex Rp.frac _) Rp.frac.k true)
instance {x : RawQ} : PartC (.qz x) 0 4 true (.qz x) := .whole inferInstance
theorem PartC.limbs1 {p : RawQ → Prop} {xs : List Int} (h : ∀ x, p x → x.1.2 = xs) : PartC (.ex Rp.frac p) 1 1 false (.rc Rp.limbs xs) := ⟨fun _ => rfl, fun {X w v} hv => by
  obtain ⟨x, hp, cs, rfl, c1, c2, rfl, h1, h2⟩ := hv
  obtain ⟨A, n, c, rfl, hs, hd⟩ := num_rd.1 h1
  refine ⟨[.slice A n c], rfl, fun j u hj => ?_, fun u _ hu => ?_⟩
  · have hj0 : j = 0 := by have := (List.getElem?_eq_some_iff.1 hj).1; simpa using this
    subst hj0
    simpa [Value.cells] using hj
  · have := hu rfl
    simp at this
    subst this
    exact ⟨A, n, c, rfl, by rw [← h x hp]; exact hs, by rw [← h x hp]; exact hd⟩⟩
theorem PartC.limbs3 {p : RawQ → Prop} {xs : List Int} (h : ∀ x, p x → x.2.2 = xs) : PartC (.ex Rp.frac p) 3 1 false (.rc Rp.limbs xs) := ⟨fun _ => rfl, fun {X w v} hv => by
  obtain ⟨x, hp, cs, rfl, c1, c2, rfl, h1, h2⟩ := hv
  obtain ⟨A0, n0, c0, rfl, _, _⟩ := num_rd.1 h1
  obtain ⟨A, n, c, rfl, hs, hd⟩ := num_rd.1 h2
  refine ⟨[.slice A n c], rfl, fun j u hj => ?_, fun u _ hu => ?_⟩
  · have hj0 : j = 0 := by have := (List.getElem?_eq_some_iff.1 hj).1; simpa using this
    subst hj0
    simpa [Value.cells] using hj
  · have := hu rfl
    simp at this
    subst this
    exact ⟨A, n, c, rfl, by rw [← h x hp]; exact hs, by rw [← h x hp]; exact hd⟩⟩
instance {x : RawQ} : PartC (.qz x) 1 1 false (.rc Rp.limbs x.1.2) := .limbs1 fun _ h => by rw [h]
instance {x : RawQ} : PartC (.qz x) 3 1 false (.rc Rp.limbs x.2.2) := .limbs3 fun _ h => by rw [h]
instance {x : RawQ} {L : Nat} : PartC (.qx x L) 1 1 false (.rc Rp.limbs x.1.2) := .limbs1 fun _ h => by rw [h.1]
instance {x : RawQ} {L : Nat} : PartC (.qx x L) 3 1 false (.rc Rp.limbs x.2.2) := .limbs3 fun _ h => by rw [h.1]
section
variable {w00 : World} {N : Nat} {L : List Loc} {E : List (Nat × VTy)} {d : Nat} {t0 : TypeId} {pos : String} {af : Array Edge} {gd : Option (Nat × Bool)} {ats : Array TypeId}
end
section
variable {w00 : World} {N : Nat} {L : List Loc} {E : List (Nat × VTy)} {d : Nat} {t0 : TypeId} {pos : String} {af : Array Edge} {gd : Option (Nat × Bool)} {ats : Array TypeId}
end
/-- A row of fractions of these values. -/
def VTy.rv (qs : List Rat) (L : Nat) : VTy := ⟨fun X w v => ∃ l : List RawQ, l.map qv = qs ∧ (VTy.rq L l).holds X w v, fun ⟨l, e, h⟩ hk hX => ⟨l, e, (VTy.rq L l).stable h hk hX⟩⟩
class AsR (T : VTy) (qs : outParam (List Rat)) (L : outParam Nat) : Prop where
  ok : ∀ {X w v}, T.holds X w v → (VTy.rv qs L).holds X w v
instance {qs : List Rat} {L : Nat} : AsR (.rv qs L) qs L := ⟨fun h => h⟩
instance {l : List RawQ} {L : Nat} : AsR (.rq L l) (l.map qv) L := ⟨fun h => ⟨l, rfl, h⟩⟩
theorem rangeAt_new {w : World} {cs ds pre : List Value} {T : TypeId} (h : pre ++ cs <+: ds) : (w.alloc (.cells ds.toArray T)).rangeAt w.heap.size pre.length cs := by
  intro j v hv
  obtain ⟨t, rfl⟩ := h
  refine cell_at (heap_new _ _) ?_
  have hj := (List.getElem?_eq_some_iff.1 hv).1
  simp only [List.getElem?_toArray, List.append_assoc]
  rw [List.getElem?_append_right (by omega), Nat.add_sub_cancel_left, List.getElem?_append_left hj]
  exact hv
section
variable {w00 : World} {N : Nat} {L : List Loc} {E : List (Nat × VTy)} {d : Nat} {t0 : TypeId} {pos : String} {af : Array Edge} {gd : Option (Nat × Bool)} {ats : Array TypeId}
end
/-- A right fraction; a right number. -/
class AsC (T : VTy) (q : outParam Rat) (L : outParam Nat) : Prop where
  ok : ∀ {X w v}, T.holds X w v → (VTy.qc q L).holds X w v
instance {q : Rat} {L : Nat} : AsC (.qc q L) q L := ⟨fun h => h⟩
instance {q : Rat} {L B : Nat} : AsC (.qn q L B) q L := ⟨fun h => nw_ex h⟩
class AsWn (T : VTy) (N : outParam Int) (L : outParam Nat) : Prop where
  ok : ∀ {X w v}, T.holds X w v → (VTy.nc N L).holds X w v
instance {N : Int} {L : Nat} : AsWn (.nc N L) N L := ⟨fun h => h⟩
instance {N : Int} {L B : Nat} : AsWn (.nn N L B) N L := ⟨fun h => nwn_ex h⟩
section
variable {w00 : World} {N : Nat} {L : List Loc} {E : List (Nat × VTy)} {d : Nat} {t0 : TypeId} {pos : String} {af : Array Edge} {gd : Option (Nat × Bool)} {ats : Array TypeId}
end
section
variable {w00 : World} {N : Nat} {L : List Loc} {E : List (Nat × VTy)} {d : Nat} {t0 : TypeId} {pos : String} {af : Array Edge} {gd : Option (Nat × Bool)} {ats : Array TypeId}
end
section
variable {w00 : World} {N : Nat} {L : List Loc} {E : List (Nat × VTy)} {d : Nat} {t0 : TypeId} {pos : String} {af : Array Edge} {gd : Option (Nat × Bool)} {ats : Array TypeId}
end
section
variable {w00 : World} {N : Nat} {L : List Loc} {E : List (Nat × VTy)} {d : Nat} {t0 : TypeId} {pos : String} {af : Array Edge} {gd : Option (Nat × Bool)} {ats : Array TypeId}
end
section
variable {w00 : World} {N : Nat} {L : List Loc} {E : List (Nat × VTy)} {d : Nat} {t0 : TypeId} {pos : String} {af : Array Edge} {gd : Option (Nat × Bool)} {ats : Array TypeId}
end
section
variable {w00 : World} {N : Nat} {L : List Loc} {E : List (Nat × VTy)} {d : Nat} {t0 : TypeId} {pos : String} {af : Array Edge} {gd : Option (Nat × Bool)} {ats : Array TypeId}
end
section
variable {w00 : World} {N : Nat} {L : List Loc} {E : List (Nat × VTy)} {d : Nat} {t0 : TypeId} {pos : String} {af : Array Edge} {gd : Option (Nat × Bool)} {ats : Array TypeId}
end
section
variable {w00 : World} {N : Nat} {L : List Loc} {E : List (Nat × VTy)} {d : Nat} {t0 : TypeId} {pos : String} {af : Array Edge} {gd : Option (Nat × Bool)} {ats : Array TypeId}
end
section
variable {w00 : World} {N : Nat} {L : List Loc} {E : List (Nat × VTy)} {d : Nat} {t0 : TypeId} {pos : String} {af : Array Edge} {gd : Option (Nat × Bool)} {ats : Array TypeId}
end
section
variable {w00 : World} {N : Nat} {L : List Loc} {E : List (Nat × VTy)} {d : Nat} {t0 : TypeId} {pos : String} {af : Array Edge} {gd : Option (Nat × Bool)} {ats : Array TypeId}
end
section
variable {w00 : World} {N : Nat} {L : List Loc} {E : List (Nat × VTy)} {d : Nat} {t0 : TypeId} {pos : String} {af : Array Edge} {gd : Option (Nat × Bool)} {ats : Array TypeId}
end
section
variable {w00 : World} {N : Nat} {L : List Loc} {E : List (Nat × VTy)} {d : Nat} {t0 : TypeId} {pos : String} {af : Array Edge} {gd : Option (Nat × Bool)} {ats : Array TypeId}
end
section
variable {w00 : World} {N : Nat} {L : List Loc} {E : List (Nat × VTy)} {d : Nat} {t0 : TypeId} {pos : String} {af : Array Edge} {gd : Option (Nat × Bool)} {ats : Array TypeId}
end
section
variable {w00 : World} {N : Nat} {L : List Loc} {E : List (Nat × VTy)} {d : Nat} {t0 : TypeId} {pos : String} {af : Array Edge} {gd : Option (Nat × Bool)} {ats : Array TypeId}
end
section
variable {w00 : World} {N : Nat} {L : List Loc} {E : List (Nat × VTy)} {d : Nat} {t0 : TypeId} {pos : String} {af : Array Edge} {gd : Option (Nat × Bool)} {ats : Array TypeId}
end
section
variable {w00 : World} {N : Nat} {L : List Loc} {E : List (Nat × VTy)} {d : Nat} {t0 : TypeId} {pos : String} {af : Array Edge} {gd : Option (Nat × Bool)} {ats : Array TypeId}
end
section
variable {w00 : World} {N : Nat} {L : List Loc} {E : List (Nat × VTy)} {d : Nat} {t0 : TypeId} {pos : String} {af : Array Edge} {gd : Option (Nat × Bool)} {ats : Array TypeId}
end
section
variable {w00 : World} {N : Nat} {L : List Loc} {E : List (Nat × VTy)} {d : Nat} {t0 : TypeId} {pos : String} {af : Array Edge} {gd : Option (Nat × Bool)} {ats : Array TypeId}
end
section
variable {w00 : World} {N : Nat} {L : List Loc} {E : List (Nat × VTy)} {d : Nat} {t0 : TypeId} {pos : String} {af : Array Edge} {gd : Option (Nat × Bool)} {ats : Array TypeId}
end
section
variable {w00 : World} {N : Nat} {L : List Loc} {E : List (Nat × VTy)} {d : Nat} {t0 : TypeId} {pos : String} {af : Array Edge} {gd : Option (Nat × Bool)} {ats : Array TypeId}
end
section
variable {w00 : World} {N : Nat} {L : List Loc} {E : List (Nat × VTy)} {d : Nat} {t0 : TypeId} {pos : String} {af : Array Edge} {gd : Option (Nat × Bool)} {ats : Array TypeId}
end
section
variable {w00 : World} {N : Nat} {L : List Loc} {E : List (Nat × VTy)} {d : Nat} {t0 : TypeId} {pos : String} {af : Array Edge} {gd : Option (Nat × Bool)} {ats : Array TypeId}
end
section
variable {w00 : World} {N : Nat} {L : List Loc} {E : List (Nat × VTy)} {d : Nat} {t0 : TypeId} {pos : String} {af : Array Edge} {gd : Option (Nat × Bool)} {ats : Array TypeId}
end
theorem Keeps.rfl' (X : List Nat) (w : World) : Keeps X w w := ⟨Nat.le_refl _, fun _ _ _ => rfl⟩
theorem TS.tail {w00 w : World} {X : List Nat} {L : List Loc} {E : List (Nat × VTy)} {n : Nat} {a : Act} {p : Loc} (h : TS w00 X (p :: L) E n a w) : TS w00 X L E n a w :=
  ⟨h.size, h.df, h.slots, ⟨fun p hp => h.mem.loc p (List.mem_cons_of_mem _ hp), h.mem.far, by have := h.mem.nodup; rw [List.map_cons, List.nodup_cons] at this; exact this.2, h.mem.below⟩⟩
instance {p : RawQ → Prop} {a : RawQ} : SizeV (.el Rp.frac p a) 4 true := inferInstanceAs (SizeV (.ex Rp.frac _) Rp.frac.k true)
instance {p : RawQ → Prop} {a : RawQ} : PartC (.el Rp.frac p a) 0 4 true (.el Rp.frac p a) := .whole inferInstance
section
variable {w00 : World} {N : Nat} {L : List Loc} {E : List (Nat × VTy)} {d : Nat} {t0 : TypeId} {pos : String} {af : Array Edge} {gd : Option (Nat × Bool)} {ats : Array TypeId}
end
section
variable {w00 : World} {N : Nat} {L : List Loc} {E : List (Nat × VTy)} {d : Nat} {t0 : TypeId} {pos : String} {af : Array Edge} {gd : Option (Nat × Bool)} {ats : Array TypeId}
end
section
variable {w00 : World} {N : Nat} {L : List Loc} {E : List (Nat × VTy)} {d : Nat} {t0 : TypeId} {pos : String} {af : Array Edge} {gd : Option (Nat × Bool)} {ats : Array TypeId}
end
section
variable {w00 : World} {N : Nat} {L : List Loc} {E : List (Nat × VTy)} {d : Nat} {t0 : TypeId} {pos : String} {af : Array Edge} {gd : Option (Nat × Bool)} {ats : Array TypeId}
end
section
variable {w00 : World} {N : Nat} {L : List Loc} {E : List (Nat × VTy)} {d : Nat} {t0 : TypeId} {pos : String} {af : Array Edge} {gd : Option (Nat × Bool)} {ats : Array TypeId}
end
section
variable {w00 : World} {N : Nat} {L : List Loc} {E : List (Nat × VTy)} {d : Nat} {t0 : TypeId} {pos : String} {af : Array Edge} {gd : Option (Nat × Bool)} {ats : Array TypeId}
end
/-- Just this fraction, however long. -/
class AsZ (T : VTy) (x : outParam RawQ) : Prop where
  ok : ∀ {X w v}, T.holds X w v → (VTy.qz x).holds X w v
instance {x : RawQ} : AsZ (.qz x) x := ⟨fun h => h⟩
instance {x : RawQ} {L : Nat} : AsZ (.qx x L) x := ⟨fun ⟨y, h, g⟩ => ⟨y, h.1, g⟩⟩
instance {L : Nat} {x : RawQ} : AsZ (.el Rp.frac (fewQ L) x) x := ⟨fun ⟨y, h, g⟩ => ⟨y, h.1, g⟩⟩
section
variable {w00 : World} {N : Nat} {L : List Loc} {E : List (Nat × VTy)} {d : Nat} {t0 : TypeId} {pos : String} {af : Array Edge} {gd : Option (Nat × Bool)} {ats : Array TypeId}
end
/-- Just this number, however long. -/
def VTy.nz (x : RawI) : VTy := VTy.ex Rp.num fun y => y = x
instance {x : RawI} : SizeV (.nz x) 2 true := inferInstanceAs (SizeV (.ex Rp.num _) Rp.num.k true)
instance {x : RawI} : PartC (.nz x) 0 2 true (.nz x) := .whole inferInstance
theorem PartC.limbsI {p : RawI → Prop} {xs : List Int} (h : ∀ x, p x → x.2 = xs) : PartC (.ex Rp.num p) 1 1 false (.rc Rp.limbs xs) := ⟨fun _ => rfl, fun {X w v} hv => by
  obtain ⟨x, hp, cs, rfl, h1⟩ := hv
  obtain ⟨A, n, c, rfl, hs, hd⟩ := num_rd.1 h1
  refine ⟨[.slice A n c], rfl, fun j u hj => ?_, fun u _ hu => ?_⟩
  · have hj0 : j = 0 := by have := (List.getElem?_eq_some_iff.1 hj).1; simpa using this
    subst hj0
    simpa [Value.cells] using hj
  · have := hu rfl
    simp at this
    subst this
    exact ⟨A, n, c, rfl, by rw [← h x hp]; exact hs, by rw [← h x hp]; exact hd⟩⟩
instance {x : RawI} : PartC (.nz x) 1 1 false (.rc Rp.limbs x.2) := .limbsI fun _ h => by rw [h]
instance {x : RawI} {L : Nat} : PartC (.nx x L) 1 1 false (.rc Rp.limbs x.2) := .limbsI fun _ h => by rw [h.1]
section
variable {w00 : World} {N : Nat} {L : List Loc} {E : List (Nat × VTy)} {d : Nat} {t0 : TypeId} {pos : String} {af : Array Edge} {gd : Option (Nat × Bool)} {ats : Array TypeId}
end
/-- The blocks from B on. -/
def above (B : Nat) (w : World) : List Nat := (List.range w.heap.size).filter (fun b => decide (B ≤ b))
theorem mem_above {B : Nat} {w : World} {b : Nat} : b ∈ above B w ↔ b < w.heap.size ∧ B ≤ b := by simp [above]
/-- It hangs on no block from B on. -/
def VTy.und (B : Nat) (T : VTy) : VTy := ⟨fun X w v => B ≤ w.heap.size ∧ T.holds (X ++ above B w) w v, fun ⟨hB, h⟩ hk hX => ⟨Nat.le_trans hB hk.size, T.stable h ⟨hk.size, fun b hb hx => hk.block b hb (fun h => hx (List.mem_append_left _ h))⟩ (fun b hb hlt => by
  rcases List.mem_append.1 hb with hb | hb
  · exact List.mem_append_left _ (hX b hb hlt)
  · exact List.mem_append_right _ (mem_above.2 ⟨hlt, (mem_above.1 hb).2⟩))⟩⟩
theorem und_weak {B : Nat} {T : VTy} {X : List Nat} {w : World} {v : Value} (h : (VTy.und B T).holds X w v) : T.holds X w v := T.stable h.2 (Keeps.rfl' _ _) (fun _ hb _ => List.mem_append_left _ hb)
theorem und_new {T : VTy} {X : List Nat} {w : World} {v : Value} (h : T.holds X w v) : (VTy.und w.heap.size T).holds X w v := ⟨Nat.le_refl _, T.stable h (Keeps.rfl' _ _) (fun b hb hlt => by
  rcases List.mem_append.1 hb with hb | hb
  · exact hb
  · have := (mem_above.1 hb).2; omega)⟩
instance {B k : Nat} {ag : Bool} {T : VTy} [z : SizeV T k ag] : SizeV (.und B T) k ag := ⟨fun h => z.ok (und_weak h)⟩
instance {B off k : Nat} {ag : Bool} {T T' : VTy} [p : PartC T off k ag T'] : PartC (.und B T) off k ag (.und B T') := ⟨p.one, fun {X w v} h => by
  obtain ⟨hB, h⟩ := h
  obtain ⟨cs, h1, h2, h3⟩ := p.ok h
  exact ⟨cs, h1, h2, fun u hu hu' => ⟨hB, h3 u hu hu'⟩⟩⟩
instance {B L : Nat} {q : Rat} {T : VTy} [a : AsQ T q L] : AsQ (.und B T) q L := ⟨fun h => a.ok (und_weak h)⟩
instance {B : Nat} {x : RawQ} {T : VTy} [a : AsZ T x] : AsZ (.und B T) x := ⟨fun h => a.ok (und_weak h)⟩
instance {B L : Nat} {q : Rat} {T : VTy} [a : AsC T q L] : AsC (.und B T) q L := ⟨fun h => a.ok (und_weak h)⟩
class AsX (T : VTy) (x : outParam RawQ) (L : outParam Nat) : Prop where
  ok : ∀ {X w v}, T.holds X w v → (VTy.qx x L).holds X w v
instance {x : RawQ} {L : Nat} : AsX (.qx x L) x L := ⟨fun h => h⟩
instance {B L : Nat} {x : RawQ} {T : VTy} [a : AsX T x L] : AsX (.und B T) x L := ⟨fun h => a.ok (und_weak h)⟩
/-- Memory is B blocks at least. -/
class SzC (L : List Loc) (B : outParam Nat) : Prop where
  ok : ∀ {w00 : World} {X : List Nat} {w : World}, Mem w00 X L w → B ≤ w.heap.size
instance SzC.here {L : List Loc} {r B : Nat} {T : VTy} : SzC ((r, .und B T) :: L) B := ⟨fun h => by obtain ⟨_, _, v, ty, h1, _⟩ := h.loc _ List.mem_cons_self; exact h1.1⟩
instance (priority := low) SzC.there {L : List Loc} {p : Loc} {B : Nat} [k : SzC L B] : SzC (p :: L) B := ⟨fun h => k.ok ⟨fun p hp => h.loc p (List.mem_cons_of_mem _ hp), h.far, by have := h.nodup; rw [List.map_cons, List.nodup_cons] at this; exact this.2, h.below⟩⟩
/-- What is left of an answer: two rows that may be written over, in new blocks. -/
def Sh (B : Nat) (X : List Nat) (w : World) (A : Option Addr) (n : Nat) : Prop :=
  n ≤ 9223372036854775807 ∧ (0 < n → ∃ b off cs, A = some ⟨b, off, none⟩ ∧ b < w.heap.size ∧ b ∉ X ∧ B ≤ b ∧ w.heap[b]? = some (.cells cs 77 (0, 0)) ∧ off + n ≤ cs.size)
def VTy.jk (B : Nat) : VTy := ⟨fun X w v => ∃ s A n c s2 A2 n2 c2, v = .agg #[.bool s, .slice A n c, .bool s2, .slice A2 n2 c2] ∧ Sh B X w A n ∧ Sh B X w A2 n2, fun {X X' w w' v} ⟨s, A, n, c, s2, A2, n2, c2, e, h1, h2⟩ hk hX => by
  have key : ∀ {A : Option Addr} {n : Nat}, Sh B X w A n → Sh B X' w' A n := fun {A n} h => ⟨h.1, fun hn => by
    obtain ⟨b, off, cs, e, g1, g2, g3, g4, g5⟩ := h.2 hn
    exact ⟨b, off, cs, e, Nat.lt_of_lt_of_le g1 hk.size, fun hb => g2 (hX b hb g1), g3, (hk.block b g1 g2).trans g4, g5⟩⟩
  exact ⟨s, A, n, c, s2, A2, n2, c2, e, key h1, key h2⟩⟩
instance {B : Nat} : SizeV (.jk B) 4 true := ⟨fun {X w v} ⟨s, A, n, c, s2, A2, n2, c2, e, h1, h2⟩ => by rw [e]; exact ⟨rfl, by simp [Value.cells, Value.oneCell'], fun _ => rfl, fun h => by cases h⟩⟩
instance {B : Nat} : PartC (.jk B) 0 4 true (.jk B) := .whole inferInstance
theorem sh_of {B : Nat} {X : List Nat} {w : World} {A : Option Addr} {n c : Nat} {xs : List Int} (h : SlF .u32 w (NewB B X w) A n c xs) : Sh B X w A n := by
  refine ⟨h.1.lenMax, fun hn => ?_⟩
  obtain ⟨b, off, x, rfl, _, _, hc⟩ := h.1.at_ (j := n - 1) (by omega)
  obtain ⟨g1, g2, cs, g3⟩ := h.2 hn b rfl
  refine ⟨b, off, cs, rfl, g1.1, g1.2, g2, g3, ?_⟩
  unfold World.cell? at hc
  simp only [g3] at hc
  have := (Array.getElem?_eq_some_iff.1 (show cs[off + (n - 1)]? = some _ from by simpa using hc)).1
  omega
theorem nw_jk {p : RawQ → Prop} {B : Nat} {X : List Nat} {w : World} {v : Value} (h : (VTy.nw p B).holds X w v) : (VTy.jk B).holds X w v := by
  obtain ⟨x, hp, cs, rfl, c1, c2, rfl, h1, h2⟩ := h
  obtain ⟨A, n, c, rfl, s1, _⟩ := num_rd.1 h1
  obtain ⟨A2, n2, c2, rfl, s2, _⟩ := num_rd.1 h2
  exact ⟨x.1.1, A, n, c, x.2.1, A2, n2, c2, rfl, sh_of s1, sh_of s2⟩
/-- Some limbs of blocks from B on, that are not set aside, have been written over. -/
structure Sp (B : Nat) (X : List Nat) (w w' : World) : Prop where
  os : w'.os = w.os
  tape : w'.tape = w.tape
  output : w'.output = w.output
  size : w.heap.size ≤ w'.heap.size
  block : ∀ b, b < w.heap.size → w'.heap[b]? = w.heap[b]? ∨ (B ≤ b ∧ b ∉ X ∧ ∃ cs cs' : Array Value, w.heap[b]? = some (.cells cs 77 (0, 0)) ∧ w'.heap[b]? = some (.cells cs' 77 (0, 0)) ∧ cs'.size = cs.size)
theorem Sp.refl (B : Nat) (X : List Nat) (w : World) : Sp B X w w := ⟨rfl, rfl, rfl, Nat.le_refl _, fun _ _ => .inl rfl⟩
theorem Sp.alloc {B : Nat} {X : List Nat} {w w' : World} (h : Sp B X w w') (o : Obj) : Sp B X w (w'.alloc o) := by
  refine ⟨h.os, h.tape, h.output, Nat.le_trans h.size (by simp), fun b hb => ?_⟩
  rw [Below.heap_alloc _ _ _ (Nat.lt_of_lt_of_le hb h.size)]
  exact h.block b hb
theorem Sp.cells {B : Nat} {X : List Nat} {w w' : World} {b : Nat} {cs : Array Value} (h : Sp B X w w') (hb : b < w.heap.size) (hc : w.heap[b]? = some (.cells cs 77 (0, 0))) : ∃ cs' : Array Value, w'.heap[b]? = some (.cells cs' 77 (0, 0)) ∧ cs'.size = cs.size := by
  rcases h.block b hb with e | ⟨_, _, c0, c1, e0, e1, e2⟩
  · exact ⟨cs, e.trans hc, rfl⟩
  · rw [hc] at e0
    injection e0 with e0
    injection e0 with e0
    subst e0
    exact ⟨c1, e1, e2⟩
theorem heap_setCell_at {w : World} {b j : Nat} {cs : Array Value} {t : TypeId} {f : Nat × Nat} (v : Value) (h : w.heap[b]? = some (.cells cs t f)) : (w.setCell ⟨b, j, none⟩ v).heap[b]? = some (.cells (cs.setIfInBounds j v) t f) := by
  simp only [World.setCell, Array.getElem?_modify, h]
  simp
theorem Sp.set {B : Nat} {X : List Nat} {w w' : World} {b j : Nat} {cs : Array Value} (h : Sp B X w w') (hb : b < w.heap.size) (hB : B ≤ b) (hX : b ∉ X) (hc : w.heap[b]? = some (.cells cs 77 (0, 0))) (v : Value) : Sp B X w (w'.setCell ⟨b, j, none⟩ v) := by
  refine ⟨h.os, h.tape, h.output, Nat.le_trans h.size (by simp [World.setCell]), fun i hi => ?_⟩
  by_cases e : i = b
  · subst e
    obtain ⟨c1, e1, e2⟩ := h.cells hi hc
    exact .inr ⟨hB, hX, cs, _, hc, heap_setCell_at v e1, by simp [e2]⟩
  · rw [Below.heap_setCell _ _ _ _ e]
    exact h.block i hi
theorem Sh.sp {B : Nat} {X : List Nat} {w w' : World} {A : Option Addr} {n : Nat} (h : Sh B X w A n) (hs : Sp B X w w') : Sh B X w' A n := ⟨h.1, fun hn => by
  obtain ⟨b, off, cs, e, g1, g2, g3, g4, g5⟩ := h.2 hn
  obtain ⟨c1, e1, e2⟩ := hs.cells g1 g4
  exact ⟨b, off, c1, e, Nat.lt_of_lt_of_le g1 hs.size, g2, g3, e1, by omega⟩⟩
/-- The cell of a row's element. -/
theorem Sh.at {B : Nat} {X : List Nat} {w w' : World} {A : Option Addr} {n : Nat} (h : Sh B X w A n) (hs : Sp B X w w') {k : Nat} (hk : k < n) : ∃ b off cs x, A = some ⟨b, off, none⟩ ∧ b < w.heap.size ∧ B ≤ b ∧ b ∉ X ∧ w.heap[b]? = some (.cells cs 77 (0, 0)) ∧ w'.cell? ⟨b, off + k, none⟩ = some x ∧ w'.frozen? ⟨b, off + k, none⟩ = false := by
  obtain ⟨b, off, cs, e, g1, g2, g3, g4, g5⟩ := h.2 (by omega)
  obtain ⟨c1, e1, e2⟩ := hs.cells g1 g4
  have hlt : off + k < c1.size := by omega
  refine ⟨b, off, cs, c1[off + k], e, g1, g3, g2, g4, ?_, ?_⟩
  · unfold World.cell?
    simp [e1, hlt]
  · unfold World.frozen?
    simp [e1]
section
variable {w00 : World} {N : Nat} {L : List Loc} {E : List (Nat × VTy)} {d : Nat} {t0 : TypeId} {pos : String} {af : Array Edge} {gd : Option (Nat × Bool)} {ats : Array TypeId}
end
section
variable {P : Program} {w00 : World} {N : Nat} {L : List Loc} {E : List (Nat × VTy)} {d : Nat} {t0 : TypeId} {pos : String} {af : Array Edge} {gd : Option (Nat × Bool)} {ats : Array TypeId}
end
section
variable {w00 : World} {N : Nat} {L : List Loc} {E : List (Nat × VTy)} {d : Nat} {t0 : TypeId} {pos : String} {af : Array Edge} {gd : Option (Nat × Bool)} {ats : Array TypeId}
end
/-- What becomes of a value where blocks from B on have been written over. -/
class SurvC (B : Nat) (T : VTy) (T' : outParam VTy) : Prop where
  ok : ∀ {X : List Nat} {w w' : World} {v : Value}, T.holds X w v → Sp B X w w' → T'.holds X w' v
instance {B : Nat} {c : Value} : SurvC B (.is c) (.is c) := ⟨fun h _ => h⟩
instance {B : Nat} {T : VTy} : SurvC B (.und B T) (.und B T) := ⟨fun {X w w' v} ⟨hB, h⟩ hs => ⟨Nat.le_trans hB hs.size, T.stable h ⟨hs.size, fun b hb hx => by
  rcases hs.block b hb with e | ⟨g, _⟩
  · exact e
  · exact absurd (List.mem_append_right _ (mem_above.2 ⟨hb, g⟩)) hx⟩ (fun b hb hlt => by
  rcases List.mem_append.1 hb with hb | hb
  · exact List.mem_append_left _ hb
  · exact List.mem_append_right _ (mem_above.2 ⟨hlt, (mem_above.1 hb).2⟩))⟩⟩
instance SurvC.jk {B : Nat} : SurvC B (.jk B) (.jk B) := ⟨fun {X w w' v} ⟨s, A, n, c, s2, A2, n2, c2, e, h1, h2⟩ hs => ⟨s, A, n, c, s2, A2, n2, c2, e, h1.sp hs, h2.sp hs⟩⟩
instance {B : Nat} {p : RawQ → Prop} : SurvC B (.nw p B) (.jk B) := ⟨fun h hs => SurvC.jk.ok (nw_jk h) hs⟩
instance {B L : Nat} {q : Rat} : SurvC B (.qn q L B) (.jk B) := ⟨fun h hs => SurvC.jk.ok (nw_jk h) hs⟩
instance {B L : Nat} {q : Rat} : SurvC B (.qg q L B) (.jk B) := ⟨fun h hs => SurvC.jk.ok (nw_jk h) hs⟩
class SurvL (B : Nat) (L : List Loc) (L' : outParam (List Loc)) : Prop where
  keys : L'.map Prod.fst = L.map Prod.fst
  ok : ∀ p ∈ L', ∃ T, (p.1, T) ∈ L ∧ ∀ {X : List Nat} {w w' : World} {v : Value}, T.holds X w v → Sp B X w w' → p.2.holds X w' v
instance SurvL.nil {B : Nat} : SurvL B [] [] := ⟨rfl, fun _ h => by cases h⟩
instance SurvL.cons {B r : Nat} {L L' : List Loc} {T T' : VTy} [a : SurvC B T T'] [k : SurvL B L L'] : SurvL B ((r, T) :: L) ((r, T') :: L') := ⟨by rw [List.map_cons, List.map_cons, k.keys], fun p hp => by
  rcases List.mem_cons.1 hp with rfl | hp
  · exact ⟨T, List.mem_cons_self, a.ok⟩
  · obtain ⟨U, h1, h2⟩ := k.ok p hp
    exact ⟨U, List.mem_cons_of_mem _ h1, h2⟩⟩
class AsJ (T : VTy) (B : Nat) : Prop where
  ok : ∀ {X w v}, T.holds X w v → (VTy.jk B).holds X w v
instance {B : Nat} : AsJ (.jk B) B := ⟨fun h => h⟩
instance {B L : Nat} {q : Rat} : AsJ (.qn q L B) B := ⟨nw_jk⟩
instance {B L : Nat} {q : Rat} : AsJ (.qg q L B) B := ⟨nw_jk⟩
section
variable {w00 w : World} {X : List Nat} {L L' : List Loc} {E E' : List (Nat × VTy)} {n : Nat} {a : Act} {Q : Exit → Act → World → Prop} {ops : Array Oper} {rest : List Oper}
end
/-- A block that holds no cells of this type. -/
def FreeK (e : TypeId) (X : List Nat) (w : World) (b : Nat) : Prop := Free X w b ∧ ∃ cs t f, w.heap[b]? = some (.cells cs t f) ∧ t ≠ e
theorem FreeK.mono {e : TypeId} {X X' : List Nat} {w w' : World} (hk : Keeps X w w') (hX : ∀ b ∈ X', b < w.heap.size → b ∈ X) (b : Nat) (h : FreeK e X w b) : FreeK e X' w' b := by
  obtain ⟨h1, cs, t, f, h3, h4⟩ := h
  exact ⟨Free.mono hk hX b h1, cs, t, f, (hk.block b h1.1 h1.2).trans h3, h4⟩
theorem Rp.upK {α : Type} (r : Rp α) {e : TypeId} {X X' : List Nat} {w w' : World} {a : α} {cs : List Value} (h : r.rd w (FreeK e X w) a cs) (hk : Keeps X w w') (hX : ∀ b ∈ X', b < w.heap.size → b ∈ X) : r.rd w' (FreeK e X' w') a cs :=
  r.more (r.keep h fun b hb => hk.block b hb.1.1 hb.1.2) (FreeK.mono hk hX)
theorem Rp.unK {α : Type} (r : Rp α) {e : TypeId} {X : List Nat} {w : World} {a : α} {cs : List Value} (h : r.rd w (FreeK e X w) a cs) : r.rd w (Free X w) a cs := r.more h fun _ hb => hb.1
theorem OwnV.same {sz : Nat} {e : TypeId} {w w' : World} {B : Nat} {A : Option Addr} {n c : Nat} {vs : List Value} (h : OwnV sz e w B A n c vs) (hk : ∀ g, blk A = some g → w'.heap[g]? = w.heap[g]?) : OwnV sz e w' B A n c vs := by
  refine ⟨h.1, ?_⟩
  rcases h.2 with h1 | ⟨g, cap, cur, h1, h2, h3, h4⟩
  · exact .inl h1
  · refine .inr ⟨g, cap, cur, h1, h2, (hk g ?_).trans h3, h4⟩
    injection h1 with h1
    rw [h1]; rfl
theorem OwnV.type {sz : Nat} {e : TypeId} {w : World} {B : Nat} {A : Option Addr} {n c : Nat} {vs : List Value} (h : OwnV sz e w B A n c vs) {g : Nat} (hg : blk A = some g) : ∃ cur, w.heap[g]? = some (.cells cur e (0, 0)) := by
  rcases h.2 with ⟨h1, _⟩ | ⟨g', cap, cur, h1, h2, h3, h4⟩
  · injection h1 with h1
    rw [h1] at hg; cases hg
  · injection h1 with h1
    rw [h1] at hg
    injection hg with hg
    subst hg
    exact ⟨cur, h3⟩
/-- A struct whose blocks hold no cells of the type e; a row of one such; a row of the call's own, from B on. -/
def VTy.kx {α : Type} (r : Rp α) (e : TypeId) (p : α → Prop) (a : α) : VTy := ⟨fun X w v => p a ∧ ∃ cs : List Value, v = .agg cs.toArray ∧ r.rd w (FreeK e X w) a cs, fun ⟨hp, cs, e, h⟩ hk hX => ⟨hp, cs, e, r.upK h hk hX⟩⟩
def VTy.r1 {α : Type} (r : Rp α) (e : TypeId) (p : α → Prop) (a : α) : VTy := ⟨fun X w v => p a ∧ ∃ b o cs, v = .slice (some ⟨b, o, none⟩) 1 1 ∧ Free X w b ∧ w.rangeAt b o cs ∧ r.rd w (FreeK e X w) a cs,
  fun ⟨hp, b, o, cs, e, hb, h1, h2⟩ hk hX => ⟨hp, b, o, cs, e, Free.mono hk hX b hb, rangeAt_keep h1 (hk.block b hb.1 hb.2), r.upK h2 hk hX⟩⟩
def VTy.ow {α : Type} (r : Rp α) (e : TypeId) (p : α → Prop) (B : Nat) (l : List α) : VTy := ⟨fun X w v => ∃ (A : Option Addr) (c : Nat) (ps : List (α × List Value)), v = .slice A l.length c ∧ ps.map Prod.fst = l ∧ (∀ q ∈ ps, p q.1 ∧ r.rd w (FreeK e X w) q.1 q.2) ∧ OwnV r.k e w B A l.length c (ps.flatMap Prod.snd) ∧ (∀ g, blk A = some g → Free X w g) ∧ (l = [] → A = none),
  fun ⟨A, c, ps, h1, h2, h3, h4, h5, h6⟩ hk hX => ⟨A, c, ps, h1, h2, fun q hq => ⟨(h3 q hq).1, r.upK (h3 q hq).2 hk hX⟩, h4.same fun g hg => hk.block g (h5 g hg).1 (h5 g hg).2, fun g hg => Free.mono hk hX g (h5 g hg), h6⟩⟩
instance {α : Type} {r : Rp α} {e : TypeId} {p : α → Prop} {B : Nat} {l : List α} : SizeV (.ow r e p B l) 1 false := ⟨fun {X w v} ⟨A, c, ps, h1, _⟩ => by rw [h1]; exact ⟨rfl, by simp [Value.cells, Value.oneCell'], (fun h => by cases h), fun _ => rfl⟩⟩
theorem ow_nil {α : Type} {r : Rp α} {e : TypeId} {p : α → Prop} {B : Nat} {X : List Nat} {w : World} {v : Value} (h : (VTy.is (.slice none 0 0)).holds X w v) : (VTy.ow r e p B []).holds X w v := by
  obtain rfl : v = _ := h
  exact ⟨none, 0, [], rfl, rfl, (fun _ h => by cases h), OwnV.nil, (fun g hg => by cases hg), fun _ => rfl⟩
theorem flat_get {α : Type} {k : Nat} : ∀ {ps : List (α × List Value)} (hl : ∀ q ∈ ps, q.2.length = k) {j i : Nat} {q : α × List Value} {u : Value}, ps[j]? = some q → q.2[i]? = some u → (ps.flatMap Prod.snd)[j * k + i]? = some u
  | [], _, _, _, _, _, h, _ => by simp at h
  | q0 :: ps, hl, 0, i, q, u, h, hu => by
    have e : q0 = q := by simpa using h
    subst e
    rw [List.flatMap_cons, Nat.zero_mul, Nat.zero_add, List.getElem?_append_left (List.getElem?_eq_some_iff.1 hu).1]
    exact hu
  | q0 :: ps, hl, j + 1, i, q, u, h, hu => by
    have h0 := hl q0 List.mem_cons_self
    rw [List.flatMap_cons, List.getElem?_append_right (by rw [h0, Nat.succ_mul]; omega), h0]
    have := flat_get (fun q hq => hl q (List.mem_cons_of_mem _ hq)) (show ps[j]? = some q by simpa using h) hu
    rw [show (j + 1) * k + i - k = j * k + i by rw [Nat.succ_mul]; omega]
    exact this
theorem ow_rw {α : Type} {r : Rp α} {e : TypeId} {p : α → Prop} {B : Nat} {l : List α} {X : List Nat} {w : World} {v : Value} (h : (VTy.ow r e p B l).holds X w v) : (VTy.rw r p l).holds X w v := by
  obtain ⟨A, c, ps, rfl, rfl, h3, h4, h5, _⟩ := h
  refine ⟨fun a ha => ?_, A, _, c, rfl, rfl, ?_⟩
  · obtain ⟨q, hq, rfl⟩ := List.mem_map.1 ha
    exact (h3 q hq).1
  · obtain ⟨g1, g2, g3, g4, g5⟩ := h4.sl
    refine ⟨g2, g3, g4, fun hn => ?_⟩
    obtain ⟨b, off, rfl, hb, hc⟩ := g5 hn
    refine ⟨b, off, rfl, h5 b rfl, fun j a ha => ?_⟩
    rw [List.getElem?_map] at ha
    cases hq : ps[j]? with
    | none => rw [hq] at ha; cases ha
    | some q =>
      rw [hq] at ha
      obtain rfl : q.1 = a := by simpa using ha
      refine ⟨q.2, fun i u hu => ?_, r.unK (h3 q (List.mem_of_getElem? hq)).2⟩
      have := hc (j * r.k + i) u (flat_get (fun q hq => r.len (h3 q hq).2) hq hu)
      rw [Nat.add_assoc]
      exact this
/-- What is set aside, and what lies below B, stays. -/
structure Ch (B : Nat) (X : List Nat) (w w' : World) : Prop where
  os : w'.os = w.os
  tape : w'.tape = w.tape
  output : w'.output = w.output
  size : w.heap.size ≤ w'.heap.size
  block : ∀ b, b < w.heap.size → w'.heap[b]? = w.heap[b]? ∨ (B ≤ b ∧ b ∉ X)
class SurvU (B : Nat) (T : VTy) : Prop where
  ok : ∀ {X : List Nat} {w w' : World} {v : Value}, T.holds X w v → Ch B X w w' → T.holds X w' v
instance {B : Nat} {c : Value} : SurvU B (.is c) := ⟨fun h _ => h⟩
instance {B : Nat} {T : VTy} : SurvU B (.und B T) := ⟨fun {X w w' v} ⟨hB, h⟩ hs => ⟨Nat.le_trans hB hs.size, T.stable h ⟨hs.size, fun b hb hx => by
  rcases hs.block b hb with e | ⟨g, _⟩
  · exact e
  · exact absurd (List.mem_append_right _ (mem_above.2 ⟨hb, g⟩)) hx⟩ (fun b hb hlt => by
  rcases List.mem_append.1 hb with hb | hb
  · exact List.mem_append_left _ hb
  · exact List.mem_append_right _ (mem_above.2 ⟨hlt, (mem_above.1 hb).2⟩))⟩⟩
class SurvUL (B : Nat) (L : List Loc) : Prop where
  ok : ∀ p ∈ L, ∀ {X : List Nat} {w w' : World} {v : Value}, p.2.holds X w v → Ch B X w w' → p.2.holds X w' v
instance SurvUL.nil {B : Nat} : SurvUL B [] := ⟨fun _ h => by cases h⟩
instance SurvUL.cons {B r : Nat} {L : List Loc} {T : VTy} [a : SurvU B T] [k : SurvUL B L] : SurvUL B ((r, T) :: L) := ⟨fun p hp => by
  rcases List.mem_cons.1 hp with rfl | hp
  · exact a.ok
  · exact k.ok p hp⟩
section
variable {P : Program} {w00 w : World} {X : List Nat} {L : List Loc} {E E0 : List (Nat × VTy)} {n : Nat} {a : Act} {Q : Exit → Act → World → Prop} {ops : Array Oper} {rest : List Oper}
theorem TS.ch {B : Nat} {w' : World} (h : TS w00 X L E n a w) (hs : Ch B X w w') (hB : w00.heap.size ≤ B) [kL : SurvUL B L] [kE : SurvUL B E] : TS w00 X L E n a w' := by
  refine ⟨h.size, h.df, fun p hp => kE.ok p hp (h.slots p hp) hs, ⟨fun p hp => ?_, fun b hb => Nat.lt_of_lt_of_le (h.mem.far b hb) hs.size, h.mem.nodup, ?_⟩⟩
  · obtain ⟨g1, g2, v, ty, g3, g4⟩ := h.mem.loc p hp
    refine ⟨g1, g2, v, ty, kL.ok p hp g3 hs, ?_⟩
    rcases hs.block p.1 (h.mem.far _ g1) with e | ⟨_, g⟩
    · exact e.trans g4
    · exact absurd g1 g
  · refine h.mem.below.trans ⟨hs.os, hs.tape, hs.output, hs.size, fun b hb => ?_⟩
    rcases hs.block b (Nat.lt_of_lt_of_le hb h.mem.below.size) with e | ⟨g, _⟩
    · exact e
    · omega
theorem TS.cast {s : Nat} {T T' : VTy} (h : TS w00 X L ((s, T) :: E) n a w) (hT : ∀ X w v, T.holds X w v → T'.holds X w v) : TS w00 X L ((s, T') :: E) n a w := ⟨h.size, h.df, fun p hp => by
  rcases List.mem_cons.1 hp with rfl | hp
  · exact hT _ _ _ (h.slots _ List.mem_cons_self)
  · exact h.slots p (List.mem_cons_of_mem _ hp), h.mem⟩
theorem TS.ageE {s : Nat} {T : VTy} (h : TS w00 X L ((s, T) :: E) n a w) : TS w00 X L ((s, .und w.heap.size T) :: E) n a w := ⟨h.size, h.df, fun p hp => by
  rcases List.mem_cons.1 hp with rfl | hp
  · exact und_new (h.slots _ List.mem_cons_self)
  · exact h.slots p (List.mem_cons_of_mem _ hp), h.mem⟩
end
theorem kx_ex {α : Type} {r : Rp α} {e : TypeId} {p : α → Prop} {a : α} {X : List Nat} {w : World} {v : Value} (h : (VTy.kx r e p a).holds X w v) : (VTy.ex r (fun y => y = a ∧ p y)).holds X w v := by
  obtain ⟨hp, cs, rfl, h⟩ := h
  exact ⟨a, ⟨rfl, hp⟩, cs, rfl, r.unK h⟩
instance {α : Type} {r : Rp α} {e : TypeId} {p : α → Prop} {a : α} : SizeV (.kx r e p a) r.k true := ⟨fun h => (inferInstance : SizeV (.ex r _) r.k true).ok (kx_ex h)⟩
instance {α : Type} {r : Rp α} {e : TypeId} {p : α → Prop} {a : α} : SizeV (.r1 r e p a) 1 false := ⟨fun {X w v} ⟨_, b, o, cs, h, _⟩ => by rw [h]; exact ⟨rfl, by simp [Value.cells, Value.oneCell'], (fun h => by cases h), fun _ => rfl⟩⟩
instance {e : TypeId} {p : RawQ → Prop} {x : RawQ} : SizeV (.kx Rp.frac e p x) 4 true := inferInstanceAs (SizeV (.kx Rp.frac e p x) Rp.frac.k true)
/-- As a row whose elements have a property. -/
class AsW {α : outParam Type} (T : VTy) (r : outParam (Rp α)) (p : outParam (α → Prop)) (l : outParam (List α)) : Prop where
  ok : ∀ {X w v}, T.holds X w v → (VTy.rw r p l).holds X w v
instance {α : Type} {r : Rp α} {p : α → Prop} {l : List α} : AsW (.rw r p l) r p l := ⟨fun h => h⟩
instance {α : Type} {r : Rp α} {p : α → Prop} {l : List α} {T : VTy} {B : Nat} [a : AsW T r p l] : AsW (.und B T) r p l := ⟨fun h => a.ok (und_weak h)⟩
instance {α : Type} {r : Rp α} {e : TypeId} {p : α → Prop} {B : Nat} {l : List α} : AsW (.ow r e p B l) r p l := ⟨ow_rw⟩
instance {p : RawQ → Prop} {x : RawQ} : AsZ (.el Rp.frac p x) x := ⟨fun ⟨y, h, g⟩ => ⟨y, h.1, g⟩⟩
theorem few_all {X : List Nat} {w : World} {v : Value} {l : List RawQ} {p p' : RawQ → Prop} (h : (VTy.rw Rp.frac p l).holds X w v) (hp : ∀ x ∈ l, p' x) : (VTy.rw Rp.frac p' l).holds X w v := ⟨hp, h.2⟩
section
variable {w00 : World} {N : Nat} {L : List Loc} {E : List (Nat × VTy)} {d : Nat} {t0 : TypeId} {pos : String} {af : Array Edge} {gd : Option (Nat × Bool)} {ats : Array TypeId}
theorem st_lenW {α : Type} {r : Rp α} {p : α → Prop} {l : List α} {s k : Nat} {ty : TypeId} {T : VTy} [ho : Look E s T] [aw : AsW T r p l] [ht : SliceC Try.prog ty k] : StepT Try.prog w00 N L E ⟨some d, .call { callee := .builtin .len, args := #[.tmp s], argTypes := #[ty] }, t0, pos, af, gd⟩ (.is (.int .i64 l.length)) := by
  constructor
  intro X ρ w hc _ hN hm hsl
  obtain ⟨_, A, n, c, e, h⟩ := aw.ok (hsl _ ho.mem (by simp [Op.operands, Call.operands]))
  have e1 : ρ (.tmp s) = .slice A n c := by simpa using e
  obtain ⟨el, hu, _⟩ := ht.ok
  have hl := h.1
  clear hc hsl ho ht h e hm
  unfold Yields
  go_simp
  exact ⟨rfl, Below.refl _ _⟩
theorem st_indexW {α : Type} {r : Rp α} {p : α → Prop} {l : List α} {a : α} {o oi : Operand} {ty : TypeId} {j : Nat} {T : VTy} [ho : OpC E o T] [aw : AsW T r p l] [hi : OpC E oi (.is (.int .i64 (j : Int)))] [ht : SliceC Try.prog ty r.k] (ha : l[j]? = some a) : StepT Try.prog w00 N L E ⟨some d, .indexAddr ty o oi, t0, pos, af, gd⟩ (.pe r p a) := by
  constructor
  intro X ρ w hc hf hN hm hsl
  have h1 := aw.ok (ho.get (X := X) (w := w) hc fun p hp e => hsl p hp (by simp [Op.operands, e]))
  have h2 := hi.get (X := X) (w := w) hc fun p hp e => hsl p hp (by simp [Op.operands, e])
  -- over two slots that hold just these
  have st := (st_indexAddr' (P := Try.prog) (w00 := w00) (N := N) (L := L) (E := [(0, .rw r p l), (1, .is (.int .i64 (j : Int)))]) (d := d) (t0 := t0) (pos := pos) (af := af) (gd := gd) (o := .tmp 0) (oi := .tmp 1) (ty := ty) (j := j) ha).run X (fun x => match x with | .tmp 0 => ρ o | .tmp 1 => ρ oi | y => ρ y) w (fun c => hc c) (fun f => hf f) hN hm (fun q hq _ => by
    rcases List.mem_cons.1 hq with rfl | hq
    · exact h1
    · rw [List.mem_singleton.1 hq]; exact h2)
  exact st
end
theorem Own.type {k : IntKind} {e : TypeId} {w : World} {B : Nat} {A : Option Addr} {n c : Nat} {xs : List Int} (h : Own k e w B A n c xs) {g : Nat} (hg : blk A = some g) : ∃ cur, w.heap[g]? = some (.cells cur e (0, 0)) := by
  rcases h.2 with ⟨h1, _⟩ | ⟨g', cap, cur, h1, h2, h3, h4⟩
  · injection h1 with h1
    rw [h1] at hg; cases hg
  · injection h1 with h1
    rw [h1] at hg
    injection hg with hg
    subst hg
    exact ⟨cur, h3⟩
section
variable {w00 : World} {N : Nat} {L : List Loc} {E : List (Nat × VTy)} {d : Nat} {t0 : TypeId} {pos : String} {af : Array Edge} {gd : Option (Nat × Bool)} {ats : Array TypeId}
end
section
variable {w00 : World} {N : Nat} {L : List Loc} {E : List (Nat × VTy)} {d : Nat} {t0 : TypeId} {pos : String} {af : Array Edge} {gd : Option (Nat × Bool)} {ats : Array TypeId}
end
instance {L : Nat} {l : List RawQ} : AsW (.rq L l) Rp.frac (fewQ L) l := ⟨fun h => h⟩
instance {B L : Nat} {qs : List Rat} {T : VTy} [a : AsR T qs L] : AsR (.und B T) qs L := ⟨fun h => a.ok (und_weak h)⟩
def VTy.nany : VTy := VTy.ex Rp.num (fun _ => True)
def VTy.qany : VTy := VTy.ex Rp.frac (fun _ => True)
def VTy.rany (n : Nat) : VTy := ⟨fun X w v => ∃ l : List RawQ, l.length = n ∧ (VTy.rw Rp.frac (fun _ => True) l).holds X w v, fun ⟨l, e, h⟩ hk hX => ⟨l, e, (VTy.rw Rp.frac (fun _ => True) l).stable h hk hX⟩⟩
class AnyN (T : VTy) : Prop where
  ok : ∀ {X w v}, T.holds X w v → VTy.nany.holds X w v
theorem ex_nany {p : RawI → Prop} {X : List Nat} {w : World} {v : Value} (h : (VTy.ex Rp.num p).holds X w v) : VTy.nany.holds X w v := ⟨h.choose, trivial, h.choose_spec.2⟩
instance : AnyN .nany := ⟨fun h => h⟩
instance {N : Int} {L : Nat} : AnyN (.nc N L) := ⟨ex_nany⟩
class AnyQ (T : VTy) : Prop where
  ok : ∀ {X w v}, T.holds X w v → VTy.qany.holds X w v
theorem ex_qany {p : RawQ → Prop} {X : List Nat} {w : World} {v : Value} (h : (VTy.ex Rp.frac p).holds X w v) : VTy.qany.holds X w v := ⟨h.choose, trivial, h.choose_spec.2⟩
instance : AnyQ .qany := ⟨fun h => h⟩
instance {q : Rat} {L : Nat} : AnyQ (.qc q L) := ⟨ex_qany⟩
instance {p : RawQ → Prop} {x : RawQ} : AnyQ (.el Rp.frac p x) := ⟨ex_qany⟩
class AnyW (T : VTy) : Prop where
  ok : ∀ {X w v}, T.holds X w v → ∃ n, (VTy.rany n).holds X w v
instance {n : Nat} : AnyW (.rany n) := ⟨fun h => ⟨n, h⟩⟩
instance {qs : List Rat} {L : Nat} : AnyW (.rv qs L) := ⟨fun ⟨l, _, h⟩ => ⟨l.length, l, rfl, few_all (p := fewQ L) h fun _ _ => trivial⟩⟩
instance : AnyW (.is (.slice none 0 0)) := ⟨fun {X w v} h => ⟨0, [], rfl, by
  obtain rfl : v = _ := h
  exact ⟨(fun _ h => by cases h), none, 0, 0, rfl, rfl, Nat.le_refl _, Nat.zero_le _, fun _ => rfl, fun h => absurd h (by omega)⟩⟩⟩
section
variable {w00 : World} {N : Nat} {L : List Loc} {E : List (Nat × VTy)} {d : Nat} {t0 : TypeId} {pos : String} {af : Array Edge} {gd : Option (Nat × Bool)} {ats : Array TypeId}
end
section
variable {w00 : World} {N : Nat} {L : List Loc} {E : List (Nat × VTy)} {d : Nat} {t0 : TypeId} {pos : String} {af : Array Edge} {gd : Option (Nat × Bool)} {ats : Array TypeId}
end
section
variable {w00 : World} {N : Nat} {L : List Loc} {E : List (Nat × VTy)} {d : Nat} {t0 : TypeId} {pos : String} {af : Array Edge} {gd : Option (Nat × Bool)} {ats : Array TypeId}
end
theorem gives_true {P : Program} {f : FuncId} {args : Array Value} {X : List Nat} {w : World} (h : Calls P f args w (Gives X w (.is (.bool true)))) : Calls P f args w fun e w' => e = .returned (.bool true) ∧ Below w.heap.size w w' :=
  h.mono fun _ _ ⟨_, h1, h2, h3⟩ => ⟨by rw [h1, show _ = _ from h2], h3⟩
instance {T : VTy} {q : Rat} {L : Nat} [a : AsQ T q L] : AsK 1 T (.qa q L) := ⟨a.ok⟩
instance {T : VTy} {N : Int} {L : Nat} [a : AsN T N L] : AsK 2 T (.na N L) := ⟨a.ok⟩
instance {T : VTy} {q : Rat} {L : Nat} [a : AsC T q L] : AsK 3 T (.qc q L) := ⟨a.ok⟩
instance {T : VTy} {x : RawQ} {L : Nat} [a : AsX T x L] : AsK 4 T (.qx x L) := ⟨a.ok⟩
/-- As a right number; as just this one; whatever fraction. -/
class AsM (T : VTy) (N : outParam Int) (L : outParam Nat) : Prop where
  ok : ∀ {X w v}, T.holds X w v → (VTy.nc N L).holds X w v
instance {N : Int} {L : Nat} : AsM (.nc N L) N L := ⟨fun h => h⟩
instance {N : Int} {L B : Nat} : AsM (.nn N L B) N L := ⟨fun h => nwn_ex h⟩
instance {N : Int} {L B : Nat} {T : VTy} [a : AsM T N L] : AsM (.und B T) N L := ⟨fun h => a.ok (und_weak h)⟩
instance {N : Int} {L B : Nat} {T : VTy} [a : AsN T N L] : AsN (.und B T) N L := ⟨fun h => a.ok (und_weak h)⟩
class AsY (T : VTy) (x : outParam RawI) (L : outParam Nat) : Prop where
  ok : ∀ {X w v}, T.holds X w v → (VTy.nx x L).holds X w v
instance {x : RawI} {L : Nat} : AsY (.nx x L) x L := ⟨fun h => h⟩
instance {x : RawI} {L B : Nat} {T : VTy} [a : AsY T x L] : AsY (.und B T) x L := ⟨fun h => a.ok (und_weak h)⟩
instance {T : VTy} {N : Int} {L : Nat} [a : AsM T N L] : AsK 5 T (.nc N L) := ⟨a.ok⟩
instance {T : VTy} {x : RawI} {L : Nat} [a : AsY T x L] : AsK 6 T (.nx x L) := ⟨a.ok⟩
instance {T : VTy} {x : RawQ} [a : AsZ T x] : AsK 7 T (.qz x) := ⟨a.ok⟩
instance {T : VTy} {K : Nat} {l : List RawQ} [a : AsW T Rp.frac (fewQ K) l] : AsK 8 T (.rq K l) := ⟨a.ok⟩
instance {K : Nat} {l : List RawQ} : AsW (.rq K l) Rp.frac (fewQ K) l := ⟨fun h => h⟩
instance {q : Rat} {L : Nat} : DownC fun B => .qn q L B := ⟨fun hB h => nw_le h hB⟩
instance {q : Rat} {L : Nat} : DownC fun B => .qg q L B := ⟨fun hB h => nw_le h hB⟩
instance {N : Int} {L : Nat} : DownC fun B => .nn N L B := ⟨fun hB h => nwn_le h hB⟩
/-- A function's name as an argument. -/
instance OpsK.name {E : List (Nat × VTy)} {f : FuncId} {os : List Operand} {k : Nat} {ks : List Nat} {As : List VTy} [t : OpsK E os ks As] : OpsK E (.func f :: os) (k :: ks) (.fv f [] [] :: As) :=
  ⟨fun hc hf hs => ⟨⟨[], [], hf f, trivial, trivial⟩, t.get hc hf fun p hp hm => hs p hp (List.mem_cons_of_mem _ hm)⟩⟩
section
variable {P : Program} {G : World → Prop} {w00 : World} {N : Nat} {L : List Loc} {E : List (Nat × VTy)} {d : Nat} {t0 : TypeId} {pos : String} {af : Array Edge} {gd : Option (Nat × Bool)} {ats : Array TypeId}
end
section
variable {w00 : World} {N : Nat} {L : List Loc} {E : List (Nat × VTy)} {d : Nat} {t0 : TypeId} {pos : String} {af : Array Edge} {gd : Option (Nat × Bool)} {ats : Array TypeId}
end
/-- What is above the floor; the ceiling; toward 0; half-even. -/
def fr (q : Rat) : Rat := q - (q.floor : Rat)
def cl (q : Rat) : Int := -(-q).floor
def hf (q : Rat) : Int := bif decide (2 * fr q < 1) || (decide (2 * fr q = 1) && decide (q.floor % 2 = 0)) then q.floor else q.floor + 1
instance {N : Int} {L : Nat} {q : Rat} {K : Nat} : DownC fun B => .tup [.nn N L B, .qn q K B] := ⟨fun hB h => tup_imp (fun _ g => nwn_le g hB) (fun _ g => nw_le g hB) _ h⟩
instance {N : Int} {L : Nat} {c : Value} : DownC fun B => .tup [.nn N L B, .is c] := ⟨fun hB h => tup_imp (fun _ g => nwn_le g hB) (fun _ g => g) _ h⟩
instance {L : Nat} {x : RawQ} : AsX (.el Rp.frac (fewQ L) x) x L := ⟨fun ⟨y, h, g⟩ => ⟨y, ⟨h.1, by rw [← h.1]; exact h.2⟩, g⟩⟩
instance {L : Nat} {x : RawQ} : PartC (.el Rp.frac (fewQ L) x) 2 2 true (.nx x.2 L) := .snd fun y h => ⟨by rw [h.1], by rw [← h.1]; exact h.2.2.1⟩
def isD (c : UInt8) : Bool := decide (48 ≤ (c.toNat : Int)) && decide ((c.toNat : Int) ≤ 57)
/-- The parts of a text that may begin with a decimal. -/
def ng (l : List UInt8) : Bool := l.head? == some 45
def bd (l : List UInt8) : List UInt8 := bif ng l then l.tail else l
def wh (l : List UInt8) : List UInt8 := (bd l).takeWhile isD
def r1 (l : List UInt8) : List UInt8 := (bd l).dropWhile isD
def sp (l : List UInt8) : Bool := (r1 l).head? == some 46
def r2 (l : List UInt8) : List UInt8 := bif sp l then (r1 l).tail else r1 l
def pc (l : List UInt8) : List UInt8 := bif sp l then (r2 l).takeWhile isD else []
def r3 (l : List UInt8) : List UInt8 := bif sp l then (r2 l).dropWhile isD else r2 l
def dn (l : List UInt8) : Int := sgv (ng l) (dval (wh l ++ pc l))
theorem head_tail {l : List UInt8} {c : UInt8} (h : (l.head? == some c) = true) : l = c :: l.tail := by
  cases l with
  | nil => cases h
  | cons x l => have : x = c := by simpa using h
                rw [this]; rfl
def sgL (b : Bool) (c : UInt8) : List UInt8 := bif b then [c] else []
/-- A text is its parts. -/
theorem parts (l : List UInt8) : l = sgL (ng l) 45 ++ (wh l ++ (sgL (sp l) 46 ++ (pc l ++ r3 l))) := by
  have e1 : l = sgL (ng l) 45 ++ bd l := by
    unfold bd sgL
    cases h : ng l with
    | true => exact head_tail h
    | false => rfl
  have e2 : bd l = wh l ++ r1 l := (List.takeWhile_append_dropWhile).symm
  have e3 : r1 l = sgL (sp l) 46 ++ r2 l := by
    unfold r2 sgL
    cases h : sp l with
    | true => exact head_tail h
    | false => rfl
  have e4 : r2 l = pc l ++ r3 l := by
    unfold pc r3
    cases sp l with
    | true => exact (List.takeWhile_append_dropWhile).symm
    | false => rfl
  conv => lhs; rw [e1, e2, e3, e4]
theorem takeWhile_all {p : UInt8 → Bool} : ∀ {l : List UInt8}, ∀ c ∈ l.takeWhile p, p c = true
  | [], _, h => by cases h
  | x :: l, c, h => by
    rw [List.takeWhile_cons] at h
    cases hx : p x with
    | true =>
      rw [hx] at h
      rcases List.mem_cons.1 h with rfl | h
      · exact hx
      · exact takeWhile_all c h
    | false => rw [hx] at h; cases h
/-- With as few places as it may. -/
def few : Nat → Nat → Nat × Nat
  | 0, n => (0, n)
  | p + 1, n => bif n % 10 == 0 then few p (n / 10) else (p + 1, n)
abbrev Tx (l : List UInt8) : Value := .string ⟨l.toArray⟩
theorem tx_of (s : ByteArray) : s = ⟨s.data.toList.toArray⟩ := by cases s; simp
theorem bs_app (a b : List UInt8) : (⟨a.toArray⟩ : ByteArray) ++ ⟨b.toArray⟩ = ⟨(a ++ b).toArray⟩ := by
  apply ByteArray.ext
  simp
theorem bs_ext (l : List UInt8) (i j : Nat) : (⟨l.toArray⟩ : ByteArray).extract i j = ⟨((l.take j).drop i).toArray⟩ := by
  apply ByteArray.ext
  simp [List.drop_take]
theorem bs_size (l : List UInt8) : (⟨l.toArray⟩ : ByteArray).size = l.length := by simp [ByteArray.size]
theorem bs_beq (a b : List UInt8) : ((⟨a.toArray⟩ : ByteArray) == ⟨b.toArray⟩) = (a == b) := by
  by_cases h : a = b
  · subst h
    rw [show (a == a) = true from beq_self_eq_true a]
    show (a.toArray == a.toArray) = true
    exact beq_self_eq_true _
  · rw [beq_eq_false_iff_ne.2 h]
    show (a.toArray == b.toArray) = false
    exact beq_eq_false_iff_ne.2 fun e => h (by simpa using e)
class StrC (P : Program) (ty : TypeId) : Prop where
  ok : P.underlying ty = some .string
section
variable {P : Program} {w00 : World} {N : Nat} {L : List Loc} {E : List (Nat × VTy)} {d : Nat} {t0 : TypeId} {pos : String} {af : Array Edge} {gd : Option (Nat × Bool)} {ats : Array TypeId}
theorem st_sadd {o0 o1 : Operand} {a b : List UInt8} {ty t1 : TypeId} [h0 : OpC E o0 (.is (Tx a))] [h1 : OpC E o1 (.is (Tx b))] (hl : a.length + b.length ≤ 9223372036854775807) : StepT P w00 N L E ⟨some d, .binOp .add ty o0 o1 t1, t0, pos, af, gd⟩ (.is (Tx (a ++ b))) := by
  constructor
  intro X ρ w hc _ hN hm hsl
  have e0 : ρ o0 = Tx a := h0.get (X := X) (w := w) hc fun p hp e => hsl p hp (by simp [Op.operands, e])
  have e1 : ρ o1 = Tx b := h1.get (X := X) (w := w) hc fun p hp e => hsl p hp (by simp [Op.operands, e])
  have e2 := bs_app a b
  have e3 : ¬ 9223372036854775807 < a.length + b.length := by omega
  clear hc hsl h0 h1
  unfold Yields
  go_simp
  exact ⟨rfl, Below.refl _ _⟩
theorem st_seq {o0 o1 : Operand} {a b : List UInt8} {ty t1 : TypeId} {u : Bool} [h0 : OpC E o0 (.is (Tx a))] [h1 : OpC E o1 (.is (Tx b))] (hu : (a == b) = u) : StepT P w00 N L E ⟨some d, .binOp .eql ty o0 o1 t1, t0, pos, af, gd⟩ (.is (.bool u)) := by
  constructor
  intro X ρ w hc _ hN hm hsl
  have e0 : ρ o0 = Tx a := h0.get (X := X) (w := w) hc fun p hp e => hsl p hp (by simp [Op.operands, e])
  have e1 : ρ o1 = Tx b := h1.get (X := X) (w := w) hc fun p hp e => hsl p hp (by simp [Op.operands, e])
  have e2 := bs_beq a b
  rw [hu] at e2
  clear hc hsl h0 h1
  unfold Yields
  go_simp
  exact ⟨rfl, Below.refl _ _⟩
theorem st_sne {o0 o1 : Operand} {a b : List UInt8} {ty t1 : TypeId} {u : Bool} [h0 : OpC E o0 (.is (Tx a))] [h1 : OpC E o1 (.is (Tx b))] (hu : (!(a == b)) = u) : StepT P w00 N L E ⟨some d, .binOp .neq ty o0 o1 t1, t0, pos, af, gd⟩ (.is (.bool u)) := by
  constructor
  intro X ρ w hc _ hN hm hsl
  have e0 : ρ o0 = Tx a := h0.get (X := X) (w := w) hc fun p hp e => hsl p hp (by simp [Op.operands, e])
  have e1 : ρ o1 = Tx b := h1.get (X := X) (w := w) hc fun p hp e => hsl p hp (by simp [Op.operands, e])
  have e2 := bs_beq a b
  subst hu
  clear hc hsl h0 h1
  unfold Yields
  go_simp
  exact ⟨rfl, Below.refl _ _⟩
theorem st_slen {o : Operand} {l : List UInt8} {ty : TypeId} [ho : OpC E o (.is (Tx l))] [ht : StrC P ty] : StepT P w00 N L E ⟨some d, .call { callee := .builtin .len, args := #[o], argTypes := #[ty] }, t0, pos, af, gd⟩ (.is (.int .i64 (l.length : Int))) := by
  constructor
  intro X ρ w hc _ hN hm hsl
  have e0 : ρ o = Tx l := ho.get (X := X) (w := w) hc fun p hp e => hsl p hp (by simp [Op.operands, Call.operands, e])
  have hu := ht.ok
  have e2 := bs_size l
  clear hc hsl ho ht
  unfold Yields
  go_simp
  exact ⟨rfl, Below.refl _ _⟩
theorem st_sidx {o oi : Operand} {l : List UInt8} {c : UInt8} {x : Int} {ty : TypeId} [ho : OpC E o (.is (Tx l))] [hi : OpC E oi (.is (.int .i64 x))] [ht : StrC P ty] (hx : 0 ≤ x ∧ l[x.toNat]? = some c) : StepT P w00 N L E ⟨some d, .index ty o oi, t0, pos, af, gd⟩ (.is (.int .u8 (c.toNat : Int))) := by
  constructor
  intro X ρ w hc _ hN hm hsl
  have e0 : ρ o = Tx l := ho.get (X := X) (w := w) hc fun p hp e => hsl p hp (by simp [Op.operands, e])
  have e1 : ρ oi = .int .i64 x := hi.get (X := X) (w := w) hc fun p hp e => hsl p hp (by simp [Op.operands, e])
  have hu := ht.ok
  obtain ⟨hx0, hx1⟩ := hx
  obtain ⟨hlt, hc1⟩ := List.getElem?_eq_some_iff.1 hx1
  have h3 : x < (l.length : Int) := by omega
  have e2 : ∀ h, (⟨l.toArray⟩ : ByteArray)[x.toNat]'h = c := fun h => hc1
  clear hc hsl ho ht hi hx1
  unfold Yields
  go_simp
  exact ⟨rfl, Below.refl _ _⟩
theorem st_sto {o o1 : Operand} {l : List UInt8} {x : Int} {ty : TypeId} [ho : OpC E o (.is (Tx l))] [hi : OpC E o1 (.is (.int .i64 x))] [ht : StrC P ty] (hx : 0 ≤ x ∧ x ≤ (l.length : Int)) : StepT P w00 N L E ⟨some d, .slice ty o none (some o1) none, t0, pos, af, gd⟩ (.is (Tx (l.take x.toNat))) := by
  constructor
  intro X ρ w hc _ hN hm hsl
  have e0 : ρ o = Tx l := ho.get (X := X) (w := w) hc fun p hp e => hsl p hp (by simp [Op.operands, e])
  have e1 : ρ o1 = .int .i64 x := hi.get (X := X) (w := w) hc fun p hp e => hsl p hp (by simp [Op.operands, e])
  have hu := ht.ok
  obtain ⟨hx0, hx1⟩ := hx
  have e2 := bs_ext l 0 x.toNat
  have e3 := bs_size l
  clear hc hsl ho ht hi
  unfold Yields
  go_simp
  exact ⟨rfl, Below.refl _ _⟩
theorem st_sfrom {o o1 : Operand} {l : List UInt8} {x : Int} {ty : TypeId} [ho : OpC E o (.is (Tx l))] [hi : OpC E o1 (.is (.int .i64 x))] [ht : StrC P ty] (hx : 0 ≤ x ∧ x ≤ (l.length : Int)) : StepT P w00 N L E ⟨some d, .slice ty o (some o1) none none, t0, pos, af, gd⟩ (.is (Tx (l.drop x.toNat))) := by
  constructor
  intro X ρ w hc _ hN hm hsl
  have e0 : ρ o = Tx l := ho.get (X := X) (w := w) hc fun p hp e => hsl p hp (by simp [Op.operands, e])
  have e1 : ρ o1 = .int .i64 x := hi.get (X := X) (w := w) hc fun p hp e => hsl p hp (by simp [Op.operands, e])
  have hu := ht.ok
  obtain ⟨hx0, hx1⟩ := hx
  have e2 := bs_ext l x.toNat l.length
  have e3 := bs_size l
  rw [List.take_of_length_le (Nat.le_refl _)] at e2
  clear hc hsl ho ht hi
  unfold Yields
  go_simp
  exact ⟨rfl, Below.refl _ _⟩
theorem st_nilc {o : Operand} {r k : Nat} [ho : OpC E o (.is (.pointer (some ⟨r, k, none⟩)))] : StepT P w00 N L E ⟨some d, .nilCheck o, t0, pos, af, gd⟩ (.is (.pointer (some ⟨r, k, none⟩))) := by
  constructor
  intro X ρ w hc _ hN hm hsl
  have e0 : ρ o = .pointer (some ⟨r, k, none⟩) := ho.get (X := X) (w := w) hc fun p hp e => hsl p hp (by simp [Op.operands, e])
  clear hc hsl ho
  unfold Yields
  go_simp
  exact ⟨rfl, Below.refl _ _⟩
theorem st_sub2 {o0 o1 : Operand} {x y z : Int} {k : IntKind} {ty t1 : TypeId} [h0 : OpC E o0 (.is (.int k x))] [h1 : OpC E o1 (.is (.int k y))] (hz : k.wrap (x - y) = z) : StepT P w00 N L E ⟨some d, .binOp .sub ty o0 o1 t1, t0, pos, af, gd⟩ (.is (.int k z)) := by
  constructor
  intro X ρ w hc _ hN hm hsl
  have e0 : ρ o0 = .int k x := h0.get (X := X) (w := w) hc fun p hp e => hsl p hp (by simp [Op.operands, e])
  have e1 : ρ o1 = .int k y := h1.get (X := X) (w := w) hc fun p hp e => hsl p hp (by simp [Op.operands, e])
  clear hc hsl h0 h1
  unfold Yields
  go_simp
  exact ⟨rfl, Below.refl _ _⟩
theorem st_conv2 {o : Operand} {x z : Int} {k k2 : IntKind} {ty t1 : TypeId} [h0 : OpC E o (.is (.int k x))] (hu : P.underlying ty = some (.int k)) (hu2 : P.underlying t1 = some (.int k2)) (hz : k2.wrap x = z) : StepT P w00 N L E ⟨some d, .convert ty t1 o, t0, pos, af, gd⟩ (.is (.int k2 z)) := by
  constructor
  intro X ρ w hc _ hN hm hsl
  have e0 : ρ o = .int k x := h0.get (X := X) (w := w) hc fun p hp e => hsl p hp (by simp [Op.operands, e])
  clear hc hsl h0
  unfold Yields
  go_simp
  exact ⟨rfl, Below.refl _ _⟩
end
/-- A variable's cells. -/
def VTy.cs (c : List Value) : VTy := ⟨fun _ _ v => v.cells = c.toArray, fun h _ _ => h⟩
class CellsC (T : VTy) (c : outParam (List Value)) : Prop where
  ok : ∀ {X w v}, T.holds X w v → v.cells = c.toArray
instance {c : List Value} : CellsC (.cs c) c := ⟨fun h => h⟩
instance {c : List Value} : CellsC (.is (.agg c.toArray)) c := ⟨fun h => by rw [show _ = _ from h]; rfl⟩
instance {l : List UInt8} : CellsC (.is (Tx l)) [Tx l] := ⟨fun h => by rw [show _ = _ from h]; rfl⟩
class NthV (c : List Value) (i : Nat) (v : outParam Value) : Prop where
  ok : c[i]? = some v
instance {c : List Value} {v : Value} : NthV (v :: c) 0 v := ⟨rfl⟩
instance {c : List Value} {u v : Value} : NthV (u :: v :: c) 1 v := ⟨rfl⟩
instance {c : List Value} {t u v : Value} : NthV (t :: u :: v :: c) 2 v := ⟨rfl⟩
instance {T : VTy} {c : List Value} {i : Nat} {v : Value} [t : CellsC T c] [n : NthV c i v] : PartC T i 1 false (.is v) := ⟨fun _ => rfl, fun {X w u} h => ⟨[v], rfl, fun j x hj => by
    have : j = 0 ∧ x = v := by
      cases j with
      | zero => exact ⟨rfl, by simpa using hj.symm⟩
      | succ j => simp at hj
    rw [t.ok h, this.1, this.2]
    simpa using n.ok, fun x _ hx => by have := hx rfl; simp at this; exact this.symm⟩⟩
instance {T : VTy} {c : List Value} {a b d : Value} [t : CellsC T (a :: b :: d :: c)] : PartC T 0 3 true (.is (.agg #[a, b, d])) := ⟨fun h => (by cases h), fun {X w u} h => ⟨[a, b, d], rfl, fun j x hj => by
    rw [t.ok h, Nat.zero_add]
    match j, hj with
    | 0, hj => simpa using hj
    | 1, hj => simpa using hj
    | 2, hj => simpa using hj
    | j + 3, hj => simp at hj, fun x hx _ => hx rfl⟩⟩
class LenC (c : List Value) (k : Nat) : Prop where
  ok : c.length = k
instance {a : Value} : LenC [a] 1 := ⟨rfl⟩
instance {a b d : Value} : LenC [a, b, d] 3 := ⟨rfl⟩
/-- The cells of a struct that is a result. -/
instance ResC.cellC {P : Program} {L : List Loc} {E : List (Nat × VTy)} {s r k : Nat} {ty : TypeId} {c : List Value} [h : Look E s (.is (.pointer (some ⟨r, 0, none⟩)))] [hl : LocC L r (.cs c)] [ht : TyC P ty k true] [hk : LenC c k] : ResC P L E (.cell s ty) (.is (.agg c.toArray)) := ⟨fun {w00 X n a w} hts => by
  have e : a.tmps.getD s undef = .pointer (some ⟨r, 0, none⟩) := hts.slots _ h.mem
  obtain ⟨_, _, v, ty', hv, hh⟩ := hts.mem.loc _ hl.mem
  obtain ⟨dd, hu, hd⟩ := ht.row
  have hv' : v.cells = c.toArray := hv
  refine ⟨.agg c.toArray, ?_, rfl⟩
  have hra : w.rangeAt r 0 c := fun j u hj => by
    rw [Nat.zero_add]
    exact cell_at hh (by rw [hv']; simpa using hj)
  have hi : (P.info? ty).map (·.size) = some c.length := by rw [hk.ok]; exact ht.size
  have := run_loadVar_mid (P := P) w r 0 ty c dd hra hu hd hi
  unfold resOne
  simp only [e, asAddr, Sem.run_bind, Sem.run_pure, Result.andThen_ok, this]⟩
section
variable {P : Program} {w00 : World} {X : List Nat} {L L' : List Loc} {E : List (Nat × VTy)} {n : Nat} {a : Act} {w : World} {ops : Array Oper} {rest : List Oper} {Q : Exit → Act → World → Prop} {cs : List Code} {t0 : TypeId} {pos : String} {af : Array Edge}
/-- A variable's cells are written anew. -/
theorem TS.cells {T0 : VTy} {r : Nat} {c0 c : List Value} (h : TS w00 X L E n a w) (hu : UpdL L r T0 (.cs c) L') [h0 : CellsC T0 c0] (hl : c.length = c0.length) : TS w00 X L' E n a (w.setRow r c.toArray) := by
  exact h.write (k := c.length) (k0 := c.length) (ag := true) (ag0 := true) (v := .agg c.toArray) hu (show (Value.agg c.toArray).cells = c.toArray from rfl)
class SetV (c : List Value) (i : Nat) (v : Value) (c' : outParam (List Value)) : Prop where
  ok : c.set i v = c' ∧ i < c.length
instance {c : List Value} {u v : Value} : SetV (u :: c) 0 v (v :: c) := ⟨rfl, by simp⟩
instance {c : List Value} {a u v : Value} : SetV (a :: u :: c) 1 v (a :: v :: c) := ⟨rfl, by simp⟩
instance {c : List Value} {a b u v : Value} : SetV (a :: b :: u :: c) 2 v (a :: b :: v :: c) := ⟨rfl, by simp⟩
theorem g_stf {ty : TypeId} {s r i : Nat} {o : Operand} {v : Value} {T0 : VTy} {c0 c : List Value} [hs : Look E s (.is (.pointer (some ⟨r, i, none⟩)))] [ho : OpC E o (.is v)] [hu : UpdC L r T0 (.cs c) L'] [h0 : CellsC T0 c0] [hc : SetV c0 i v c] [hty : TyC P ty 1 false] (h1 : v.oneCell' = true)
    (h : GR P w00 X L' E n ops rest cs Q) : GR P w00 X L E n ops (⟨none, .store ty (.tmp s) o, t0, pos, af, none⟩ :: rest) cs Q := ⟨fun a w ht => by
  refine wpList_run rfl ?_
  have e1 : a.eval (.tmp s) = .pointer (some ⟨r, i, none⟩) := ht.slots _ hs.mem
  have e2 : a.eval o = v := ho.get (X := X) (w := w) (fun _ => rfl) fun p hp _ => ht.slots p hp
  obtain ⟨g1, g2, u, ty', g3, g4⟩ := ht.mem.loc _ hu.upd.mem
  rw [h0.ok g3] at g4
  obtain ⟨hc1, hc2⟩ := hc.ok
  have hi := hty.size
  have hcell : w.cell? ⟨r, i, none⟩ = some c0[i] := cell_at g4 (by simp [hc2])
  have hfro : w.frozen? ⟨r, i, none⟩ = false := by simp [World.frozen?, g4]
  have hadd : (⟨r, i, none⟩ : Addr).add 0 = ⟨r, i, none⟩ := by unfold Addr.add; split <;> simp_all
  have hst : (store ((⟨r, i, none⟩ : Addr).add 0) v).run P w = .ok () (w.setRow r c.toArray) := by
    rw [hadd, run_store P w _ v _ h1, hcell]
    simp [hfro, setCell_eq_setRow w r i c0.toArray ty' (0, 0) v g4, hc1]
  have hcl : v.cells = #[v] := cells_one h1
  have hsv : (storeVar ty ⟨r, i, none⟩ v).run P w = .ok () (w.setRow r c.toArray) := by
    cases hq : P.info? ty with
    | none => simp [hq] at hi
    | some q =>
      have hs : q.size = 1 := by simpa [hq] using hi
      simp [storeVar, sizeOf, typeInfo, hq, hcl, hs, storeCells, hst]
  unfold Oper.wp execOp
  simp only [e1, e2, Instr.storeAt, Instr.sureAddr, Sem.run_bind, Sem.run_pure, Result.andThen_ok, hsv]
  exact h.run a _ (ht.cells hu.upd (by rw [← hc1]; simp))⟩
/-- A variable of cells is written whole. -/
theorem g_stw {ty : TypeId} {s r : Nat} {o : Operand} {T0 : VTy} {c0 c : List Value} [hs : Look E s (.is (.pointer (some ⟨r, 0, none⟩)))] [ho : OpC E o (.is (.agg c.toArray))] [hu : UpdC L r T0 (.cs c) L'] [h0 : CellsC T0 c0] [hty : TyC P ty c.length true] (hl : Nat.beq c.length c0.length = true) (h1 : c.all (·.oneCell') = true)
    (h : GR P w00 X L' E n ops rest cs Q) : GR P w00 X L E n ops (⟨none, .store ty (.tmp s) o, t0, pos, af, none⟩ :: rest) cs Q := ⟨fun a w ht => by
  refine wpList_run rfl ?_
  have e1 : a.eval (.tmp s) = .pointer (some ⟨r, 0, none⟩) := ht.slots _ hs.mem
  have e2 : a.eval o = .agg c.toArray := ho.get (X := X) (w := w) (fun _ => rfl) fun p hp _ => ht.slots p hp
  obtain ⟨g1, g2, u, ty', g3, g4⟩ := ht.mem.loc _ hu.upd.mem
  have hl' : c.length = c0.length := Nat.eq_of_beq_eq_true hl
  have hi := hty.size
  have hst : (storeVar ty ⟨r, 0, none⟩ (.agg c.toArray)).run P w = .ok () (w.setRow r c.toArray) :=
    run_storeVar_row (P := P) w r ty' ty u.cells c.toArray g4 (by rw [hi]; simp) (by rw [h0.ok g3]; simp [hl']) (by simpa using h1)
  unfold Oper.wp execOp
  simp only [e1, e2, Instr.storeAt, Instr.sureAddr, Sem.run_bind, Sem.run_pure, Result.andThen_ok, hst]
  exact h.run a _ (ht.cells hu.upd hl')⟩
/-- How memory was, seen from later on. -/
def VTy.gh (X0 : List Nat) (w0 : World) : VTy := ⟨fun X w _ => (∀ b ∈ X, b < w0.heap.size → b ∈ X0) ∧ Keeps X0 w0 w, fun {X X' w w' v} ⟨h1, h2⟩ hk hX => ⟨fun b hb hlt => h1 b (hX b hb (Nat.lt_of_lt_of_le hlt h2.size)) hlt,
  ⟨Nat.le_trans h2.size hk.size, fun b hb hx => (hk.block b (Nat.lt_of_lt_of_le hb h2.size) fun h => hx (h1 b h hb)).trans (h2.block b hb hx)⟩⟩⟩
theorem gh_refl {X : List Nat} {w : World} {v : Value} : (VTy.gh X w).holds X w v := ⟨fun _ h _ => h, Nat.le_refl _, fun _ _ _ => rfl⟩
/-- What a call leaves that got the address of a variable. -/
def PGives (w00 : World) (X : List Nat) (L : List Loc) (w : World) (T : VTy) (e : Ending) (w' : World) : Prop := ∃ v, e = .returned v ∧ T.holds X w' v ∧ Mem w00 X L w' ∧ Keeps X w w'
structure PtC (P : Program) (G : World → Prop) (f : FuncId) (T0 : VTy) (ks : List Nat) (As : List VTy) (T1 T : VTy) : Prop where
  ent : Enters P f
  run : ∀ {w00 w : World} {X : List Nat} {L0 : List Loc} {r : Nat} {vs : List Value}, G w → Mem w00 X ((r, T0) :: L0) w → AllH X w As vs → Calls P f (.pointer (some ⟨r, 0, none⟩) :: vs).toArray w (PGives w00 X ((r, T1) :: L0) w T)
class CvC (T : VTy) (T' : outParam VTy) : Prop where
  ok : ∀ {X w v}, T.holds X w v → T'.holds X w v
instance {c : List Value} : CvC (.cs c) (.cs c) := ⟨fun h => h⟩
instance {c : List Value} : CvC (.is (.agg c.toArray)) (.cs c) := ⟨fun h => by rw [show _ = _ from h]; rfl⟩
instance {l : List UInt8} : CvC (.is (Tx l)) (.cs [Tx l]) := ⟨fun h => by rw [show _ = _ from h]; rfl⟩
theorem UpdL.split {r : Nat} {T T' : VTy} {L L' : List Loc} (h : UpdL L r T T' L') : ∃ L0, (∀ p, p ∈ L ↔ p ∈ (r, T) :: L0) ∧ (∀ p, p ∈ L' ↔ p ∈ (r, T') :: L0) ∧ L.Perm ((r, T) :: L0) ∧ L'.Perm ((r, T') :: L0) := by
  induction h with
  | here => exact ⟨_, fun _ => Iff.rfl, fun _ => Iff.rfl, List.Perm.refl _, List.Perm.refl _⟩
  | @there L L' r T T' p h ih =>
    obtain ⟨L0, _, _, h3, h4⟩ := ih
    have p1 : (p :: L).Perm ((r, T) :: p :: L0) := (List.Perm.cons p h3).trans (List.Perm.swap _ _ _)
    have p2 : (p :: L').Perm ((r, T') :: p :: L0) := (List.Perm.cons p h4).trans (List.Perm.swap _ _ _)
    exact ⟨p :: L0, fun _ => p1.mem_iff, fun _ => p2.mem_iff, p1, p2⟩
theorem Mem.perm {w : World} {L L' : List Loc} (h : Mem w00 X L w) (hp : L.Perm L') : Mem w00 X L' w := ⟨fun p hm => h.loc p (hp.mem_iff.2 hm), h.far, (hp.map Prod.fst).nodup_iff.1 h.nodup, h.below⟩
/-- Such a call is entered. -/
class MemE (E : List (Nat × VTy)) (s : Nat) (T : VTy) : Prop where
  mem : (s, T) ∈ E
instance MemE.here {E : List (Nat × VTy)} {s : Nat} {T : VTy} : MemE ((s, T) :: E) s T := ⟨List.mem_cons_self⟩
instance (priority := low) MemE.there {E : List (Nat × VTy)} {s : Nat} {T : VTy} {p : Nat × VTy} [h : MemE E s T] : MemE (p :: E) s T := ⟨List.mem_cons_of_mem _ h.mem⟩
class SubL (L0 L : List Loc) : Prop where
  sub : ∀ p ∈ L0, p ∈ L
instance SubL.here {L : List Loc} : SubL L L := ⟨fun _ h => h⟩
instance (priority := low) SubL.there {L0 L : List Loc} {p : Loc} [h : SubL L0 L] : SubL L0 (p :: L) := ⟨fun q hq => List.mem_cons_of_mem _ (h.sub q hq)⟩
theorem Ctr.mono {G G' : World → Prop} {f : FuncId} {ks : List Nat} {As : List VTy} {T : Nat → VTy} (h : Ctr P G f ks As T) (hg : ∀ w, G' w → G w) : Ctr P G' f ks As T := ⟨h.ent, h.down, fun hG => h.run (hg _ hG)⟩
end
/-- A row of digits of this value; a trimmed one. -/
def VTy.dv (k : IntKind) (β V : Int) (L : Nat) : VTy := ⟨fun X w v => ∃ A n c xs, v = .slice A n c ∧ SlF k w (Free X w) A n c xs ∧ Dg β xs ∧ val β xs = V ∧ n ≤ L,
  fun ⟨A, n, c, xs, e, h, d, hv, l⟩ hk hX => ⟨A, n, c, xs, e, (h.keep fun b hb => hk.block b hb.1 hb.2).more (Free.mono hk hX), d, hv, l⟩⟩
def VTy.dr (k : IntKind) (β V : Int) (L : Nat) : VTy := ⟨fun X w v => ∃ A n c xs, v = .slice A n c ∧ SlF k w (Free X w) A n c xs ∧ Row β V xs ∧ n ≤ L,
  fun ⟨A, n, c, xs, e, h, d, l⟩ hk hX => ⟨A, n, c, xs, e, (h.keep fun b hb => hk.block b hb.1 hb.2).more (Free.mono hk hX), d, l⟩⟩
abbrev VTy.lr (V : Int) (L : Nat) : VTy := .dr .u32 4294967296 V L
section
variable {k : IntKind} {β V : Int} {L : Nat}
instance : SizeV (.dv k β V L) 1 false := ⟨fun {X w v} ⟨A, n, c, xs, e, _⟩ => by rw [e]; exact ⟨rfl, by simp [Value.cells, Value.oneCell'], (fun h => by cases h), fun _ => rfl⟩⟩
instance : SizeV (.dr k β V L) 1 false := ⟨fun {X w v} ⟨A, n, c, xs, e, _⟩ => by rw [e]; exact ⟨rfl, by simp [Value.cells, Value.oneCell'], (fun h => by cases h), fun _ => rfl⟩⟩
instance : PartC (.dv k β V L) 0 1 false (.dv k β V L) := .single inferInstance
instance : PartC (.dr k β V L) 0 1 false (.dr k β V L) := .single inferInstance
class AsD (T : VTy) (k : outParam IntKind) (β V : outParam Int) (L : outParam Nat) : Prop where
  ok : ∀ {X w v}, T.holds X w v → (VTy.dv k β V L).holds X w v
instance : AsD (.dv k β V L) k β V L := ⟨fun h => h⟩
instance : AsD (.dr k β V L) k β V L := ⟨fun ⟨A, n, c, xs, e, h, d, l⟩ => ⟨A, n, c, xs, e, h, d.dg, d.val, l⟩⟩
end
/-- The parts of a right number. -/
instance {N : Int} {L : Nat} : PartC (.nc N L) 0 1 false (.is (.bool (decide (N < 0)))) := ⟨fun _ => rfl, fun {X w v} hv => by
  obtain ⟨x, ⟨hw, _⟩, cs, rfl, hr⟩ := hv
  obtain ⟨A, n, c, rfl, _⟩ := num_rd.1 hr
  refine ⟨[.bool x.1], rfl, fun j u hj => ?_, fun u _ hu => ?_⟩
  · cases j with
    | zero => simpa [Value.cells] using hj
    | succ j => simp at hj
  · have := hu rfl
    simp at this
    rw [← this, hw.sg]
    rfl⟩
instance {N : Int} {L : Nat} : PartC (.nc N L) 1 1 false (.lr (N.natAbs : Int) L) := ⟨fun _ => rfl, fun {X w v} hv => by
  obtain ⟨x, ⟨hw, hl⟩, cs, rfl, hr⟩ := hv
  obtain ⟨A, n, c, rfl, hs, hd⟩ := num_rd.1 hr
  refine ⟨[.slice A n c], rfl, fun j u hj => ?_, fun u _ hu => ?_⟩
  · cases j with
    | zero => simpa [Value.cells] using hj
    | succ j => simp at hj
  · have := hu rfl
    simp at this
    rw [← this]
    exact ⟨A, n, c, x.2, rfl, hs, hw.row, by rw [← hs.1.len]; exact hw.len hl⟩⟩
instance : StrC Try.prog 9 := ⟨Try.underlying9⟩
instance : TyC Try.prog 9 1 false := ⟨⟨_, Try.underlying9, rfl⟩, by kernel_rfl⟩
instance : TyC Try.prog 4 1 false := ⟨⟨_, Try.underlying4, rfl⟩, by kernel_rfl⟩
instance {N : Int} {L B : Nat} : PartC (.nn N L B) 0 1 false (.is (.bool (decide (N < 0)))) := ⟨fun _ => rfl, fun h => (inferInstance : PartC (.nc N L) 0 1 false (.is (.bool (decide (N < 0))))).ok (nwn_ex h)⟩
instance {N : Int} {L B : Nat} : PartC (.nn N L B) 1 1 false (.lr (N.natAbs : Int) L) := ⟨fun _ => rfl, fun h => (inferInstance : PartC (.nc N L) 1 1 false (.lr (N.natAbs : Int) L)).ok (nwn_ex h)⟩
abbrev S1 : World → Prop := fun _ => True
instance : StabG S1 := ⟨fun _ _ => trivial⟩
/-- Calls of the library on texts. -/
theorem ctr_v1 {P : Program} {G : World → Prop} {f : FuncId} {u v : Value} (he : Enters P f) (h : ∀ w, G w → Calls P f #[u] w fun e w' => e = .returned v ∧ Below w.heap.size w w') : Ctr P G f [0] [.is u] (fun _ => .is v) :=
  ⟨he, fun _ h => h, fun {X w vs} hG _ ha => by
    obtain ⟨x, rfl, e⟩ := ha.one
    rw [show x = u from e]
    exact (h w hG).mono fun e w' g => ⟨v, g.1, rfl, g.2⟩⟩
theorem ctr_v2 {P : Program} {G : World → Prop} {f : FuncId} {u u2 v : Value} (he : Enters P f) (h : ∀ w, G w → Calls P f #[u, u2] w fun e w' => e = .returned v ∧ Below w.heap.size w w') : Ctr P G f [0, 0] [.is u, .is u2] (fun _ => .is v) :=
  ⟨he, fun _ h => h, fun {X w vs} hG _ ha => by
    obtain ⟨x, y, rfl, e, e2⟩ := ha.two
    rw [show x = u from e, show y = u2 from e2]
    exact (h w hG).mono fun e w' g => ⟨v, g.1, rfl, g.2⟩⟩
theorem data_mk (l : List UInt8) : (⟨l.toArray⟩ : ByteArray).data.toList = l := by simp
theorem takeW_len {p : UInt8 → Bool} : ∀ (l : List UInt8), (l.takeWhile p).length ≤ l.length := fun l => (List.takeWhile_sublist p).length_le
theorem takeW_take {p : UInt8 → Bool} : ∀ (l : List UInt8), l.take (l.takeWhile p).length = l.takeWhile p := fun l => by
  have h := List.takeWhile_append_dropWhile (p := p) (l := l)
  generalize l.takeWhile p = a at *
  rw [← h, List.take_left' rfl]
theorem takeW_drop {p : UInt8 → Bool} : ∀ (l : List UInt8), l.drop (l.takeWhile p).length = l.dropWhile p := fun l => by
  have h := List.takeWhile_append_dropWhile (p := p) (l := l)
  generalize l.takeWhile p = a at *
  generalize l.dropWhile p = b at *
  rw [← h, List.drop_left' rfl]
/-- Within the digits ahead; just behind them. -/
theorem takeW_in {p : UInt8 → Bool} {l : List UInt8} {i : Nat} (h : i < (l.takeWhile p).length) : ∃ c, l[i]? = some c ∧ p c = true := by
  have e : l[i]? = (l.takeWhile p)[i]? := by
    conv => lhs; rw [← List.takeWhile_append_dropWhile (p := p) (l := l)]
    exact List.getElem?_append_left h
  rw [List.getElem?_eq_getElem h] at e
  exact ⟨_, e, takeWhile_all _ (List.getElem_mem h)⟩
theorem takeW_end {p : UInt8 → Bool} {l : List UInt8} (h : (l.takeWhile p).length < l.length) : ∃ c, l[(l.takeWhile p).length]? = some c ∧ p c = false := by
  have e := takeW_drop (p := p) l
  cases hd : l.dropWhile p with
  | nil =>
    have := congrArg List.length (List.takeWhile_append_dropWhile (p := p) (l := l))
    rw [hd, List.append_nil] at this
    omega
  | cons c r =>
    rw [hd] at e
    refine ⟨c, ?_, ?_⟩
    · have := congrArg (fun l : List UInt8 => l[0]?) e
      simpa using this
    · have := List.head_dropWhile_not (p := p) (l := l) (by rw [hd]; simp)
      simpa [hd] using this
theorem i64_small {x : Int} (h0 : 0 ≤ x) (h1 : x ≤ 9223372036854775807) : IntKind.i64.wrap x = x := by rw [IntKind.wrap_i64]; omega
theorem dropW_nil {p : UInt8 → Bool} : ∀ {l : List UInt8}, l.dropWhile p = [] ↔ l.all p = true
  | [] => by simp
  | c :: l => by
    rw [List.dropWhile_cons, List.all_cons]
    cases p c with
    | true => simpa using dropW_nil (l := l)
    | false => simp
def VTy.pv (u : Value) : VTy := ⟨fun X w v => ∃ b o, v = .pointer (some ⟨b, o, none⟩) ∧ Free X w b ∧ w.cell? ⟨b, o, none⟩ = some u,
  fun ⟨b, o, e, hb, h⟩ hk hX => ⟨b, o, e, Free.mono hk hX b hb, (World.cell?_of_block (hk.block b hb.1 hb.2)).trans h⟩⟩
def enumF (k : Nat) : List Value → List (Nat × Value)
  | [] => []
  | v :: vs => (k, v) :: enumF (k + 1) vs
class IsL (E : List (Nat × VTy)) (ps : List (Nat × Operand)) (k : Nat) (vs : outParam (List Value)) : Prop where
  get : ∀ {X : List Nat} {w : World} {ρ : Operand → Value}, (∀ c, ρ (.const c) = c) → (∀ p ∈ E, .tmp p.1 ∈ ps.map Prod.snd → p.2.holds X w (ρ (.tmp p.1))) → ps.map (fun p => (p.1, ρ p.2)) = enumF k vs
instance IsL.nil {E : List (Nat × VTy)} {k : Nat} : IsL E [] k [] := ⟨fun _ _ => rfl⟩
instance IsL.cons {E : List (Nat × VTy)} {o : Operand} {ps : List (Nat × Operand)} {k : Nat} {v : Value} {vs : List Value} [ho : OpC E o (.is v)] [t : IsL E ps (k + 1) vs] : IsL E ((k, o) :: ps) k (v :: vs) := ⟨fun {X w ρ} hc hs => by
  rw [List.map_cons, t.get (X := X) (w := w) hc fun p hp hm => hs p hp (List.mem_cons_of_mem _ hm)]
  have e : ρ o = v := ho.get (X := X) (w := w) hc fun p hp e => hs p hp (by rw [e]; exact List.mem_cons_self)
  rw [e]
  rfl⟩
class RowC (P : Program) (ty : TypeId) : Prop where
  ok : ∃ e, P.underlying ty = some (.slice e) ∧ (P.info? e).map (·.size) = some 1 ∧ ∀ w, ∃ z, (zeroValue e).run P w = .ok z w
instance {P : Program} {ty : TypeId} [r : RowC P ty] : SliceC P ty 1 := let ⟨e, h1, h2, _⟩ := r.ok; ⟨⟨e, h1, h2⟩⟩
section
variable {P : Program} {w00 : World} {N : Nat} {L : List Loc} {E : List (Nat × VTy)} {d : Nat} {t0 : TypeId} {pos : String} {af : Array Edge} {gd : Option (Nat × Bool)} {ats : Array TypeId}
theorem st_loadV {u : Value} {ty : TypeId} {s : Nat} [ho : Look E s (.pv u)] [ht : TyC P ty 1 false] : StepT P w00 N L E ⟨some d, .load ty (.tmp s), t0, pos, af, gd⟩ (.is u) := by
  constructor
  intro X ρ w hc _ hN hm hsl
  obtain ⟨b, o, e, hb, hcell⟩ := hsl _ ho.mem (by simp [Op.operands])
  have e1 : ρ (.tmp s) = .pointer (some ⟨b, o, none⟩) := e
  obtain ⟨dd, hu, hd⟩ := ht.row
  have hag : (isAgg ty).run P w = .ok false w := by
    unfold isAgg
    rw [Sem.run_bind, run_underlying hu w]
    cases dd <;> first | rfl | cases hd
  have hrun : (execOp ρ ⟨some d, .load ty (.tmp s), t0, pos, af, gd⟩).run P w = .ok (.value u) w := by
    unfold execOp
    simp only [e1, Instr.loadAt, Instr.sureAddr, loadVar, Sem.run_bind, Sem.run_pure, Result.andThen_ok, hag, run_load, hcell, if_false, Bool.false_eq_true]
  unfold Yields
  rw [hrun]
  exact ⟨rfl, Below.refl _ _⟩
end
end Go.Proofs.Ytkjojpeamabdmaa
