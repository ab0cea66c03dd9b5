/- Answers that lie in a row, each in blocks of its own, and are written over one by one. -/
import Derived.Test.YtngfkjlpgodfhaaGreatDoorGL
import Derived.Test.YtngfkjlpgodfhaaGreatDoorGK
import Derived.Test.YtngfkjlpgodfhaaGreatDoorGM
set_option linter.unusedSimpArgs false
set_option linter.unusedVariables false
namespace Go.Proofs.YtngfkjlpgodfhaaGreatDoor
open Go Go.RowKit
/-- A value of one of many types. -/
def VTy.sig {α : Type} (T : α → VTy) : VTy := ⟨fun X w v => ∃ a, (T a).holds X w v, fun ⟨a, h⟩ hk hX => ⟨a, (T a).stable h hk hX⟩⟩
theorem TS.openE {α : Type} {w00 w : World} {X : List Nat} {L : List Loc} {E : List (Nat × VTy)} {n : Nat} {a : Act} {s : Nat} {T : α → VTy} (h : TS w00 X L ((s, .sig T) :: E) n a w) : ∃ x, TS w00 X L ((s, T x) :: E) n a w := by
  obtain ⟨x, hx⟩ := h.slots _ List.mem_cons_self
  exact ⟨x, h.size, h.df, fun p hp => by
    rcases List.mem_cons.1 hp with rfl | hp
    · exact hx
    · exact h.slots p (List.mem_cons_of_mem _ hp), h.mem⟩
/-- A number as it lies in a row: its sign, where its limbs are. -/
structure NRow where
  s : Bool
  A : Option Addr
  n : Nat
  c : Nat
def NRow.cells (r : NRow) : List Value := [.bool r.s, .slice r.A r.n r.c]
def RightAt (X : List Nat) (w : World) (r : NRow) (N : Int) : Prop := ∃ xs, Whole N r.s xs ∧ SlF .u32 w (Free X w) r.A r.n r.c xs ∧ (N.natAbs : Int) < 4294967296 ^ 16
theorem RightAt.up {X X' : List Nat} {w w' : World} {r : NRow} {N : Int} (h : RightAt X w r N) (hk : Keeps X w w') (hX : ∀ b ∈ X', b < w.heap.size → b ∈ X) : RightAt X' w' r N := by
  obtain ⟨xs, h1, h2, h3⟩ := h
  exact ⟨xs, h1, (h2.keep fun b hb => hk.block b hb.1 hb.2).more (Free.mono hk hX), h3⟩
/-- Limbs that are the row's own. -/
def OwnAt (X : List Nat) (w : World) (r : NRow) : Prop := r.n ≤ 9223372036854775807 ∧ (0 < r.n → ∃ b off cs, r.A = some ⟨b, off, none⟩ ∧ Free X w b ∧ w.heap[b]? = some (.cells cs 38 (0, 0)) ∧ off + r.n ≤ cs.size)
theorem OwnAt.up {X X' : List Nat} {w w' : World} {r : NRow} (h : OwnAt X w r) (hk : Keeps X w w') (hX : ∀ b ∈ X', b < w.heap.size → b ∈ X) : OwnAt X' w' r := ⟨h.1, fun hn => by
  obtain ⟨b, off, cs, h1, h2, h3, h4⟩ := h.2 hn
  exact ⟨b, off, cs, h1, Free.mono hk hX b h2, (hk.block b h2.1 h2.2).trans h3, h4⟩⟩
/-- In blocks of their own, from B on. -/
def ApartN5 (B bl : Nat) (rows : List NRow) : Prop := ∀ (j : Nat) (r : NRow), rows[j]? = some r → 0 < r.n → ∃ b off, r.A = some ⟨b, off, none⟩ ∧ B ≤ b ∧ b ≠ bl ∧ ∀ (j' : Nat) (r' : NRow), rows[j']? = some r' → j' ≠ j → 0 < r'.n → ∀ off', r'.A ≠ some ⟨b, off', none⟩
/-- A row of right numbers. -/
def VTy.vw (vs : List Int) : VTy := ⟨fun X w v => ∃ (bl : Nat) (rows : List NRow), v = .slice (some ⟨bl, 0, none⟩) vs.length vs.length ∧ rows.length = vs.length ∧ rows.length ≤ 100 ∧ Free X w bl ∧ w.rangeAt bl 0 (rows.flatMap NRow.cells) ∧ ∀ (j : Nat) (r : NRow) (N : Int), rows[j]? = some r → vs[j]? = some N → RightAt X w r N,
  fun ⟨bl, rows, h1, h2, h0, h3, h4, h5⟩ hk hX => ⟨bl, rows, h1, h2, h0, Free.mono hk hX bl h3, rangeAt_keep h4 (hk.block bl h3.1 h3.2), fun j r N hr hN => (h5 j r N hr hN).up hk hX⟩⟩
/-- The row of answers, those from the i-th on as they were. -/
def VTy.jx (B bl : Nat) (rows : List NRow) (vs : List Int) (i : Nat) : VTy := ⟨fun X w v => v = .slice (some ⟨bl, 0, none⟩) vs.length vs.length ∧ rows.length = vs.length ∧ rows.length ≤ 100 ∧ Free X w bl ∧ w.rangeAt bl 0 (rows.flatMap NRow.cells) ∧ B ≤ bl ∧ ApartN5 B bl rows ∧ (∀ (j : Nat) (r : NRow), rows[j]? = some r → OwnAt X w r) ∧ ∀ (j : Nat) (r : NRow) (N : Int), i ≤ j → rows[j]? = some r → vs[j]? = some N → RightAt X w r N,
  fun ⟨h1, h2, h0, h3, h4, h5, h6, h7, h8⟩ hk hX => ⟨h1, h2, h0, Free.mono hk hX bl h3, rangeAt_keep h4 (hk.block bl h3.1 h3.2), h5, h6, fun j r hr => (h7 j r hr).up hk hX, fun j r N hj hr hN => (h8 j r N hj hr hN).up hk hX⟩⟩
def VTy.jj (B : Nat) (vs : List Int) : VTy := .sig fun p : Nat × List NRow => .jx B p.1 p.2 vs 0
theorem jx_next {B bl : Nat} {rows : List NRow} {vs : List Int} {i : Nat} (X : List Nat) (w : World) (v : Value) (h : (VTy.jx B bl rows vs i).holds X w v) : (VTy.jx B bl rows vs (i + 1)).holds X w v := by
  obtain ⟨h1, h2, h0, h3, h4, h5, h6, h7, h8⟩ := h
  exact ⟨h1, h2, h0, h3, h4, h5, h6, h7, fun j r N hj => h8 j r N (by omega)⟩
/-- The address of a right number. -/
def VTy.pn (N : Int) : VTy := ⟨fun X w v => ∃ b o r, v = .pointer (some ⟨b, o, none⟩) ∧ Free X w b ∧ w.rangeAt b o r.cells ∧ RightAt X w r N, fun ⟨b, o, r, h1, h2, h3, h4⟩ hk hX => ⟨b, o, r, h1, Free.mono hk hX b h2, rangeAt_keep h3 (hk.block b h2.1 h2.2), h4.up hk hX⟩⟩
/-- The address of a number in a row; of one cell. -/
def VTy.pr (r : NRow) : VTy := ⟨fun X w v => ∃ b o, v = .pointer (some ⟨b, o, none⟩) ∧ Free X w b ∧ w.rangeAt b o r.cells, fun ⟨b, o, h1, h2, h3⟩ hk hX => ⟨b, o, h1, Free.mono hk hX b h2, rangeAt_keep h3 (hk.block b h2.1 h2.2)⟩⟩
def VTy.pc (u : Value) : VTy := ⟨fun X w v => ∃ b o, v = .pointer (some ⟨b, o, none⟩) ∧ Free X w b ∧ w.cell? ⟨b, o, none⟩ = some u, fun ⟨b, o, h1, h2, h3⟩ hk hX => ⟨b, o, h1, Free.mono hk hX b h2, (World.cell?_of_block (hk.block b h2.1 h2.2)).trans h3⟩⟩
theorem row_at {w : World} {bl : Nat} {rows : List NRow} (h : w.rangeAt bl 0 (rows.flatMap NRow.cells)) {j : Nat} {r : NRow} (hr : rows[j]? = some r) : w.rangeAt bl (0 + j * 2) r.cells := by
  intro i u hu
  have := h (j * 2 + i) u (by
    have := flat_get (ps := rows.map fun r => (r, r.cells)) (k := 2) (fun q hq => by obtain ⟨r, _, rfl⟩ := List.mem_map.1 hq; rfl) (j := j) (i := i) (q := (r, r.cells)) (u := u) (by rw [List.getElem?_map, hr]; rfl) hu
    rwa [List.flatMap_map] at this)
  rw [Nat.zero_add] at this ⊢
  exact this
instance : SliceC Tryz.prog 36 2 := ⟨⟨_, Tryz.underlying36, by kernel_rfl⟩⟩
instance : SliceC Tryz.prog 34 2 := ⟨⟨_, Tryz.underlying34, by kernel_rfl⟩⟩
class AsV (T : VTy) (vs : outParam (List Int)) : Prop where
  ok : ∀ {X w v}, T.holds X w v → (VTy.vw vs).holds X w v
instance {vs : List Int} : AsV (.vw vs) vs := ⟨fun h => h⟩
instance {vs : List Int} {B : Nat} {T : VTy} [a : AsV T vs] : AsV (.und B T) vs := ⟨fun h => a.ok (und_weak h)⟩
section
variable {w00 : World} {N : Nat} {L : List Loc} {E : List (Nat × VTy)} {d : Nat} {t0 : TypeId} {pos : String} {af : Array Edge} {gd : Option (Nat × Bool)} {ats : Array TypeId}
theorem index_run {w : World} {ρ : Operand → Value} {o oi : Operand} {ty : TypeId} {bl n c k j : Nat} {off : Nat} (ht : SliceC Tryz.prog ty k) (e1 : ρ o = .slice (some ⟨bl, off, none⟩) n c) (e2 : ρ oi = .int .i64 (j : Int)) (hj : j < n) :
    (execOp ρ ⟨some d, .indexAddr ty o oi, t0, pos, af, gd⟩).run Tryz.prog w = .ok (.value (.pointer (some ⟨bl, off + j * k, none⟩))) w := by
  obtain ⟨el, hu, hs⟩ := ht.ok
  have hz : (sizeOf el).run Tryz.prog w = .ok k w := by
    cases hq : Tryz.prog.info? el with
    | none => rw [hq] at hs; cases hs
    | some q =>
      rw [hq] at hs
      have : q.size = k := by simpa using hs
      simp [sizeOf, typeInfo, hq, this]
  unfold execOp
  have hji : (0 : Int) ≤ (j : Int) ∧ (j : Int) < (n : Int) := ⟨by omega, by omega⟩
  simp only [e1, e2, Instr.indexAt, asIntOf, Sem.run_bind, Sem.run_pure, Result.andThen_ok, run_underlying hu w, hji, and_self, if_true, hz, Int.toNat_natCast, Addr.add_mid]
theorem st_lenJ {B bl : Nat} {rows : List NRow} {vs : List Int} {i s k : Nat} {ty : TypeId} [ho : Look E s (.jx B bl rows vs i)] [ht : SliceC Tryz.prog ty k] : StepT Tryz.prog w00 N L E ⟨some d, .call { callee := .builtin .len, args := #[.tmp s], argTypes := #[ty] }, t0, pos, af, gd⟩ (.is (.int .i64 (vs.length : Int))) := by
  constructor
  intro X ρ w hc _ hN hm hsl
  obtain ⟨e, _⟩ := hsl _ ho.mem (by simp [Op.operands, Call.operands])
  have e1 : ρ (.tmp s) = .slice (some ⟨bl, 0, none⟩) vs.length vs.length := e
  obtain ⟨el, hu, _⟩ := ht.ok
  clear hc hsl ho ht e hm
  unfold Yields
  go_simp
  exact ⟨rfl, Below.refl _ _⟩
theorem st_readJ {B bl : Nat} {rows : List NRow} {vs : List Int} {i : Nat} {M : Int} {o oi : Operand} {ty : TypeId} [ho : OpC E o (.jx B bl rows vs i)] [hi : OpC E oi (.is (.int .i64 (i : Int)))] [ht : SliceC Tryz.prog ty 2] (hv : vs[i]? = some M) : StepT Tryz.prog w00 N L E ⟨some d, .indexAddr ty o oi, t0, pos, af, gd⟩ (.pn M) := by
  constructor
  intro X ρ w hc _ hN hm hsl
  obtain ⟨e1, h2, h0, h3, h4, _, _, _, h8⟩ := ho.get (X := X) (w := w) hc fun p hp e => hsl p hp (by simp [Op.operands, e])
  have e2 : ρ oi = .int .i64 i := hi.get (X := X) (w := w) hc fun p hp e => hsl p hp (by simp [Op.operands, e])
  have hj : i < vs.length := (List.getElem?_eq_some_iff.1 hv).1
  obtain ⟨r, hr⟩ : ∃ r, rows[i]? = some r := ⟨_, List.getElem?_eq_getElem (by omega)⟩
  unfold Yields
  rw [index_run ht e1 e2 hj]
  exact ⟨⟨bl, _, r, rfl, h3, row_at h4 hr, h8 i r M (Nat.le_refl _) hr hv⟩, Below.refl _ _⟩
theorem st_readV {T : VTy} {vs : List Int} {i : Nat} {M : Int} {o oi : Operand} {ty : TypeId} [ho : OpC E o T] [av : AsV T vs] [hi : OpC E oi (.is (.int .i64 (i : Int)))] [ht : SliceC Tryz.prog ty 2] (hv : vs[i]? = some M) : StepT Tryz.prog w00 N L E ⟨some d, .indexAddr ty o oi, t0, pos, af, gd⟩ (.pn M) := by
  constructor
  intro X ρ w hc _ hN hm hsl
  obtain ⟨bl, rows, e1, h2, h0, h3, h4, h5⟩ := av.ok (ho.get (X := X) (w := w) hc fun p hp e => hsl p hp (by simp [Op.operands, e]))
  have e2 : ρ oi = .int .i64 i := hi.get (X := X) (w := w) hc fun p hp e => hsl p hp (by simp [Op.operands, e])
  have hj : i < vs.length := (List.getElem?_eq_some_iff.1 hv).1
  obtain ⟨r, hr⟩ : ∃ r, rows[i]? = some r := ⟨_, List.getElem?_eq_getElem (by omega)⟩
  unfold Yields
  rw [index_run ht e1 e2 hj]
  exact ⟨⟨bl, _, r, rfl, h3, row_at h4 hr, h5 i r M hr hv⟩, Below.refl _ _⟩
theorem st_loadN5 {M : Int} {ty : TypeId} {s : Nat} [ho : Look E s (.pn M)] [ht : TyC Tryz.prog ty 2 true] : StepT Tryz.prog w00 N L E ⟨some d, .load ty (.tmp s), t0, pos, af, gd⟩ (.nc M 16) := by
  constructor
  intro X ρ w hc _ hN hm hsl
  obtain ⟨b, o, r, e, hb, h1, xs, h2, h3, h4⟩ := hsl _ ho.mem (by simp [Op.operands])
  have e' : ρ (.tmp s) = .pointer (some ⟨b, o, none⟩) := e
  obtain ⟨dd, hu, hd⟩ := ht.row
  have hi : (Tryz.prog.info? ty).map (·.size) = some r.cells.length := ht.size
  have hrun : (execOp ρ ⟨some d, .load ty (.tmp s), t0, pos, af, gd⟩).run Tryz.prog w = .ok (.value (.agg r.cells.toArray)) w := by
    unfold execOp
    simp only [e', run_loadAt_mid w b o ty r.cells dd h1 hu hd hi, Sem.run_bind, Sem.run_pure, Result.andThen_ok]
  unfold Yields
  rw [hrun]
  exact ⟨⟨(r.s, xs), ⟨h2, h4⟩, r.cells, rfl, num_rd.2 ⟨r.A, r.n, r.c, rfl, h3, h2.row.dg⟩⟩, Below.refl _ _⟩
/-- The i-th number's address, whatever has become of it. -/
theorem st_atJ {B bl : Nat} {rows : List NRow} {vs : List Int} {i i' : Nat} {r : NRow} {o oi : Operand} {ty : TypeId} [ho : OpC E o (.jx B bl rows vs i')] [hi : OpC E oi (.is (.int .i64 (i : Int)))] [ht : SliceC Tryz.prog ty 2] (hr : rows[i]? = some r) : StepT Tryz.prog w00 N L E ⟨some d, .indexAddr ty o oi, t0, pos, af, gd⟩ (.pr r) := by
  constructor
  intro X ρ w hc _ hN hm hsl
  obtain ⟨e1, h2, h0, h3, h4, _⟩ := ho.get (X := X) (w := w) hc fun p hp e => hsl p hp (by simp [Op.operands, e])
  have e2 : ρ oi = .int .i64 i := hi.get (X := X) (w := w) hc fun p hp e => hsl p hp (by simp [Op.operands, e])
  have hj : i < vs.length := by have := (List.getElem?_eq_some_iff.1 hr).1; omega
  unfold Yields
  rw [index_run ht e1 e2 hj]
  exact ⟨⟨bl, _, rfl, h3, row_at h4 hr⟩, Below.refl _ _⟩
set_option maxRecDepth 20000 in
theorem st_fieldJ {r : NRow} {s : Nat} [ho : Look E s (.pr r)] : StepT Tryz.prog w00 N L E ⟨some d, .fieldAddr 24 (.tmp s) 1, t0, pos, af, gd⟩ (.pc (.slice r.A r.n r.c)) := by
  constructor
  intro X ρ w hc _ hN hm hsl
  obtain ⟨b, o, e, hb, h1⟩ := hsl _ ho.mem (by simp [Op.operands])
  have e' : ρ (.tmp s) = .pointer (some ⟨b, o, none⟩) := e
  have h2 := h1 1 (.slice r.A r.n r.c) rfl
  have hT : (VTy.pc (.slice r.A r.n r.c)).holds X w (.pointer (some ⟨b, o + 1, none⟩)) := ⟨b, o + 1, rfl, hb, h2⟩
  have HT := Lib.hid hT
  clear hc hsl ho hm e h1 h2 hb hT
  unfold Yields
  go_simp
  exact ⟨HT.out, Below.refl _ _⟩
set_option maxRecDepth 20000 in
theorem st_loadC {A : Option Addr} {n c : Nat} {s : Nat} [ho : Look E s (.pc (.slice A n c))] : StepT Tryz.prog w00 N L E ⟨some d, .load 22 (.tmp s), t0, pos, af, gd⟩ (.is (.slice A n c)) := by
  constructor
  intro X ρ w hc _ hN hm hsl
  obtain ⟨b, o, e, hb, h1⟩ := hsl _ ho.mem (by simp [Op.operands])
  have e' : ρ (.tmp s) = .pointer (some ⟨b, o, none⟩) := e
  clear hc hsl ho hm e
  unfold Yields
  go_simp
  exact ⟨rfl, Below.refl _ _⟩
theorem st_lenS5 {A : Option Addr} {n c s k : Nat} {ty : TypeId} [ho : Look E s (.is (.slice A n c))] [ht : SliceC Tryz.prog ty k] : StepT Tryz.prog w00 N L E ⟨some d, .call { callee := .builtin .len, args := #[.tmp s], argTypes := #[ty] }, t0, pos, af, gd⟩ (.is (.int .i64 (n : Int))) := by
  constructor
  intro X ρ w hc _ hN hm hsl
  have e1 : ρ (.tmp s) = .slice A n c := hsl _ ho.mem (by simp [Op.operands, Call.operands])
  obtain ⟨el, hu, _⟩ := ht.ok
  clear hc hsl ho ht hm
  unfold Yields
  go_simp
  exact ⟨rfl, Below.refl _ _⟩
theorem st_atS {b off n c k : Nat} {A : Option Addr} {o oi : Operand} {ty : TypeId} [ho : OpC E o (.is (.slice A n c))] [hi : OpC E oi (.is (.int .i64 (k : Int)))] [ht : SliceC Tryz.prog ty 1] (hA : A = some ⟨b, off, none⟩) (hk : k < n) : StepT Tryz.prog w00 N L E ⟨some d, .indexAddr ty o oi, t0, pos, af, gd⟩ (.is (.pointer (some ⟨b, off + k, none⟩))) := by
  constructor
  intro X ρ w hc _ hN hm hsl
  have e1 : ρ o = .slice A n c := ho.get (X := X) (w := w) hc fun p hp e => hsl p hp (by simp [Op.operands, e])
  have e2 : ρ oi = .int .i64 k := hi.get (X := X) (w := w) hc fun p hp e => hsl p hp (by simp [Op.operands, e])
  rw [hA] at e1
  unfold Yields
  rw [index_run ht e1 e2 hk, Nat.mul_one]
  exact ⟨rfl, Below.refl _ _⟩
end
theorem rise_le {β : Nat → Nat} {c : Nat} (h : Rise β c) {i j : Nat} (hij : i ≤ j) (hj : j ≤ c) : β i ≤ β j := by
  induction j with
  | zero => obtain rfl : i = 0 := by omega
            exact Nat.le_refl _
  | succ j ih =>
    rcases Nat.lt_or_eq_of_le hij with h1 | rfl
    · exact Nat.le_trans (ih (by omega) (by omega)) (h j (by omega))
    · exact Nat.le_refl _
theorem Free.new {X : List Nat} {w : World} (hX : ∀ b ∈ X, b < w.heap.size) (o : Obj) : Free X (w.alloc o) w.heap.size := ⟨by rw [size_one]; exact Nat.lt_succ_self _, fun h => Nat.lt_irrefl _ (hX _ h)⟩
/-- What is known of one of the answers. -/
def AnsAt (X : List Nat) (w : World) (r : NRow) (N : Int) (b0 b1 : Nat) : Prop := RightAt X w r N ∧ OwnAt X w r ∧ (0 < r.n → ∃ bk off, r.A = some ⟨bk, off, none⟩ ∧ b0 ≤ bk ∧ bk < b1)
def AnsL (X : List Nat) (w : World) (r : NRow) (N : Int) (L b0 b1 : Nat) : Prop := (∃ xs, Whole N r.s xs ∧ SlF .u32 w (Free X w) r.A r.n r.c xs ∧ (N.natAbs : Int) < 4294967296 ^ L) ∧ OwnAt X w r ∧ (0 < r.n → ∃ bk off, r.A = some ⟨bk, off, none⟩ ∧ b0 ≤ bk ∧ bk < b1)
theorem AnsL.le16 {X : List Nat} {w : World} {r : NRow} {N : Int} {L b0 b1 : Nat} (h : AnsL X w r N L b0 b1) (hL : L ≤ 16) : AnsAt X w r N b0 b1 := by
  obtain ⟨⟨xs, h1, h2, h3⟩, h4⟩ := h
  exact ⟨⟨xs, h1, h2, Int.lt_of_lt_of_le h3 (pow_mono (by decide) hL)⟩, h4⟩
theorem und_nn {X : List Nat} {w : World} {v : Value} {N : Int} {L b0 b1 : Nat} (h : (VTy.und b1 (.nn N L b0)).holds X w v) : ∃ r : NRow, v = .agg #[.bool r.s, .slice r.A r.n r.c] ∧ AnsL X w r N L b0 b1 := by
  obtain ⟨hB, x, ⟨h1, h2⟩, cs, rfl, hr⟩ := h
  obtain ⟨A, n, c, rfl, hs, hd⟩ := num_rd.1 hr
  have hf : ∀ {b : Nat}, NewB b0 (X ++ above b1 w) w b → Free X w b ∧ b0 ≤ b ∧ b < b1 := fun {b} ⟨⟨g1, g2⟩, g3, _⟩ => ⟨⟨g1, fun h => g2 (List.mem_append_left _ h)⟩, g3, Nat.lt_of_not_le fun h => g2 (List.mem_append_right _ (mem_above.2 ⟨g1, h⟩))⟩
  refine ⟨⟨x.1, A, n, c⟩, rfl, ⟨x.2, h1, hs.more fun b hb => (hf hb).1, h2⟩, ⟨hs.1.lenMax, fun hn => ?_⟩, fun hn => ?_⟩
  · obtain ⟨b, off, y, rfl, _, _, hc⟩ := hs.1.at_ (j := n - 1) (by have : 0 < n := hn; omega)
    obtain ⟨g1, g2, cs, g3⟩ := hs.2 hn b rfl
    refine ⟨b, off, cs, rfl, (hf ⟨g1, g2, cs, g3⟩).1, g3, ?_⟩
    unfold World.cell? at hc
    simp only [g3] at hc
    have := (Array.getElem?_eq_some_iff.1 (show cs[off + (n - 1)]? = some _ from by simpa using hc)).1
    have : 0 < n := hn
    show off + n ≤ cs.size
    omega
  · obtain ⟨b, off, y, rfl, _, _, hc⟩ := hs.1.at_ (j := n - 1) (by have : 0 < n := hn; omega)
    have := hf (hs.2 hn b rfl)
    exact ⟨b, off, rfl, this.2.1, this.2.2⟩
theorem nc_row {X : List Nat} {w : World} {v : Value} {N : Int} {L : Nat} (hL : L ≤ 16) (h : (VTy.nc N L).holds X w v) : ∃ r : NRow, v = .agg #[.bool r.s, .slice r.A r.n r.c] ∧ RightAt X w r N := by
  obtain ⟨x, ⟨h1, h2⟩, cs, rfl, hr⟩ := h
  obtain ⟨A, n, c, rfl, hs, hd⟩ := num_rd.1 hr
  exact ⟨⟨x.1, A, n, c⟩, rfl, x.2, h1, hs, Int.lt_of_lt_of_le h2 (pow_mono (by decide) hL)⟩
theorem rows_new {w : World} {T : TypeId} {rows : List NRow} : (w.alloc (.cells (rows.flatMap NRow.cells).toArray T)).rangeAt w.heap.size 0 (rows.flatMap NRow.cells) := rangeAt_new (pre := []) (List.prefix_refl _)
theorem vw_new {X : List Nat} {w : World} {T : TypeId} (hX : ∀ b ∈ X, b < w.heap.size) (rows : List NRow) (vs : List Int) (hlen : rows.length = vs.length) (hl : rows.length ≤ 100) (hr : ∀ (j : Nat) (r : NRow), rows[j]? = some r → ∃ N, vs[j]? = some N ∧ RightAt X w r N) :
    (VTy.vw vs).holds X (w.alloc (.cells (rows.flatMap NRow.cells).toArray T)) (.slice (some ⟨w.heap.size, 0, none⟩) vs.length vs.length) := by
  have hk : Keeps X w (w.alloc (.cells (rows.flatMap NRow.cells).toArray T)) := Below.keeps ((Below.refl _ _).alloc (Nat.le_refl _) _) X
  refine ⟨_, rows, rfl, hlen, hl, Free.new hX _, rows_new, fun j r N hj hN => ?_⟩
  obtain ⟨M, h1, h2⟩ := hr j r hj
  rw [hN] at h1
  injection h1 with h1
  subst h1
  exact h2.up hk fun _ h _ => h
theorem jj_new {X : List Nat} {w : World} {T : TypeId} {B : Nat} {β : Nat → Nat} (hX : ∀ b ∈ X, b < w.heap.size) (rows : List NRow) (vs : List Int) (hlen : rows.length = vs.length) (hl : rows.length ≤ 100) (hB : β 0 ≤ B ∧ B ≤ β 0 ∧ B ≤ w.heap.size) (hr : ∀ (j : Nat) (r : NRow), rows[j]? = some r → ∃ N, vs[j]? = some N ∧ RightAt X w r N ∧ OwnAt X w r ∧ (0 < r.n → ∃ bk off, r.A = some ⟨bk, off, none⟩ ∧ β j ≤ bk ∧ bk < β (j + 1))) (hu : Rise β rows.length) :
    (VTy.jj B vs).holds X (w.alloc (.cells (rows.flatMap NRow.cells).toArray T)) (.slice (some ⟨w.heap.size, 0, none⟩) vs.length vs.length) := by
  have hk : Keeps X w (w.alloc (.cells (rows.flatMap NRow.cells).toArray T)) := Below.keeps ((Below.refl _ _).alloc (Nat.le_refl _) _) X
  refine ⟨(w.heap.size, rows), rfl, hlen, hl, Free.new hX _, rows_new, hB.2.2, fun j r hj hn => ?_, fun j r hj => ?_, fun j r N _ hj hN => ?_⟩
  · obtain ⟨N, _, _, ho, h4⟩ := hr j r hj
    have hjl : j < rows.length := (List.getElem?_eq_some_iff.1 hj).1
    obtain ⟨bk, off, e, g1, g2⟩ := h4 hn
    obtain ⟨b', off', cs, e', hf, _⟩ := ho.2 hn
    rw [e] at e'
    injection e' with e'
    injection e' with e1 e2
    subst e1
    refine ⟨bk, off, e, ?_, by have := hf.1; omega, fun j' r' hj' hne hn' off2 he => ?_⟩
    · have := rise_le hu (Nat.zero_le j) (by omega)
      omega
    · have hjl' : j' < rows.length := (List.getElem?_eq_some_iff.1 hj').1
      obtain ⟨N', _, _, _, h4'⟩ := hr j' r' hj'
      obtain ⟨bk', off3, e3, g3, g4⟩ := h4' hn'
      rw [he] at e3
      injection e3 with e3
      injection e3 with e3 _
      subst e3
      rcases Nat.lt_or_gt_of_ne hne with h | h
      · have := rise_le hu (show j' + 1 ≤ j by omega) (by omega)
        omega
      · have := rise_le hu (show j + 1 ≤ j' by omega) (by omega)
        omega
  · obtain ⟨_, _, _, ho, _⟩ := hr j r hj
    exact ho.up hk fun _ h _ => h
  · obtain ⟨M, h1, h2, _⟩ := hr j r hj
    rw [hN] at h1
    injection h1 with h1
    subst h1
    exact h2.up hk fun _ h _ => h
section
variable {w00 : World} {N : Nat} {L : List Loc} {E : List (Nat × VTy)} {d : Nat} {t0 : TypeId} {pos : String} {af : Array Edge} {gd : Option (Nat × Bool)} {ats : Array TypeId}
set_option maxRecDepth 20000 in
theorem sJ_build5 {o0 o1 o2 o3 o4 : Operand} {N0 N1 N2 N3 N4 : Int} {L0 L1 L2 L3 L4 : Nat} {β : Nat → Nat} (hu : Rise β 5) (hL : L0 ≤ 16 ∧ L1 ≤ 16 ∧ L2 ≤ 16 ∧ L3 ≤ 16 ∧ L4 ≤ 16) [h0 : OpC E o0 (.und (β 1) (.nn N0 L0 (β 0)))] [h1 : OpC E o1 (.und (β 2) (.nn N1 L1 (β 1)))] [h2 : OpC E o2 (.und (β 3) (.nn N2 L2 (β 2)))] [h3 : OpC E o3 (.und (β 4) (.nn N3 L3 (β 3)))] [h4 : OpC E o4 (.und (β 5) (.nn N4 L4 (β 4)))] : StepT Tryz.prog w00 N L E ⟨some d, .buildSlice 36 5 #[(0, o0), (1, o1), (2, o2), (3, o3), (4, o4)], t0, pos, af, gd⟩ (.jj (β 0) [N0, N1, N2, N3, N4]) := by
  constructor
  intro X ρ w hc _ hN hm hsl
  have g0 := h0.get (X := X) (w := w) hc fun p hp e => hsl p hp (by simp [Op.operands, e])
  have g1 := h1.get (X := X) (w := w) hc fun p hp e => hsl p hp (by simp [Op.operands, e])
  have g2 := h2.get (X := X) (w := w) hc fun p hp e => hsl p hp (by simp [Op.operands, e])
  have g3 := h3.get (X := X) (w := w) hc fun p hp e => hsl p hp (by simp [Op.operands, e])
  have g4 := h4.get (X := X) (w := w) hc fun p hp e => hsl p hp (by simp [Op.operands, e])
  have hB : β 0 ≤ β 0 ∧ β 0 ≤ β 0 ∧ β 0 ≤ w.heap.size := ⟨Nat.le_refl _, Nat.le_refl _, Nat.le_trans (hu 0 (by decide)) g0.1⟩
  obtain ⟨r0, e0, f0⟩ := und_nn g0
  have f0 := f0.le16 (by omega)
  clear g0
  obtain ⟨r1, e1, f1⟩ := und_nn g1
  have f1 := f1.le16 (by omega)
  clear g1
  obtain ⟨r2, e2, f2⟩ := und_nn g2
  have f2 := f2.le16 (by omega)
  clear g2
  obtain ⟨r3, e3, f3⟩ := und_nn g3
  have f3 := f3.le16 (by omega)
  clear g3
  obtain ⟨r4, e4, f4⟩ := und_nn g4
  have f4 := f4.le16 (by omega)
  clear g4
  have hT := jj_new (X := X) (w := w) (T := 24) (B := β 0) (β := β) hm.far [r0, r1, r2, r3, r4] [N0, N1, N2, N3, N4] rfl (by simp) hB (fun j r hr => by
    match j, hr with
    | 0, hr =>
      obtain rfl : r0 = r := by simpa using hr
      exact ⟨N0, rfl, f0.1, f0.2.1, f0.2.2⟩
    | 1, hr =>
      obtain rfl : r1 = r := by simpa using hr
      exact ⟨N1, rfl, f1.1, f1.2.1, f1.2.2⟩
    | 2, hr =>
      obtain rfl : r2 = r := by simpa using hr
      exact ⟨N2, rfl, f2.1, f2.2.1, f2.2.2⟩
    | 3, hr =>
      obtain rfl : r3 = r := by simpa using hr
      exact ⟨N3, rfl, f3.1, f3.2.1, f3.2.2⟩
    | 4, hr =>
      obtain rfl : r4 = r := by simpa using hr
      exact ⟨N4, rfl, f4.1, f4.2.1, f4.2.2⟩
    | j + 5, hr => simp at hr) hu
  have HT := Lib.hid hT
  clear hT hsl hm hc h0 h1 h2 h3 h4 f0 f1 f2 f3 f4
  unfold Yields
  go_simp
  exact ⟨HT.out, (Below.refl _ _).alloc (Nat.le_refl _) _⟩
set_option maxRecDepth 20000 in
theorem sV_build5 {o0 o1 o2 o3 o4 : Operand} {N0 N1 N2 N3 N4 : Int} {L0 L1 L2 L3 L4 : Nat} (hL : L0 ≤ 16 ∧ L1 ≤ 16 ∧ L2 ≤ 16 ∧ L3 ≤ 16 ∧ L4 ≤ 16) [h0 : OpC E o0 (.nc N0 L0)] [h1 : OpC E o1 (.nc N1 L1)] [h2 : OpC E o2 (.nc N2 L2)] [h3 : OpC E o3 (.nc N3 L3)] [h4 : OpC E o4 (.nc N4 L4)] : StepT Tryz.prog w00 N L E ⟨some d, .buildSlice 34 5 #[(0, o0), (1, o1), (2, o2), (3, o3), (4, o4)], t0, pos, af, gd⟩ (.vw [N0, N1, N2, N3, N4]) := by
  constructor
  intro X ρ w hc _ hN hm hsl
  have g0 := h0.get (X := X) (w := w) hc fun p hp e => hsl p hp (by simp [Op.operands, e])
  have g1 := h1.get (X := X) (w := w) hc fun p hp e => hsl p hp (by simp [Op.operands, e])
  have g2 := h2.get (X := X) (w := w) hc fun p hp e => hsl p hp (by simp [Op.operands, e])
  have g3 := h3.get (X := X) (w := w) hc fun p hp e => hsl p hp (by simp [Op.operands, e])
  have g4 := h4.get (X := X) (w := w) hc fun p hp e => hsl p hp (by simp [Op.operands, e])
  obtain ⟨r0, e0, f0⟩ := nc_row (by omega) g0
  clear g0
  obtain ⟨r1, e1, f1⟩ := nc_row (by omega) g1
  clear g1
  obtain ⟨r2, e2, f2⟩ := nc_row (by omega) g2
  clear g2
  obtain ⟨r3, e3, f3⟩ := nc_row (by omega) g3
  clear g3
  obtain ⟨r4, e4, f4⟩ := nc_row (by omega) g4
  clear g4
  have hT := vw_new (X := X) (w := w) (T := 29) hm.far [r0, r1, r2, r3, r4] [N0, N1, N2, N3, N4] rfl (by simp) (fun j r hr => by
    match j, hr with
    | 0, hr =>
      obtain rfl : r0 = r := by simpa using hr
      exact ⟨N0, rfl, f0⟩
    | 1, hr =>
      obtain rfl : r1 = r := by simpa using hr
      exact ⟨N1, rfl, f1⟩
    | 2, hr =>
      obtain rfl : r2 = r := by simpa using hr
      exact ⟨N2, rfl, f2⟩
    | 3, hr =>
      obtain rfl : r3 = r := by simpa using hr
      exact ⟨N3, rfl, f3⟩
    | 4, hr =>
      obtain rfl : r4 = r := by simpa using hr
      exact ⟨N4, rfl, f4⟩
    | j + 5, hr => simp at hr)
  have HT := Lib.hid hT
  clear hT hsl hm hc h0 h1 h2 h3 h4 f0 f1 f2 f3 f4
  unfold Yields
  go_simp
  exact ⟨HT.out, (Below.refl _ _).alloc (Nat.le_refl _) _⟩
end
section
variable {P : Program} {G : World → Prop} {w00 : World} {N : Nat} {L : List Loc} {E : List (Nat × VTy)} {d : Nat} {t0 : TypeId} {pos : String} {af : Array Edge} {gd : Option (Nat × Bool)} {ats : Array TypeId}
/-- The answer is newer than what memory is known to be at least. -/
theorem scN {f : FuncId} {os : List Operand} {ks : List Nat} {As : List VTy} {T : Nat → VTy} [k : OpsK E os ks As] [sg : StabG G] (hG : G w00) (h : Ctr P G f ks As T) :
    StepT P w00 N L E ⟨some d, .call { callee := .value (.func f), args := os.toArray, argTypes := ats }, t0, pos, af, gd⟩ (T N) := by
  constructor
  intro X ρ w hc hf hN hm hsl
  have e := k.get (X := X) (w := w) hc hf fun p hp he => hsl p hp (by simpa [Op.operands, Call.operands] using he)
  have hr : (execOp ρ ⟨some d, .call { callee := .value (.func f), args := os.toArray, argTypes := ats }, t0, pos, af, gd⟩).run P w = .ok (.enter f (os.map ρ).toArray) w := by
    have hff := hf f
    have hen := h.ent
    clear hsl h hm hN hc e k
    go_simp
    exact hen _ _
  unfold Yields
  rw [hr]
  refine (h.run (sg.stab hG hm.below) hm.far e).mono ?_
  rintro e w' ⟨v, rfl, hT, hB⟩
  exact ⟨v, rfl, h.down hN hT, hB⟩
theorem b_callC {c : Nat} {F F' : List Ent} {os' : List Oper} {ks' : List (Option (Nat × Bool))} {f : FuncId} {os : List Operand} {ks : List Nat} {As : List VTy} {T : Nat → VTy} [sg : StabG G] (hG : G w00) (h : Ctr P G f ks As T) (k : ∀ β, OpsK (F.map (Ent.at β)) os ks As) (t : OpsB P w00 L (c + 1) (Ent.cal d c T :: F) os' F' ks') :
    OpsB P w00 L c F (⟨some d, .call { callee := .value (.func f), args := os.toArray, argTypes := ats }, t0, pos, af, gd⟩ :: os') F' (some (c, true) :: ks') := b_call (fun β => haveI := k β; scN hG h) t
end
set_option maxRecDepth 20000 in
theorem limb77_run {ρ : Operand → Value} {w : World} {b o s : Nat} {x : Value} {t0 : TypeId} {pos : String} {af : Array Edge} (e : ρ (.tmp s) = .pointer (some ⟨b, o, none⟩)) (e2 : ρ (.const (.int .u32 77)) = .int .u32 77) (hc : w.cell? ⟨b, o, none⟩ = some x) (hf : w.frozen? ⟨b, o, none⟩ = false) :
    (execOp ρ ⟨none, .store 38 (.tmp s) (.const (.int .u32 77)), t0, pos, af, none⟩).run Tryz.prog w = .ok .skip (w.setCell ⟨b, o, none⟩ (.int .u32 77)) := by
  go_simp
/-- A limb of an answer that is done with is written over. -/
theorem g_limb77 {w00 : World} {X : List Nat} {L : List Loc} {E E0 : List (Nat × VTy)} {n : Nat} {cs : List Code} {Q : Exit → Act → World → Prop} {ops : Array Oper} {rest : List Oper} {t0 : TypeId} {pos : String} {af : Array Edge} {s sj b o off B bl i j0 : Nat} {rows : List NRow} {vs : List Int} {r : NRow} (ss : List Nat) [hs : Look E s (.is (.pointer (some ⟨b, o, none⟩)))] [hj : Look E sj (.jx B bl rows vs i)] [k : KeepC E ss E0] [kL : SurvUL B L] [kE : SurvUL B E0] (hB0 : w00.heap.size ≤ B) (hr : rows[j0]? = some r) (hji : j0 < i) (hA : r.A = some ⟨b, off, none⟩) (ho : off ≤ o ∧ o < off + r.n) (h : GR Tryz.prog w00 X L ((sj, .jx B bl rows vs i) :: E0) n ops rest cs Q) :
    GR Tryz.prog w00 X L E n ops (⟨none, .store 38 (.tmp s) (.const (.int .u32 77)), t0, pos, af, none⟩ :: rest) cs Q := by
  refine ⟨fun a w ht => ?_⟩
  have hn : 0 < r.n := by omega
  have hjx := ht.slots _ hj.mem
  have e : a.eval (.tmp s) = .pointer (some ⟨b, o, none⟩) := ht.slots _ hs.mem
  obtain ⟨h1, h2, h0, h3, h4, h5, h6, h7, h8⟩ := hjx
  obtain ⟨b1, off1, c1, e1, hfb, hcell, hsz⟩ := (h7 j0 r hr).2 hn
  rw [hA] at e1
  injection e1 with e1
  injection e1 with e1 e2
  subst e1 e2
  obtain ⟨b2, off2, e3, hBb, hne, hap⟩ := h6 j0 r hr hn
  rw [hA] at e3
  injection e3 with e3
  injection e3 with e3 _
  subst e3
  have hlt : o < c1.size := by omega
  have hc : w.cell? ⟨b, o, none⟩ = some c1[o] := by unfold World.cell?; simp [hcell, hlt]
  have hf : w.frozen? ⟨b, o, none⟩ = false := by unfold World.frozen?; simp [hcell]
  have hoth : ∀ g, g ≠ b → (w.setCell ⟨b, o, none⟩ (.int .u32 77)).heap[g]? = w.heap[g]? := fun g hg => Below.heap_setCell _ _ _ _ hg
  have hself := heap_setCell_at (j := o) (.int .u32 77) hcell
  have hsize : (w.setCell ⟨b, o, none⟩ (.int .u32 77)).heap.size = w.heap.size := size_set _ _ _
  have hch : Ch B X w (w.setCell ⟨b, o, none⟩ (.int .u32 77)) := ⟨rfl, rfl, rfl, Nat.le_of_eq hsize.symm, fun g _ => by
    by_cases hg : g = b
    · subst hg; exact .inr ⟨hBb, hfb.2⟩
    · exact .inl (hoth g hg)⟩
  have hFree : ∀ g, Free X w g → Free X (w.setCell ⟨b, o, none⟩ (.int .u32 77)) g := fun g hg => ⟨by rw [hsize]; exact hg.1, hg.2⟩
  have hT0 := (ht.sub k.sub).ch hch hB0
  have hnew : (VTy.jx B bl rows vs i).holds X (w.setCell ⟨b, o, none⟩ (.int .u32 77)) (a.tmps.getD sj undef) := by
    refine ⟨h1, h2, h0, hFree _ h3, rangeAt_keep h4 (hoth bl (fun e => hne e.symm)), h5, h6, fun j q hq => ⟨(h7 j q hq).1, fun hqn => ?_⟩, fun j q M hij hq hM => ?_⟩
    · obtain ⟨b3, off3, c3, g1, g2, g3, g4⟩ := (h7 j q hq).2 hqn
      by_cases hb : b3 = b
      · subst hb
        rw [hcell] at g3
        injection g3 with g3
        injection g3 with g3
        subst g3
        exact ⟨b3, off3, _, g1, hFree _ g2, hself, by simpa using g4⟩
      · exact ⟨b3, off3, c3, g1, hFree _ g2, (hoth b3 hb).trans g3, g4⟩
    · obtain ⟨xs, g1, g2, g3⟩ := h8 j q M hij hq hM
      have g4 : SlF .u32 w (fun g => Free X w g ∧ g ≠ b) q.A q.n q.c xs := ⟨g2.1, fun hqn g hg => ⟨g2.2 hqn g hg, fun e => by
        subst e
        obtain ⟨b3, off3, c3, g5, _⟩ := (h7 j q hq).2 hqn
        rw [g5] at hg
        have e5 : b3 = g := by simpa [blk] using hg
        subst e5
        exact hap j q hq (by omega) hqn off3 g5⟩⟩
      exact ⟨xs, g1, (g4.keep fun g hg => hoth g hg.2).more fun g hg => hFree g hg.1, g3⟩
  refine wpList_run rfl ?_
  unfold Oper.wp
  rw [limb77_run e rfl hc hf]
  exact h.run _ _ ⟨hT0.size, hT0.df, fun p hp => by
    rcases List.mem_cons.1 hp with rfl | hp
    · exact hnew
    · exact hT0.slots p hp, hT0.mem⟩
theorem l_refX {x : RawQ} {L : Nat} (hL : L ≤ 1000) (h0 : 0 < L) : Ctr Tryz.prog Tab 9 [4] [.qx x L] (fun _ => .qx x L) := (l_ref hL h0).weak fun h => by
  obtain ⟨y, ⟨e, h⟩, g⟩ := kx_ex h
  exact ⟨y, ⟨e, by rw [← e]; exact h⟩, g⟩
set_option synthInstance.maxSize 4000 in
set_option synthInstance.maxHeartbeats 400000 in
set_option maxRecDepth 20000 in
set_option maxHeartbeats 8000000 in
theorem l_tells1 {x : RawQ} (ex : (decide ((x.1.2.length : Int) ≤ 12) && decide ((x.2.2.length : Int) ≤ 12)) = true) : Ctr Tryz.prog Tab 3 [4] [.qx x 12] (fun _ => .is (.bool true)) := by
  have hbb : (([x].all whq) == ([x].all whq)) = true := by simp
  refine ctr Tryz.func3 rfl Tryz.ntmps3 (by simp) (fun _ _ => by kernel_rfl) fun X w hE => ?_
  simp only [argE, Nat.zero_add, Nat.reduceAdd]
  repeat' first|kernel_rfl|apply g_seq|apply g_reg|apply g_nil|apply g_draw (id:=4) [] [] 11|apply o_all|apply o_go|exact OpsT.nil|exact GuardC.nil|exact UndefC.nil|refine @GuardC.cons _ _ _ _ inferInstance ?_|refine @UndefC.cons _ _ _ inferInstance ?_|apply g_box|apply g_all|apply g_sto|apply g_asg|refine g_run rfl inferInstance (by first|fail) (by kernel_rfl) ?_|refine g_sk rfl inferInstance rfl (by kernel_rfl) ?_|refine g_un rfl inferInstance (by kernel_rfl) ?_|apply g_st|apply g_skip|apply g_ct|apply g_cf|apply g_ret|refine r_1 rfl ?_|apply g_blk|apply g_eb|apply g_ex|apply e_t|apply e_h|refine e_o rfl ?_|apply r_t|apply r_b|apply g_cl|exact sc hE (l_fewT (by assumption))|exact sc hE l_works|exact sc hE (l_refX (by omega) (by omega))|exact sc hE (c5_floor (by omega))|exact sc hE (c5_ceil (by omega))|exact sc hE (c5_trunc (by omega))|exact sc hE (c5_half (by omega))|exact sc hE (c5_cents (by omega))|exact sc hE (c5_frac (by omega))|exact sc hE (c5_fromcents (by omega))|exact sc hE (c5_whole (by omega))|exact sc hE (c5_iswhole (by omega))|exact sV_build5 (by omega)|exact st_lss' (by assumption)|exact st_add' (by assumption)|exact sc hE (c_frac (by omega))|exact sc hE (c_fromcents (by omega))|exact sc hE (c_whole (by omega))|exact sc hE (c_iswhole (by omega))|exact sc hE (l_is (by omega))|exact sc hE (l_same (by omega))|exact sR_oneX|exact sQ_oneX|exact st_eqB' (by assumption)|exact st_move'|exact st_assign'|exact st_load'|exact st_fieldAddr'|exact st_and_t'|exact st_and_f'|exact st_not' (b := true) (u := false) rfl|exact st_not' (b := false) (u := true) rfl|exact st_not' rfl|exact st_eq' (by first|assumption|rfl)|exact st_lss' (by first|assumption|rfl)|exact st_len'|exact st_indexAddr' (by assumption)|exact st_loadE'|exact Cv.rfl'|(intro _;simp only[newX,newL,ptrs,List.map,List.cons_append,List.nil_append])|intro _
  refine g_stop fun a w h => ?_
  refine cw_loop (fun k a w => ∃ t : Nat, t + k = 2 ∧ TS _ _ [(_, VTy.qx x 12), (_, VTy.qx x 12)] [(5, .is (.int .i64 (t : Int))), (4, .vw [(qv x).floor, cl (qv x), tz (qv x), hf (qv x), hf (qv x * 100)]), (3, VTy.is (.pointer (some ⟨_, 0, none⟩))), (1, VTy.is (.pointer (some ⟨_, 0, none⟩))), (2, .is (.bool false))] 109 a w) 2 ⟨0, by omega, h.keep [5, 4, 3, 1, 2]⟩ ?_
  clear h
  rintro k a w ⟨t, ht, h⟩
  by_cases hlt : t < 2
  · have hc1 : decide ((t : Int) < 2) = true := decide_eq_true (by omega)
    have hw1 : IntKind.i64.wrap ((t : Int) + 1) = ((t + 1 : Nat) : Int) := i64_next hlt (by decide)
    replace h := h.age
    simp only [List.map] at h
    replace h := (h.keep [4, 5, 3, 1, 2]).ageE
    have hB0 := h.mem.below.size
    obtain ⟨B, hBe⟩ : ∃ B, B = w.heap.size := ⟨_, rfl⟩
    rw [← hBe] at h hB0
    clear hBe
    refine g_of h ?_
    clear h
    repeat' first|kernel_rfl|apply g_drawB (id:=8) 11|exact OpsB.nil|(apply b_callC hE (c_floor (p:=qv x) (L:=12) (by omega));(focus (intro β; simp only [List.map_cons, List.map_nil, Ent.at, Ent.fix, Ent.cal, Ent.old]; infer_instance)))|(apply b_callC hE (c_ceil (p:=qv x) (L:=12) (by omega));(focus (intro β; simp only [List.map_cons, List.map_nil, Ent.at, Ent.fix, Ent.cal, Ent.old]; infer_instance)))|(apply b_callC hE (c_trunc (p:=qv x) (L:=12) (by omega));(focus (intro β; simp only [List.map_cons, List.map_nil, Ent.at, Ent.fix, Ent.cal, Ent.old]; infer_instance)))|(apply b_callC hE (c_half (p:=qv x) (L:=12) (by omega));(focus (intro β; simp only [List.map_cons, List.map_nil, Ent.at, Ent.fix, Ent.cal, Ent.old]; infer_instance)))|(apply b_callC hE (c_cents (p:=qv x) (L:=12) (by omega));(focus (intro β; simp only [List.map_cons, List.map_nil, Ent.at, Ent.fix, Ent.cal, Ent.old]; infer_instance)))|(apply b_dep (T:=fun β=>VTy.jj (β 0) [(qv x).floor, cl (qv x), tz (qv x), hf (qv x), hf (qv x * 100)]);(focus (intro β hu; simp only [List.map_cons, List.map_nil, Ent.at, Ent.fix, Ent.cal, Ent.old]; exact sJ_build5 hu (by omega)));(focus (intro β β' hb; rw[hb 0 (Nat.zero_le _)])))|(apply b_step (T:=.und B (.qx x 12));(focus (intro β; simp only [List.map_cons, List.map_nil, Ent.at, Ent.fix, Ent.cal, Ent.old]; exact st_load')))|(intro β hβ; simp only [List.map_cons, List.map_nil, Ent.at, Ent.fix, Ent.cal, Ent.old]; rw [hβ])|apply g_seq|apply g_reg|apply g_nil|apply o_all|apply o_go|exact OpsT.nil|exact GuardC.nil|exact UndefC.nil|refine @GuardC.cons _ _ _ _ inferInstance ?_|refine @UndefC.cons _ _ _ inferInstance ?_|apply g_box|apply g_all|apply g_sto|apply g_asg|refine g_run rfl inferInstance (by first|fail) (by kernel_rfl) ?_|refine g_sk rfl inferInstance rfl (by kernel_rfl) ?_|refine g_un rfl inferInstance (by kernel_rfl) ?_|apply g_st|apply g_skip|apply g_ct|apply g_cf|apply g_ret|refine r_1 rfl ?_|apply g_blk|apply g_eb|apply g_ex|apply e_t|apply e_h|refine e_o rfl ?_|apply r_t|apply r_b|apply g_cl|exact sc hE (l_fewT (by assumption))|exact sc hE l_works|exact sc hE (l_refX (by omega) (by omega))|exact sc hE (c5_floor (by omega))|exact sc hE (c5_ceil (by omega))|exact sc hE (c5_trunc (by omega))|exact sc hE (c5_half (by omega))|exact sc hE (c5_cents (by omega))|exact sc hE (c5_frac (by omega))|exact sc hE (c5_fromcents (by omega))|exact sc hE (c5_whole (by omega))|exact sc hE (c5_iswhole (by omega))|exact sV_build5 (by omega)|exact st_lss' (by assumption)|exact st_add' (by assumption)|exact sc hE (c_frac (by omega))|exact sc hE (c_fromcents (by omega))|exact sc hE (c_whole (by omega))|exact sc hE (c_iswhole (by omega))|exact sc hE (l_is (by omega))|exact sc hE (l_same (by omega))|exact sR_oneX|exact sQ_oneX|exact st_eqB' (by assumption)|exact st_move'|exact st_assign'|exact st_load'|exact st_fieldAddr'|exact st_and_t'|exact st_and_f'|exact st_not' (b := true) (u := false) rfl|exact st_not' (b := false) (u := true) rfl|exact st_not' rfl|exact st_eq' (by first|assumption|rfl)|exact st_lss' (by first|assumption|rfl)|exact st_len'|exact st_indexAddr' (by assumption)|exact st_loadE'|exact Cv.rfl'|(intro _;simp only[newX,newL,ptrs,List.map,List.cons_append,List.nil_append])|intro _
    refine g_stop fun a w h => ?_
    clear hβ
    obtain ⟨vs, hvs⟩ : ∃ vs, vs = [(qv x).floor, cl (qv x), tz (qv x), hf (qv x), hf (qv x * 100)] := ⟨_, rfl⟩
    have hvl : vs.length = 5 := by rw [hvs]; rfl
    rw [← hvs] at h ⊢
    replace h := h.keep [6, 7, 4, 5, 3, 1, 2]
    obtain ⟨⟨bl, rows⟩, h⟩ := h.openE
    have hrl : rows.length = vs.length := (h.slots _ List.mem_cons_self).2.1
    refine cw_loop (fun k a w => ∃ i : Nat, i + k = 5 ∧ TS _ _ [(_, VTy.und B (VTy.qx x 12)), (_, VTy.und B (VTy.qx x 12))] [(6, .jx B bl rows vs i), (7, .is (.int .i64 (i : Int))), (4, .und B (.vw vs)), (5, .is (.int .i64 (t : Int))), (3, VTy.is (.pointer (some ⟨_, 0, none⟩))), (1, VTy.is (.pointer (some ⟨_, 0, none⟩))), (2, .is (.bool false))] 109 a w) 5 ⟨0, by omega, h⟩ ?_
    clear h
    rintro k2 a w ⟨i, hi, h⟩
    by_cases hlt2 : i < 5
    · have hc2 : decide ((i : Int) < (vs.length : Int)) = true := decide_eq_true (by omega)
      have hw2 : IntKind.i64.wrap ((i : Int) + 1) = ((i + 1 : Nat) : Int) := i64_next hlt2 (by decide)
      obtain ⟨M, hM⟩ : ∃ M, vs[i]? = some M := ⟨_, List.getElem?_eq_getElem (by omega)⟩
      obtain ⟨r, hr⟩ : ∃ r, rows[i]? = some r := ⟨_, List.getElem?_eq_getElem (by omega)⟩
      refine g_of h ?_
      clear h
      repeat' first|kernel_rfl|apply g_seq|apply g_reg|apply g_nil|apply g_draw (id:=12) [] [] 9|apply o_all|apply o_go|exact OpsT.nil|exact GuardC.nil|exact UndefC.nil|refine @GuardC.cons _ _ _ _ inferInstance ?_|refine @UndefC.cons _ _ _ inferInstance ?_|apply g_box|apply g_all|apply g_sto|apply g_asg|refine g_run rfl inferInstance (by first|fail) (by kernel_rfl) ?_|refine g_sk rfl inferInstance rfl (by kernel_rfl) ?_|refine g_un rfl inferInstance (by kernel_rfl) ?_|apply g_st|apply g_skip|apply g_ct|apply g_cf|apply g_ret|refine r_1 rfl ?_|apply g_blk|apply g_eb|apply g_ex|apply e_t|apply e_h|refine e_o rfl ?_|apply r_t|apply r_b|apply g_cl|exact st_lenJ|exact st_readJ hM|exact st_readV hM|exact st_loadN5|exact sc hE (l_same (by omega))|exact st_lss' (by assumption)|exact st_add' (by assumption)|exact st_move'|exact st_assign'|exact st_load'|exact st_fieldAddr'|exact st_and_t'|exact st_and_f'|exact st_not' (b := true) (u := false) rfl|exact st_not' (b := false) (u := true) rfl|exact st_not' rfl|exact st_eq' (by first|assumption|rfl)|exact st_lss' (by first|assumption|rfl)|exact st_len'|exact st_indexAddr' (by assumption)|exact st_loadE'|exact Cv.rfl'|(intro _;simp only[newX,newL,ptrs,List.map,List.cons_append,List.nil_append])|intro _
      refine g_stop fun a w h => ?_
      replace h := (h.keep [6, 8, 7, 4, 5, 3, 1, 2]).cast jx_next
      obtain ⟨hrn, hrA⟩ := (h.slots _ List.mem_cons_self).2.2.2.2.2.2.2.1 i r hr
      refine cw_loop (fun k a w => ∃ m : Nat, m + k = r.n ∧ TS _ _ [(_, VTy.und B (VTy.qx x 12)), (_, VTy.und B (VTy.qx x 12))] [(6, .jx B bl rows vs (i + 1)), (8, .is (.int .i64 (m : Int))), (7, .is (.int .i64 (i : Int))), (4, .und B (.vw vs)), (5, .is (.int .i64 (t : Int))), (3, VTy.is (.pointer (some ⟨_, 0, none⟩))), (1, VTy.is (.pointer (some ⟨_, 0, none⟩))), (2, .is (.bool false))] 109 a w) r.n ⟨0, by omega, h⟩ ?_
      clear h
      rintro k3 a w ⟨m, hm, h⟩
      by_cases hlt3 : m < r.n
      · have hc3 : decide ((m : Int) < (r.n : Int)) = true := decide_eq_true (by omega)
        have hw3 : IntKind.i64.wrap ((m : Int) + 1) = ((m + 1 : Nat) : Int) := i64_next hlt3 hrn
        obtain ⟨b, off, _, hA, _⟩ := hrA (by omega)
        refine g_of h ?_
        clear h
        repeat' first|kernel_rfl|(refine g_limb77 (B:=B) (i:=i+1) (sj:=6) [8,7,4,5,3,1,2] hB0 hr (Nat.lt_succ_self _) hA (by omega) ?_)|exact g_done fun _ _ h=>⟨k3 - 1, by omega, m + 1, by omega, h.keep [6, 8, 7, 4, 5, 3, 1, 2]⟩|apply g_seq|apply g_reg|apply g_nil|apply o_all|apply o_go|exact OpsT.nil|exact GuardC.nil|exact UndefC.nil|refine @GuardC.cons _ _ _ _ inferInstance ?_|refine @UndefC.cons _ _ _ inferInstance ?_|apply g_box|apply g_all|apply g_sto|apply g_asg|refine g_run rfl inferInstance (by first|fail) (by kernel_rfl) ?_|refine g_sk rfl inferInstance rfl (by kernel_rfl) ?_|refine g_un rfl inferInstance (by kernel_rfl) ?_|apply g_st|apply g_skip|apply g_ct|apply g_cf|apply g_ret|refine r_1 rfl ?_|apply g_blk|apply g_eb|apply g_ex|apply e_t|apply e_h|refine e_o rfl ?_|apply r_t|apply r_b|apply g_cl|exact st_atJ hr|exact st_fieldJ|exact st_loadC|exact st_lenS5|exact st_atS hA hlt3|exact st_lss' (by assumption)|exact st_add' (by assumption)|exact st_move'|exact st_assign'|exact st_load'|exact st_fieldAddr'|exact st_and_t'|exact st_and_f'|exact st_not' (b := true) (u := false) rfl|exact st_not' (b := false) (u := true) rfl|exact st_not' rfl|exact st_eq' (by first|assumption|rfl)|exact st_lss' (by first|assumption|rfl)|exact st_len'|exact st_indexAddr' (by assumption)|exact st_loadE'|exact Cv.rfl'|(intro _;simp only[newX,newL,ptrs,List.map,List.cons_append,List.nil_append])|intro _
      · have hc3 : decide ((m : Int) < (r.n : Int)) = false := decide_eq_false (by omega)
        refine g_of h ?_
        clear h
        repeat' first|kernel_rfl|exact g_done fun _ _ h=>⟨k2 - 1, by omega, i + 1, by omega, h.keep [6, 7, 4, 5, 3, 1, 2]⟩|apply g_seq|apply g_reg|apply g_nil|apply o_all|apply o_go|exact OpsT.nil|exact GuardC.nil|exact UndefC.nil|refine @GuardC.cons _ _ _ _ inferInstance ?_|refine @UndefC.cons _ _ _ inferInstance ?_|apply g_box|apply g_all|apply g_sto|apply g_asg|refine g_run rfl inferInstance (by first|fail) (by kernel_rfl) ?_|refine g_sk rfl inferInstance rfl (by kernel_rfl) ?_|refine g_un rfl inferInstance (by kernel_rfl) ?_|apply g_st|apply g_skip|apply g_ct|apply g_cf|apply g_ret|refine r_1 rfl ?_|apply g_blk|apply g_eb|apply g_ex|apply e_t|apply e_h|refine e_o rfl ?_|apply r_t|apply r_b|apply g_cl|exact st_atJ hr|exact st_fieldJ|exact st_loadC|exact st_lenS5|exact st_atS hA hlt3|exact st_lss' (by assumption)|exact st_add' (by assumption)|exact st_move'|exact st_assign'|exact st_load'|exact st_fieldAddr'|exact st_and_t'|exact st_and_f'|exact st_not' (b := true) (u := false) rfl|exact st_not' (b := false) (u := true) rfl|exact st_not' rfl|exact st_eq' (by first|assumption|rfl)|exact st_lss' (by first|assumption|rfl)|exact st_len'|exact st_indexAddr' (by assumption)|exact st_loadE'|exact Cv.rfl'|(intro _;simp only[newX,newL,ptrs,List.map,List.cons_append,List.nil_append])|intro _
    · have hc2 : decide ((i : Int) < (vs.length : Int)) = false := decide_eq_false (by omega)
      refine g_of h ?_
      clear h
      repeat' first|kernel_rfl|exact g_done fun _ _ h=>⟨k - 1, by omega, t + 1, by omega, hvs ▸ ((((h.keep [4, 5, 3, 1, 2]).cast (fun _ _ _ => und_weak)).keep [5, 4, 3, 1, 2]).locs (.cons (fun _ _ _ => und_weak) (.cons (fun _ _ _ => und_weak) .nil)))⟩|apply g_seq|apply g_reg|apply g_nil|apply o_all|apply o_go|exact OpsT.nil|exact GuardC.nil|exact UndefC.nil|refine @GuardC.cons _ _ _ _ inferInstance ?_|refine @UndefC.cons _ _ _ inferInstance ?_|apply g_box|apply g_all|apply g_sto|apply g_asg|refine g_run rfl inferInstance (by first|fail) (by kernel_rfl) ?_|refine g_sk rfl inferInstance rfl (by kernel_rfl) ?_|refine g_un rfl inferInstance (by kernel_rfl) ?_|apply g_st|apply g_skip|apply g_ct|apply g_cf|apply g_ret|refine r_1 rfl ?_|apply g_blk|apply g_eb|apply g_ex|apply e_t|apply e_h|refine e_o rfl ?_|apply r_t|apply r_b|apply g_cl|exact st_lenJ|exact st_readJ hM|exact st_readV hM|exact st_loadN5|exact sc hE (l_same (by omega))|exact st_lss' (by assumption)|exact st_add' (by assumption)|exact st_move'|exact st_assign'|exact st_load'|exact st_fieldAddr'|exact st_and_t'|exact st_and_f'|exact st_not' (b := true) (u := false) rfl|exact st_not' (b := false) (u := true) rfl|exact st_not' rfl|exact st_eq' (by first|assumption|rfl)|exact st_lss' (by first|assumption|rfl)|exact st_len'|exact st_indexAddr' (by assumption)|exact st_loadE'|exact Cv.rfl'|(intro _;simp only[newX,newL,ptrs,List.map,List.cons_append,List.nil_append])|intro _
  · have hc1 : decide ((t : Int) < 2) = false := decide_eq_false (by omega)
    refine g_of h ?_
    clear h
    repeat' first|kernel_rfl|apply g_seq|apply g_reg|apply g_nil|apply g_draw (id:=18) [(79, true), (88, true), (97, true), (106, true)] [] 35|apply o_all|apply o_go|exact OpsT.nil|exact GuardC.nil|exact UndefC.nil|refine @GuardC.cons _ _ _ _ inferInstance ?_|refine @UndefC.cons _ _ _ inferInstance ?_|apply g_box|apply g_all|apply g_sto|apply g_asg|refine g_run rfl inferInstance (by first|fail) (by kernel_rfl) ?_|refine g_sk rfl inferInstance rfl (by kernel_rfl) ?_|refine g_un rfl inferInstance (by kernel_rfl) ?_|apply g_st|apply g_skip|apply g_ct|apply g_cf|apply g_ret|refine r_1 rfl ?_|apply g_blk|apply g_eb|apply g_ex|apply e_t|apply e_h|refine e_o rfl ?_|apply r_t|apply r_b|apply g_cl|exact sc hE (l_fewT (by assumption))|exact sc hE l_works|exact sc hE (l_refX (by omega) (by omega))|exact sc hE (c5_floor (by omega))|exact sc hE (c5_ceil (by omega))|exact sc hE (c5_trunc (by omega))|exact sc hE (c5_half (by omega))|exact sc hE (c5_cents (by omega))|exact sc hE (c5_frac (by omega))|exact sc hE (c5_fromcents (by omega))|exact sc hE (c5_whole (by omega))|exact sc hE (c5_iswhole (by omega))|exact sV_build5 (by omega)|exact st_lss' (by assumption)|exact st_add' (by assumption)|exact sc hE (c_frac (by omega))|exact sc hE (c_fromcents (by omega))|exact sc hE (c_whole (by omega))|exact sc hE (c_iswhole (by omega))|exact sc hE (l_is (by omega))|exact sc hE (l_same (by omega))|exact sR_oneX|exact sQ_oneX|exact st_eqB' (by assumption)|exact st_move'|exact st_assign'|exact st_load'|exact st_fieldAddr'|exact st_and_t'|exact st_and_f'|exact st_not' (b := true) (u := false) rfl|exact st_not' (b := false) (u := true) rfl|exact st_not' rfl|exact st_eq' (by first|assumption|rfl)|exact st_lss' (by first|assumption|rfl)|exact st_len'|exact st_indexAddr' (by assumption)|exact st_loadE'|exact Cv.rfl'|(intro _;simp only[newX,newL,ptrs,List.map,List.cons_append,List.nil_append])|intro _
set_option synthInstance.maxSize 4000 in
set_option synthInstance.maxHeartbeats 400000 in
set_option maxRecDepth 20000 in
set_option maxHeartbeats 8000000 in
theorem l_tells {x : RawQ} : Ctr Tryz.prog Tab 3 [7] [.qz x] (fun _ => .is (.bool true)) := by
  cases ex : (decide ((x.1.2.length : Int) ≤ 12) && decide ((x.2.2.length : Int) ≤ 12)) with
  | false =>
    refine ctr Tryz.func3 rfl Tryz.ntmps3 (by simp) (fun _ _ => by kernel_rfl) fun X w hE => ?_
    simp only [argE, Nat.zero_add, Nat.reduceAdd]
    repeat' first|kernel_rfl|apply g_seq|apply g_reg|apply g_nil|apply o_all|apply o_go|exact OpsT.nil|exact GuardC.nil|exact UndefC.nil|refine @GuardC.cons _ _ _ _ inferInstance ?_|refine @UndefC.cons _ _ _ inferInstance ?_|apply g_box|apply g_all|apply g_sto|apply g_asg|refine g_run rfl inferInstance (by first|fail) (by kernel_rfl) ?_|refine g_sk rfl inferInstance rfl (by kernel_rfl) ?_|refine g_un rfl inferInstance (by kernel_rfl) ?_|apply g_st|apply g_skip|apply g_ct|apply g_cf|apply g_ret|refine r_1 rfl ?_|apply g_cl|exact sc hE (l_fewT (by assumption))|exact sc hE l_works|exact sc hE (l_refX (by omega) (by omega))|exact sc hE (c5_floor (by omega))|exact sc hE (c5_ceil (by omega))|exact sc hE (c5_trunc (by omega))|exact sc hE (c5_half (by omega))|exact sc hE (c5_cents (by omega))|exact sc hE (c5_frac (by omega))|exact sc hE (c5_fromcents (by omega))|exact sc hE (c5_whole (by omega))|exact sc hE (c5_iswhole (by omega))|exact sV_build5 (by omega)|exact st_lss' (by assumption)|exact st_add' (by assumption)|exact sc hE (c_frac (by omega))|exact sc hE (c_fromcents (by omega))|exact sc hE (c_whole (by omega))|exact sc hE (c_iswhole (by omega))|exact sc hE (l_is (by omega))|exact sc hE (l_same (by omega))|exact sR_oneX|exact sQ_oneX|exact st_eqB' (by assumption)|exact st_move'|exact st_assign'|exact st_load'|exact st_fieldAddr'|exact st_and_t'|exact st_and_f'|exact st_not' (b := true) (u := false) rfl|exact st_not' (b := false) (u := true) rfl|exact st_not' rfl|exact st_eq' (by first|assumption|rfl)|exact st_lss' (by first|assumption|rfl)|exact st_len'|exact st_indexAddr' (by assumption)|exact st_loadE'|exact Cv.rfl'|(intro _;simp only[newX,newL,ptrs,List.map,List.cons_append,List.nil_append])|intro _
  | true =>
    refine ⟨fun _ _ => by kernel_rfl, fun _ h => h, fun {X w vs} hG hX ha => ?_⟩
    obtain ⟨v, rfl, h1⟩ := ha.one
    exact (l_tells1 ex).run hG hX (vs := [v]) ⟨few_qa (k := 12) (by decide) h1 ex, trivial⟩
/-- Some int; some row of so many ints; the address of one. -/
def VTy.iany : VTy := ⟨fun X w v => ∃ x, v = .int .i64 x, fun h _ _ => h⟩
def VTy.irow (n : Nat) : VTy := ⟨fun X w v => ∃ b : Nat, v = .slice (some ⟨b, 0, none⟩) n n ∧ Free X w b ∧ ∀ j, j < n → ∃ x, w.cell? ⟨b, j, none⟩ = some (.int .i64 x), fun ⟨b, h1, h2, h3⟩ hk hX => ⟨b, h1, Free.mono hk hX b h2, fun j hj => (h3 j hj).imp fun x hx => (World.cell?_of_block (hk.block b h2.1 h2.2)).trans hx⟩⟩
def VTy.pint : VTy := ⟨fun X w v => ∃ b o : Nat, v = .pointer (some ⟨b, o, none⟩) ∧ Free X w b ∧ ∃ x, w.cell? ⟨b, o, none⟩ = some (.int .i64 x), fun ⟨b, o, h1, h2, x, h3⟩ hk hX => ⟨b, o, h1, Free.mono hk hX b h2, x, (World.cell?_of_block (hk.block b h2.1 h2.2)).trans h3⟩⟩
class AnyI (T : VTy) : Prop where
  ok : ∀ {X w v}, T.holds X w v → ∃ x, v = .int .i64 x
instance : AnyI .iany := ⟨fun h => h⟩
instance {x : Int} : AnyI (.is (.int .i64 x)) := ⟨fun h => ⟨x, h⟩⟩
instance : SliceC Tryz.prog 64 1 := ⟨⟨_, Tryz.underlying64, by kernel_rfl⟩⟩
section
variable {w00 : World} {N : Nat} {L : List Loc} {E : List (Nat × VTy)} {d : Nat} {t0 : TypeId} {pos : String} {af : Array Edge} {gd : Option (Nat × Bool)} {ats : Array TypeId}
theorem s5_tells {o0 : Operand} {T0 : VTy} [OpC E o0 T0] [a0 : AnyQ T0] (hE : Tab w00) : StepT Tryz.prog w00 N L E ⟨some d, .call { callee := .value (.func 3), args := #[o0], argTypes := ats }, t0, pos, af, gd⟩ (.is (.bool true)) :=
  sc1 (fun _ _ => by kernel_rfl) fun X w v0 hX _ hB h0 => by
    obtain ⟨x, hx⟩ := qany_qz (a0.ok h0)
    exact l_tells.run (hE.below hB) hX (vs := [v0]) ⟨hx, trivial⟩
theorem s5_near {o0 o1 : Operand} {T0 T1 : VTy} [OpC E o0 T0] [a0 : AnyQ T0] [OpC E o1 T1] [a1 : AnyQ T1] (hE : Tab w00) : StepT Tryz.prog w00 N L E ⟨some d, .call { callee := .value (.func 5), args := #[o0, o1], argTypes := ats }, t0, pos, af, gd⟩ (.is (.bool true)) :=
  sc2 (fun _ _ => by kernel_rfl) fun X w v0 v1 hX _ hB h0 h1 => by
    obtain ⟨x, hx⟩ := qany_qz (a0.ok h0)
    obtain ⟨y, hy⟩ := qany_qz (a1.ok h1)
    exact l_near.run (hE.below hB) hX (vs := [v0, v1]) ⟨hx, hy, trivial⟩
theorem s5_places {o0 o1 o2 : Operand} {T0 T1 T2 : VTy} [OpC E o0 T0] [a0 : AnyQ T0] [OpC E o1 T1] [a1 : AnyI T1] [OpC E o2 T2] [a2 : AnyW T2] (hE : Tab w00) : StepT Tryz.prog w00 N L E ⟨some d, .call { callee := .value (.func 4), args := #[o0, o1, o2], argTypes := ats }, t0, pos, af, gd⟩ (.is (.bool true)) :=
  sc3 (fun _ _ => by kernel_rfl) fun X w v0 v1 v2 hX _ hB h0 h1 h2 => by
    obtain ⟨x, hx⟩ := qany_qz (a0.ok h0)
    obtain ⟨n, rfl⟩ := a1.ok h1
    obtain ⟨_, l, _, hl⟩ := a2.ok h2
    exact (l_places (n := n)).run (hE.below hB) hX (vs := [v0, .int .i64 n, v2]) ⟨hx, rfl, hl, trivial⟩
theorem s5_of {o0 : Operand} {k : Int} [OpC E o0 (.is (.int .i64 k))] (hk : -9223372036854775808 ≤ k ∧ k ≤ 9223372036854775807) : StepT Tryz.prog w00 N L E ⟨some d, .call { callee := .value (.func 43), args := #[o0], argTypes := ats }, t0, pos, af, gd⟩ .nany := by
  refine ⟨fun X ρ w hc hf hN hm hsl => ?_⟩
  exact yields_mono ((sb_of (N := N) (L := L) (E := E) hk).run X ρ w hc hf hN hm hsl) fun v w' h => ⟨ex_nany h.1, h.2⟩
set_option maxRecDepth 40000 in
set_option maxHeartbeats 4000000 in
theorem st_row5 {o0 o1 o2 o3 o4 : Operand} {T0 T1 T2 T3 T4 : VTy} [h0 : OpC E o0 T0] [a0 : AnyQ T0] [h1 : OpC E o1 T1] [a1 : AnyQ T1] [h2 : OpC E o2 T2] [a2 : AnyQ T2] [h3 : OpC E o3 T3] [a3 : AnyQ T3] [h4 : OpC E o4 T4] [a4 : AnyQ T4] : StepT Tryz.prog w00 N L E ⟨some d, .buildSlice 48 5 #[(0, o0), (1, o1), (2, o2), (3, o3), (4, o4)], t0, pos, af, gd⟩ (.rany 5) := by
  constructor
  intro X ρ w hc _ hN hm hsl
  obtain ⟨x0, A0, n0, c0, B0, m0, k0, e0, g0⟩ := qany_cells (a0.ok (h0.get (X := X) (w := w) hc fun p hp e => hsl p hp (by simp [Op.operands, e])))
  obtain ⟨x1, A1, n1, c1, B1, m1, k1, e1, g1⟩ := qany_cells (a1.ok (h1.get (X := X) (w := w) hc fun p hp e => hsl p hp (by simp [Op.operands, e])))
  obtain ⟨x2, A2, n2, c2, B2, m2, k2, e2, g2⟩ := qany_cells (a2.ok (h2.get (X := X) (w := w) hc fun p hp e => hsl p hp (by simp [Op.operands, e])))
  obtain ⟨x3, A3, n3, c3, B3, m3, k3, e3, g3⟩ := qany_cells (a3.ok (h3.get (X := X) (w := w) hc fun p hp e => hsl p hp (by simp [Op.operands, e])))
  obtain ⟨x4, A4, n4, c4, B4, m4, k4, e4, g4⟩ := qany_cells (a4.ok (h4.get (X := X) (w := w) hc fun p hp e => hsl p hp (by simp [Op.operands, e])))
  have hR := rany_new (X := X) (w := w) (T := 26) hm.far [(x0, [.bool x0.1.1, .slice A0 n0 c0, .bool x0.2.1, .slice B0 m0 k0]), (x1, [.bool x1.1.1, .slice A1 n1 c1, .bool x1.2.1, .slice B1 m1 k1]), (x2, [.bool x2.1.1, .slice A2 n2 c2, .bool x2.2.1, .slice B2 m2 k2]), (x3, [.bool x3.1.1, .slice A3 n3 c3, .bool x3.2.1, .slice B3 m3 k3]), (x4, [.bool x4.1.1, .slice A4 n4 c4, .bool x4.2.1, .slice B4 m4 k4])] (by
    intro p hp
    simp only [List.mem_cons, List.not_mem_nil, or_false] at hp
    rcases hp with rfl | rfl | rfl | rfl | rfl
    · exact g0
    · exact g1
    · exact g2
    · exact g3
    · exact g4) (by simp)
  have HR := Lib.hid hR
  clear hR hsl hm hc g0 h0 a0 g1 h1 a1 g2 h2 a2 g3 h3 a3 g4 h4 a4
  unfold Yields
  go_simp
  exact ⟨HR.out, (Below.refl _ _).alloc (Nat.le_refl _) _⟩
set_option maxRecDepth 40000 in
set_option maxHeartbeats 4000000 in
theorem st_ints {c0 c1 c2 c3 c4 c5 c6 : Int} : StepT Tryz.prog w00 N L E ⟨some d, .buildSlice 64 7 #[(0, .const (.int .i64 c0)), (1, .const (.int .i64 c1)), (2, .const (.int .i64 c2)), (3, .const (.int .i64 c3)), (4, .const (.int .i64 c4)), (5, .const (.int .i64 c5)), (6, .const (.int .i64 c6))], t0, pos, af, gd⟩ (.irow 7) := by
  constructor
  intro X ρ w hc _ hN hm hsl
  have e0 := hc (.int .i64 c0)
  have e1 := hc (.int .i64 c1)
  have e2 := hc (.int .i64 c2)
  have e3 := hc (.int .i64 c3)
  have e4 := hc (.int .i64 c4)
  have e5 := hc (.int .i64 c5)
  have e6 := hc (.int .i64 c6)
  have hT : (VTy.irow 7).holds X (w.alloc (.cells #[.int .i64 c0, .int .i64 c1, .int .i64 c2, .int .i64 c3, .int .i64 c4, .int .i64 c5, .int .i64 c6] 3)) (.slice (some ⟨w.heap.size, 0, none⟩) 7 7) := by
    refine ⟨w.heap.size, rfl, Free.new hm.far _, fun j hj => ?_⟩
    have hh := heap_new w (.cells #[.int .i64 c0, .int .i64 c1, .int .i64 c2, .int .i64 c3, .int .i64 c4, .int .i64 c5, .int .i64 c6] 3)
    match j, hj with
    | 0, _ => exact ⟨c0, cell_at hh rfl⟩
    | 1, _ => exact ⟨c1, cell_at hh rfl⟩
    | 2, _ => exact ⟨c2, cell_at hh rfl⟩
    | 3, _ => exact ⟨c3, cell_at hh rfl⟩
    | 4, _ => exact ⟨c4, cell_at hh rfl⟩
    | 5, _ => exact ⟨c5, cell_at hh rfl⟩
    | 6, _ => exact ⟨c6, cell_at hh rfl⟩
    | j + 7, hj => omega
  have HT := Lib.hid hT
  clear hT hsl hm hc
  unfold Yields
  go_simp
  exact ⟨HT.out, (Below.refl _ _).alloc (Nat.le_refl _) _⟩
theorem st_lenI {n s k : Nat} {ty : TypeId} [ho : Look E s (.irow n)] [ht : SliceC Tryz.prog ty k] : StepT Tryz.prog w00 N L E ⟨some d, .call { callee := .builtin .len, args := #[.tmp s], argTypes := #[ty] }, t0, pos, af, gd⟩ (.is (.int .i64 (n : Int))) := by
  constructor
  intro X ρ w hc _ hN hm hsl
  obtain ⟨b, e, _⟩ := hsl _ ho.mem (by simp [Op.operands, Call.operands])
  have e1 : ρ (.tmp s) = .slice (some ⟨b, 0, none⟩) n n := e
  obtain ⟨el, hu, _⟩ := ht.ok
  clear hc hsl ho ht e hm
  unfold Yields
  go_simp
  exact ⟨rfl, Below.refl _ _⟩
theorem st_indexI {n j : Nat} {o oi : Operand} {ty : TypeId} [ho : OpC E o (.irow n)] [hi : OpC E oi (.is (.int .i64 (j : Int)))] [ht : SliceC Tryz.prog ty 1] (hj : j < n) : StepT Tryz.prog w00 N L E ⟨some d, .indexAddr ty o oi, t0, pos, af, gd⟩ .pint := by
  constructor
  intro X ρ w hc _ hN hm hsl
  obtain ⟨b, e1, hb, h⟩ := ho.get (X := X) (w := w) hc fun p hp e => hsl p hp (by simp [Op.operands, e])
  have e2 : ρ oi = .int .i64 j := hi.get (X := X) (w := w) hc fun p hp e => hsl p hp (by simp [Op.operands, e])
  unfold Yields
  rw [index_run ht e1 e2 hj, Nat.mul_one, Nat.zero_add]
  exact ⟨⟨b, j, rfl, hb, h j hj⟩, Below.refl _ _⟩
set_option maxRecDepth 20000 in
theorem st_loadI {s : Nat} [ho : Look E s .pint] : StepT Tryz.prog w00 N L E ⟨some d, .load 3 (.tmp s), t0, pos, af, gd⟩ .iany := by
  constructor
  intro X ρ w hc _ hN hm hsl
  obtain ⟨b, o, e, hb, x, h1⟩ := hsl _ ho.mem (by simp [Op.operands])
  have e' : ρ (.tmp s) = .pointer (some ⟨b, o, none⟩) := e
  clear hc hsl ho hm e
  unfold Yields
  go_simp
  exact ⟨⟨x, rfl⟩, Below.refl _ _⟩
set_option maxRecDepth 20000 in
theorem st_rem5 {o : Operand} {x : Int} {t1 : TypeId} [h0 : OpC E o (.is (.int .i64 x))] : StepT Tryz.prog w00 N L E ⟨some d, .binOp .rem 2 o (.const (.int .i64 5)) t1, t0, pos, af, gd⟩ .iany := by
  constructor
  intro X ρ w hc _ hN hm hsl
  have e0 : ρ o = .int .i64 x := h0.get (X := X) (w := w) hc fun p hp e => hsl p hp (by simp [Op.operands, e])
  have e1 : ρ (.const (.int .i64 5)) = .int .i64 5 := hc _
  clear hc hsl h0
  unfold Yields
  go_simp
  exact ⟨⟨_, rfl⟩, Below.refl _ _⟩
set_option maxRecDepth 20000 in
theorem st_dropR {o o1 : Operand} {n m : Nat} [ho : OpC E o (.rany n)] [h1 : OpC E o1 (.is (.int .i64 (m : Int)))] (hm : m ≤ n) : StepT Tryz.prog w00 N L E ⟨some d, .slice 48 o (some o1) none none, t0, pos, af, gd⟩ (.rany (n - m)) := by
  constructor
  intro X ρ w hc _ hN hmm hsl
  obtain ⟨l, hl, _, A, k, c, e, hs⟩ := ho.get (X := X) (w := w) hc fun p hp e => hsl p hp (by simp [Op.operands, e])
  have e1 : ρ o = .slice A k c := by simpa using e
  have e2 : ρ o1 = .int .i64 m := h1.get (X := X) (w := w) hc fun p hp e => hsl p hp (by simp [Op.operands, e])
  have hn := hs.1
  have hcc := hs.2.1
  have hm1 : (m : Int) ≤ (k : Int) := by omega
  have hnc : (k : Int) ≤ (c : Int) := by omega
  have hm0 : (0 : Int) ≤ (m : Int) := by omega
  have hT : (VTy.rany (n - m)).holds X w (.slice (if c = m then A else A.map (·.add (m * 4))) (k - m) (c - m)) := ⟨l.drop m, by rw [List.length_drop, hl], (fun _ _ => trivial), _, _, _, rfl, hs.back (by omega)⟩
  have HT := Lib.hid hT
  clear hT hc hsl ho h1 hs e
  unfold Yields
  go_simp
  exact ⟨HT.out, Below.refl _ _⟩
end
set_option synthInstance.maxSize 4000 in
set_option synthInstance.maxHeartbeats 400000 in
set_option maxRecDepth 20000 in
set_option maxHeartbeats 8000000 in
theorem l_known : Ctr Tryz.prog Tab 6 [] [] (fun _ => .is (.bool true)) := by
  refine ctr Tryz.func6 rfl Tryz.ntmps6 (by simp) (fun _ _ => by kernel_rfl) fun X w hE => ?_
  simp only [argE]
  repeat' first|kernel_rfl|apply g_seq|apply g_reg|apply g_nil|apply o_all|apply o_go|exact OpsT.nil|exact GuardC.nil|exact UndefC.nil|refine @GuardC.cons _ _ _ _ inferInstance ?_|refine @UndefC.cons _ _ _ inferInstance ?_|apply g_box|apply g_all|apply g_sto|apply g_asg|refine g_run rfl inferInstance (by first|fail) (by kernel_rfl) ?_|refine g_sk rfl inferInstance rfl (by kernel_rfl) ?_|refine g_un rfl inferInstance (by kernel_rfl) ?_|apply g_st|apply g_skip|apply g_ct|apply g_cf|apply g_ret|refine r_1 rfl ?_|apply g_blk|apply g_eb|apply g_ex|apply e_t|apply e_h|refine e_o rfl ?_|apply r_t|apply r_b|apply g_cl|exact s5_tells hE|exact s5_near hE|exact s5_places hE|exact s5_of (by omega)|exact sc hE (l_of (by omega) (by omega) (by omega))|exact sc hE l_works|exact st_row2|exact st_row5|exact st_add' (wrap_small (by omega))|exact st_rem5|exact st_bnB|exact st_bq0|exact st_bqN|exact st_bqND|exact st_lenR|exact st_indexR (by omega)|exact st_loadQ|exact st_dropR (by omega)|exact st_ints|exact st_lenI|exact st_indexI (by omega)|exact st_loadI|exact st_move'|exact st_assign'|exact st_load'|exact st_or_f'|exact st_or_t'|exact st_not' (b := true) (u := false) rfl|exact st_not' (b := false) (u := true) rfl|exact st_not' rfl|exact st_lss' (by first|assumption|rfl)|exact st_len'|exact st_indexAddr' (by assumption)|exact st_loadE'|exact Cv.rfl'|(intro _;simp only[newX,newL,ptrs,List.map,List.cons_append,List.nil_append])|intro _
  refine g_stop fun a w h => ?_
  refine cw_loop (fun k a w => ∃ d : Int, 1 ≤ d ∧ d + (k : Int) = 12 ∧ TS _ X [] [(1, .is (.int .i64 d)), (0, .is (.bool false))] 97 a w) 11 ⟨1, by decide, by decide, h.keep [1, 0]⟩ ?_
  clear h
  rintro k a w ⟨d, hd0, hd, h⟩
  have hkd : 0 ≤ (k : Int) := by omega
  by_cases hlt : d < 12
  · have hc1 : decide (d < 12) = true := decide_eq_true hlt
    refine g_of h ?_
    clear h
    repeat' first|kernel_rfl|apply g_seq|apply g_reg|apply g_nil|apply o_all|apply o_go|exact OpsT.nil|exact GuardC.nil|exact UndefC.nil|refine @GuardC.cons _ _ _ _ inferInstance ?_|refine @UndefC.cons _ _ _ inferInstance ?_|apply g_box|apply g_all|apply g_sto|apply g_asg|refine g_run rfl inferInstance (by first|fail) (by kernel_rfl) ?_|refine g_sk rfl inferInstance rfl (by kernel_rfl) ?_|refine g_un rfl inferInstance (by kernel_rfl) ?_|apply g_st|apply g_skip|apply g_ct|apply g_cf|apply g_ret|refine r_1 rfl ?_|apply g_blk|apply g_eb|apply g_ex|apply e_t|apply e_h|refine e_o rfl ?_|apply r_t|apply r_b|apply g_cl|exact s5_tells hE|exact s5_near hE|exact s5_places hE|exact s5_of (by omega)|exact sc hE (l_of (by omega) (by omega) (by omega))|exact sc hE l_works|exact st_row2|exact st_row5|exact st_add' (wrap_small (by omega))|exact st_rem5|exact st_bnB|exact st_bq0|exact st_bqN|exact st_bqND|exact st_lenR|exact st_indexR (by omega)|exact st_loadQ|exact st_dropR (by omega)|exact st_ints|exact st_lenI|exact st_indexI (by omega)|exact st_loadI|exact st_move'|exact st_assign'|exact st_load'|exact st_or_f'|exact st_or_t'|exact st_not' (b := true) (u := false) rfl|exact st_not' (b := false) (u := true) rfl|exact st_not' rfl|exact st_lss' (by first|assumption|rfl)|exact st_len'|exact st_indexAddr' (by assumption)|exact st_loadE'|exact Cv.rfl'|(intro _;simp only[newX,newL,ptrs,List.map,List.cons_append,List.nil_append])|intro _
    refine g_stop fun a w h => ?_
    replace h := h.keep [2, 1, 0]
    refine cw_loop (fun k a w => ∃ n : Int, -30 ≤ n ∧ n + (k : Int) = 31 ∧ TS _ X [] [(2, .is (.int .i64 n)), (1, .is (.int .i64 d)), (0, .is (.bool false))] 97 a w) 61 ⟨-30, by decide, by decide, h⟩ ?_
    clear h
    rintro k2 a w ⟨n, hn0, hn, h⟩
    have hkn : 0 ≤ (k2 : Int) := by omega
    by_cases hlt2 : n < 31
    · have hc2 : decide (n < 31) = true := decide_eq_true hlt2
      refine g_of h ?_
      clear h
      repeat' first|kernel_rfl|exact g_done fun _ _ h=>⟨k2 - 1, by omega, n + 1, by omega, by omega, ((h.keep [2, 1, 0]).tail).less (fun b hb => List.mem_cons_of_mem _ hb) (by simp)⟩|apply g_seq|apply g_reg|apply g_nil|apply g_draw (id:=8) [(22, false), (31, false), (38, false)] [] 29|apply o_all|apply o_go|exact OpsT.nil|exact GuardC.nil|exact UndefC.nil|refine @GuardC.cons _ _ _ _ inferInstance ?_|refine @UndefC.cons _ _ _ inferInstance ?_|apply g_box|apply g_all|apply g_sto|apply g_asg|refine g_run rfl inferInstance (by first|fail) (by kernel_rfl) ?_|refine g_sk rfl inferInstance rfl (by kernel_rfl) ?_|refine g_un rfl inferInstance (by kernel_rfl) ?_|apply g_st|apply g_skip|apply g_ct|apply g_cf|apply g_ret|refine r_1 rfl ?_|apply g_blk|apply g_eb|apply g_ex|apply e_t|apply e_h|refine e_o rfl ?_|apply r_t|apply r_b|apply g_cl|exact s5_tells hE|exact s5_near hE|exact s5_places hE|exact s5_of (by omega)|exact sc hE (l_of (by omega) (by omega) (by omega))|exact sc hE l_works|exact st_row2|exact st_row5|exact st_add' (wrap_small (by omega))|exact st_rem5|exact st_bnB|exact st_bq0|exact st_bqN|exact st_bqND|exact st_lenR|exact st_indexR (by omega)|exact st_loadQ|exact st_dropR (by omega)|exact st_ints|exact st_lenI|exact st_indexI (by omega)|exact st_loadI|exact st_move'|exact st_assign'|exact st_load'|exact st_or_f'|exact st_or_t'|exact st_not' (b := true) (u := false) rfl|exact st_not' (b := false) (u := true) rfl|exact st_not' rfl|exact st_lss' (by first|assumption|rfl)|exact st_len'|exact st_indexAddr' (by assumption)|exact st_loadE'|exact Cv.rfl'|(intro _;simp only[newX,newL,ptrs,List.map,List.cons_append,List.nil_append])|intro _
    · have hc2 : decide (n < 31) = false := decide_eq_false hlt2
      refine g_of h ?_
      clear h
      repeat' first|kernel_rfl|exact g_done fun _ _ h=>⟨k - 1, by omega, d + 1, by omega, by omega, h.keep [1, 0]⟩|apply g_seq|apply g_reg|apply g_nil|apply o_all|apply o_go|exact OpsT.nil|exact GuardC.nil|exact UndefC.nil|refine @GuardC.cons _ _ _ _ inferInstance ?_|refine @UndefC.cons _ _ _ inferInstance ?_|apply g_box|apply g_all|apply g_sto|apply g_asg|refine g_run rfl inferInstance (by first|fail) (by kernel_rfl) ?_|refine g_sk rfl inferInstance rfl (by kernel_rfl) ?_|refine g_un rfl inferInstance (by kernel_rfl) ?_|apply g_st|apply g_skip|apply g_ct|apply g_cf|apply g_ret|refine r_1 rfl ?_|apply g_blk|apply g_eb|apply g_ex|apply e_t|apply e_h|refine e_o rfl ?_|apply r_t|apply r_b|apply g_cl|exact s5_tells hE|exact s5_near hE|exact s5_places hE|exact s5_of (by omega)|exact sc hE (l_of (by omega) (by omega) (by omega))|exact sc hE l_works|exact st_row2|exact st_row5|exact st_add' (wrap_small (by omega))|exact st_rem5|exact st_bnB|exact st_bq0|exact st_bqN|exact st_bqND|exact st_lenR|exact st_indexR (by omega)|exact st_loadQ|exact st_dropR (by omega)|exact st_ints|exact st_lenI|exact st_indexI (by omega)|exact st_loadI|exact st_move'|exact st_assign'|exact st_load'|exact st_or_f'|exact st_or_t'|exact st_not' (b := true) (u := false) rfl|exact st_not' (b := false) (u := true) rfl|exact st_not' rfl|exact st_lss' (by first|assumption|rfl)|exact st_len'|exact st_indexAddr' (by assumption)|exact st_loadE'|exact Cv.rfl'|(intro _;simp only[newX,newL,ptrs,List.map,List.cons_append,List.nil_append])|intro _
  · have hc1 : decide (d < 12) = false := decide_eq_false hlt
    clear hd0 hd hkd
    refine g_of h ?_
    clear h
    repeat' first|kernel_rfl|apply g_seq|apply g_reg|apply g_nil|apply o_all|apply o_go|exact OpsT.nil|exact GuardC.nil|exact UndefC.nil|refine @GuardC.cons _ _ _ _ inferInstance ?_|refine @UndefC.cons _ _ _ inferInstance ?_|apply g_box|apply g_all|apply g_sto|apply g_asg|refine g_run rfl inferInstance (by first|fail) (by kernel_rfl) ?_|refine g_sk rfl inferInstance rfl (by kernel_rfl) ?_|refine g_un rfl inferInstance (by kernel_rfl) ?_|apply g_st|apply g_skip|apply g_ct|apply g_cf|apply g_ret|refine r_1 rfl ?_|apply g_blk|apply g_eb|apply g_ex|apply e_t|apply e_h|refine e_o rfl ?_|apply r_t|apply r_b|apply g_cl|exact s5_tells hE|exact s5_near hE|exact s5_places hE|exact s5_of (by omega)|exact sc hE (l_of (by omega) (by omega) (by omega))|exact sc hE l_works|exact st_row2|exact st_row5|exact st_add' (wrap_small (by omega))|exact st_rem5|exact st_bnB|exact st_bq0|exact st_bqN|exact st_bqND|exact st_lenR|exact st_indexR (by omega)|exact st_loadQ|exact st_dropR (by omega)|exact st_ints|exact st_lenI|exact st_indexI (by omega)|exact st_loadI|exact st_move'|exact st_assign'|exact st_load'|exact st_or_f'|exact st_or_t'|exact st_not' (b := true) (u := false) rfl|exact st_not' (b := false) (u := true) rfl|exact st_not' rfl|exact st_lss' (by first|assumption|rfl)|exact st_len'|exact st_indexAddr' (by assumption)|exact st_loadE'|exact Cv.rfl'|(intro _;simp only[newX,newL,ptrs,List.map,List.cons_append,List.nil_append])|intro _
    refine g_stop fun a w h => ?_
    replace h := h.keep [5, 4, 0]
    refine cw_loop (fun k a w => ∃ i : Nat, i + k = 5 ∧ TS _ X [] [(5, .is (.int .i64 (i : Int))), (4, VTy.rany 5), (0, .is (.bool false))] 97 a w) 5 ⟨0, by omega, h⟩ ?_
    clear h
    rintro k a w ⟨i, hi, h⟩
    by_cases hlt3 : i < 5
    · have hc3 : decide ((i : Int) < ((5 : Nat) : Int)) = true := decide_eq_true (by omega)
      refine g_of h ?_
      clear h
      repeat' first|kernel_rfl|exact g_done fun _ _ h=>⟨k - 1, by omega, i + 1, by omega, h.keep [5, 4, 0]⟩|apply g_seq|apply g_reg|apply g_nil|apply g_draw (id:=14) [(74, false)] [] 16|apply o_all|apply o_go|exact OpsT.nil|exact GuardC.nil|exact UndefC.nil|refine @GuardC.cons _ _ _ _ inferInstance ?_|refine @UndefC.cons _ _ _ inferInstance ?_|apply g_box|apply g_all|apply g_sto|apply g_asg|refine g_run rfl inferInstance (by first|fail) (by kernel_rfl) ?_|refine g_sk rfl inferInstance rfl (by kernel_rfl) ?_|refine g_un rfl inferInstance (by kernel_rfl) ?_|apply g_st|apply g_skip|apply g_ct|apply g_cf|apply g_ret|refine r_1 rfl ?_|apply g_blk|apply g_eb|apply g_ex|apply e_t|apply e_h|refine e_o rfl ?_|apply r_t|apply r_b|apply g_cl|exact s5_tells hE|exact s5_near hE|exact s5_places hE|exact s5_of (by omega)|exact sc hE (l_of (by omega) (by omega) (by omega))|exact sc hE l_works|exact st_row2|exact st_row5|exact st_add' (wrap_small (by omega))|exact st_rem5|exact st_bnB|exact st_bq0|exact st_bqN|exact st_bqND|exact st_lenR|exact st_indexR (by omega)|exact st_loadQ|exact st_dropR (by omega)|exact st_ints|exact st_lenI|exact st_indexI (by omega)|exact st_loadI|exact st_move'|exact st_assign'|exact st_load'|exact st_or_f'|exact st_or_t'|exact st_not' (b := true) (u := false) rfl|exact st_not' (b := false) (u := true) rfl|exact st_not' rfl|exact st_lss' (by first|assumption|rfl)|exact st_len'|exact st_indexAddr' (by assumption)|exact st_loadE'|exact Cv.rfl'|(intro _;simp only[newX,newL,ptrs,List.map,List.cons_append,List.nil_append])|intro _
    · have hc3 : decide ((i : Int) < ((5 : Nat) : Int)) = false := decide_eq_false (by omega)
      refine g_of h ?_
      clear h
      repeat' first|kernel_rfl|apply g_seq|apply g_reg|apply g_nil|apply o_all|apply o_go|exact OpsT.nil|exact GuardC.nil|exact UndefC.nil|refine @GuardC.cons _ _ _ _ inferInstance ?_|refine @UndefC.cons _ _ _ inferInstance ?_|apply g_box|apply g_all|apply g_sto|apply g_asg|refine g_run rfl inferInstance (by first|fail) (by kernel_rfl) ?_|refine g_sk rfl inferInstance rfl (by kernel_rfl) ?_|refine g_un rfl inferInstance (by kernel_rfl) ?_|apply g_st|apply g_skip|apply g_ct|apply g_cf|apply g_ret|refine r_1 rfl ?_|apply g_blk|apply g_eb|apply g_ex|apply e_t|apply e_h|refine e_o rfl ?_|apply r_t|apply r_b|apply g_cl|exact s5_tells hE|exact s5_near hE|exact s5_places hE|exact s5_of (by omega)|exact sc hE (l_of (by omega) (by omega) (by omega))|exact sc hE l_works|exact st_row2|exact st_row5|exact st_add' (wrap_small (by omega))|exact st_rem5|exact st_bnB|exact st_bq0|exact st_bqN|exact st_bqND|exact st_lenR|exact st_indexR (by omega)|exact st_loadQ|exact st_dropR (by omega)|exact st_ints|exact st_lenI|exact st_indexI (by omega)|exact st_loadI|exact st_move'|exact st_assign'|exact st_load'|exact st_or_f'|exact st_or_t'|exact st_not' (b := true) (u := false) rfl|exact st_not' (b := false) (u := true) rfl|exact st_not' rfl|exact st_lss' (by first|assumption|rfl)|exact st_len'|exact st_indexAddr' (by assumption)|exact st_loadE'|exact Cv.rfl'|(intro _;simp only[newX,newL,ptrs,List.map,List.cons_append,List.nil_append])|intro _
      refine g_stop fun a w h => ?_

      replace h := h.keep [87, 86, 85, 0]
      refine cw_loop (fun k a w => ∃ j : Nat, j + k = 7 ∧ TS _ X [] [(87, .is (.int .i64 (j : Int))), (86, .is (.int .i64 ((7 : Nat) : Int))), (85, VTy.irow 7), (0, .is (.bool false))] 97 a w) 7 ⟨0, by omega, h⟩ ?_
      clear h
      rintro k4 a w ⟨j, hj, h⟩
      by_cases hlt4 : j < 7
      · have hc4 : decide ((j : Int) < ((7 : Nat) : Int)) = true := decide_eq_true (by omega)
        refine g_of h ?_
        clear h
        repeat' first|kernel_rfl|exact g_done fun _ _ h=>⟨k4 - 1, by omega, j + 1, by omega, h.keep [87, 86, 85, 0]⟩|apply g_seq|apply g_reg|apply g_nil|apply g_mv (s:=87)|apply o_all|apply o_go|exact OpsT.nil|exact GuardC.nil|exact UndefC.nil|refine @GuardC.cons _ _ _ _ inferInstance ?_|refine @UndefC.cons _ _ _ inferInstance ?_|apply g_box|apply g_all|apply g_sto|apply g_asg|refine g_run rfl inferInstance (by first|fail) (by kernel_rfl) ?_|refine g_sk rfl inferInstance rfl (by kernel_rfl) ?_|refine g_un rfl inferInstance (by kernel_rfl) ?_|apply g_st|apply g_skip|apply g_ct|apply g_cf|apply g_ret|refine r_1 rfl ?_|apply g_blk|apply g_eb|apply g_ex|apply e_t|apply e_h|refine e_o rfl ?_|apply r_t|apply r_b|apply g_cl|exact s5_tells hE|exact s5_near hE|exact s5_places hE|exact s5_of (by omega)|exact sc hE (l_of (by omega) (by omega) (by omega))|exact sc hE l_works|exact st_row2|exact st_row5|exact st_add' (wrap_small (by omega))|exact st_rem5|exact st_bnB|exact st_bq0|exact st_bqN|exact st_bqND|exact st_lenR|exact st_indexR (by omega)|exact st_loadQ|exact st_dropR (by omega)|exact st_ints|exact st_lenI|exact st_indexI (by omega)|exact st_loadI|exact st_move'|exact st_assign'|exact st_load'|exact st_or_f'|exact st_or_t'|exact st_not' (b := true) (u := false) rfl|exact st_not' (b := false) (u := true) rfl|exact st_not' rfl|exact st_lss' (by first|assumption|rfl)|exact st_len'|exact st_indexAddr' (by assumption)|exact st_loadE'|exact Cv.rfl'|(intro _;simp only[newX,newL,ptrs,List.map,List.cons_append,List.nil_append])|intro _
      · have hc4 : decide ((j : Int) < ((7 : Nat) : Int)) = false := decide_eq_false (by omega)
        refine g_of h ?_
        clear h
        repeat' first|kernel_rfl|apply g_seq|apply g_reg|apply g_nil|apply g_mv (s:=87)|apply o_all|apply o_go|exact OpsT.nil|exact GuardC.nil|exact UndefC.nil|refine @GuardC.cons _ _ _ _ inferInstance ?_|refine @UndefC.cons _ _ _ inferInstance ?_|apply g_box|apply g_all|apply g_sto|apply g_asg|refine g_run rfl inferInstance (by first|fail) (by kernel_rfl) ?_|refine g_sk rfl inferInstance rfl (by kernel_rfl) ?_|refine g_un rfl inferInstance (by kernel_rfl) ?_|apply g_st|apply g_skip|apply g_ct|apply g_cf|apply g_ret|refine r_1 rfl ?_|apply g_blk|apply g_eb|apply g_ex|apply e_t|apply e_h|refine e_o rfl ?_|apply r_t|apply r_b|apply g_cl|exact s5_tells hE|exact s5_near hE|exact s5_places hE|exact s5_of (by omega)|exact sc hE (l_of (by omega) (by omega) (by omega))|exact sc hE l_works|exact st_row2|exact st_row5|exact st_add' (wrap_small (by omega))|exact st_rem5|exact st_bnB|exact st_bq0|exact st_bqN|exact st_bqND|exact st_lenR|exact st_indexR (by omega)|exact st_loadQ|exact st_dropR (by omega)|exact st_ints|exact st_lenI|exact st_indexI (by omega)|exact st_loadI|exact st_move'|exact st_assign'|exact st_load'|exact st_or_f'|exact st_or_t'|exact st_not' (b := true) (u := false) rfl|exact st_not' (b := false) (u := true) rfl|exact st_not' rfl|exact st_lss' (by first|assumption|rfl)|exact st_len'|exact st_indexAddr' (by assumption)|exact st_loadE'|exact Cv.rfl'|(intro _;simp only[newX,newL,ptrs,List.map,List.cons_append,List.nil_append])|intro _
end Go.Proofs.YtngfkjlpgodfhaaGreatDoor
