/- Slices of numbers in memory: one that is read ('Sl'), one that the call owns ('Own'), and how both are kept. No program stands in it. -/
import Derived.Test.YthicpakanhhipaaGreatDoorMath
import Derived.WalkKit
import Derived.WalkSpells
import Derived.Deep.AppendLies
import Derived.Laws.AppendOwnNone
import Derived.Deep.Draws
namespace Go.Proofs.YthicpakanhhipaaGreatDoor
open Go Go.RowKit

/-- A slice of n numbers of one kind, below block B, that reads as xs. -/
def Sl (k : IntKind) (w : World) (B : Nat) (A : Option Addr) (n c : Nat) (xs : List Int) : Prop :=
  xs.length = n ∧ n ≤ c ∧ c ≤ maxLen ∧ (A = none → c = 0) ∧
    (0 < n → ∃ b off, A = some ⟨b, off, none⟩ ∧ b < B ∧ ∀ j x, xs[j]? = some x → w.cell? ⟨b, off + j, none⟩ = some (.int k x))

section
variable {k : IntKind} {w w' : World} {B B' : Nat} {A : Option Addr} {n c : Nat} {xs : List Int}
theorem Sl.len (h : Sl k w B A n c xs) : xs.length = n := h.1
theorem Sl.le (h : Sl k w B A n c xs) : n ≤ c := h.2.1
theorem Sl.cap (h : Sl k w B A n c xs) : c ≤ maxLen := h.2.2.1
theorem Sl.lenMax (h : Sl k w B A n c xs) : n ≤ 9223372036854775807 := by
  have h1 := h.le
  have h2 := h.cap
  unfold maxLen at h2
  omega
theorem Sl.nil : Sl k w B none 0 0 [] := ⟨rfl, Nat.le_refl _, Nat.zero_le _, fun _ => rfl, fun h => absurd h (by omega)⟩
/-- The cell at a place that is there. -/
theorem Sl.at_ (h : Sl k w B A n c xs) {j : Nat} (hj : j < n) : ∃ b off x, A = some ⟨b, off, none⟩ ∧ b < B ∧ xs[j]? = some x ∧ w.cell? ⟨b, off + j, none⟩ = some (.int k x) := by
  obtain ⟨b, off, hA, hb, hc⟩ := h.2.2.2.2 (by omega)
  have hl : j < xs.length := by have := h.1; omega
  exact ⟨b, off, xs[j], hA, hb, List.getElem?_eq_getElem hl, hc j _ (List.getElem?_eq_getElem hl)⟩
theorem Sl.keep (h : Sl k w B A n c xs) (hk : ∀ p : Addr, p.block < B → w'.cell? p = w.cell? p) : Sl k w' B A n c xs := by
  refine ⟨h.1, h.2.1, h.2.2.1, h.2.2.2.1, fun hn => ?_⟩
  obtain ⟨b, off, hA, hb, hc⟩ := h.2.2.2.2 hn
  exact ⟨b, off, hA, hb, fun j x hx => (hk _ hb).trans (hc j x hx)⟩
theorem Sl.more (h : Sl k w B A n c xs) (hB : B ≤ B') : Sl k w B' A n c xs := by
  refine ⟨h.1, h.2.1, h.2.2.1, h.2.2.2.1, fun hn => ?_⟩
  obtain ⟨b, off, hA, hb, hc⟩ := h.2.2.2.2 hn
  exact ⟨b, off, hA, by omega, hc⟩
theorem Sl.below (h : Sl k w B A n c xs) (hb : Below B' w w') (hB : B ≤ B') : Sl k w' B A n c xs := h.keep fun _ hp => hb.cell (by omega)
theorem Sl.drew (h : Sl k w B A n c xs) (m : Nat) : Sl k (w.drewN m) B A n c xs := h
theorem Sl.drew1 (h : Sl k w B A n c xs) : Sl k w.drew B A n c xs := h
theorem Sl.alloc (h : Sl k w B A n c xs) (hB : B ≤ w.heap.size) (o : Obj) : Sl k (w.alloc o) B A n c xs := h.keep fun p hp => World.cell?_alloc_lt w o p (by omega)
theorem Sl.setCell (h : Sl k w B A n c xs) {p : Addr} (hp : B ≤ p.block) (u : Value) : Sl k (w.setCell p u) B A n c xs :=
  h.keep fun q hq => World.cell?_setCell_other w p q u (fun e => by subst e; omega)
theorem Sl.grown (h : Sl k w B A n c xs) {row : Option Nat} (hg : w.grownBy w' row) (hB : B ≤ w.heap.size) (hr : ∀ g, row = some g → B ≤ g) : Sl k w' B A n c xs :=
  h.keep fun p hp => World.cell?_of_block (hg.block p.block (by omega) (fun e => by have := hr _ e.symm; omega))
/-- s[:m]. -/
theorem Sl.front (h : Sl k w B A n c xs) {m : Nat} (hm : m ≤ n) : Sl k w B A m c (xs.take m) := by
  refine ⟨by rw [List.length_take]; have := h.1; omega, by have := h.le; omega, h.cap, h.2.2.2.1, fun hn => ?_⟩
  obtain ⟨b, off, hA, hb, hc⟩ := h.2.2.2.2 (by omega)
  refine ⟨b, off, hA, hb, fun j x hx => hc j x ?_⟩
  rw [List.getElem?_take] at hx
  split at hx
  · exact hx
  · cases hx
/-- s[m:], the address as the model has it. -/
theorem Sl.back (h : Sl k w B A n c xs) {m : Nat} (hm : m ≤ n) : Sl k w B (if c = m then A else A.map (·.add m)) (n - m) (c - m) (xs.drop m) := by
  have h1 := h.1
  have h2 := h.le
  have h3 := h.cap
  refine ⟨by rw [List.length_drop]; omega, by omega, by omega, fun hA => ?_, fun hn => ?_⟩
  · split at hA
    · omega
    · have h0 := h.2.2.2.1 (by cases A <;> simp_all)
      omega
  · obtain ⟨b, off, rfl, hb, hc⟩ := h.2.2.2.2 (by omega)
    rw [if_neg (by omega)]
    refine ⟨b, off + m, by simp [Addr.add_lit], hb, fun j x hx => ?_⟩
    rw [Nat.add_assoc]
    exact hc _ x (by rw [← hx, List.getElem?_drop])
end

/-- A slice of n numbers that begins at the head of a row of the call's own, from block B on. -/
def Own (k : IntKind) (e : TypeId) (w : World) (B : Nat) (A : Option Addr) (n c : Nat) (xs : List Int) : Prop :=
  w.ownsRow B e 1 (.slice A n c) n (xs.map (Value.int k))

/-- The block of a slice's address. -/
def blk (A : Option Addr) : Option Nat := A.map (·.block)
theorem ownBlock_slice (A : Option Addr) (n c : Nat) : (Value.slice A n c).ownBlock = blk A := by cases A <;> rfl

section
variable {k : IntKind} {e : TypeId} {w w' : World} {B B' : Nat} {A : Option Addr} {n c : Nat} {xs : List Int}
theorem Own.len (h : Own k e w B A n c xs) : xs.length = n := by simpa using h.1
theorem Own.nil : Own k e w B none 0 0 [] := World.ownsRow_nil _ _ _ _
theorem Own.form (h : Own k e w B A n c xs) : (A = none ∧ n = 0 ∧ c = 0) ∨ ∃ g, A = some ⟨g, 0, none⟩ ∧ B ≤ g ∧ g < w.heap.size := by
  rcases h.2 with ⟨hv, h0⟩ | ⟨g, cap, cur, hv, hb, hg, _⟩
  · injection hv with h1 h2 h3
    exact .inl ⟨h1, h0, h3⟩
  · injection hv with h1 h2 h3
    refine .inr ⟨g, h1, hb, ?_⟩
    rcases Nat.lt_or_ge g w.heap.size with hlt | hge
    · exact hlt
    · rw [Array.getElem?_eq_none hge] at hg; cases hg
theorem Own.blk_ (h : Own k e w B A n c xs) : ∀ g, blk A = some g → B ≤ g ∧ g < w.heap.size := by
  intro g hg
  rcases h.form with ⟨rfl, _⟩ | ⟨g', rfl, h1, h2⟩
  · cases hg
  · have : g' = g := by simpa [blk] using hg
    subst this
    exact ⟨h1, h2⟩
theorem Own.cap (h : Own k e w B A n c xs) : n ≤ c ∧ c ≤ maxLen := by
  rcases h.2 with ⟨hv, h0⟩ | ⟨g, cap, cur, hv, hb, hg, h1, h2, _⟩
  · injection hv with h1 h2 h3
    subst h3; subst h0
    exact ⟨Nat.le_refl _, Nat.zero_le _⟩
  · injection hv with h3 h4 h5
    subst h5
    exact ⟨h1, h2⟩
theorem Own.sl (h : Own k e w B A n c xs) : Sl k w w.heap.size A n c xs := by
  refine ⟨h.len, h.cap.1, h.cap.2, fun hA => ?_, fun hn => ?_⟩
  · rcases h.form with ⟨_, _, h0⟩ | ⟨g, rfl, _⟩
    · exact h0
    · cases hA
  · rcases h.form with ⟨_, h0, _⟩ | ⟨g, rfl, h1, h2⟩
    · omega
    · refine ⟨g, 0, rfl, h2, fun j x hx => ?_⟩
      have hj : j < n := by have := (List.getElem?_eq_some_iff.1 hx).1; have := h.len; omega
      have := World.ownsRow.cellAt h j (by omega)
      rw [Nat.zero_add, this]
      simp [hx]
theorem Own.keep (h : Own k e w B A n c xs) {row : Option Nat} (hg : w.grownBy w' row) (hne : blk A = none ∨ blk A ≠ row) : Own k e w' B A n c xs :=
  World.ownsRow.kept h hg (by rw [ownBlock_slice]; exact hne)
theorem Own.below (h : Own k e w B A n c xs) (hb : Below w.heap.size w w') : Own k e w' B A n c xs :=
  h.keep (row := none) ⟨hb.os, hb.tape, hb.output, hb.size, fun i hi _ => hb.block i hi⟩ (by cases hA : blk A <;> simp)
theorem Own.drew (h : Own k e w B A n c xs) (m : Nat) : Own k e (w.drewN m) B A n c xs := h
theorem Own.drew1 (h : Own k e w B A n c xs) : Own k e w.drew B A n c xs := h
theorem Own.alloc (h : Own k e w B A n c xs) (o : Obj) : Own k e (w.alloc o) B A n c xs := World.ownsRow.alloc h o
theorem Own.lower (h : Own k e w B A n c xs) (hB : B' ≤ B) : Own k e w B' A n c xs := by
  refine ⟨h.1, ?_⟩
  rcases h.2 with h1 | ⟨g, cap, cur, h1, h2, h3⟩
  · exact .inl h1
  · exact .inr ⟨g, cap, cur, h1, Nat.le_trans hB h2, h3⟩
/-- s[:m], m at most n, not nil. -/
theorem Own.front (h : Own k e w B A n c xs) {m : Nat} (hm : m ≤ n) (hA : A ≠ none) : Own k e w B A m c (xs.take m) := by
  have hl := h.len
  refine ⟨by simp; omega, ?_⟩
  rcases h.2 with ⟨hv, _⟩ | ⟨g, cap, cur, hv, hb, hg, h1, h2, h3, h4⟩
  · injection hv with hv; exact absurd hv hA
  · injection hv with h5 h6 h7
    subst h7
    subst h5
    refine .inr ⟨g, c, cur, rfl, hb, hg, by omega, h2, h3, ?_⟩
    have : (cur.toList.take (n * 1)).take m = (xs.map (Value.int k)).take m := by rw [h4]
    rw [List.take_take] at this
    rw [List.map_take, ← this]
    congr 1
    omega
/-- A store at a place that is there. -/
theorem Own.set (h : Own k e w B A n c xs) {i : Nat} (hi : i < n) : ∃ g x, A = some ⟨g, 0, none⟩ ∧ B ≤ g ∧ g < w.heap.size ∧ xs[i]? = some x ∧ w.cell? ⟨g, i, none⟩ = some (.int k x) ∧ w.frozen? ⟨g, i, none⟩ = false ∧
    ∀ y, Own k e (w.setCell ⟨g, i, none⟩ (.int k y)) B A n c (xs.set i y) ∧ w.grownBy (w.setCell ⟨g, i, none⟩ (.int k y)) (some g) := by
  rcases h.form with ⟨_, h0, _⟩ | ⟨g, rfl, h1, h2⟩
  · omega
  · have hl : i < xs.length := by have := h.len; omega
    have hcell := World.ownsRow.cellAt h i (by omega)
    refine ⟨g, xs[i], rfl, h1, h2, List.getElem?_eq_getElem hl, ?_, World.ownsRow.frozenAt h i, fun y => ?_⟩
    · rw [hcell]; simp [hl]
    · have := World.ownsRow.stored h i (.int k y)
      unfold Own
      rw [List.map_set]
      exact this
end

theorem Own.raise {k : IntKind} {e : TypeId} {w w' : World} {B B' : Nat} {A : Option Addr} {n c : Nat} {xs ys : List Int} (h : Own k e w B A n c xs) (h' : Own k e w' B' A n c ys) : Own k e w B' A n c xs := by
  refine ⟨h.1, ?_⟩
  rcases h.2 with h1 | ⟨g, cap, cur, e1, e2, e3⟩
  · exact .inl h1
  · injection e1 with e4 e5 e6
    subst e4
    exact .inr ⟨g, cap, cur, by rw [e6], (h'.blk_ g rfl).1, e3⟩

/-- An integer type and the slices of it, in the program's table. -/
structure ElemT (P : Program) (t e : TypeId) (k : IntKind) (bytes : Nat) : Prop where
  slice : P.underlying t = some (.slice e)
  info : ∃ i, P.info? e = some i ∧ i.zero = some (.int k 0) ∧ i.size = 1 ∧ i.bytes = bytes

theorem Sl.news {k : IntKind} {w : World} {B : Nat} {ad : Addr} {n c : Nat} {xs : List Int} (h : Sl k w B (some ad) n c xs) : ∀ j u, (xs.map (Value.int k))[j]? = some u → w.cell? (ad.add j) = some u := by
  intro j u hu
  rw [List.getElem?_map] at hu
  obtain ⟨x, hx, rfl⟩ := Option.map_eq_some_iff.1 hu
  have hj : j < n := by have := (List.getElem?_eq_some_iff.1 hx).1; have := h.1; omega
  obtain ⟨b, off, hA, _, hc⟩ := h.2.2.2.2 (by omega)
  injection hA with hA
  subst hA
  rw [Addr.add_lit]
  exact hc j x hx

theorem run_app {P : Program} {t e : TypeId} {k : IntKind} {bytes : Nat} (T : ElemT P t e k bytes) (ty : TypeId) {w : World} {B : Nat} {A : Option Addr} {n c : Nat} {xs : List Int} (h : Own k e w B A n c xs)
    {B2 : Nat} {A2 : Option Addr} {m c2 : Nat} {ys : List Int} (hs : Sl k w B2 A2 m c2 ys) (hn : (n + m) * bytes ≤ 140737488355328) (hm : n + m ≤ maxLen) (hB : B ≤ w.heap.size) :
    ∃ A' c' w', (Builtin.append_ #[t, t] ty #[.slice A n c, .slice A2 m c2]).run P w = .ok (.slice A' (n + m) c') w' ∧ Own k e w' B A' (n + m) c' (xs ++ ys) ∧ w.grownBy w' (blk A) := by
  obtain ⟨i, hi, hz, hsz, hby⟩ := T.info
  cases A2 with
  | none =>
    have h0 := hs.2.2.2.1 rfl
    subst h0
    obtain rfl : m = 0 := by have := hs.le; omega
    have hy : ys = [] := List.eq_nil_of_length_eq_zero hs.1
    subst hy
    exact ⟨A, c, w, run_append_owned_none (P := P) w B t ty e i 1 T.slice hi _ n _ h, by simpa using h, World.grownBy.refl _ _⟩
  | some ad =>
    obtain ⟨v', w', hr, h2, h3, _⟩ := run_append_own (P := P) w B t ty e i (.int k 0) 1 bytes T.slice hi hz hsz hby rfl (by omega) _ n _ h ad m c2 (ys.map (Value.int k)) (by simp [hs.1]) hs.news
      (fun u hu => by obtain ⟨_, _, rfl⟩ := List.mem_map.1 hu; rfl) hm hn hB
    have hf : ∃ A' c', v' = .slice A' (n + m) c' := by
      rcases h2.2 with ⟨hv, h0⟩ | ⟨g, cap, cur, hv, _⟩
      · exact ⟨none, 0, by rw [hv, h0]⟩
      · exact ⟨_, _, hv⟩
    obtain ⟨A', c', rfl⟩ := hf
    refine ⟨A', c', w', hr, ?_, by rw [← ownBlock_slice]; exact h3⟩
    unfold Own
    rw [List.map_append]
    exact h2

theorem wpList_app {P : Program} {t e : TypeId} {k : IntKind} {bytes : Nat} (T : ElemT P t e k bytes) {w : World} {ops : Array Oper} {rest : List Oper} {o : Oper} {a : Act} {Q : Exit → Act → World → Prop} (hgd : o.guard = none) (s x : Operand)
    (ho : o.op = .call { callee := .builtin .append, args := #[s, x], argTypes := #[t, t] }) {B : Nat} {A : Option Addr} {n c : Nat} {xs : List Int} (h : Own k e w B A n c xs) (es : a.eval s = .slice A n c)
    {B2 : Nat} {A2 : Option Addr} {m c2 : Nat} {ys : List Int} (hs : Sl k w B2 A2 m c2 ys) (ex : a.eval x = .slice A2 m c2) (hn : (n + m) * bytes ≤ 140737488355328) (hm : n + m ≤ maxLen) (hB : B ≤ w.heap.size)
    (hK : ∀ A' c' w', Own k e w' B A' (n + m) c' (xs ++ ys) → w.grownBy w' (blk A) → wpList P ops Q rest (a.put o.dst (.slice A' (n + m) c')) w') : wpList P ops Q (o :: rest) a w := by
  refine wpList_plain hgd fun K hK' => ?_
  obtain ⟨A', c', w', hr, h2, h3⟩ := run_app T o.type h hs hn hm hB
  unfold Oper.wp execOp
  simp only [ho, resolve, invoke, builtin, Sem.run_bind, Sem.run_pure, Result.andThen_ok, List.map_toArray, List.map_cons, List.map_nil, es, ex, hr]
  exact hK' _ _ (hK A' c' w' h2 h3)

theorem step_app {P : Program} {t e : TypeId} {k : IntKind} {bytes : Nat} (T : ElemT P t e k bytes) {w : World} {ops : Array Oper} {o : Oper} {a : Act} {K : Act → World → Prop} {Q : Exit → Act → World → Prop} {E : Prop} (hgd : o.guard = none) (s x : Operand)
    (ho : o.op = .call { callee := .builtin .append, args := #[s, x], argTypes := #[t, t] }) {B : Nat} {A : Option Addr} {n c : Nat} {xs : List Int} (h : Own k e w B A n c xs) (es : a.eval s = .slice A n c)
    {B2 : Nat} {A2 : Option Addr} {m c2 : Nat} {ys : List Int} (hs : Sl k w B2 A2 m c2 ys) (ex : a.eval x = .slice A2 m c2) (hn : (n + m) * bytes ≤ 140737488355328) (hm : n + m ≤ maxLen) (hB : B ≤ w.heap.size)
    (hK : ∀ A' c' w', Own k e w' B A' (n + m) c' (xs ++ ys) → w.grownBy w' (blk A) → K (a.put o.dst (.slice A' (n + m) c')) w') : if Region.wanted o (yielded ops a.tmps) = true then Oper.wp P o a w K Q else E := by
  have hw : Region.wanted o (yielded ops a.tmps) = true := by simp [Region.wanted, hgd]
  rw [if_pos hw]
  obtain ⟨A', c', w', hr, h2, h3⟩ := run_app T o.type h hs hn hm hB
  unfold Oper.wp execOp
  simp only [ho, resolve, invoke, builtin, Sem.run_bind, Sem.run_pure, Result.andThen_ok, List.map_toArray, List.map_cons, List.map_nil, es, ex, hr]
  exact hK A' c' w' h2 h3

theorem Sl.new1 (k : IntKind) (w : World) (x : Int) (t : TypeId) : Sl k (w.alloc (.cells #[.int k x] t)) (w.heap.size + 1) (some ⟨w.heap.size, 0, none⟩) 1 1 [x] := by
  refine ⟨rfl, Nat.le_refl _, by unfold maxLen; omega, fun h => (by cases h), fun _ => ⟨w.heap.size, 0, rfl, by omega, fun j y hy => ?_⟩⟩
  have hj : j = 0 := by have := (List.getElem?_eq_some_iff.1 hy).1; simp at this; omega
  subst hj
  simp at hy
  subst hy
  simp [World.cell?_alloc_new]
theorem Sl.new2 (k : IntKind) (w : World) (x y : Int) (t : TypeId) : Sl k (w.alloc (.cells #[.int k x, .int k y] t)) (w.heap.size + 1) (some ⟨w.heap.size, 0, none⟩) 2 2 [x, y] := by
  refine ⟨rfl, Nat.le_refl _, by unfold maxLen; omega, fun h => (by cases h), fun _ => ⟨w.heap.size, 0, rfl, by omega, fun j z hz => ?_⟩⟩
  have hj : j < 2 := (List.getElem?_eq_some_iff.1 hz).1
  rcases j with _ | _ | j
  · simp at hz; subst hz; simp [World.cell?_alloc_new]
  · simp at hz; subst hz; simp [World.cell?_alloc_new]
  · omega
/-- make([]T, n). -/
theorem wpList_mk {P : Program} {t e : TypeId} {k : IntKind} {bytes : Nat} (T : ElemT P t e k bytes) {w : World} {ops : Array Oper} {rest : List Oper} {o : Oper} {a : Act} {Q : Exit → Act → World → Prop} (hgd : o.guard = none) (l c : Operand)
    (ho : o.op = Op.makeSlice t l c) {B : Nat} {kl kc : IntKind} {L C : Int} (n : Nat) (hl : a.eval l = .int kl L) (hc : a.eval c = .int kc C) (hL : L = (n : Int)) (hC : C = (n : Int)) (hb : bytes * n ≤ 281474976710656) (hm : n ≤ maxLen) (hB : B ≤ w.heap.size)
    (hK : ∀ w', Own k e w' B (some ⟨w.heap.size, 0, none⟩) n n (List.replicate n 0) → w.grownBy w' none → wpList P ops Q rest (a.put o.dst (.slice (some ⟨w.heap.size, 0, none⟩) n n)) w') : wpList P ops Q (o :: rest) a w := by
  obtain ⟨i, hi, hz, hsz, hby⟩ := T.info
  refine wpList_make_full w hgd l c t ho B e i (.int k 0) 1 T.slice hi hz hsz kl kc L C n hl hc hL hC (by rw [hby]; exact hb) hm hB fun w' h1 h2 => hK w' ?_ h2
  unfold Own
  have : (madeCells (Value.int k 0).cells (n * 1)).toList = (List.replicate n (0 : Int)).map (Value.int k) := by
    rw [Nat.mul_one, List.map_replicate]
    exact toList_madeCells_one _ _
  rw [← this]
  exact h1

/-- A row of the call's own that is being written; of what was there when the call began nothing has turned. -/
def Mk (k : IntKind) (e : TypeId) (w : World) (A : Option Addr) (n c : Nat) (xs : List Int) (wr : World) : Prop :=
  Own k e wr w.heap.size A n c xs ∧ Below w.heap.size w wr
section
variable {k : IntKind} {e : TypeId} {w w' wr : World} {A : Option Addr} {n c : Nat} {xs : List Int}
theorem Mk.made (h : Own k e w' w.heap.size A n c xs) (hg : w.grownBy w' none) : Mk k e w A n c xs w' :=
  ⟨h, (Below.refl _ _).grown hg (Nat.le_refl _) (fun _ h => by cases h)⟩
theorem Mk.drew (h : Mk k e w A n c xs wr) (m : Nat) : Mk k e w A n c xs (wr.drewN m) := ⟨h.1, ⟨h.2.os, h.2.tape, h.2.output, h.2.size, h.2.block⟩⟩
theorem Mk.below (h : Mk k e w A n c xs wr) (hb : Below wr.heap.size wr w') : Mk k e w A n c xs w' := ⟨h.1.below hb, h.2.trans (hb.mono h.2.size)⟩
theorem Mk.set (h : Mk k e w A n c xs wr) {i : Nat} (hi : i < n) : ∃ g x, A = some ⟨g, 0, none⟩ ∧ w.heap.size ≤ g ∧ xs[i]? = some x ∧ wr.cell? ⟨g, i, none⟩ = some (.int k x) ∧ wr.frozen? ⟨g, i, none⟩ = false ∧
    ∀ y, Mk k e w A n c (xs.set i y) (wr.setCell ⟨g, i, none⟩ (.int k y)) := by
  obtain ⟨g, x, h1, h2, _, h4, h5, h6, h7⟩ := h.1.set hi
  exact ⟨g, x, h1, h2, h4, h5, h6, fun y => ⟨(h7 y).1, h.2.setCell h2 _⟩⟩
theorem Mk.other {B : Nat} {A2 : Option Addr} {n2 c2 : Nat} {k2 : IntKind} {ys : List Int} (h : Mk k e w A n c xs wr) (hs : Sl k2 w B A2 n2 c2 ys) (hB : B ≤ w.heap.size) : Sl k2 wr B A2 n2 c2 ys := hs.below h.2 hB
theorem Below.drewN' {B : Nat} {a w : World} (h : Below B a w) (m : Nat) : Below B a (w.drewN m) := ⟨h.os, h.tape, h.output, h.size, h.block⟩
end

theorem size_one (w : World) (o : Obj) : (w.alloc o).heap.size = w.heap.size + 1 := Array.size_push ..
theorem below_a1 {w w' : World} {o : Obj} (h : Below (w.alloc o).heap.size (w.alloc o) w') : Below w.heap.size w w' :=
  ((Below.refl _ _).alloc (Nat.le_refl _) o).trans (h.mono (by rw [size_one]; omega))
theorem below_a2 {w w' : World} {o o2 : Obj} (h : Below ((w.alloc o).alloc o2).heap.size ((w.alloc o).alloc o2) w') : Below w.heap.size w w' := below_a1 (below_a1 h)
theorem Own.lit (k : IntKind) (e : TypeId) (w : World) {B : Nat} (hB : B ≤ w.heap.size) (xs : List Int) (n : Nat) (hn : xs.length = n) (hm : n ≤ 1000) : Own k e (w.alloc (.cells (xs.map (Value.int k)).toArray e)) B (some ⟨w.heap.size, 0, none⟩) n n xs := by
  have := World.ownsRow_lit (base := B) (e := e) (size := 1) w (xs.map (Value.int k)).toArray n hB (by unfold maxLen; omega) (by simp [hn])
  simpa [Own] using this
/-- A number in digits, read in whatever memory. -/
def Seen (k : IntKind) (β : Int) (w : World) (N : Int) (e : Ending) (w' : World) : Prop :=
  ∃ ys A n c, e = .returned (.slice A n c) ∧ Row β N ys ∧ Sl k w' w'.heap.size A n c ys ∧ Below w.heap.size w w'

theorem Own.apart {k k' : IntKind} {e e' : TypeId} {w1 w2 : World} {B B' : Nat} {A A' : Option Addr} {n n' c c' : Nat} {xs ys : List Int} (h : Own k e w1 B A n c xs) (h' : Own k' e' w2 B' A' n' c' ys) (hB : w1.heap.size ≤ B') : blk A' = none ∨ blk A' ≠ blk A := by
  rcases h'.form with ⟨rfl, _⟩ | ⟨g, rfl, hg, _⟩
  · exact .inl rfl
  · refine .inr fun hne => ?_
    have := (h.blk_ g hne.symm).2
    omega
theorem grown_below {w w' : World} {B : Nat} {A : Option Addr} (hg : w.grownBy w' (blk A)) (hB : B ≤ w.heap.size) (hA : ∀ g, blk A = some g → B ≤ g) : Below B w w' := (Below.refl _ _).grown hg hB hA

theorem row1 {x N : Int} (e : N = x) (h : 0 < x ∧ x < 4294967296) : Row 4294967296 N [x] := by
  subst e
  have h0 : N ≠ 0 := by omega
  exact ⟨Dg.cons (by omega) Dg.nil, by unfold Tr; simp [tl, h0], by simp [val]⟩
theorem row2 {x y N : Int} (e : N = x + 4294967296 * y) (hx : 0 ≤ x ∧ x < 4294967296) (h : 0 < y ∧ y < 4294967296) : Row 4294967296 N [x, y] := by
  subst e
  have h0 : y ≠ 0 := by omega
  exact ⟨Dg.cons hx (Dg.cons (by omega) Dg.nil), by unfold Tr; simp [tl, h0], by simp [val]⟩
theorem dg1 {x : Int} (h : 0 ≤ x ∧ x < 4294967296) : Dg 4294967296 [x] := Dg.cons h Dg.nil
theorem dg2 {x y : Int} (h : 0 ≤ x ∧ x < 4294967296) (h' : 0 ≤ y ∧ y < 4294967296) : Dg 4294967296 [x, y] := Dg.cons h (dg1 h')

/-- A new slice of one, of two; and with one more block behind it. -/
theorem lit1 (w : World) (s : Nat) (hs : w.heap.size = s) (x : Int) (t : TypeId) : Sl .u32 (w.alloc (.cells #[.int .u32 x] t)) (s + 1) (some ⟨s, 0, none⟩) 1 1 [x] := by subst hs; exact Sl.new1 .u32 w x t
theorem lit2 (w : World) (s : Nat) (hs : w.heap.size = s) (x y : Int) (t : TypeId) : Sl .u32 (w.alloc (.cells #[.int .u32 x, .int .u32 y] t)) (s + 1) (some ⟨s, 0, none⟩) 2 2 [x, y] := by subst hs; exact Sl.new2 .u32 w x y t
theorem lit1n (w : World) (s : Nat) (hs : w.heap.size = s) (x : Int) (t : TypeId) (o : Obj) : Sl .u32 ((w.alloc (.cells #[.int .u32 x] t)).alloc o) (s + 2) (some ⟨s, 0, none⟩) 1 1 [x] :=
  ((lit1 w s hs x t).alloc (by rw [size_one]; omega) o).more (by omega)
theorem lit2n (w : World) (s : Nat) (hs : w.heap.size = s) (x y : Int) (t : TypeId) (o : Obj) : Sl .u32 ((w.alloc (.cells #[.int .u32 x, .int .u32 y] t)).alloc o) (s + 2) (some ⟨s, 0, none⟩) 2 2 [x, y] :=
  ((lit2 w s hs x y t).alloc (by rw [size_one]; omega) o).more (by omega)
end Go.Proofs.YthicpakanhhipaaGreatDoor
