/- tallagelaw03.BigKnown: rows of three numbers, texts put together, as steps. -/
import Derived.Test.YtbjooeapjhaapaaGreatDoorBLawX
namespace Go.Proofs.YtbjooeapjhaapaaGreatDoor
open Go Go.RowKit

theorem SlB.three {w : World} {s t u : Bool} {A A1 A2 : Option Addr} {n c m c1 q c2 : Nat} {xs ys zs : List Int} (h0 : Sl .u32 w w.heap.size A n c xs) (h1 : Sl .u32 w w.heap.size A1 m c1 ys) (h2 : Sl .u32 w w.heap.size A2 q c2 zs) (T : TypeId) :
    SlB (w.alloc (.cells #[.bool s, .slice A n c, .bool t, .slice A1 m c1, .bool u, .slice A2 q c2] T)) (w.heap.size + 1) (some ⟨w.heap.size, 0, none⟩) 3 3 [(s, xs), (t, ys), (u, zs)] := by
  have hb := below_new w (.cells #[.bool s, .slice A n c, .bool t, .slice A1 m c1, .bool u, .slice A2 q c2] T)
  refine ⟨rfl, Nat.le_refl _, by decide, (fun h => (by cases h)), fun _ => ⟨w.heap.size, 0, rfl, Nat.lt_succ_self _, fun j s' xs' e => ?_⟩⟩
  have hc : ∀ i v, (#[Value.bool s, .slice A n c, .bool t, .slice A1 m c1, .bool u, .slice A2 q c2] : Array Value)[i]? = some v → (w.alloc (.cells #[.bool s, .slice A n c, .bool t, .slice A1 m c1, .bool u, .slice A2 q c2] T)).cell? ⟨w.heap.size, i, none⟩ = some v := by
    intro i v hv
    rw [World.cell?_alloc_new]
    exact hv
  rcases j with _ | _ | _ | j
  · injection e with e; injection e with e1 e2; subst e1; subst e2
    exact ⟨A, n, c, hc _ _ rfl, hc _ _ rfl, (h0.below hb (Nat.le_refl _)).more (Nat.le_succ _)⟩
  · injection e with e; injection e with e1 e2; subst e1; subst e2
    exact ⟨A1, m, c1, hc _ _ rfl, hc _ _ rfl, (h1.below hb (Nat.le_refl _)).more (Nat.le_succ _)⟩
  · injection e with e; injection e with e1 e2; subst e1; subst e2
    exact ⟨A2, q, c2, hc _ _ rfl, hc _ _ rfl, (h2.below hb (Nat.le_refl _)).more (Nat.le_succ _)⟩
  · simp at e
section
variable {E : List (Nat × STy)} {w0 : World} {d : Nat} {ty : TypeId} {pos : String} {af : Array Edge} {gd : Option (Nat × Bool)} {ats : Array TypeId} {o0 o1 o2 : Operand}
set_option maxRecDepth 20000 in
theorem sk_row3 {a b c : Nat} (h0 : OpHas E (.tmp a) STy.any1.holds) (h1 : OpHas E (.tmp b) STy.any1.holds) (h2 : OpHas E (.tmp c) STy.any1.holds) (hd : ∀ w v, STy.anys.holds w v → (slotTy E d).holds w v) :
    OpStep Tryz.prog E w0 ⟨some d, .buildSlice 33 3 #[(0, .tmp a), (1, .tmp b), (2, .tmp c)], ty, pos, af, gd⟩ := by
  intro ρ w hc hf hb hs
  obtain ⟨s, A, n, k, xs, e0, s0, d0⟩ := OpHas.at_ hc hs (o := .tmp a) (by simp [Op.operands]) h0
  obtain ⟨t, A1, m, k1, ys, e1, s1, d1⟩ := OpHas.at_ hc hs (o := .tmp b) (by simp [Op.operands]) h1
  obtain ⟨u, A2, q, k2, zs, e2, s2, d2⟩ := OpHas.at_ hc hs (o := .tmp c) (by simp [Op.operands]) h2
  have H := Lib.hid (SlB.three (s := s) (t := t) (u := u) s0 s1 s2 24)
  have HD := Lib.hid (show ∀ p ∈ [(s, xs), (t, ys), (u, zs)], Dg 4294967296 p.2 by
    intro p hp
    simp only [List.mem_cons, List.not_mem_nil, or_false] at hp
    rcases hp with rfl | rfl | rfl
    · exact d0
    · exact d1
    · exact d2)
  clear h0 h1 h2 hs hc hf hb s0 s1 s2 d0 d1 d2
  unfold Yields
  go_simp
  refine ⟨hd _ _ ⟨_, 3, 3, _, rfl, ?_, HD.out⟩, below_new _ _⟩
  rw [size_one]
  exact H.out
theorem sk_cat {b : Nat} {l : List UInt8} {t0 : ByteArray} (h1 : OpHas E (.tmp b) (STy.txt l).holds) (hl : l.length ≤ 5000) (ht : t0.size = 1) (hd : ∀ w v, STy.str.holds w v → (slotTy E d).holds w v) :
    OpStep Tryz.prog E w0 ⟨some d, .binOp .add 9 (.const (.string t0)) (.tmp b) 9, ty, pos, af, gd⟩ := by
  intro ρ w hc hf hb hs
  obtain ⟨t, e1, hu⟩ := OpHas.at_ hc hs (o := .tmp b) (by simp [Op.operands]) h1
  have e0 := hc (.string t0)
  have hsz : ¬ 9223372036854775807 < 1 + t.size := by
    have : t.data.toList.length = t.size := by simp
    rw [hu] at this
    omega
  clear h1 hs hc hf hb
  unfold Yields
  go_simp
  exact ⟨hd _ _ ⟨_, rfl⟩, Below.refl _ _⟩
theorem sk_idx {sx si b off n c k : Nat} (hx : OpIs E (.tmp sx) (.slice (some ⟨b, off, none⟩) n c)) (hi : OpIs E (.tmp si) (.int .i64 k)) (hk : k < n) (hd : ∀ w, (slotTy E d).holds w (.pointer (some ⟨b, off + k, none⟩))) :
    OpStep Tryz.prog E w0 ⟨some d, .indexAddr 64 (.tmp sx) (.tmp si), ty, pos, af, gd⟩ := by
  intro ρ w hc hf hb hs
  have h1 := hx _ _ hs.1
  have h2 := hi _ _ hs.2.1
  have hk' : (k : Int) < n := by omega
  clear hx hi hs
  unfold Yields
  go_simp
  exact ⟨hd _, Below.refl _ _⟩
theorem sk_cell {s r o : Nat} {x : Int} (hp : OpIs E (.tmp s) (.pointer (some ⟨r, o, none⟩))) (h0 : ∀ W, Below w0.heap.size w0 W → W.cell? ⟨r, o, none⟩ = some (.int .i64 x)) (hd : ∀ w, (slotTy E d).holds w (.int .i64 x)) : OpStep Tryz.prog E w0 ⟨some d, .load 2 (.tmp s), ty, pos, af, gd⟩ := by
  intro ρ w hc hf hb hs
  have e := hp _ _ hs.1
  have c0 := h0 w hb
  clear hp hs h0
  unfold Yields
  go_simp
  exact ⟨hd _, Below.refl _ _⟩
theorem sk_of {k : Int} (h0 : OpIs E o0 (.int .i64 k)) (hk : -9223372036854775808 ≤ k ∧ k ≤ 9223372036854775807) (hd : ∀ w v, (STy.newI w0.heap.size k).holds w v → (slotTy E d).holds w v) :
    OpStep Tryz.prog E w0 ⟨some d, .call { callee := .value (.func 36), args := #[o0], argTypes := ats }, ty, pos, af, gd⟩ :=
  st_call1 en_of (T0 := fun _ v => v = .int .i64 k) h0.has fun W v0 hb k0 => by
    subst k0
    refine (bof_any hk).mono ?_
    rintro e w' ⟨s, ys, A, n, c, hW, rfl, ho, hb2⟩
    exact ⟨⟨_, rfl, hd _ _ ⟨s, ys, A, n, c, rfl, hW, ho.lower hb.size⟩⟩, hb2⟩
theorem sk_alloc (hd : ∀ w v, (STy.nbox w0.heap.size 24).holds w v → (slotTy E d).holds w v) : OpStep Tryz.prog E w0 ⟨some d, .alloc 24, ty, pos, af, gd⟩ := by
  intro ρ w hc hf hb hs
  have hh : (w.alloc (.cells #[.bool false, .slice none 0 0] 24)).heap[w.heap.size]? = some (.cells #[.bool false, .slice none 0 0] 24 (0, 0)) := heap_alloc_new _ _
  have hsz := hb.size
  clear hs hc hf
  unfold Yields
  go_simp
  exact ⟨hd _ _ ⟨_, rfl, hsz, by rw [size_one]; exact Nat.lt_succ_self _, hh⟩, (Below.refl _ _).alloc (Nat.le_refl _) _⟩
theorem run_alloc_big (ρ : Operand → Value) (w : World) : ∃ w', (execOp ρ ⟨some d, .alloc 24, ty, pos, af, gd⟩).run Tryz.prog w = .ok (.value (.pointer (some ⟨w.heap.size, 0, none⟩))) w' ∧ w.heap.size < w'.heap.size := by
  refine ⟨w.alloc (.cells #[.bool false, .slice none 0 0] 24), ?_, by rw [size_one]; omega⟩
  go_simp
set_option maxRecDepth 20000 in
theorem sk_loadany {s r o : Nat} {u : Bool} {A : Option Addr} {n c : Nat} {xs : List Int} (hp : OpIs E (.tmp s) (.pointer (some ⟨r, o, none⟩))) (h0 : ∀ W, Below w0.heap.size w0 W → W.cell? ⟨r, o, none⟩ = some (.bool u)) (h1 : ∀ W, Below w0.heap.size w0 W → W.cell? ⟨r, o + 1, none⟩ = some (.slice A n c)) (hs : Sl .u32 w0 w0.heap.size A n c xs) (hx : Dg 4294967296 xs) (hd : ∀ w v, STy.any1.holds w v → (slotTy E d).holds w v) :
    OpStep Tryz.prog E w0 ⟨some d, .load 24 (.tmp s), ty, pos, af, gd⟩ := by
  intro ρ w hc hf hb hs'
  have e := hp _ _ hs'.1
  have c0 := h0 w hb
  have c1 := h1 w hb
  have h3 := (hs.below hb (Nat.le_refl _)).more hb.size
  clear hp hs' h0 h1 hc hf hs
  unfold Yields
  go_simp
  exact ⟨hd _ _ ⟨_, _, _, _, _, rfl, h3, hx⟩, Below.refl _ _⟩
theorem sk_sumsI {A : Option Addr} {n c : Nat} {l : List (Bool × List Int)} (h0 : OpIs E o0 (.slice A n c)) (hs : SlB w0 w0.heap.size A n c l) (hx : ∀ p ∈ l, Dg 4294967296 p.2) (hE : Env w0) (hd : ∀ w, (slotTy E d).holds w (.bool true)) :
    OpStep Tryz.prog E w0 ⟨some d, .call { callee := .value (.func 5), args := #[o0], argTypes := ats }, ty, pos, af, gd⟩ :=
  st_call1 en_sums (T0 := fun _ v => v = .slice A n c) h0.has fun W v0 hb k0 => by
    subst k0
    refine (BigSums_any (hs.below hb (Nat.le_refl _)) hb.size (hE.below hb) hx).mono ?_
    rintro e w' ⟨rfl, hb2⟩
    exact ⟨⟨_, rfl, hd _⟩, hb2⟩
end
end Go.Proofs.YtbjooeapjhaapaaGreatDoor
