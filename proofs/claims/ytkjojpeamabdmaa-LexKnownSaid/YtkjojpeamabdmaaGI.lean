/- Lines that are written over, text by text; LexLines. -/
import Derived.Test.YtkjojpeamabdmaaGH
set_option linter.unusedSimpArgs false
set_option linter.unusedVariables false
namespace Go.Proofs.Ytkjojpeamabdmaa
open Go Go.RowKit
/-- A row of lines, from B on, of so many words each: what they say is not told any more. -/
def VTy.jl (eW eL : TypeId) (B : Nat) (sh : List Nat) : VTy := ⟨fun X w v => ∃ ls : List Ln, ls.map (fun x => x.1.length) = sh ∧ (VTy.ow (Rp.lo eW B) eL tt B ls).holds X w v, fun ⟨ls, e, h⟩ hk hX => ⟨ls, e, (VTy.ow _ _ _ _ _).stable h hk hX⟩⟩
/-- Where the i-th line lies; what its row of words is. -/
def jat (sv : Value) (i : Nat) (u : Nat) (v : Value) : Prop := ∃ g n c, sv = .slice (some ⟨g, 0, none⟩) n c ∧ v = .pointer (some ⟨g, i * 2 + u, none⟩)
def jrow (w : World) (sv : Value) (i : Nat) (v : Value) : Prop := ∃ g n c, sv = .slice (some ⟨g, 0, none⟩) n c ∧ w.cell? ⟨g, i * 2, none⟩ = some v
theorem jl_keep {eW eL : TypeId} {B : Nat} {sh : List Nat} {X : List Nat} {w w' : World} {sv v : Value} {i : Nat} (h : (VTy.jl eW eL B sh).holds X w sv) (hk : Keeps X w w') (hr : jrow w sv i v) : jrow w' sv i v := by
  obtain ⟨ls, _, A, c, ps, e, _, _, _, h5, _⟩ := h
  obtain ⟨g, n, c', e2, hc⟩ := hr
  rw [e2] at e
  injection e with e _
  have hg := h5 g (by rw [← e]; rfl)
  exact ⟨g, n, c', e2, (World.cell?_of_block (hk.block g hg.1 hg.2)).trans hc⟩
def VTy.jls (sv : Value) (eW eL : TypeId) (B : Nat) (sh : List Nat) : VTy := ⟨fun X w v => v = sv ∧ (VTy.jl eW eL B sh).holds X w sv, fun ⟨e, h⟩ hk hX => ⟨e, (VTy.jl _ _ _ _).stable h hk hX⟩⟩
def VTy.jle (sv : Value) (eW eL : TypeId) (B : Nat) (sh : List Nat) (i u : Nat) : VTy := ⟨fun X w v => jat sv i u v ∧ (VTy.jl eW eL B sh).holds X w sv, fun ⟨e, h⟩ hk hX => ⟨e, (VTy.jl _ _ _ _).stable h hk hX⟩⟩
def VTy.jw (sv : Value) (eW eL : TypeId) (B : Nat) (sh : List Nat) (i : Nat) : VTy := ⟨fun X w v => jrow w sv i v ∧ (VTy.jl eW eL B sh).holds X w sv, fun ⟨e, h⟩ hk hX => ⟨jl_keep h hk e, (VTy.jl _ _ _ _).stable h hk hX⟩⟩
def VTy.jwe (sv : Value) (eW eL : TypeId) (B : Nat) (sh : List Nat) (i k : Nat) : VTy := ⟨fun X w v => (∃ g' n' c', jrow w sv i (.slice (some ⟨g', 0, none⟩) n' c') ∧ k < n' ∧ v = .pointer (some ⟨g', k * 2, none⟩)) ∧ (VTy.jl eW eL B sh).holds X w sv, fun ⟨⟨g', n', c', h1, h2, h3⟩, h⟩ hk hX => ⟨⟨g', n', c', jl_keep h hk h1, h2, h3⟩, (VTy.jl _ _ _ _).stable h hk hX⟩⟩
/-- The i-th line of such a row. -/
theorem jl_line {eW eL : TypeId} {B : Nat} {sh : List Nat} {X : List Nat} {w : World} {sv : Value} {i m : Nat} (h : (VTy.jl eW eL B sh).holds X w sv) (hm : sh[i]? = some m) : ∃ A c, jrow w sv i (.slice A m c) ∧ (0 < m → ∃ g', A = some ⟨g', 0, none⟩) := by
  obtain ⟨ls, e, h⟩ := h
  obtain ⟨A, c, ps, rfl, e2, h3, h4, h5, _⟩ := h
  rw [← e, List.getElem?_map] at hm
  cases hx : ls[i]? with
  | none => rw [hx] at hm; cases hm
  | some x =>
    rw [hx] at hm
    have hm' : x.1.length = m := by simpa using hm
    rw [← e2, List.getElem?_map] at hx
    cases hq : ps[i]? with
    | none => rw [hq] at hx; cases hx
    | some q =>
      rw [hq] at hx
      have hx' : q.1 = x := by simpa using hx
      obtain ⟨c1, c2, hq2, ⟨A', n', c', rfl, hs, ho⟩, rfl⟩ := (h3 q (List.mem_of_getElem? hq)).2
      have hpl : ps.length = ls.length := by rw [← e2, List.length_map]
      have hil : i < ps.length := (List.getElem?_eq_some_iff.1 hq).1
      rcases h4.form with ⟨_, hz, _⟩ | ⟨g, rfl, _⟩
      · omega
      have hn' : n' = m := by rw [← hs.1, hx', hm']
      subst hn'
      refine ⟨A', c', ⟨g, _, _, rfl, ?_⟩, fun hp => ?_⟩
      · have hfg := flat_get (ps := ps) (fun q hq => (Rp.lo eW B).len (h3 q hq).2) hq (u := .slice A' n' c') (i := 0) (by rw [hq2]; rfl)
        have := World.ownsRow.cells h4 (g := g) rfl _ _ hfg
        rw [Addr.add_lit, show (Rp.lo eW B).k = 2 from rfl] at this
        simpa using this
      · obtain ⟨b, o, rfl, _, _⟩ := hs.2.2.2.2 hp
        obtain ⟨ho1, _⟩ := ho b o rfl hp
        exact ⟨b, by rw [ho1]⟩
theorem jl_len {eW eL : TypeId} {B : Nat} {sh : List Nat} {X : List Nat} {w : World} {sv : Value} (h : (VTy.jl eW eL B sh).holds X w sv) : ∃ A c, sv = .slice A sh.length c ∧ (0 < sh.length → ∃ g, A = some ⟨g, 0, none⟩) := by
  obtain ⟨ls, e, A, c, ps, rfl, _, _, h4, _⟩ := h
  have : sh.length = ls.length := by rw [← e, List.length_map]
  refine ⟨A, c, by rw [this], fun hp => ?_⟩
  rcases h4.form with ⟨_, hz, _⟩ | ⟨g, h, _⟩
  · omega
  · exact ⟨g, h⟩
theorem lines_anew {r : Rp Ln} {w' : World} {S' : Nat → Prop} : ∀ {ps : List (Ln × List Value)}, (∀ q ∈ ps, ∃ x : Ln, x.1.length = q.1.1.length ∧ r.rd w' S' x q.2) → ∃ ps' : List (Ln × List Value), ps'.map (fun q => q.1.1.length) = ps.map (fun q => q.1.1.length) ∧ ps'.map Prod.snd = ps.map Prod.snd ∧ ∀ q ∈ ps', r.rd w' S' q.1 q.2
  | [], _ => ⟨[], rfl, rfl, fun _ h => by cases h⟩
  | q :: ps, h => by
    obtain ⟨x, h1, h2⟩ := h q List.mem_cons_self
    obtain ⟨ps', g1, g2, g3⟩ := lines_anew fun q hq => h q (List.mem_cons_of_mem _ hq)
    refine ⟨(x, q.2) :: ps', by rw [List.map_cons, List.map_cons, g1, h1], by rw [List.map_cons, List.map_cons, g2], fun p hp => ?_⟩
    rcases List.mem_cons.1 hp with rfl | hp
    · exact h2
    · exact g3 p hp
theorem flat_snd {α : Type} {ps ps' : List (α × List Value)} (h : ps'.map Prod.snd = ps.map Prod.snd) : ps'.flatMap Prod.snd = ps.flatMap Prod.snd := by
  have e : ∀ l : List (α × List Value), l.flatMap Prod.snd = (l.map Prod.snd).flatten := fun l => by simp [List.flatMap]
  rw [e, e, h]
/-- A text is written over: the row is still one of so many words each. -/
theorem jl_set {eW eL : TypeId} (hne : eW ≠ eL) {B : Nat} {sh : List Nat} {X : List Nat} {w : World} {sv : Value} {i k g' n' c' : Nat} (h : (VTy.jl eW eL B sh).holds X w sv) (hi : i < sh.length) (hr : jrow w sv i (.slice (some ⟨g', 0, none⟩) n' c')) (hk : k < n') (t : List UInt8) :
    (VTy.jl eW eL B sh).holds X (w.setCell ⟨g', k * 2, none⟩ (Tx t)) sv ∧ w.frozen? ⟨g', k * 2, none⟩ = false ∧ B ≤ g' ∧ g' ∉ X ∧ ∃ u, w.cell? ⟨g', k * 2, none⟩ = some u := by
  obtain ⟨ls, e, A, c, ps, rfl, e2, h3, h4, h5, h6⟩ := h
  obtain ⟨g, n, c0, e3, hcell⟩ := hr
  injection e3 with e3 e4 e5
  subst e3; subst e4; subst e5
  have hpl : ps.length = ls.length := by rw [← e2, List.length_map]
  have hil : i < ps.length := by rw [hpl]; rw [← e, List.length_map] at hi; exact hi
  obtain ⟨q, hq⟩ : ∃ q, ps[i]? = some q := ⟨_, List.getElem?_eq_getElem hil⟩
  obtain ⟨c1, c2, hq2, ⟨A', m, cc, rfl, hs, ho⟩, rfl⟩ := (h3 q (List.mem_of_getElem? hq)).2
  have hcell2 : w.cell? ⟨g, i * 2, none⟩ = some (.slice A' m cc) := by
    have hfg := flat_get (ps := ps) (fun q hq => (Rp.lo eW B).len (h3 q hq).2) hq (u := .slice A' m cc) (i := 0) (by rw [hq2]; rfl)
    have := World.ownsRow.cells h4 (g := g) rfl _ _ hfg
    rw [Addr.add_lit, show (Rp.lo eW B).k = 2 from rfl] at this
    simpa using this
  rw [hcell] at hcell2
  injection hcell2 with hcell2
  injection hcell2 with f1 f2 f3
  subst f1; subst f2; subst f3
  have hpos : 0 < n' := by omega
  obtain ⟨_, cur, hcur⟩ := ho g' 0 rfl hpos
  obtain ⟨b, o, f4, ⟨⟨hfr, csx, tx, fx, hx1, hx2⟩, hBg⟩, hcs⟩ := hs.2.2.2.2 hpos
  injection f4 with f4
  injection f4 with f4 f5 _
  subst f4; subst f5
  obtain ⟨curL, hcurL⟩ := h4.type (g := g) rfl
  have hgg : g ≠ g' := fun e => by
    subst e
    rw [hcur] at hcurL
    injection hcurL with hcurL
    injection hcurL with _ ht _
    exact hne ht
  have hfz : w.frozen? ⟨g', k * 2, none⟩ = false := by simp [World.frozen?, hcur]
  have hnewg : (w.setCell ⟨g', k * 2, none⟩ (Tx t)).heap[g']? = some (.cells (cur.setIfInBounds (k * 2) (Tx t)) eW (0, 0)) := heap_setCell_at _ hcur
  have hoth : ∀ b, b ≠ g' → (w.setCell ⟨g', k * 2, none⟩ (Tx t)).heap[b]? = w.heap[b]? := fun b hb => Below.heap_setCell _ _ _ _ hb
  have hsz : (w.setCell ⟨g', k * 2, none⟩ (Tx t)).heap.size = w.heap.size := by simp [World.setCell]
  -- each line anew, of the same cells
  have hline : ∀ y3 ∈ ps, ∃ x : Ln, x.1.length = y3.1.1.length ∧ (Rp.lo eW B).rd (w.setCell ⟨g', k * 2, none⟩ (Tx t)) (FreeK eL X (w.setCell ⟨g', k * 2, none⟩ (Tx t))) x y3.2 := by
    intro y3 hq
    obtain ⟨c1, c2, hz2, ⟨A', m, cc, rfl, hs3, ho3⟩, rfl⟩ := (h3 y3 hq).2
    have hS : ∀ b, (FreeK eL X w b ∧ B ≤ b) → FreeK eL X (w.setCell ⟨g', k * 2, none⟩ (Tx t)) b ∧ B ≤ b := fun b ⟨⟨f1, csx, tx, fx, f2, f3⟩, f4⟩ => by
      refine ⟨⟨⟨by rw [hsz]; exact f1.1, f1.2⟩, ?_⟩, f4⟩
      by_cases hb : b = g'
      · subst hb
        exact ⟨_, eW, _, hnewg, hne⟩
      · exact ⟨csx, tx, fx, (hoth b hb).trans f2, f3⟩
    by_cases hm0 : 0 < m
    · obtain ⟨b, o, rfl, hSb, hcs3⟩ := hs3.2.2.2.2 hm0
      obtain ⟨rfl, curb, hcurb⟩ := ho3 b o rfl hm0
      by_cases hb : b = g'
      · subst hb
        refine ⟨(y3.1.1.modify k (fun x => (t, x.2)), y3.1.2), by simp, [.slice (some ⟨b, 0, none⟩) m cc], [.int .i64 y3.1.2], hz2, ⟨_, m, cc, rfl, ⟨by rw [List.length_modify]; exact hs3.1, hs3.2.1, hs3.2.2.1, (fun h => by cases h), fun _ => ⟨b, 0, rfl, hS _ hSb, fun j y hj => ?_⟩⟩, fun b' o' e' _ => ?_⟩, rfl⟩
        · rw [List.getElem?_modify] at hj
          cases hy : y3.1.1[j]? with
          | none => rw [hy] at hj; cases hj
          | some y0 =>
            rw [hy] at hj
            obtain ⟨cs, k1, d1, d2, rfl, ⟨u, rfl, hu⟩, rfl⟩ := hcs3 j y0 hy
            have k1' := fun jj uu hh => k1 jj uu hh
            by_cases hjk : k = j
            · subst hjk
              have hy' : (t, y0.2) = y := by simpa using hj
              subst hy'
              refine ⟨[Tx t, .int .i64 y0.2], fun jj uu hh => ?_, wd_rd _ _⟩
              match jj, hh with
              | 0, hh =>
                have e0 : Tx t = uu := by simpa using hh
                subst e0
                refine cell_at hnewg ?_
                have hc0 := k1 0 (.string u) rfl
                have hlt : k * 2 < cur.size := by
                  simp only [World.cell?, hcur] at hc0
                  have hc0' : cur[k * 2]? = some (.string u) := by
                    rw [show 0 + k * Rp.wd.k + 0 = k * 2 by show 0 + k * 2 + 0 = k * 2; omega] at hc0
                    exact hc0
                  exact (Array.getElem?_eq_some_iff.1 hc0').1
                have e2 : 0 + k * Rp.wd.k + 0 = k * 2 := by show 0 + k * 2 + 0 = k * 2; omega
                rw [e2, Array.getElem?_setIfInBounds, if_pos rfl, if_pos hlt]
              | 1, hh =>
                have e0 : Value.int .i64 y0.2 = uu := by simpa using hh
                subst e0
                have hc1 := k1 1 (.int .i64 y0.2) rfl
                refine cell_at hnewg ?_
                have e2 : 0 + k * Rp.wd.k + 1 = k * 2 + 1 := by show 0 + k * 2 + 1 = k * 2 + 1; omega
                rw [e2] at hc1 ⊢
                rw [Array.getElem?_setIfInBounds, if_neg (by omega)]
                simpa [World.cell?, hcur] using hc1
              | jj + 2, hh => simp at hh
            · have hy' : y0 = y := by simpa [hjk] using hj
              subst hy'
              refine ⟨[.string u, .int .i64 y0.2], fun jj uu hh => ?_, [.string u], [.int .i64 y0.2], rfl, ⟨u, rfl, hu⟩, rfl⟩
              have hc := k1 jj uu hh
              have hjj : jj < 2 := (List.getElem?_eq_some_iff.1 hh).1
              refine cell_at hnewg ?_
              have e2 : 0 + j * Rp.wd.k + jj = j * 2 + jj := by show 0 + j * 2 + jj = j * 2 + jj; omega
              rw [e2] at hc ⊢
              rw [Array.getElem?_setIfInBounds, if_neg (by omega)]
              simpa [World.cell?, hcur] using hc
        · injection e' with e'
          injection e' with e1 e2 _
          subst e1
          exact ⟨e2.symm, _, hnewg⟩
      · refine ⟨y3.1, rfl, [.slice (some ⟨b, 0, none⟩) m cc], [.int .i64 y3.1.2], hz2, ⟨_, m, cc, rfl, ⟨hs3.1, hs3.2.1, hs3.2.2.1, (fun h => by cases h), fun _ => ⟨b, 0, rfl, hS _ hSb, fun j y hj => ?_⟩⟩, fun b' o' e' _ => ?_⟩, rfl⟩
        · obtain ⟨cs, k1, k2⟩ := hcs3 j y hj
          exact ⟨cs, rangeAt_keep k1 (hoth b hb), wd_any k2⟩
        · injection e' with e'
          injection e' with e1 e2 _
          subst e1
          exact ⟨e2.symm, curb, (hoth b hb).trans hcurb⟩
    · obtain rfl : m = 0 := by omega
      exact ⟨y3.1, rfl, [.slice A' 0 cc], [.int .i64 y3.1.2], hz2, ⟨A', 0, cc, rfl, ⟨hs3.1, hs3.2.1, hs3.2.2.1, hs3.2.2.2.1, fun h => absurd h (Nat.lt_irrefl _)⟩, fun _ _ _ h => absurd h (Nat.lt_irrefl _)⟩, rfl⟩
  obtain ⟨ps', hps1, hps2, hps3⟩ := lines_anew hline
  have hpl2 : ps'.length = ps.length := by have := congrArg List.length hps2; simpa only [List.length_map] using this
  refine ⟨⟨ps'.map Prod.fst, ?_, some ⟨g, 0, none⟩, c, ps', ?_, rfl, fun q hq => ⟨trivial, hps3 q hq⟩, ?_, fun b hb => ?_, fun h0 => ?_⟩, hfz, hBg, hfr.2, ?_⟩
  · rw [← e, ← e2, List.map_map, List.map_map]
    exact hps1
  · rw [List.length_map, hpl2, hpl]
  · have hlen2 : (ps'.map Prod.fst).length = ls.length := by rw [List.length_map, hpl2, hpl]
    rw [hlen2, flat_snd hps2]
    exact h4.same fun b hb => by
      have : g = b := by simpa [blk] using hb
      subst this
      exact hoth _ hgg
  · have := h5 b hb
    exact ⟨by rw [hsz]; exact this.1, this.2⟩
  · have h0' : ps' = [] := by simpa using h0
    have : ps.length = 0 := by rw [← hpl2, h0']; rfl
    omega
  · obtain ⟨y, hy⟩ : ∃ y, q.1.1[k]? = some y := ⟨_, List.getElem?_eq_getElem (by rw [hs.1]; exact hk)⟩
    obtain ⟨cs, k1, d1, d2, rfl, ⟨u, rfl, hu⟩, rfl⟩ := hcs k y hy
    have hc0 := k1 0 (.string u) rfl
    rw [show 0 + k * Rp.wd.k + 0 = k * 2 by show 0 + k * 2 + 0 = k * 2; omega] at hc0
    exact ⟨_, hc0⟩
theorem flat_set1 {α : Type} {ps : List (α × List Value)} (hl : ∀ q ∈ ps, q.2.length = 2) {j : Nat} {q : α × List Value} (hq : ps[j]? = some q) {x : α} {u v v' : Value} (hv : q.2 = [v, v']) : ((ps.flatMap Prod.snd).set (j * 2 + 1) u) = (ps.set j (x, [v, u])).flatMap Prod.snd := by
  induction ps generalizing j with
  | nil => cases hq
  | cons p ps ih =>
    cases j with
    | zero =>
      have e : p = q := by simpa using hq
      subst e
      simp [hv]
    | succ j =>
      have h0 := hl p List.mem_cons_self
      rw [List.flatMap_cons, List.set_cons_succ, List.flatMap_cons, List.set_append_right _ _ (by rw [h0]; omega), h0, show (j + 1) * 2 + 1 - 2 = j * 2 + 1 by omega, ih (fun q hq => hl q (List.mem_cons_of_mem _ hq)) (by simpa using hq)]
/-- A place is written over. -/
theorem jl_at {eW eL : TypeId} {B : Nat} {sh : List Nat} {X : List Nat} {w : World} {g n c i : Nat} (h : (VTy.jl eW eL B sh).holds X w (.slice (some ⟨g, 0, none⟩) n c)) (hi : i < sh.length) (z : Int) :
    (VTy.jl eW eL B sh).holds X (w.setCell ⟨g, i * 2 + 1, none⟩ (.int .i64 z)) (.slice (some ⟨g, 0, none⟩) n c) ∧ w.frozen? ⟨g, i * 2 + 1, none⟩ = false ∧ B ≤ g ∧ g ∉ X ∧ ∃ u, w.cell? ⟨g, i * 2 + 1, none⟩ = some u := by
  obtain ⟨ls, e, A, c0, ps, e1, e2, h3, h4, h5, h6⟩ := h
  injection e1 with f1 f2 f3
  subst f1; subst f2; subst f3
  have hpl : ps.length = ls.length := by rw [← e2, List.length_map]
  have hil : i < ps.length := by rw [hpl]; rw [← e, List.length_map] at hi; exact hi
  obtain ⟨q, hq⟩ : ∃ q, ps[i]? = some q := ⟨_, List.getElem?_eq_getElem hil⟩
  obtain ⟨c1, c2, hq2, ⟨A', m, cc, rfl, hs, ho⟩, rfl⟩ := (h3 q (List.mem_of_getElem? hq)).2
  obtain ⟨cur, hcur⟩ := h4.type (g := g) rfl
  have hlen : ∀ q ∈ ps, q.2.length = 2 := fun q hq => (Rp.lo eW B).len (h3 q hq).2
  have hfz : w.frozen? ⟨g, i * 2 + 1, none⟩ = false := by simp [World.frozen?, hcur]
  have hoth : ∀ b, b ≠ g → (w.setCell ⟨g, i * 2 + 1, none⟩ (.int .i64 z)).heap[b]? = w.heap[b]? := fun b hb => Below.heap_setCell _ _ _ _ hb
  have hsz : (w.setCell ⟨g, i * 2 + 1, none⟩ (.int .i64 z)).heap.size = w.heap.size := by simp [World.setCell]
  have hSg : ∀ b, FreeK eL X w b → b ≠ g := fun b ⟨_, csx, tx, fx, g1, g2⟩ eb => by
    subst eb
    rw [hcur] at g1
    injection g1 with g1
    injection g1 with _ g1 _
    exact g2 g1.symm
  have hmore : ∀ b, FreeK eL X w b → FreeK eL X (w.setCell ⟨g, i * 2 + 1, none⟩ (.int .i64 z)) b := fun b hb => by
    have hb' := hb
    obtain ⟨g1, csx, tx, fx, g2, g3⟩ := hb'
    exact ⟨⟨by rw [hsz]; exact g1.1, g1.2⟩, csx, tx, fx, (hoth b (hSg b hb)).trans g2, g3⟩
  have hup : ∀ {x : Ln} {cs : List Value}, (Rp.lo eW B).rd w (FreeK eL X w) x cs → (Rp.lo eW B).rd (w.setCell ⟨g, i * 2 + 1, none⟩ (.int .i64 z)) (FreeK eL X (w.setCell ⟨g, i * 2 + 1, none⟩ (.int .i64 z))) x cs := fun h => (Rp.lo eW B).more ((Rp.lo eW B).keep h fun b hb => hoth b (hSg b hb)) hmore
  have hown : OwnV (Rp.lo eW B).k eL (w.setCell ⟨g, i * 2 + 1, none⟩ (.int .i64 z)) B (some ⟨g, 0, none⟩) ls.length c ((ps.set i ((q.1.1, z), [.slice A' m cc, .int .i64 z])).flatMap Prod.snd) := by
    have hl := h4.len
    have h4' := h4.2
    have ek : (Rp.lo eW B).k = 2 := rfl
    have hsl : ((ps.set i ((q.1.1, z), [.slice A' m cc, .int .i64 z])).flatMap Prod.snd).length = (ps.flatMap Prod.snd).length := by
      rw [← flat_set1 hlen hq hq2, List.length_set]
    refine ⟨by rw [hsl]; exact hl, .inr ?_⟩
    rcases h4' with ⟨h4', _⟩ | ⟨g', cap, cur', k1, k2, k3, k4, k5, k6, k7⟩
    · cases h4'
    · injection k1 with k1 kn kc
      injection k1 with k1
      injection k1 with k1 _ _
      subst k1; subst kc
      refine ⟨g, c, cur'.setIfInBounds (i * 2 + 1) (.int .i64 z), rfl, k2, heap_setCell_at _ k3, k4, k5, by simp [k6], ?_⟩
      rw [Array.toList_setIfInBounds, List.take_set, k7]
      exact flat_set1 hlen hq hq2
  refine ⟨⟨(ps.set i ((q.1.1, z), [.slice A' m cc, .int .i64 z])).map Prod.fst, ?_, some ⟨g, 0, none⟩, c, ps.set i ((q.1.1, z), [.slice A' m cc, .int .i64 z]), ?_, rfl, fun p hp => ⟨trivial, ?_⟩, ?_, fun b hb => ?_, fun h0 => ?_⟩, hfz, (h4.blk_ g rfl).1, (h5 g rfl).2, ?_⟩
  · rw [← e, ← e2, List.map_map, List.map_map, List.map_set]
    have hmi : (ps.map ((fun x : Ln => x.1.length) ∘ Prod.fst))[i]? = some q.1.1.length := by rw [List.getElem?_map, hq]; rfl
    show (ps.map _).set i (q.1.1.length) = _
    apply List.ext_getElem?
    intro j
    rw [List.getElem?_set]
    by_cases hij : i = j
    · subst hij
      rw [if_pos rfl, if_pos (by rw [List.length_map]; exact hil), hmi]
    · rw [if_neg hij]
  · rw [List.length_map, List.length_set, hpl]
  · rcases List.mem_or_eq_of_mem_set hp with hp | rfl
    · exact hup (h3 p hp).2
    · refine hup ?_
      have := (h3 q (List.mem_of_getElem? hq)).2
      exact ⟨[.slice A' m cc], [.int .i64 z], rfl, ⟨A', m, cc, rfl, hs, ho⟩, rfl⟩
  · rw [List.length_map, List.length_set, hpl]; exact hown
  · have := h5 b hb
    exact ⟨by rw [hsz]; exact this.1, this.2⟩
  · have h0' : (ps.set i ((q.1.1, z), [.slice A' m cc, .int .i64 z])).length = 0 := by
      have := congrArg List.length h0
      simpa using this
    rw [List.length_set] at h0'
    omega
  · have hfg := flat_get (ps := ps) hlen hq (u := .int .i64 q.1.2) (i := 1) (by rw [hq2]; rfl)
    have := World.ownsRow.cells h4 (g := g) rfl _ _ hfg
    rw [Addr.add_lit] at this
    exact ⟨_, by simpa using this⟩
section
variable {P : Program} {w00 : World} {N : Nat} {L : List Loc} {E : List (Nat × VTy)} {d : Nat} {t0 : TypeId} {pos : String} {af : Array Edge} {gd : Option (Nat × Bool)} {sv : Value} {eW eL : TypeId} {B : Nat} {sh : List Nat}
theorem size_run {ty e : TypeId} {k : Nat} {w : World} (hs : (P.info? e).map (·.size) = some k) : (sizeOf e).run P w = .ok k w := by
  cases hq : P.info? e with
  | none => rw [hq] at hs; cases hs
  | some q =>
    rw [hq] at hs
    have : q.size = k := by simpa using hs
    simp [sizeOf, typeInfo, hq, this]
theorem st_lenJ {s k : Nat} {ty : TypeId} [ho : Look E s (.jls sv eW eL B sh)] [ht : SliceC P ty k] : StepT P w00 N L E ⟨some d, .call { callee := .builtin .len, args := #[.tmp s], argTypes := #[ty] }, t0, pos, af, gd⟩ (.is (.int .i64 sh.length)) := by
  constructor
  intro X ρ w hc _ hN hm hsl
  obtain ⟨e0, h⟩ := hsl _ ho.mem (by simp [Op.operands, Call.operands])
  obtain ⟨A, c, e1, _⟩ := jl_len h
  have e2 : ρ (.tmp s) = .slice A sh.length c := e0.trans e1
  obtain ⟨el, hu, _⟩ := ht.ok
  clear hc hsl ho ht hm e0 e1 h
  unfold Yields
  go_simp
  exact ⟨rfl, Below.refl _ _⟩
theorem st_idxJ {o oi : Operand} {ty : TypeId} {i : Nat} [ho : OpC E o (.jls sv eW eL B sh)] [hi : OpC E oi (.is (.int .i64 (i : Int)))] [ht : SliceC P ty 2] (hl : i < sh.length) : StepT P w00 N L E ⟨some d, .indexAddr ty o oi, t0, pos, af, gd⟩ (.jle sv eW eL B sh i 0) := by
  constructor
  intro X ρ w hc _ hN hm hsl
  obtain ⟨e0, h0⟩ := ho.get (X := X) (w := w) hc fun p hp e => hsl p hp (by simp [Op.operands, e])
  have e2 : ρ oi = .int .i64 i := hi.get (X := X) (w := w) hc fun p hp e => hsl p hp (by simp [Op.operands, e])
  obtain ⟨A, c, e1, hA⟩ := jl_len h0
  obtain ⟨g, rfl⟩ := hA (by omega)
  have e1' : ρ o = .slice (some ⟨g, 0, none⟩) sh.length c := e0.trans e1
  obtain ⟨el, hu, hs⟩ := ht.ok
  have hz := size_run (P := P) (ty := ty) (w := w) hs
  have hrun : (execOp ρ ⟨some d, .indexAddr ty o oi, t0, pos, af, gd⟩).run P w = .ok (.value (.pointer (some ⟨g, i * 2, none⟩))) w := by
    unfold execOp
    have hji : (0 : Int) ≤ (i : Int) ∧ (i : Int) < (sh.length : Int) := ⟨by omega, by omega⟩
    simp only [e1', e2, Instr.indexAt, asIntOf, Sem.run_bind, Sem.run_pure, Result.andThen_ok, run_underlying hu w, hji, and_self, if_true, hz, Int.toNat_natCast, Addr.add_mid, Nat.zero_add]
  unfold Yields
  rw [hrun]
  exact ⟨⟨⟨g, _, c, e1, rfl⟩, h0⟩, Below.refl _ _⟩
theorem st_fldJ {i fi fo k : Nat} {ag : Bool} {ty : TypeId} {s : Nat} [hs : Look E s (.jle sv eW eL B sh i 0)] [hf : FieldC P ty fi fo k ag] : StepT P w00 N L E ⟨some d, .fieldAddr ty (.tmp s) fi, t0, pos, af, gd⟩ (.jle sv eW eL B sh i fo) := by
  constructor
  intro X ρ w hc _ hN hm hsl
  obtain ⟨⟨g, m, c, e1, e2⟩, h0⟩ := hsl _ hs.mem (by simp [Op.operands])
  have e' : ρ (.tmp s) = .pointer (some ⟨g, i * 2, none⟩) := e2
  obtain ⟨fs, f, h1, h2, h3, h4, h5, _⟩ := hf.ok
  have hz := size_run (P := P) (ty := ty) (w := w) h4
  have hrun : (execOp ρ ⟨some d, .fieldAddr ty (.tmp s) fi, t0, pos, af, gd⟩).run P w = .ok (.value (.pointer (some ⟨g, i * 2 + fo, none⟩))) w := by
    unfold execOp
    simp only [e', Instr.fieldAt, Instr.sureAddr, fieldPlace, Sem.run_bind, Sem.run_pure, Result.andThen_ok, run_underlying h1 w, h2, hz, h5, if_false, h3, Addr.add_mid]
  unfold Yields
  rw [hrun]
  exact ⟨⟨⟨g, m, c, e1, rfl⟩, h0⟩, Below.refl _ _⟩
theorem load_one {ty : TypeId} [ht : TyC P ty 1 false] {s : Nat} {ρ : Operand → Value} {w : World} {b o : Nat} {u : Value} (e' : ρ (.tmp s) = .pointer (some ⟨b, o, none⟩)) (hcell : w.cell? ⟨b, o, none⟩ = some u) : (execOp ρ ⟨some d, .load ty (.tmp s), t0, pos, af, gd⟩).run P w = .ok (.value u) w := by
  obtain ⟨dd, hu, hd⟩ := ht.row
  have hag : (isAgg ty).run P w = .ok false w := by
    unfold isAgg
    rw [Sem.run_bind, run_underlying hu w]
    cases dd <;> first | rfl | cases hd
  unfold execOp
  simp only [e', Instr.loadAt, Instr.sureAddr, loadVar, Sem.run_bind, Sem.run_pure, Result.andThen_ok, hag, run_load, hcell, if_false, Bool.false_eq_true]
theorem st_ldJ {i m : Nat} {ty : TypeId} {s : Nat} [hs : Look E s (.jle sv eW eL B sh i 0)] [ht : TyC P ty 1 false] (hm' : sh[i]? = some m) : StepT P w00 N L E ⟨some d, .load ty (.tmp s), t0, pos, af, gd⟩ (.jw sv eW eL B sh i) := by
  constructor
  intro X ρ w hc _ hN hm hsl
  obtain ⟨⟨g, m', c, e1, e2⟩, h0⟩ := hsl _ hs.mem (by simp [Op.operands])
  obtain ⟨A, c', ⟨g2, n2, c2, e3, hcell⟩, _⟩ := jl_line h0 hm'
  rw [e1] at e3
  injection e3 with e3 _
  injection e3 with e3
  injection e3 with e3 _
  subst e3
  have hrun := load_one (P := P) (d := d) (t0 := t0) (pos := pos) (af := af) (gd := gd) (ty := ty) (ρ := ρ) (s := s) e2 hcell
  unfold Yields
  rw [hrun]
  exact ⟨⟨⟨g, _, _, e1, hcell⟩, h0⟩, Below.refl _ _⟩
theorem jrow_eq {w : World} {i : Nat} {u v : Value} (h : jrow w sv i u) (h' : jrow w sv i v) : u = v := by
  obtain ⟨g, n, c, e, hc⟩ := h
  obtain ⟨g', n', c', e', hc'⟩ := h'
  rw [e] at e'
  injection e' with e' _
  injection e' with e'
  injection e' with e' _
  subst e'
  rw [hc] at hc'
  injection hc'
theorem st_lenJW {i m s k : Nat} {ty : TypeId} [ho : Look E s (.jw sv eW eL B sh i)] [ht : SliceC P ty k] (hm' : sh[i]? = some m) : StepT P w00 N L E ⟨some d, .call { callee := .builtin .len, args := #[.tmp s], argTypes := #[ty] }, t0, pos, af, gd⟩ (.is (.int .i64 m)) := by
  constructor
  intro X ρ w hc _ hN hm hsl
  obtain ⟨e0, h⟩ := hsl _ ho.mem (by simp [Op.operands, Call.operands])
  obtain ⟨A, c, e1, _⟩ := jl_line h hm'
  have e2 : ρ (.tmp s) = .slice A m c := jrow_eq e0 e1
  obtain ⟨el, hu, _⟩ := ht.ok
  clear hc hsl ho ht hm e0 e1 h
  unfold Yields
  go_simp
  exact ⟨rfl, Below.refl _ _⟩
theorem st_idxJW {o oi : Operand} {ty : TypeId} {i m k : Nat} [ho : OpC E o (.jw sv eW eL B sh i)] [hi : OpC E oi (.is (.int .i64 (k : Int)))] [ht : SliceC P ty 2] (hm' : sh[i]? = some m) (hk : k < m) : StepT P w00 N L E ⟨some d, .indexAddr ty o oi, t0, pos, af, gd⟩ (.jwe sv eW eL B sh i k) := by
  constructor
  intro X ρ w hc _ hN hm hsl
  obtain ⟨e0, h0⟩ := ho.get (X := X) (w := w) hc fun p hp e => hsl p hp (by simp [Op.operands, e])
  have e2 : ρ oi = .int .i64 k := hi.get (X := X) (w := w) hc fun p hp e => hsl p hp (by simp [Op.operands, e])
  obtain ⟨A, c, e1, hA⟩ := jl_line h0 hm'
  obtain ⟨g, rfl⟩ := hA (by omega)
  have e1' : ρ o = .slice (some ⟨g, 0, none⟩) m c := jrow_eq e0 e1
  obtain ⟨el, hu, hs⟩ := ht.ok
  have hz := size_run (P := P) (ty := ty) (w := w) hs
  have hrun : (execOp ρ ⟨some d, .indexAddr ty o oi, t0, pos, af, gd⟩).run P w = .ok (.value (.pointer (some ⟨g, k * 2, none⟩))) w := by
    unfold execOp
    have hji : (0 : Int) ≤ (k : Int) ∧ (k : Int) < (m : Int) := ⟨by omega, by omega⟩
    simp only [e1', e2, Instr.indexAt, asIntOf, Sem.run_bind, Sem.run_pure, Result.andThen_ok, run_underlying hu w, hji, and_self, if_true, hz, Int.toNat_natCast, Addr.add_mid, Nat.zero_add]
  unfold Yields
  rw [hrun]
  exact ⟨⟨⟨g, _, c, e1, hk, rfl⟩, h0⟩, Below.refl _ _⟩
theorem st_fldJW {i k k2 : Nat} {ag : Bool} {ty : TypeId} {s : Nat} [hs : Look E s (.jwe sv eW eL B sh i k)] [hf : FieldC P ty 0 0 k2 ag] : StepT P w00 N L E ⟨some d, .fieldAddr ty (.tmp s) 0, t0, pos, af, gd⟩ (.jwe sv eW eL B sh i k) := by
  constructor
  intro X ρ w hc _ hN hm hsl
  obtain ⟨⟨g, m, c, e1, hk, e2⟩, h0⟩ := hsl _ hs.mem (by simp [Op.operands])
  have e' : ρ (.tmp s) = .pointer (some ⟨g, k * 2, none⟩) := e2
  obtain ⟨fs, f, h1, h2, h3, h4, h5, _⟩ := hf.ok
  have hz := size_run (P := P) (ty := ty) (w := w) h4
  have hrun : (execOp ρ ⟨some d, .fieldAddr ty (.tmp s) 0, t0, pos, af, gd⟩).run P w = .ok (.value (.pointer (some ⟨g, k * 2, none⟩))) w := by
    unfold execOp
    simp only [e', Instr.fieldAt, Instr.sureAddr, fieldPlace, Sem.run_bind, Sem.run_pure, Result.andThen_ok, run_underlying h1 w, h2, hz, h5, if_false, h3, Addr.add_mid, Nat.add_zero]
  unfold Yields
  rw [hrun]
  exact ⟨⟨⟨g, m, c, e1, hk, rfl⟩, h0⟩, Below.refl _ _⟩
end
section
variable {P : Program} {w00 : World} {X : List Nat} {L : List Loc} {E E0 : List (Nat × VTy)} {n : Nat} {ops : Array Oper} {rest : List Oper} {Q : Exit → Act → World → Prop} {cs : List Code} {t0 : TypeId} {pos : String} {af : Array Edge} {sv : Value} {eW eL : TypeId} {B : Nat} {sh : List Nat}
theorem TS.nam {s : Nat} {a : Act} {w : World} (h : TS w00 X L ((s, .jl eW eL B sh) :: E) n a w) : TS w00 X L ((s, .jls (a.tmps.getD s undef) eW eL B sh) :: E) n a w := ⟨h.size, h.df, fun p hp => by
  rcases List.mem_cons.1 hp with rfl | hp
  · exact ⟨rfl, h.slots _ List.mem_cons_self⟩
  · exact h.slots p (List.mem_cons_of_mem _ hp), h.mem⟩
theorem set_wp {ty : TypeId} [hty : TyC P ty 1 false] {s : Nat} {o : Operand} {v u : Value} {g j : Nat} {w : World} {a : Act} {K : Act → World → Prop} (h1 : v.oneCell' = true) (e1 : a.eval (.tmp s) = .pointer (some ⟨g, j, none⟩)) (e2 : a.eval o = v) (hcell : w.cell? ⟨g, j, none⟩ = some u) (hfz : w.frozen? ⟨g, j, none⟩ = false) (h : K a (w.setCell ⟨g, j, none⟩ v)) :
    Oper.wp P ⟨none, .store ty (.tmp s) o, t0, pos, af, none⟩ a w K Q := by
  have hi := hty.size
  have hadd : (⟨g, j, none⟩ : Addr).add 0 = ⟨g, j, none⟩ := by rw [Addr.add_lit]; rfl
  have hst : (store ((⟨g, j, none⟩ : Addr).add 0) v).run P w = .ok () (w.setCell ⟨g, j, none⟩ v) := by
    rw [hadd, run_store P w _ v _ h1, hcell]
    simp [hfz]
  have hcl : v.cells = #[v] := cells_one h1
  have hsv : (storeVar ty ⟨g, j, none⟩ v).run P w = .ok () (w.setCell ⟨g, j, none⟩ v) := by
    cases hq : P.info? ty with
    | none => simp [hq] at hi
    | some q =>
      have hs : q.size = 1 := by simpa [hq] using hi
      simp [storeVar, sizeOf, typeInfo, hq, hcl, hs, storeCells, hst]
  unfold Oper.wp execOp
  simp only [e1, e2, Instr.storeAt, Instr.sureAddr, Sem.run_bind, Sem.run_pure, Result.andThen_ok, hsv]
  exact h
theorem set_ch {g j : Nat} {v : Value} {w : World} (hB : B ≤ g) (hX : g ∉ X) : Ch B X w (w.setCell ⟨g, j, none⟩ v) := ⟨rfl, rfl, rfl, by simp [World.setCell], fun b hb => by
  by_cases hbg : b = g
  · exact .inr ⟨by rw [hbg]; exact hB, by rw [hbg]; exact hX⟩
  · exact .inl (Below.heap_setCell _ _ _ _ hbg)⟩
theorem g_setT {ty : TypeId} {s s7 i k m : Nat} {o : Operand} {t : List UInt8} (ss : List Nat) (hne : eW ≠ eL) (hB0 : w00.heap.size ≤ B) (hm : sh[i]? = some m) [hs : Look E s (.jwe sv eW eL B sh i k)] [ho : OpC E o (.is (Tx t))] [h7 : Look E s7 (.jls sv eW eL B sh)] [kk : KeepC E ss E0] [kE : SurvUL B E0] [hty : TyC P ty 1 false]
    (h : GR P w00 X [] ((s7, .jls sv eW eL B sh) :: E0) n ops rest cs Q) : GR P w00 X [] E n ops (⟨none, .store ty (.tmp s) o, t0, pos, af, none⟩ :: rest) cs Q := ⟨fun a w ht => by
  refine wpList_run rfl ?_
  obtain ⟨⟨g, n', c', hr, hk, e1⟩, h0⟩ := ht.slots _ hs.mem
  have e2 : a.eval o = Tx t := ho.get (X := X) (w := w) (fun _ => rfl) fun p hp _ => ht.slots p hp
  obtain ⟨h1, hfz, hB, hgX, u, hcell⟩ := jl_set hne h0 (List.getElem?_eq_some_iff.1 hm).1 hr hk t
  refine set_wp (v := Tx t) rfl e1 e2 hcell hfz ?_
  have h5 := (ht.keep (E' := E0) ss).ch (set_ch (v := Tx t) (j := k * 2) hB hgX) hB0
  refine h.run _ _ ⟨h5.size, h5.df, fun p hp => ?_, h5.mem⟩
  rcases List.mem_cons.1 hp with rfl | hp
  · exact ⟨(ht.slots _ h7.mem).1, h1⟩
  · exact h5.slots p hp⟩
theorem g_setA {ty : TypeId} {s s7 i m : Nat} {o : Operand} {z : Int} (ss : List Nat) (hB0 : w00.heap.size ≤ B) (hm : sh[i]? = some m) [hs : Look E s (.jle sv eW eL B sh i 1)] [ho : OpC E o (.is (.int .i64 z))] [h7 : Look E s7 (.jls sv eW eL B sh)] [kk : KeepC E ss E0] [kE : SurvUL B E0] [hty : TyC P ty 1 false]
    (h : GR P w00 X [] ((s7, .jls sv eW eL B sh) :: E0) n ops rest cs Q) : GR P w00 X [] E n ops (⟨none, .store ty (.tmp s) o, t0, pos, af, none⟩ :: rest) cs Q := ⟨fun a w ht => by
  refine wpList_run rfl ?_
  obtain ⟨⟨g, n', c', hsv, e1⟩, h0⟩ := ht.slots _ hs.mem
  subst hsv
  have e2 : a.eval o = .int .i64 z := ho.get (X := X) (w := w) (fun _ => rfl) fun p hp _ => ht.slots p hp
  obtain ⟨h1, hfz, hB, hgX, u, hcell⟩ := jl_at h0 (List.getElem?_eq_some_iff.1 hm).1 z
  refine set_wp (v := .int .i64 z) rfl e1 e2 hcell hfz ?_
  have h5 := (ht.keep (E' := E0) ss).ch (set_ch (v := .int .i64 z) (j := i * 2 + 1) hB hgX) hB0
  refine h.run _ _ ⟨h5.size, h5.df, fun p hp => ?_, h5.mem⟩
  rcases List.mem_cons.1 hp with rfl | hp
  · exact ⟨(ht.slots _ h7.mem).1, h1⟩
  · exact h5.slots p hp⟩
/-- A call whose answer is known to be new from B on. -/
theorem g_cu {G : World → Prop} {f : FuncId} {s : Nat} {os : List Operand} {ks : List Nat} {As : List VTy} {T : Nat → VTy} {ats : Array TypeId} [k : OpsK E os ks As] [sg : StabG G] (hG : G w00) (h : Ctr P G f ks As T) (hsz : ∀ a w, TS w00 X L E n a w → B ≤ w.heap.size) (hd : (Nat.blt s n && !(E.map Prod.fst).elem s) = true)
    (next : GR P w00 X L ((s, T B) :: E) n ops rest cs Q) : GR P w00 X L E n ops (⟨some s, .call { callee := .value (.func f), args := os.toArray, argTypes := ats }, t0, pos, af, none⟩ :: rest) cs Q := ⟨fun a w ht => by
  refine wpList_run rfl ?_
  have e2 := k.get (X := X) (w := w) (ρ := a.eval) (fun _ => rfl) (fun _ => rfl) fun q hq _ => ht.slots q hq
  have hc := h.run (sg.stab hG ht.mem.below) ht.mem.far e2
  have hr : ∀ ρ : Operand → Value, ρ (.func f) = .func (.func f) #[] #[] → (execOp ρ ⟨some s, .call { callee := .value (.func f), args := os.toArray, argTypes := ats }, t0, pos, af, none⟩).run P w = .ok (.enter f (os.map ρ).toArray) w := by
    intro ρ hff
    have hen := h.ent
    clear hc e2 k next
    go_simp
    exact hen _ _
  have hr := hr a.eval rfl
  unfold Oper.wp
  rw [hr]
  refine hc.mono ?_
  rintro e w' ⟨v, rfl, hT, hb⟩
  simp only [Bool.and_eq_true, Bool.not_eq_true'] at hd
  exact next.run _ _ (ht.new hd.2 (by rw [← Nat.blt_eq]; exact hd.1) (h.down (hsz a w ht) hT) hb)⟩
end
theorem eqA_refl {α : Type} {f : α → α → Bool} (h : ∀ x, f x x = true) : ∀ l : List α, eqA f l l = true
  | [] => rfl
  | x :: l => by show (f x x && eqA f l l) = true; rw [h, eqA_refl h l]; rfl
theorem sameB_refl (p : Bool) (l : List Ln) : sameB p l l = true := eqA_refl (fun x => by
  have hw : ∀ w : Wd, sameW p w w = true := fun w => by unfold sameW; rw [beq_self_eq_true, beq_self_eq_true]; cases p <;> rfl
  unfold sameL
  rw [eqA_refl hw, beq_self_eq_true]
  cases p <;> rfl) l
/-- How many lines, and words, there may be. -/
theorem ls_bound {ls : List Ln} {n : Nat} (h1 : (txs ls).all lok = true) (h2 : wl (txs ls) ≤ n) : wl (txs ls) + ls.length ≤ n + n ∧ ls.length ≤ n ∧ ∀ x ∈ ls, x.1.length ≤ n := by
  have hl : ls.length ≤ wl (txs ls) := by
    have : ∀ m : List Ln, (txs m).all lok = true → m.length ≤ wl (txs m) := by
      intro m
      induction m with
      | nil => intro _; exact Nat.zero_le _
      | cons x m ih =>
        intro h
        have h' : lok (txw x.1) = true ∧ (txs m).all lok = true := by simpa [txs] using h
        have := ih h'.2
        have e : wl (txs (x :: m)) = ww (txw x.1) + wl (txs m) := by simp [wl, txs]
        have hne : x.1 ≠ [] := fun e0 => by have := h'.1; rw [e0] at this; cases this
        have h1 : 0 < x.1.length := by
          cases hx : x.1 with
          | nil => exact absurd hx hne
          | cons => simp
        have := ww_count x.1
        rw [e, List.length_cons]
        omega
    exact this ls h1
  refine ⟨by omega, by omega, fun x hx => ?_⟩
  obtain ⟨i, hi⟩ := List.mem_iff_getElem?.1 hx
  have := ww_at hi
  have := ww_count x.1
  omega
theorem lexR_ok (s : List UInt8) : (txs (lexR s).1).all lok = true ∧ wl (txs (lexR s).1) ≤ s.length + 1 ∧ wl (txs (lexR s).1) ≤ 65537 := by
  unfold lexR
  cases h : decide (65536 < s.length) with
  | true => exact ⟨rfl, Nat.zero_le _, Nat.zero_le _⟩
  | false =>
    have h1 := lx_ok s 0 [] [] 0 false false rfl rfl
    have h2 := lx_len s 0 [] [] 0 false false
    have h3 := of_decide_eq_false h
    have e1 : wl (txs []) = 0 := rfl
    have e2 : ww (txw []) = 0 := rfl
    rw [e1, e2] at h2
    simp only [cond_false] at *
    exact ⟨h1, by omega, by omega⟩
section
variable {w00 : World} {N : Nat} {L : List Loc} {E : List (Nat × VTy)} {d : Nat} {t0 : TypeId} {pos : String} {af : Array Edge} {gd : Option (Nat × Bool)} {ats : Array TypeId}
theorem st_beq7 {o0 o1 : Operand} {x y u : Bool} {t1 : TypeId} [h0 : OpC E o0 (.is (.bool x))] [h1 : OpC E o1 (.is (.bool y))] (hu : (x == y) = u)   : StepT Try.prog w00 N L E ⟨some d, .binOp .eql 4 o0 o1 t1, t0, pos, af, gd⟩ (.is (.bool u)) := by
  constructor
  intro X ρ w hc _ hN hm hsl
  have e0 : ρ o0 = .bool x := h0.get (X := X) (w := w) hc fun p hp e => hsl p hp (by simp [Op.operands, e])
  have e1 : ρ o1 = .bool y := h1.get (X := X) (w := w) hc fun p hp e => hsl p hp (by simp [Op.operands, e])
  clear hc hsl h0 h1
  subst hu
  unfold Yields
  go_simp
  exact ⟨rfl, Below.refl _ _⟩
end
set_option maxRecDepth 20000 in
set_option maxHeartbeats 4000000 in
set_option synthInstance.maxSize 4000 in
set_option synthInstance.maxHeartbeats 400000 in
theorem l7_lines0 {s : List UInt8} (h1 : decide ((1000 : Int) < (s.length : Int)) = true) (h2 : decide ((s.length : Int) ≤ 65536) = true) : Ctr Try.prog S1 3 [0] [.is (Tx s)] (fun _ => .is (.bool true)) := by
  refine ctr Try.func3 rfl Try.ntmps3 (by simp) (fun _ _ => by kernel_rfl) fun X w hE => ?_
  simp only [argE, Nat.zero_add, Nat.reduceAdd]
  repeat' first|kernel_rfl|apply g_seq|apply g_reg|apply g_nil|apply g_box|apply g_all|apply g_stf|apply g_stw|apply g_sto|apply g_asg|refine g_run rfl inferInstance (by first|exact sc trivial c7_works|exact st_slen|exact st_sne (by first|assumption|rfl)|exact st_move'|exact st_not' (b := true) (u := false) rfl|exact st_not' (b := false) (u := true) rfl|exact st_not' rfl|exact st_neq' (by first|assumption|rfl)|exact st_leq' (by first|assumption|rfl)|exact st_len') (by kernel_rfl) ?_|refine g_sk rfl inferInstance rfl (by kernel_rfl) ?_|refine g_un rfl inferInstance (by kernel_rfl) ?_|apply g_st|apply g_skip|apply g_ct|apply g_cf|apply g_ret|refine r_1 rfl ?_|apply g_blk|apply g_eb|apply g_ex|apply e_t|apply e_h|refine e_o rfl ?_|apply r_t|apply r_b|apply g_cl|exact sc trivial c7_works|exact st_sadd (by assumption)|exact st_slen|exact st_seq (by first|assumption|rfl)|exact st_sne (by first|assumption|rfl)|exact st_add' (by assumption)|exact st_move'|exact st_assign'|exact st_load'|exact st_fieldAddr'|exact st_extract'|exact st_and_t'|exact st_and_f'|exact st_or_f'|exact st_or_t'|exact st_not' (b := true) (u := false) rfl|exact st_not' (b := false) (u := true) rfl|exact st_not' rfl|exact st_eq' (by first|assumption|rfl)|exact st_neq' (by first|assumption|rfl)|exact st_lss' (by first|assumption|rfl)|exact st_leq' (by first|assumption|rfl)|exact st_gtr' (by first|assumption|rfl)|exact st_len'|exact st_indexAddr' (by assumption)|exact st_loadE'|exact Cv.rfl'|intro _
set_option maxRecDepth 20000 in
set_option maxHeartbeats 4000000 in
set_option synthInstance.maxSize 4000 in
set_option synthInstance.maxHeartbeats 400000 in
theorem l7_lines1 {s : List UInt8} (hl : s.length ≤ 9223372036854775807) (h1 : decide ((1000 : Int) < (s.length : Int)) = false) : Ctr Try.prog S1 3 [0] [.is (Tx s)] (fun _ => .is (.bool true)) := by
  have hi1 := c_is hl
  have hi7 := c7_is hl
  clear hl
  have hl := c_lines (s := s)
  have h7 := c7_lines (s := s)
  obtain ⟨hb1, _, hb2⟩ := lexR_ok s
  have hbd := ls_bound hb1 hb2
  clear hb1 hb2
  generalize lexR s = R at *
  obtain ⟨ls, m, e⟩ := R
  simp only at hl h7 hbd
  have hr := c7_ref (l := ls) ⟨by omega, fun x hx => by have := hbd.2.2 x hx; omega⟩
  have hsm := cL_same (l := ls) (m := ls) (p := true)
  rw [sameB_refl] at hsm
  have hm : (m != m) = false := bne_self_eq_false m
  have he : (e != e) = false := bne_self_eq_false e
  have hbe : (isWd s == isWd s) = true := beq_self_eq_true _
  refine ctr Try.func3 rfl Try.ntmps3 (by simp) (fun _ _ => by kernel_rfl) fun X w0 hE => ?_
  simp only [argE, Nat.zero_add, Nat.reduceAdd]
  repeat' first|kernel_rfl|apply g_seq|apply g_reg|apply g_nil|apply g_box|apply g_all|apply g_stf|apply g_stw|apply g_sto|apply g_asg|refine g_run rfl inferInstance (by first|exact sc trivial h7|exact sc trivial hr|exact sc trivial hsm|exact sc trivial c7_works|exact sc trivial hi1|exact sc trivial hi7|exact st_lenJ|exact st_lenJW (by assumption)|exact st_slen|exact st_sne (by first|assumption|rfl)|exact st_move'|exact st_not' (b := true) (u := false) rfl|exact st_not' (b := false) (u := true) rfl|exact st_not' rfl|exact st_neq' (by first|assumption|rfl)|exact st_leq' (by first|assumption|rfl)|exact st_len') (by kernel_rfl) ?_|refine g_sk rfl inferInstance rfl (by kernel_rfl) ?_|refine g_un rfl inferInstance (by kernel_rfl) ?_|apply g_st|apply g_skip|apply g_ct|apply g_cf|apply g_ret|refine r_1 rfl ?_|apply g_blk|apply g_eb|apply g_ex|apply e_t|apply e_h|refine e_o rfl ?_|apply r_t|apply r_b|apply g_cl|exact sc trivial h7|exact sc trivial hr|exact sc trivial hsm|exact sc trivial c7_works|exact sc trivial hi1|exact sc trivial hi7|exact st_beq7 hbe|exact st_lenJ|exact st_idxJ (by assumption)|exact st_fldJ|exact st_ldJ (by assumption)|exact st_lenJW (by assumption)|exact st_idxJW (by assumption) (by assumption)|exact st_fldJW|exact st_sadd (by assumption)|exact st_slen|exact st_seq (by first|assumption|rfl)|exact st_sne (by first|assumption|rfl)|exact st_add' (by assumption)|exact st_move'|exact st_assign'|exact st_load'|exact st_fieldAddr'|exact st_extract'|exact st_and_t'|exact st_and_f'|exact st_or_f'|exact st_or_t'|exact st_not' (b := true) (u := false) rfl|exact st_not' (b := false) (u := true) rfl|exact st_not' rfl|exact st_eq' (by first|assumption|rfl)|exact st_neq' (by first|assumption|rfl)|exact st_lss' (by first|assumption|rfl)|exact st_leq' (by first|assumption|rfl)|exact st_gtr' (by first|assumption|rfl)|exact st_len'|exact st_indexAddr' (by assumption)|exact st_loadE'|exact Cv.rfl'|intro _
  refine g_stop fun a w h => ?_
  refine cw_loop (fun k a u => ∃ t : Nat, t + k = 2 ∧ TS w0 X [] [(6, .is (.int .i64 (t : Int))), (3, .ow (Rp.lo 44 w0.heap.size) 47 tt w0.heap.size ls), (4, .is (.int .i64 m)), (5, .is (.int .i64 e)), (0, .is (Tx s))] 88 a u) 2 ⟨0, rfl, h.keep [6, 3, 4, 5, 0]⟩ ?_
  clear h
  rintro k a u ⟨t, ht, h⟩
  by_cases hlt : t < 2
  · have hc : decide ((t : Int) < 2) = true := decide_eq_true (by omega)
    have hw : IntKind.i64.wrap ((t : Int) + 1) = ((t + 1 : Nat) : Int) := i64_small (by omega) (by omega)
    replace h := (h.keep [3, 6, 4, 5, 0]).ageE
    obtain ⟨B, hBe⟩ : ∃ B, B = u.heap.size := ⟨_, rfl⟩
    have hB0 : w0.heap.size ≤ B := by rw [hBe]; exact h.mem.below.size
    rw [← hBe] at h
    clear hBe
    refine g_of h ?_
    clear h
    repeat' first|kernel_rfl|(refine g_cu (B := B) trivial hl (fun _ _ ht => und_size ht (Look.mem (s := 3))) (by kernel_rfl) ?_)|apply g_seq|apply g_reg|apply g_nil|apply g_box|apply g_all|apply g_stf|apply g_stw|apply g_sto|apply g_asg|refine g_run rfl inferInstance (by first|exact sc trivial h7|exact sc trivial hr|exact sc trivial hsm|exact sc trivial c7_works|exact sc trivial hi1|exact sc trivial hi7|exact st_lenJ|exact st_lenJW (by assumption)|exact st_slen|exact st_sne (by first|assumption|rfl)|exact st_move'|exact st_not' (b := true) (u := false) rfl|exact st_not' (b := false) (u := true) rfl|exact st_not' rfl|exact st_neq' (by first|assumption|rfl)|exact st_leq' (by first|assumption|rfl)|exact st_len') (by kernel_rfl) ?_|refine g_sk rfl inferInstance rfl (by kernel_rfl) ?_|refine g_un rfl inferInstance (by kernel_rfl) ?_|apply g_st|apply g_skip|apply g_ct|apply g_cf|apply g_ret|refine r_1 rfl ?_|apply g_blk|apply g_eb|apply g_ex|apply e_t|apply e_h|refine e_o rfl ?_|apply r_t|apply r_b|apply g_cl|exact sc trivial h7|exact sc trivial hr|exact sc trivial hsm|exact sc trivial c7_works|exact sc trivial hi1|exact sc trivial hi7|exact st_beq7 hbe|exact st_lenJ|exact st_idxJ (by assumption)|exact st_fldJ|exact st_ldJ (by assumption)|exact st_lenJW (by assumption)|exact st_idxJW (by assumption) (by assumption)|exact st_fldJW|exact st_sadd (by assumption)|exact st_slen|exact st_seq (by first|assumption|rfl)|exact st_sne (by first|assumption|rfl)|exact st_add' (by assumption)|exact st_move'|exact st_assign'|exact st_load'|exact st_fieldAddr'|exact st_extract'|exact st_and_t'|exact st_and_f'|exact st_or_f'|exact st_or_t'|exact st_not' (b := true) (u := false) rfl|exact st_not' (b := false) (u := true) rfl|exact st_not' rfl|exact st_eq' (by first|assumption|rfl)|exact st_neq' (by first|assumption|rfl)|exact st_lss' (by first|assumption|rfl)|exact st_leq' (by first|assumption|rfl)|exact st_gtr' (by first|assumption|rfl)|exact st_len'|exact st_indexAddr' (by assumption)|exact st_loadE'|exact Cv.rfl'|intro _
    refine g_stop fun a w h => ?_
    replace h := ((h.keep [7, 10, 3, 6, 4, 5, 0]).cast (T' := .jl 36 34 B (ls.map fun x => x.1.length)) (fun _ _ _ h => ⟨ls, rfl, h⟩)).nam
    generalize Array.getD _ 7 undef = sv at h
    have hshl : (ls.map fun x => x.1.length).length ≤ 1000000 := by rw [List.length_map]; omega
    have hshm : ∀ y ∈ (ls.map fun x => x.1.length), y ≤ 1000000 := fun y hy => by
      obtain ⟨x, hx, rfl⟩ := List.mem_map.1 hy
      have := hbd.2.2 x hx
      omega
    generalize (ls.map fun x => x.1.length) = sh at *
    refine cw_loop (fun k a u => ∃ i : Nat, i + k = sh.length ∧ TS w0 X [] [(7, .jls sv 36 34 B sh), (10, .is (.int .i64 (i : Int))), (3, .und B (.ow (Rp.lo 44 w0.heap.size) 47 tt w0.heap.size ls)), (6, .is (.int .i64 (t : Int))), (4, .is (.int .i64 m)), (5, .is (.int .i64 e)), (0, .is (Tx s))] 88 a u) sh.length ⟨0, by omega, h⟩ ?_
    clear h
    rintro k' a u ⟨i, hi, h⟩
    by_cases hil : i < sh.length
    · obtain ⟨mi, hmi⟩ : ∃ mi, sh[i]? = some mi := ⟨_, List.getElem?_eq_getElem hil⟩
      have hc2 : decide ((i : Int) < (sh.length : Int)) = true := decide_eq_true (by omega)
      have hw2 : IntKind.i64.wrap ((i : Int) + 1) = ((i + 1 : Nat) : Int) := i64_small (by omega) (by omega)
      have hmm := hshm mi (List.mem_of_getElem? hmi)
      refine g_of h ?_
      clear h
      repeat' first|kernel_rfl|apply g_seq|apply g_reg|apply g_nil|apply g_box|apply g_all|apply g_stf|apply g_stw|apply g_sto|apply g_asg|refine g_run rfl inferInstance (by first|exact sc trivial h7|exact sc trivial hr|exact sc trivial hsm|exact sc trivial c7_works|exact sc trivial hi1|exact sc trivial hi7|exact st_lenJ|exact st_lenJW (by assumption)|exact st_slen|exact st_sne (by first|assumption|rfl)|exact st_move'|exact st_not' (b := true) (u := false) rfl|exact st_not' (b := false) (u := true) rfl|exact st_not' rfl|exact st_neq' (by first|assumption|rfl)|exact st_leq' (by first|assumption|rfl)|exact st_len') (by kernel_rfl) ?_|refine g_sk rfl inferInstance rfl (by kernel_rfl) ?_|refine g_un rfl inferInstance (by kernel_rfl) ?_|apply g_st|apply g_skip|apply g_ct|apply g_cf|apply g_ret|refine r_1 rfl ?_|apply g_blk|apply g_eb|apply g_ex|apply e_t|apply e_h|refine e_o rfl ?_|apply r_t|apply r_b|apply g_cl|exact sc trivial h7|exact sc trivial hr|exact sc trivial hsm|exact sc trivial c7_works|exact sc trivial hi1|exact sc trivial hi7|exact st_beq7 hbe|exact st_lenJ|exact st_idxJ (by assumption)|exact st_fldJ|exact st_ldJ (by assumption)|exact st_lenJW (by assumption)|exact st_idxJW (by assumption) (by assumption)|exact st_fldJW|exact st_sadd (by assumption)|exact st_slen|exact st_seq (by first|assumption|rfl)|exact st_sne (by first|assumption|rfl)|exact st_add' (by assumption)|exact st_move'|exact st_assign'|exact st_load'|exact st_fieldAddr'|exact st_extract'|exact st_and_t'|exact st_and_f'|exact st_or_f'|exact st_or_t'|exact st_not' (b := true) (u := false) rfl|exact st_not' (b := false) (u := true) rfl|exact st_not' rfl|exact st_eq' (by first|assumption|rfl)|exact st_neq' (by first|assumption|rfl)|exact st_lss' (by first|assumption|rfl)|exact st_leq' (by first|assumption|rfl)|exact st_gtr' (by first|assumption|rfl)|exact st_len'|exact st_indexAddr' (by assumption)|exact st_loadE'|exact Cv.rfl'|intro _
      refine g_stop fun a w h => ?_
      refine cw_loop (fun k a u => ∃ j : Nat, j + k = mi ∧ TS w0 X [] [(7, .jls sv 36 34 B sh), (11, .is (.int .i64 (j : Int))), (10, .is (.int .i64 (i : Int))), (3, .und B (.ow (Rp.lo 44 w0.heap.size) 47 tt w0.heap.size ls)), (6, .is (.int .i64 (t : Int))), (4, .is (.int .i64 m)), (5, .is (.int .i64 e)), (0, .is (Tx s))] 88 a u) mi ⟨0, by omega, h.keep [7, 11, 10, 3, 6, 4, 5, 0]⟩ ?_
      clear h
      rintro k2 a u ⟨j, hj, h⟩
      by_cases hjl : j < mi
      · have hc3 : decide ((j : Int) < (mi : Int)) = true := decide_eq_true (by omega)
        have hw3 : IntKind.i64.wrap ((j : Int) + 1) = ((j + 1 : Nat) : Int) := i64_small (by omega) (by omega)
        refine g_of h ?_
        clear h
        repeat' first|kernel_rfl|(refine g_setT (s7 := 7) [11, 10, 3, 6, 4, 5, 0] (by decide) hB0 hmi ?_)|exact g_done fun _ _ h=>⟨k2 - 1, by omega, j + 1, by omega, h.keep [7, 11, 10, 3, 6, 4, 5, 0]⟩|apply g_seq|apply g_reg|apply g_nil|apply g_box|apply g_all|apply g_stf|apply g_stw|apply g_sto|apply g_asg|refine g_run rfl inferInstance (by first|exact sc trivial h7|exact sc trivial hr|exact sc trivial hsm|exact sc trivial c7_works|exact sc trivial hi1|exact sc trivial hi7|exact st_lenJ|exact st_lenJW (by assumption)|exact st_slen|exact st_sne (by first|assumption|rfl)|exact st_move'|exact st_not' (b := true) (u := false) rfl|exact st_not' (b := false) (u := true) rfl|exact st_not' rfl|exact st_neq' (by first|assumption|rfl)|exact st_leq' (by first|assumption|rfl)|exact st_len') (by kernel_rfl) ?_|refine g_sk rfl inferInstance rfl (by kernel_rfl) ?_|refine g_un rfl inferInstance (by kernel_rfl) ?_|apply g_st|apply g_skip|apply g_ct|apply g_cf|apply g_ret|refine r_1 rfl ?_|apply g_blk|apply g_eb|apply g_ex|apply e_t|apply e_h|refine e_o rfl ?_|apply r_t|apply r_b|apply g_cl|exact sc trivial h7|exact sc trivial hr|exact sc trivial hsm|exact sc trivial c7_works|exact sc trivial hi1|exact sc trivial hi7|exact st_beq7 hbe|exact st_lenJ|exact st_idxJ (by assumption)|exact st_fldJ|exact st_ldJ (by assumption)|exact st_lenJW (by assumption)|exact st_idxJW (by assumption) (by assumption)|exact st_fldJW|exact st_sadd (by assumption)|exact st_slen|exact st_seq (by first|assumption|rfl)|exact st_sne (by first|assumption|rfl)|exact st_add' (by assumption)|exact st_move'|exact st_assign'|exact st_load'|exact st_fieldAddr'|exact st_extract'|exact st_and_t'|exact st_and_f'|exact st_or_f'|exact st_or_t'|exact st_not' (b := true) (u := false) rfl|exact st_not' (b := false) (u := true) rfl|exact st_not' rfl|exact st_eq' (by first|assumption|rfl)|exact st_neq' (by first|assumption|rfl)|exact st_lss' (by first|assumption|rfl)|exact st_leq' (by first|assumption|rfl)|exact st_gtr' (by first|assumption|rfl)|exact st_len'|exact st_indexAddr' (by assumption)|exact st_loadE'|exact Cv.rfl'|intro _
      · obtain rfl : j = mi := by omega
        have hc3 : decide ((j : Int) < (j : Int)) = false := decide_eq_false (by omega)
        refine g_of h ?_
        clear h
        repeat' first|kernel_rfl|(refine g_setA (s7 := 7) [10, 3, 6, 4, 5, 0] hB0 hmi ?_)|exact g_done fun _ _ h=>⟨k' - 1, by omega, i + 1, by omega, h.keep [7, 10, 3, 6, 4, 5, 0]⟩|apply g_seq|apply g_reg|apply g_nil|apply g_box|apply g_all|apply g_stf|apply g_stw|apply g_sto|apply g_asg|refine g_run rfl inferInstance (by first|exact sc trivial h7|exact sc trivial hr|exact sc trivial hsm|exact sc trivial c7_works|exact sc trivial hi1|exact sc trivial hi7|exact st_lenJ|exact st_lenJW (by assumption)|exact st_slen|exact st_sne (by first|assumption|rfl)|exact st_move'|exact st_not' (b := true) (u := false) rfl|exact st_not' (b := false) (u := true) rfl|exact st_not' rfl|exact st_neq' (by first|assumption|rfl)|exact st_leq' (by first|assumption|rfl)|exact st_len') (by kernel_rfl) ?_|refine g_sk rfl inferInstance rfl (by kernel_rfl) ?_|refine g_un rfl inferInstance (by kernel_rfl) ?_|apply g_st|apply g_skip|apply g_ct|apply g_cf|apply g_ret|refine r_1 rfl ?_|apply g_blk|apply g_eb|apply g_ex|apply e_t|apply e_h|refine e_o rfl ?_|apply r_t|apply r_b|apply g_cl|exact sc trivial h7|exact sc trivial hr|exact sc trivial hsm|exact sc trivial c7_works|exact sc trivial hi1|exact sc trivial hi7|exact st_beq7 hbe|exact st_lenJ|exact st_idxJ (by assumption)|exact st_fldJ|exact st_ldJ (by assumption)|exact st_lenJW (by assumption)|exact st_idxJW (by assumption) (by assumption)|exact st_fldJW|exact st_sadd (by assumption)|exact st_slen|exact st_seq (by first|assumption|rfl)|exact st_sne (by first|assumption|rfl)|exact st_add' (by assumption)|exact st_move'|exact st_assign'|exact st_load'|exact st_fieldAddr'|exact st_extract'|exact st_and_t'|exact st_and_f'|exact st_or_f'|exact st_or_t'|exact st_not' (b := true) (u := false) rfl|exact st_not' (b := false) (u := true) rfl|exact st_not' rfl|exact st_eq' (by first|assumption|rfl)|exact st_neq' (by first|assumption|rfl)|exact st_lss' (by first|assumption|rfl)|exact st_leq' (by first|assumption|rfl)|exact st_gtr' (by first|assumption|rfl)|exact st_len'|exact st_indexAddr' (by assumption)|exact st_loadE'|exact Cv.rfl'|intro _
    · obtain rfl : i = sh.length := by omega
      have hc2 : decide ((sh.length : Int) < (sh.length : Int)) = false := decide_eq_false (by omega)
      refine g_of h ?_
      clear h
      repeat' first|kernel_rfl|exact g_done fun _ _ h=>⟨k - 1, by omega, t + 1, by omega, ((h.keep [3, 6, 4, 5, 0]).cast fun _ _ _ h => und_weak h).keep [6, 3, 4, 5, 0]⟩|apply g_seq|apply g_reg|apply g_nil|apply g_box|apply g_all|apply g_stf|apply g_stw|apply g_sto|apply g_asg|refine g_run rfl inferInstance (by first|exact sc trivial h7|exact sc trivial hr|exact sc trivial hsm|exact sc trivial c7_works|exact sc trivial hi1|exact sc trivial hi7|exact st_lenJ|exact st_lenJW (by assumption)|exact st_slen|exact st_sne (by first|assumption|rfl)|exact st_move'|exact st_not' (b := true) (u := false) rfl|exact st_not' (b := false) (u := true) rfl|exact st_not' rfl|exact st_neq' (by first|assumption|rfl)|exact st_leq' (by first|assumption|rfl)|exact st_len') (by kernel_rfl) ?_|refine g_sk rfl inferInstance rfl (by kernel_rfl) ?_|refine g_un rfl inferInstance (by kernel_rfl) ?_|apply g_st|apply g_skip|apply g_ct|apply g_cf|apply g_ret|refine r_1 rfl ?_|apply g_blk|apply g_eb|apply g_ex|apply e_t|apply e_h|refine e_o rfl ?_|apply r_t|apply r_b|apply g_cl|exact sc trivial h7|exact sc trivial hr|exact sc trivial hsm|exact sc trivial c7_works|exact sc trivial hi1|exact sc trivial hi7|exact st_beq7 hbe|exact st_lenJ|exact st_idxJ (by assumption)|exact st_fldJ|exact st_ldJ (by assumption)|exact st_lenJW (by assumption)|exact st_idxJW (by assumption) (by assumption)|exact st_fldJW|exact st_sadd (by assumption)|exact st_slen|exact st_seq (by first|assumption|rfl)|exact st_sne (by first|assumption|rfl)|exact st_add' (by assumption)|exact st_move'|exact st_assign'|exact st_load'|exact st_fieldAddr'|exact st_extract'|exact st_and_t'|exact st_and_f'|exact st_or_f'|exact st_or_t'|exact st_not' (b := true) (u := false) rfl|exact st_not' (b := false) (u := true) rfl|exact st_not' rfl|exact st_eq' (by first|assumption|rfl)|exact st_neq' (by first|assumption|rfl)|exact st_lss' (by first|assumption|rfl)|exact st_leq' (by first|assumption|rfl)|exact st_gtr' (by first|assumption|rfl)|exact st_len'|exact st_indexAddr' (by assumption)|exact st_loadE'|exact Cv.rfl'|intro _
  · obtain rfl : t = 2 := by omega
    have hc : decide (((2 : Nat) : Int) < 2) = false := rfl
    refine g_of h ?_
    clear h
    repeat' first|kernel_rfl|apply g_seq|apply g_reg|apply g_nil|apply g_box|apply g_all|apply g_stf|apply g_stw|apply g_sto|apply g_asg|refine g_run rfl inferInstance (by first|exact sc trivial h7|exact sc trivial hr|exact sc trivial hsm|exact sc trivial c7_works|exact sc trivial hi1|exact sc trivial hi7|exact st_lenJ|exact st_lenJW (by assumption)|exact st_slen|exact st_sne (by first|assumption|rfl)|exact st_move'|exact st_not' (b := true) (u := false) rfl|exact st_not' (b := false) (u := true) rfl|exact st_not' rfl|exact st_neq' (by first|assumption|rfl)|exact st_leq' (by first|assumption|rfl)|exact st_len') (by kernel_rfl) ?_|refine g_sk rfl inferInstance rfl (by kernel_rfl) ?_|refine g_un rfl inferInstance (by kernel_rfl) ?_|apply g_st|apply g_skip|apply g_ct|apply g_cf|apply g_ret|refine r_1 rfl ?_|apply g_blk|apply g_eb|apply g_ex|apply e_t|apply e_h|refine e_o rfl ?_|apply r_t|apply r_b|apply g_cl|exact sc trivial h7|exact sc trivial hr|exact sc trivial hsm|exact sc trivial c7_works|exact sc trivial hi1|exact sc trivial hi7|exact st_beq7 hbe|exact st_lenJ|exact st_idxJ (by assumption)|exact st_fldJ|exact st_ldJ (by assumption)|exact st_lenJW (by assumption)|exact st_idxJW (by assumption) (by assumption)|exact st_fldJW|exact st_sadd (by assumption)|exact st_slen|exact st_seq (by first|assumption|rfl)|exact st_sne (by first|assumption|rfl)|exact st_add' (by assumption)|exact st_move'|exact st_assign'|exact st_load'|exact st_fieldAddr'|exact st_extract'|exact st_and_t'|exact st_and_f'|exact st_or_f'|exact st_or_t'|exact st_not' (b := true) (u := false) rfl|exact st_not' (b := false) (u := true) rfl|exact st_not' rfl|exact st_eq' (by first|assumption|rfl)|exact st_neq' (by first|assumption|rfl)|exact st_lss' (by first|assumption|rfl)|exact st_leq' (by first|assumption|rfl)|exact st_gtr' (by first|assumption|rfl)|exact st_len'|exact st_indexAddr' (by assumption)|exact st_loadE'|exact Cv.rfl'|intro _
set_option maxRecDepth 20000 in
set_option maxHeartbeats 4000000 in
set_option synthInstance.maxSize 4000 in
set_option synthInstance.maxHeartbeats 400000 in
theorem l7_lines2 {s : List UInt8} (hl : s.length ≤ 9223372036854775807) (h1 : decide ((1000 : Int) < (s.length : Int)) = true) (h2 : decide ((s.length : Int) ≤ 65536) = false) : Ctr Try.prog S1 3 [0] [.is (Tx s)] (fun _ => .is (.bool true)) := by
  have hi1 := c_is hl
  have hi7 := c7_is hl
  clear hl
  have hl := c_lines (s := s)
  have h7 := c7_lines (s := s)
  obtain ⟨hb1, _, hb2⟩ := lexR_ok s
  have hbd := ls_bound hb1 hb2
  clear hb1 hb2
  generalize lexR s = R at *
  obtain ⟨ls, m, e⟩ := R
  simp only at hl h7 hbd
  have hr := c7_ref (l := ls) ⟨by omega, fun x hx => by have := hbd.2.2 x hx; omega⟩
  have hsm := cL_same (l := ls) (m := ls) (p := true)
  rw [sameB_refl] at hsm
  have hm : (m != m) = false := bne_self_eq_false m
  have he : (e != e) = false := bne_self_eq_false e
  have hbe : (isWd s == isWd s) = true := beq_self_eq_true _
  refine ctr Try.func3 rfl Try.ntmps3 (by simp) (fun _ _ => by kernel_rfl) fun X w0 hE => ?_
  simp only [argE, Nat.zero_add, Nat.reduceAdd]
  repeat' first|kernel_rfl|apply g_seq|apply g_reg|apply g_nil|apply g_box|apply g_all|apply g_stf|apply g_stw|apply g_sto|apply g_asg|refine g_run rfl inferInstance (by first|exact sc trivial h7|exact sc trivial hr|exact sc trivial hsm|exact sc trivial c7_works|exact sc trivial hi1|exact sc trivial hi7|exact st_lenJ|exact st_lenJW (by assumption)|exact st_slen|exact st_sne (by first|assumption|rfl)|exact st_move'|exact st_not' (b := true) (u := false) rfl|exact st_not' (b := false) (u := true) rfl|exact st_not' rfl|exact st_neq' (by first|assumption|rfl)|exact st_leq' (by first|assumption|rfl)|exact st_len') (by kernel_rfl) ?_|refine g_sk rfl inferInstance rfl (by kernel_rfl) ?_|refine g_un rfl inferInstance (by kernel_rfl) ?_|apply g_st|apply g_skip|apply g_ct|apply g_cf|apply g_ret|refine r_1 rfl ?_|apply g_blk|apply g_eb|apply g_ex|apply e_t|apply e_h|refine e_o rfl ?_|apply r_t|apply r_b|apply g_cl|exact sc trivial h7|exact sc trivial hr|exact sc trivial hsm|exact sc trivial c7_works|exact sc trivial hi1|exact sc trivial hi7|exact st_beq7 hbe|exact st_lenJ|exact st_idxJ (by assumption)|exact st_fldJ|exact st_ldJ (by assumption)|exact st_lenJW (by assumption)|exact st_idxJW (by assumption) (by assumption)|exact st_fldJW|exact st_sadd (by assumption)|exact st_slen|exact st_seq (by first|assumption|rfl)|exact st_sne (by first|assumption|rfl)|exact st_add' (by assumption)|exact st_move'|exact st_assign'|exact st_load'|exact st_fieldAddr'|exact st_extract'|exact st_and_t'|exact st_and_f'|exact st_or_f'|exact st_or_t'|exact st_not' (b := true) (u := false) rfl|exact st_not' (b := false) (u := true) rfl|exact st_not' rfl|exact st_eq' (by first|assumption|rfl)|exact st_neq' (by first|assumption|rfl)|exact st_lss' (by first|assumption|rfl)|exact st_leq' (by first|assumption|rfl)|exact st_gtr' (by first|assumption|rfl)|exact st_len'|exact st_indexAddr' (by assumption)|exact st_loadE'|exact Cv.rfl'|intro _
  refine g_stop fun a w h => ?_
  refine cw_loop (fun k a u => ∃ t : Nat, t + k = 2 ∧ TS w0 X [] [(6, .is (.int .i64 (t : Int))), (3, .ow (Rp.lo 44 w0.heap.size) 47 tt w0.heap.size ls), (4, .is (.int .i64 m)), (5, .is (.int .i64 e)), (0, .is (Tx s))] 88 a u) 2 ⟨0, rfl, h.keep [6, 3, 4, 5, 0]⟩ ?_
  clear h
  rintro k a u ⟨t, ht, h⟩
  by_cases hlt : t < 2
  · have hc : decide ((t : Int) < 2) = true := decide_eq_true (by omega)
    have hw : IntKind.i64.wrap ((t : Int) + 1) = ((t + 1 : Nat) : Int) := i64_small (by omega) (by omega)
    replace h := (h.keep [3, 6, 4, 5, 0]).ageE
    obtain ⟨B, hBe⟩ : ∃ B, B = u.heap.size := ⟨_, rfl⟩
    have hB0 : w0.heap.size ≤ B := by rw [hBe]; exact h.mem.below.size
    rw [← hBe] at h
    clear hBe
    refine g_of h ?_
    clear h
    repeat' first|kernel_rfl|(refine g_cu (B := B) trivial hl (fun _ _ ht => und_size ht (Look.mem (s := 3))) (by kernel_rfl) ?_)|apply g_seq|apply g_reg|apply g_nil|apply g_box|apply g_all|apply g_stf|apply g_stw|apply g_sto|apply g_asg|refine g_run rfl inferInstance (by first|exact sc trivial h7|exact sc trivial hr|exact sc trivial hsm|exact sc trivial c7_works|exact sc trivial hi1|exact sc trivial hi7|exact st_lenJ|exact st_lenJW (by assumption)|exact st_slen|exact st_sne (by first|assumption|rfl)|exact st_move'|exact st_not' (b := true) (u := false) rfl|exact st_not' (b := false) (u := true) rfl|exact st_not' rfl|exact st_neq' (by first|assumption|rfl)|exact st_leq' (by first|assumption|rfl)|exact st_len') (by kernel_rfl) ?_|refine g_sk rfl inferInstance rfl (by kernel_rfl) ?_|refine g_un rfl inferInstance (by kernel_rfl) ?_|apply g_st|apply g_skip|apply g_ct|apply g_cf|apply g_ret|refine r_1 rfl ?_|apply g_blk|apply g_eb|apply g_ex|apply e_t|apply e_h|refine e_o rfl ?_|apply r_t|apply r_b|apply g_cl|exact sc trivial h7|exact sc trivial hr|exact sc trivial hsm|exact sc trivial c7_works|exact sc trivial hi1|exact sc trivial hi7|exact st_beq7 hbe|exact st_lenJ|exact st_idxJ (by assumption)|exact st_fldJ|exact st_ldJ (by assumption)|exact st_lenJW (by assumption)|exact st_idxJW (by assumption) (by assumption)|exact st_fldJW|exact st_sadd (by assumption)|exact st_slen|exact st_seq (by first|assumption|rfl)|exact st_sne (by first|assumption|rfl)|exact st_add' (by assumption)|exact st_move'|exact st_assign'|exact st_load'|exact st_fieldAddr'|exact st_extract'|exact st_and_t'|exact st_and_f'|exact st_or_f'|exact st_or_t'|exact st_not' (b := true) (u := false) rfl|exact st_not' (b := false) (u := true) rfl|exact st_not' rfl|exact st_eq' (by first|assumption|rfl)|exact st_neq' (by first|assumption|rfl)|exact st_lss' (by first|assumption|rfl)|exact st_leq' (by first|assumption|rfl)|exact st_gtr' (by first|assumption|rfl)|exact st_len'|exact st_indexAddr' (by assumption)|exact st_loadE'|exact Cv.rfl'|intro _
    refine g_stop fun a w h => ?_
    replace h := ((h.keep [7, 10, 3, 6, 4, 5, 0]).cast (T' := .jl 36 34 B (ls.map fun x => x.1.length)) (fun _ _ _ h => ⟨ls, rfl, h⟩)).nam
    generalize Array.getD _ 7 undef = sv at h
    have hshl : (ls.map fun x => x.1.length).length ≤ 1000000 := by rw [List.length_map]; omega
    have hshm : ∀ y ∈ (ls.map fun x => x.1.length), y ≤ 1000000 := fun y hy => by
      obtain ⟨x, hx, rfl⟩ := List.mem_map.1 hy
      have := hbd.2.2 x hx
      omega
    generalize (ls.map fun x => x.1.length) = sh at *
    refine cw_loop (fun k a u => ∃ i : Nat, i + k = sh.length ∧ TS w0 X [] [(7, .jls sv 36 34 B sh), (10, .is (.int .i64 (i : Int))), (3, .und B (.ow (Rp.lo 44 w0.heap.size) 47 tt w0.heap.size ls)), (6, .is (.int .i64 (t : Int))), (4, .is (.int .i64 m)), (5, .is (.int .i64 e)), (0, .is (Tx s))] 88 a u) sh.length ⟨0, by omega, h⟩ ?_
    clear h
    rintro k' a u ⟨i, hi, h⟩
    by_cases hil : i < sh.length
    · obtain ⟨mi, hmi⟩ : ∃ mi, sh[i]? = some mi := ⟨_, List.getElem?_eq_getElem hil⟩
      have hc2 : decide ((i : Int) < (sh.length : Int)) = true := decide_eq_true (by omega)
      have hw2 : IntKind.i64.wrap ((i : Int) + 1) = ((i + 1 : Nat) : Int) := i64_small (by omega) (by omega)
      have hmm := hshm mi (List.mem_of_getElem? hmi)
      refine g_of h ?_
      clear h
      repeat' first|kernel_rfl|apply g_seq|apply g_reg|apply g_nil|apply g_box|apply g_all|apply g_stf|apply g_stw|apply g_sto|apply g_asg|refine g_run rfl inferInstance (by first|exact sc trivial h7|exact sc trivial hr|exact sc trivial hsm|exact sc trivial c7_works|exact sc trivial hi1|exact sc trivial hi7|exact st_lenJ|exact st_lenJW (by assumption)|exact st_slen|exact st_sne (by first|assumption|rfl)|exact st_move'|exact st_not' (b := true) (u := false) rfl|exact st_not' (b := false) (u := true) rfl|exact st_not' rfl|exact st_neq' (by first|assumption|rfl)|exact st_leq' (by first|assumption|rfl)|exact st_len') (by kernel_rfl) ?_|refine g_sk rfl inferInstance rfl (by kernel_rfl) ?_|refine g_un rfl inferInstance (by kernel_rfl) ?_|apply g_st|apply g_skip|apply g_ct|apply g_cf|apply g_ret|refine r_1 rfl ?_|apply g_blk|apply g_eb|apply g_ex|apply e_t|apply e_h|refine e_o rfl ?_|apply r_t|apply r_b|apply g_cl|exact sc trivial h7|exact sc trivial hr|exact sc trivial hsm|exact sc trivial c7_works|exact sc trivial hi1|exact sc trivial hi7|exact st_beq7 hbe|exact st_lenJ|exact st_idxJ (by assumption)|exact st_fldJ|exact st_ldJ (by assumption)|exact st_lenJW (by assumption)|exact st_idxJW (by assumption) (by assumption)|exact st_fldJW|exact st_sadd (by assumption)|exact st_slen|exact st_seq (by first|assumption|rfl)|exact st_sne (by first|assumption|rfl)|exact st_add' (by assumption)|exact st_move'|exact st_assign'|exact st_load'|exact st_fieldAddr'|exact st_extract'|exact st_and_t'|exact st_and_f'|exact st_or_f'|exact st_or_t'|exact st_not' (b := true) (u := false) rfl|exact st_not' (b := false) (u := true) rfl|exact st_not' rfl|exact st_eq' (by first|assumption|rfl)|exact st_neq' (by first|assumption|rfl)|exact st_lss' (by first|assumption|rfl)|exact st_leq' (by first|assumption|rfl)|exact st_gtr' (by first|assumption|rfl)|exact st_len'|exact st_indexAddr' (by assumption)|exact st_loadE'|exact Cv.rfl'|intro _
      refine g_stop fun a w h => ?_
      refine cw_loop (fun k a u => ∃ j : Nat, j + k = mi ∧ TS w0 X [] [(7, .jls sv 36 34 B sh), (11, .is (.int .i64 (j : Int))), (10, .is (.int .i64 (i : Int))), (3, .und B (.ow (Rp.lo 44 w0.heap.size) 47 tt w0.heap.size ls)), (6, .is (.int .i64 (t : Int))), (4, .is (.int .i64 m)), (5, .is (.int .i64 e)), (0, .is (Tx s))] 88 a u) mi ⟨0, by omega, h.keep [7, 11, 10, 3, 6, 4, 5, 0]⟩ ?_
      clear h
      rintro k2 a u ⟨j, hj, h⟩
      by_cases hjl : j < mi
      · have hc3 : decide ((j : Int) < (mi : Int)) = true := decide_eq_true (by omega)
        have hw3 : IntKind.i64.wrap ((j : Int) + 1) = ((j + 1 : Nat) : Int) := i64_small (by omega) (by omega)
        refine g_of h ?_
        clear h
        repeat' first|kernel_rfl|(refine g_setT (s7 := 7) [11, 10, 3, 6, 4, 5, 0] (by decide) hB0 hmi ?_)|exact g_done fun _ _ h=>⟨k2 - 1, by omega, j + 1, by omega, h.keep [7, 11, 10, 3, 6, 4, 5, 0]⟩|apply g_seq|apply g_reg|apply g_nil|apply g_box|apply g_all|apply g_stf|apply g_stw|apply g_sto|apply g_asg|refine g_run rfl inferInstance (by first|exact sc trivial h7|exact sc trivial hr|exact sc trivial hsm|exact sc trivial c7_works|exact sc trivial hi1|exact sc trivial hi7|exact st_lenJ|exact st_lenJW (by assumption)|exact st_slen|exact st_sne (by first|assumption|rfl)|exact st_move'|exact st_not' (b := true) (u := false) rfl|exact st_not' (b := false) (u := true) rfl|exact st_not' rfl|exact st_neq' (by first|assumption|rfl)|exact st_leq' (by first|assumption|rfl)|exact st_len') (by kernel_rfl) ?_|refine g_sk rfl inferInstance rfl (by kernel_rfl) ?_|refine g_un rfl inferInstance (by kernel_rfl) ?_|apply g_st|apply g_skip|apply g_ct|apply g_cf|apply g_ret|refine r_1 rfl ?_|apply g_blk|apply g_eb|apply g_ex|apply e_t|apply e_h|refine e_o rfl ?_|apply r_t|apply r_b|apply g_cl|exact sc trivial h7|exact sc trivial hr|exact sc trivial hsm|exact sc trivial c7_works|exact sc trivial hi1|exact sc trivial hi7|exact st_beq7 hbe|exact st_lenJ|exact st_idxJ (by assumption)|exact st_fldJ|exact st_ldJ (by assumption)|exact st_lenJW (by assumption)|exact st_idxJW (by assumption) (by assumption)|exact st_fldJW|exact st_sadd (by assumption)|exact st_slen|exact st_seq (by first|assumption|rfl)|exact st_sne (by first|assumption|rfl)|exact st_add' (by assumption)|exact st_move'|exact st_assign'|exact st_load'|exact st_fieldAddr'|exact st_extract'|exact st_and_t'|exact st_and_f'|exact st_or_f'|exact st_or_t'|exact st_not' (b := true) (u := false) rfl|exact st_not' (b := false) (u := true) rfl|exact st_not' rfl|exact st_eq' (by first|assumption|rfl)|exact st_neq' (by first|assumption|rfl)|exact st_lss' (by first|assumption|rfl)|exact st_leq' (by first|assumption|rfl)|exact st_gtr' (by first|assumption|rfl)|exact st_len'|exact st_indexAddr' (by assumption)|exact st_loadE'|exact Cv.rfl'|intro _
      · obtain rfl : j = mi := by omega
        have hc3 : decide ((j : Int) < (j : Int)) = false := decide_eq_false (by omega)
        refine g_of h ?_
        clear h
        repeat' first|kernel_rfl|(refine g_setA (s7 := 7) [10, 3, 6, 4, 5, 0] hB0 hmi ?_)|exact g_done fun _ _ h=>⟨k' - 1, by omega, i + 1, by omega, h.keep [7, 10, 3, 6, 4, 5, 0]⟩|apply g_seq|apply g_reg|apply g_nil|apply g_box|apply g_all|apply g_stf|apply g_stw|apply g_sto|apply g_asg|refine g_run rfl inferInstance (by first|exact sc trivial h7|exact sc trivial hr|exact sc trivial hsm|exact sc trivial c7_works|exact sc trivial hi1|exact sc trivial hi7|exact st_lenJ|exact st_lenJW (by assumption)|exact st_slen|exact st_sne (by first|assumption|rfl)|exact st_move'|exact st_not' (b := true) (u := false) rfl|exact st_not' (b := false) (u := true) rfl|exact st_not' rfl|exact st_neq' (by first|assumption|rfl)|exact st_leq' (by first|assumption|rfl)|exact st_len') (by kernel_rfl) ?_|refine g_sk rfl inferInstance rfl (by kernel_rfl) ?_|refine g_un rfl inferInstance (by kernel_rfl) ?_|apply g_st|apply g_skip|apply g_ct|apply g_cf|apply g_ret|refine r_1 rfl ?_|apply g_blk|apply g_eb|apply g_ex|apply e_t|apply e_h|refine e_o rfl ?_|apply r_t|apply r_b|apply g_cl|exact sc trivial h7|exact sc trivial hr|exact sc trivial hsm|exact sc trivial c7_works|exact sc trivial hi1|exact sc trivial hi7|exact st_beq7 hbe|exact st_lenJ|exact st_idxJ (by assumption)|exact st_fldJ|exact st_ldJ (by assumption)|exact st_lenJW (by assumption)|exact st_idxJW (by assumption) (by assumption)|exact st_fldJW|exact st_sadd (by assumption)|exact st_slen|exact st_seq (by first|assumption|rfl)|exact st_sne (by first|assumption|rfl)|exact st_add' (by assumption)|exact st_move'|exact st_assign'|exact st_load'|exact st_fieldAddr'|exact st_extract'|exact st_and_t'|exact st_and_f'|exact st_or_f'|exact st_or_t'|exact st_not' (b := true) (u := false) rfl|exact st_not' (b := false) (u := true) rfl|exact st_not' rfl|exact st_eq' (by first|assumption|rfl)|exact st_neq' (by first|assumption|rfl)|exact st_lss' (by first|assumption|rfl)|exact st_leq' (by first|assumption|rfl)|exact st_gtr' (by first|assumption|rfl)|exact st_len'|exact st_indexAddr' (by assumption)|exact st_loadE'|exact Cv.rfl'|intro _
    · obtain rfl : i = sh.length := by omega
      have hc2 : decide ((sh.length : Int) < (sh.length : Int)) = false := decide_eq_false (by omega)
      refine g_of h ?_
      clear h
      repeat' first|kernel_rfl|exact g_done fun _ _ h=>⟨k - 1, by omega, t + 1, by omega, ((h.keep [3, 6, 4, 5, 0]).cast fun _ _ _ h => und_weak h).keep [6, 3, 4, 5, 0]⟩|apply g_seq|apply g_reg|apply g_nil|apply g_box|apply g_all|apply g_stf|apply g_stw|apply g_sto|apply g_asg|refine g_run rfl inferInstance (by first|exact sc trivial h7|exact sc trivial hr|exact sc trivial hsm|exact sc trivial c7_works|exact sc trivial hi1|exact sc trivial hi7|exact st_lenJ|exact st_lenJW (by assumption)|exact st_slen|exact st_sne (by first|assumption|rfl)|exact st_move'|exact st_not' (b := true) (u := false) rfl|exact st_not' (b := false) (u := true) rfl|exact st_not' rfl|exact st_neq' (by first|assumption|rfl)|exact st_leq' (by first|assumption|rfl)|exact st_len') (by kernel_rfl) ?_|refine g_sk rfl inferInstance rfl (by kernel_rfl) ?_|refine g_un rfl inferInstance (by kernel_rfl) ?_|apply g_st|apply g_skip|apply g_ct|apply g_cf|apply g_ret|refine r_1 rfl ?_|apply g_blk|apply g_eb|apply g_ex|apply e_t|apply e_h|refine e_o rfl ?_|apply r_t|apply r_b|apply g_cl|exact sc trivial h7|exact sc trivial hr|exact sc trivial hsm|exact sc trivial c7_works|exact sc trivial hi1|exact sc trivial hi7|exact st_beq7 hbe|exact st_lenJ|exact st_idxJ (by assumption)|exact st_fldJ|exact st_ldJ (by assumption)|exact st_lenJW (by assumption)|exact st_idxJW (by assumption) (by assumption)|exact st_fldJW|exact st_sadd (by assumption)|exact st_slen|exact st_seq (by first|assumption|rfl)|exact st_sne (by first|assumption|rfl)|exact st_add' (by assumption)|exact st_move'|exact st_assign'|exact st_load'|exact st_fieldAddr'|exact st_extract'|exact st_and_t'|exact st_and_f'|exact st_or_f'|exact st_or_t'|exact st_not' (b := true) (u := false) rfl|exact st_not' (b := false) (u := true) rfl|exact st_not' rfl|exact st_eq' (by first|assumption|rfl)|exact st_neq' (by first|assumption|rfl)|exact st_lss' (by first|assumption|rfl)|exact st_leq' (by first|assumption|rfl)|exact st_gtr' (by first|assumption|rfl)|exact st_len'|exact st_indexAddr' (by assumption)|exact st_loadE'|exact Cv.rfl'|intro _
  · obtain rfl : t = 2 := by omega
    have hc : decide (((2 : Nat) : Int) < 2) = false := rfl
    refine g_of h ?_
    clear h
    repeat' first|kernel_rfl|apply g_seq|apply g_reg|apply g_nil|apply g_box|apply g_all|apply g_stf|apply g_stw|apply g_sto|apply g_asg|refine g_run rfl inferInstance (by first|exact sc trivial h7|exact sc trivial hr|exact sc trivial hsm|exact sc trivial c7_works|exact sc trivial hi1|exact sc trivial hi7|exact st_lenJ|exact st_lenJW (by assumption)|exact st_slen|exact st_sne (by first|assumption|rfl)|exact st_move'|exact st_not' (b := true) (u := false) rfl|exact st_not' (b := false) (u := true) rfl|exact st_not' rfl|exact st_neq' (by first|assumption|rfl)|exact st_leq' (by first|assumption|rfl)|exact st_len') (by kernel_rfl) ?_|refine g_sk rfl inferInstance rfl (by kernel_rfl) ?_|refine g_un rfl inferInstance (by kernel_rfl) ?_|apply g_st|apply g_skip|apply g_ct|apply g_cf|apply g_ret|refine r_1 rfl ?_|apply g_blk|apply g_eb|apply g_ex|apply e_t|apply e_h|refine e_o rfl ?_|apply r_t|apply r_b|apply g_cl|exact sc trivial h7|exact sc trivial hr|exact sc trivial hsm|exact sc trivial c7_works|exact sc trivial hi1|exact sc trivial hi7|exact st_beq7 hbe|exact st_lenJ|exact st_idxJ (by assumption)|exact st_fldJ|exact st_ldJ (by assumption)|exact st_lenJW (by assumption)|exact st_idxJW (by assumption) (by assumption)|exact st_fldJW|exact st_sadd (by assumption)|exact st_slen|exact st_seq (by first|assumption|rfl)|exact st_sne (by first|assumption|rfl)|exact st_add' (by assumption)|exact st_move'|exact st_assign'|exact st_load'|exact st_fieldAddr'|exact st_extract'|exact st_and_t'|exact st_and_f'|exact st_or_f'|exact st_or_t'|exact st_not' (b := true) (u := false) rfl|exact st_not' (b := false) (u := true) rfl|exact st_not' rfl|exact st_eq' (by first|assumption|rfl)|exact st_neq' (by first|assumption|rfl)|exact st_lss' (by first|assumption|rfl)|exact st_leq' (by first|assumption|rfl)|exact st_gtr' (by first|assumption|rfl)|exact st_len'|exact st_indexAddr' (by assumption)|exact st_loadE'|exact Cv.rfl'|intro _
theorem l7_lines {s : List UInt8} (hl : s.length ≤ 9223372036854775807) : Ctr Try.prog S1 3 [0] [.is (Tx s)] (fun _ => .is (.bool true)) := by
  cases h1 : decide ((1000 : Int) < (s.length : Int)) with
  | false => exact l7_lines1 hl h1
  | true => cases h2 : decide ((s.length : Int) ≤ 65536) with
    | false => exact l7_lines2 hl h1 h2
    | true => exact l7_lines0 h1 h2
end Go.Proofs.Ytkjojpeamabdmaa
