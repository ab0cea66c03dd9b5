/- A filing's text in lines and words, as plain lists of bytes: byte by byte, and as the program cuts it; what is shown; texts behind one another. No program stands in it. -/
import Derived.Test.YtkjojpeamabdmaaGD
import Derived.Test.YtkjojpeamabdmaaGC
set_option linter.unusedSimpArgs false
set_option linter.unusedVariables false
namespace Go.Proofs.Ytkjojpeamabdmaa
open Go Go.RowKit
/-- A byte of a word; a blank. -/
def isW (c : UInt8) : Bool := decide (33 ≤ (c.toNat : Int)) && decide ((c.toNat : Int) ≤ 126) && !((c.toNat : Int) == 35)
def isB (c : UInt8) : Bool := (c.toNat : Int) == 32 || (c.toNat : Int) == 9
/-- A line: its words, each with its place; its place. -/
abbrev Wd := List UInt8 × Int
abbrev Ln := List Wd × Int
def psh (out : List Ln) (ws : List Wd) (la : Int) : List Ln := bif ws.isEmpty then out else out ++ [(ws, la)]
/-- One byte more at the last word. -/
def apl : List Wd → UInt8 → List Wd
  | [], _ => []
  | [w], c => [(w.1 ++ [c], w.2)]
  | w :: v :: ws, c => w :: apl (v :: ws) c
theorem apl_last : ∀ (ws : List Wd) (t : List UInt8) (a : Int) (c : UInt8), apl (ws ++ [(t, a)]) c = ws ++ [(t ++ [c], a)]
  | [], _, _, _ => rfl
  | [w], _, _, _ => rfl
  | w :: v :: ws, t, a, c => by
    show w :: apl ((v :: ws) ++ [(t, a)]) c = _
    rw [apl_last (v :: ws)]; rfl
/-- Byte by byte: lines so far, words of this one, where it began; in a remark, in a word? -/
def lx : List UInt8 → Int → List Ln → List Wd → Int → Bool → Bool → List Ln × Int × Int
  | [], _, out, ws, la, _, _ => (psh out ws la, 0, 0)
  | c :: r, i, out, ws, la, rem, op =>
    bif (c.toNat : Int) == 10 then lx r (i + 1) (psh out ws la) [] (i + 1) false false
    else bif rem || (c.toNat : Int) == 35 then lx r (i + 1) out ws la true false
    else bif isB c then lx r (i + 1) out ws la false false
    else bif !isW c then ([], i, 70)
    else bif op then lx r (i + 1) out (apl ws c) la false true
    else lx r (i + 1) out (ws ++ [([c], i)]) la false true
def lexR (s : List UInt8) : List Ln × Int × Int := bif decide (65536 < s.length) then ([], 0, 3) else lx s 0 [] [] 0 false false
theorem lx_e : ∀ (l : List UInt8) (i : Int) (out : List Ln) (ws : List Wd) (la : Int) (rem op : Bool), (lx l i out ws la rem op).2.2 = 0 ∧ (lx l i out ws la rem op).2.1 = 0 ∨ (lx l i out ws la rem op).2.2 = 70 ∧ (lx l i out ws la rem op).1 = []
  | [], _, _, _, _, _, _ => .inl ⟨rfl, rfl⟩
  | c :: r, i, out, ws, la, rem, op => by
    unfold lx
    cases ((c.toNat : Int) == 10) <;> cases (rem || (c.toNat : Int) == 35) <;> cases (isB c) <;> cases (isW c) <;> cases op <;> first | exact lx_e r _ _ _ _ _ _ | exact .inr ⟨rfl, rfl⟩
/-- A text behind another one, with a byte 10 between. -/
theorem lx_join (b : List UInt8) : ∀ (a : List UInt8) (i : Int) (out : List Ln) (ws : List Wd) (la : Int) (rem op : Bool), lx (a ++ 10 :: b) i out ws la rem op = bif (lx a i out ws la rem op).2.2 == 0 then lx b (i + a.length + 1) (lx a i out ws la rem op).1 [] (i + a.length + 1) false false else lx a i out ws la rem op
  | [], i, out, ws, la, rem, op => by
    rw [List.length_nil, show i + ((0 : Nat) : Int) + 1 = i + 1 by omega]
    show lx b (i + 1) (psh out ws la) [] (i + 1) false false = bif (0 : Int) == 0 then _ else _
    rw [show ((0 : Int) == 0) = true from rfl, cond_true]
    rfl
  | c :: r, i, out, ws, la, rem, op => by
    have e : i + 1 + (r.length : Int) + 1 = i + ((c :: r).length : Int) + 1 := by rw [List.length_cons]; omega
    have ih := fun out ws la rem op => lx_join b r (i + 1) out ws la rem op
    rw [e] at ih
    have hs : ∀ (l : List UInt8), lx (c :: l) i out ws la rem op = bif (c.toNat : Int) == 10 then lx l (i + 1) (psh out ws la) [] (i + 1) false false
      else bif rem || (c.toNat : Int) == 35 then lx l (i + 1) out ws la true false
      else bif isB c then lx l (i + 1) out ws la false false
      else bif !isW c then ([], i, 70)
      else bif op then lx l (i + 1) out (apl ws c) la false true
      else lx l (i + 1) out (ws ++ [([c], i)]) la false true := fun _ => rfl
    rw [List.cons_append, hs, hs]
    cases ((c.toNat : Int) == 10) <;> simp only [cond_true, cond_false]
    · cases (rem || (c.toNat : Int) == 35) <;> simp only [cond_true, cond_false]
      · cases (isB c) <;> simp only [cond_true, cond_false]
        · cases (isW c) <;> simp only [cond_true, cond_false, Bool.not_true, Bool.not_false]
          · rfl
          · cases op <;> simp only [cond_true, cond_false] <;> exact ih _ _ _ _ _
        · exact ih _ _ _ _ _
      · exact ih _ _ _ _ _
    · exact ih _ _ _ _ _
/-- The texts alone. -/
def txw (ws : List Wd) : List (List UInt8) := ws.map Prod.fst
def txs (ls : List Ln) : List (List (List UInt8)) := ls.map fun x => txw x.1
theorem txs_app (a b : List Ln) : txs (a ++ b) = txs a ++ txs b := List.map_append
theorem txw_app (a b : List Wd) : txw (a ++ b) = txw a ++ txw b := List.map_append
theorem txw_apl : ∀ (ws : List Wd) (c : UInt8), txw (apl ws c) = (txw ws).dropLast ++ ((txw ws).getLast?.toList.map (· ++ [c]))
  | [], _ => rfl
  | [w], _ => rfl
  | w :: v :: ws, c => by
    show w.1 :: txw (apl (v :: ws) c) = _
    rw [txw_apl (v :: ws) c]
    rfl
theorem txw_empty {ws ws' : List Wd} (h : txw ws = txw ws') : ws.isEmpty = ws'.isEmpty := by
  cases ws <;> cases ws' <;> first | rfl | cases h
/-- Elsewhere, and behind other lines, the same. -/
theorem lx_shift : ∀ (b : List UInt8) (i k : Int) (out out' : List Ln) (ws ws' : List Wd) (la la' : Int) (rem op : Bool), txw ws = txw ws' →
    (lx b (i + k) out' ws' la' rem op).2.2 = (lx b i out ws la rem op).2.2 ∧ ((lx b i out ws la rem op).2.2 = 70 → (lx b (i + k) out' ws' la' rem op).2.1 = (lx b i out ws la rem op).2.1 + k) ∧
    ((lx b i out ws la rem op).2.2 = 0 → ∃ n, txs (lx b i out ws la rem op).1 = txs out ++ n ∧ txs (lx b (i + k) out' ws' la' rem op).1 = txs out' ++ n)
  | [], i, k, out, out', ws, ws', la, la', rem, op, h => by
    refine ⟨rfl, fun h => absurd (show (0 : Int) = 70 from h) (by decide), fun _ => ?_⟩
    show ∃ n, txs (psh out ws la) = txs out ++ n ∧ txs (psh out' ws' la') = txs out' ++ n
    unfold psh
    rw [txw_empty h]
    cases ws'.isEmpty
    · refine ⟨[txw ws'], ?_, ?_⟩
      · simp only [cond_false]; rw [txs_app]; show _ ++ [txw ws] = _; rw [h]
      · simp only [cond_false]; rw [txs_app]; rfl
    · exact ⟨[], (List.append_nil _).symm, (List.append_nil _).symm⟩
  | c :: r, i, k, out, out', ws, ws', la, la', rem, op, h => by
    have ih := fun out out' ws ws' la la' rem op h => lx_shift r (i + 1) k out out' ws ws' la la' rem op h
    have e : i + k + 1 = i + 1 + k := by omega
    unfold lx
    rw [e]
    cases h10 : ((c.toNat : Int) == 10)
    · cases (rem || (c.toNat : Int) == 35) <;> simp only [cond_true, cond_false]
      · cases (isB c) <;> simp only [cond_true, cond_false]
        · cases (isW c) <;> simp only [cond_true, cond_false, Bool.not_true, Bool.not_false]
          · exact ⟨trivial, fun _ => trivial, fun h => by cases h⟩
          · cases op <;> simp only [cond_true, cond_false]
            · exact ih _ _ _ _ _ _ _ _ (by rw [txw_app, txw_app, h]; rfl)
            · exact ih _ _ _ _ _ _ _ _ (by rw [txw_apl, txw_apl, h])
        · exact ih _ _ _ _ _ _ _ _ h
      · exact ih _ _ _ _ _ _ _ _ h
    · simp only [cond_true]
      obtain ⟨h1, h2, h3⟩ := ih (psh out ws la) (psh out' ws' la') [] [] (i + 1) (i + 1 + k) false false rfl
      refine ⟨h1, h2, fun g => ?_⟩
      obtain ⟨n, e1, e2⟩ := h3 g
      rw [e1, e2]
      unfold psh
      rw [txw_empty h]
      cases ws'.isEmpty
      · refine ⟨txw ws' :: n, ?_, ?_⟩
        · simp only [cond_false]; rw [txs_app, List.append_assoc]; show _ ++ ([txw ws] ++ n) = _; rw [h]; rfl
        · simp only [cond_false]; rw [txs_app, List.append_assoc]; rfl
      · exact ⟨n, rfl, rfl⟩
theorem psh_out (out : List Ln) (ws : List Wd) (la : Int) : txs (psh out ws la) = txs out ++ bif ws.isEmpty then [] else [txw ws] := by
  unfold psh
  cases ws.isEmpty
  · simp only [cond_false]; rw [txs_app]; rfl
  · exact (List.append_nil _).symm
/-- Is a text a word? -/
def isWd (t : List UInt8) : Bool := !(t == []) && t.all isW
/-- What is shown. -/
def jn : List (List UInt8) → List UInt8
  | [] => []
  | [t] => t
  | t :: u :: ts => t ++ 32 :: jn (u :: ts)
def shw (ls : List (List (List UInt8))) : List UInt8 := ls.flatMap fun x => jn x ++ [10]
theorem isW_not {c : UInt8} (h : isW c = true) : ((c.toNat : Int) == 10) = false ∧ ((c.toNat : Int) == 35) = false ∧ isB c = false := by
  unfold isW at h
  unfold isB
  simp only [Bool.and_eq_true, decide_eq_true_eq, Bool.not_eq_true', beq_eq_false_iff_ne] at h
  obtain ⟨⟨h1, h2⟩, h3⟩ := h
  refine ⟨beq_eq_false_iff_ne.2 (by omega), beq_eq_false_iff_ne.2 h3, ?_⟩
  rw [Bool.or_eq_false_iff]
  exact ⟨beq_eq_false_iff_ne.2 (by omega), beq_eq_false_iff_ne.2 (by omega)⟩
theorem lx_w {c : UInt8} (h : isW c = true) (r : List UInt8) (i : Int) (out : List Ln) (ws : List Wd) (la : Int) (op : Bool) : lx (c :: r) i out ws la false op = bif op then lx r (i + 1) out (apl ws c) la false true else lx r (i + 1) out (ws ++ [([c], i)]) la false true := by
  obtain ⟨h1, h2, h3⟩ := isW_not h
  show (bif (c.toNat : Int) == 10 then _ else bif false || (c.toNat : Int) == 35 then _ else bif isB c then _ else bif !isW c then _ else _) = _
  rw [h1, h2, h3, h]
  rfl
/-- A row of bytes of a word. -/
theorem lx_run : ∀ (w t : List UInt8) (r : List UInt8) (i a : Int) (out : List Ln) (ws : List Wd) (la : Int), w.all isW = true → lx (w ++ r) i out (ws ++ [(t, a)]) la false true = lx r (i + w.length) out (ws ++ [(t ++ w, a)]) la false true
  | [], t, r, i, a, out, ws, la, _ => by simp
  | c :: w, t, r, i, a, out, ws, la, h => by
    simp only [List.all_cons, Bool.and_eq_true] at h
    rw [List.cons_append, lx_w h.1, cond_true, apl_last, lx_run w _ _ _ _ _ _ _ h.2, List.append_assoc, List.length_cons]
    rw [show i + 1 + (w.length : Int) = i + ((w.length + 1 : Nat) : Int) by omega]
    rfl
theorem lx_word {w : List UInt8} (h : isWd w = true) (r : List UInt8) (i : Int) (out : List Ln) (ws : List Wd) (la : Int) : lx (w ++ r) i out ws la false false = lx r (i + w.length) out (ws ++ [(w, i)]) la false true := by
  unfold isWd at h
  rw [Bool.and_eq_true] at h
  cases w with
  | nil => cases h.1
  | cons c w =>
    have h2 := h.2
    simp only [List.all_cons, Bool.and_eq_true] at h2
    rw [List.cons_append, lx_w h2.1, cond_false, lx_run w _ _ _ _ _ _ _ h2.2, List.length_cons]
    rw [show i + 1 + (w.length : Int) = i + ((w.length + 1 : Nat) : Int) by omega]
    rfl
theorem lx_10 (r : List UInt8) (i : Int) (out : List Ln) (ws : List Wd) (la : Int) (rem op : Bool) : lx (10 :: r) i out ws la rem op = lx r (i + 1) (psh out ws la) [] (i + 1) false false := rfl
theorem lx_32 (r : List UInt8) (i : Int) (out : List Ln) (ws : List Wd) (la : Int) (op : Bool) : lx (32 :: r) i out ws la false op = lx r (i + 1) out ws la false false := rfl
theorem lx_line : ∀ (wl : List (List UInt8)), (∀ w ∈ wl, isWd w = true) → wl ≠ [] → ∀ (r : List UInt8) (i : Int) (out : List Ln) (ws : List Wd) (la : Int), ∃ us j, lx (jn wl ++ 10 :: r) i out ws la false false = lx r j (out ++ [(ws ++ us, la)]) [] j false false ∧ txw us = wl
  | [], _, h, _, _, _, _, _ => absurd rfl h
  | [t], hw, _, r, i, out, ws, la => by
    refine ⟨[(t, i)], i + t.length + 1, ?_, rfl⟩
    show lx (t ++ 10 :: r) i out ws la false false = _
    rw [lx_word (hw t (by simp)), lx_10]
    unfold psh
    rw [show (ws ++ [(t, i)]).isEmpty = false by cases ws <;> rfl]
    rfl
  | t :: u :: ts, hw, _, r, i, out, ws, la => by
    obtain ⟨us, j, h1, h2⟩ := lx_line (u :: ts) (fun w h => hw w (List.mem_cons_of_mem _ h)) (by simp) r (i + t.length + 1) out (ws ++ [(t, i)]) la
    refine ⟨(t, i) :: us, j, ?_, by show t :: txw us = _; rw [h2]⟩
    show lx ((t ++ 32 :: jn (u :: ts)) ++ 10 :: r) i out ws la false false = _
    rw [List.append_assoc, lx_word (hw t (by simp)), List.cons_append, lx_32, h1, List.append_assoc]
    rfl
/-- Right lines: each of words, one or more. -/
def lok (x : List (List UInt8)) : Bool := !x.isEmpty && x.all isWd
/-- WHAT IS SHOWN HAS THE SAME LINES. -/
theorem lx_show : ∀ (ls : List (List (List UInt8))), ls.all lok = true → ∀ (i : Int) (out : List Ln), (lx (shw ls) i out [] i false false).2.2 = 0 ∧ txs (lx (shw ls) i out [] i false false).1 = txs out ++ ls
  | [], _, i, out => by exact ⟨rfl, (List.append_nil _).symm⟩
  | x :: ls, h, i, out => by
    simp only [List.all_cons, Bool.and_eq_true] at h
    obtain ⟨hx, hl⟩ := h
    unfold lok at hx
    rw [Bool.and_eq_true] at hx
    obtain ⟨us, j, h1, h2⟩ := lx_line x (fun w hw => List.all_eq_true.1 hx.2 w hw) (by intro e; rw [e] at hx; cases hx.1) (shw ls) i out [] i
    have e : shw (x :: ls) = jn x ++ 10 :: shw ls := by show (jn x ++ [10]) ++ shw ls = _; rw [List.append_assoc]; rfl
    rw [e, h1]
    obtain ⟨g1, g2⟩ := lx_show ls hl j (out ++ [([] ++ us, i)])
    refine ⟨g1, ?_⟩
    rw [g2, txs_app, List.append_assoc]
    show _ ++ ([txw us] ++ ls) = _
    rw [h2]
    rfl
/-- What comes out is right. -/
theorem lok_word {w : List UInt8} {c : UInt8} (hw : isWd w = true) (hc : isW c = true) : isWd (w ++ [c]) = true := by
  unfold isWd at *
  rw [Bool.and_eq_true] at *
  refine ⟨by cases w <;> rfl, ?_⟩
  rw [List.all_append, hw.2]
  simp [hc]
theorem apl_ok : ∀ (ws : List Wd) (c : UInt8), isW c = true → (txw ws).all isWd = true → (txw (apl ws c)).all isWd = true
  | [], _, _, h => h
  | [w], c, hc, h => by
    have : isWd w.1 = true := by simpa [txw] using h
    show (isWd (w.1 ++ [c]) && true) = true
    rw [lok_word this hc]; rfl
  | w :: v :: ws, c, hc, h => by
    have h' : isWd w.1 = true ∧ (txw (v :: ws)).all isWd = true := by simpa [txw] using h
    show (isWd w.1 && (txw (apl (v :: ws) c)).all isWd) = true
    rw [h'.1, apl_ok (v :: ws) c hc h'.2]; rfl
theorem psh_ok {out : List Ln} {ws : List Wd} (la : Int) (ho : (txs out).all lok = true) (hw : (txw ws).all isWd = true) : (txs (psh out ws la)).all lok = true := by
  rw [psh_out, List.all_append, ho, Bool.true_and]
  cases ws with
  | nil => rfl
  | cons v ws =>
    show (lok (txw (v :: ws)) && true) = true
    unfold lok
    rw [hw]
    rfl
theorem lx_ok : ∀ (l : List UInt8) (i : Int) (out : List Ln) (ws : List Wd) (la : Int) (rem op : Bool), (txs out).all lok = true → (txw ws).all isWd = true → (txs (lx l i out ws la rem op).1).all lok = true
  | [], _, out, ws, la, _, _, ho, hw => psh_ok la ho hw
  | c :: r, i, out, ws, la, rem, op, ho, hw => by
    unfold lx
    cases ((c.toNat : Int) == 10)
    · cases (rem || (c.toNat : Int) == 35) <;> simp only [cond_true, cond_false]
      · cases (isB c) <;> simp only [cond_true, cond_false]
        · cases hc : isW c <;> simp only [cond_true, cond_false, Bool.not_true, Bool.not_false]
          · rfl
          · cases op <;> simp only [cond_true, cond_false]
            · refine lx_ok r _ _ _ _ _ _ ho ?_
              rw [txw_app, List.all_append, hw]
              show (true && (isWd [c] && true)) = true
              unfold isWd
              simp [hc]
            · exact lx_ok r _ _ _ _ _ _ ho (apl_ok ws c hc hw)
        · exact lx_ok r _ _ _ _ _ _ ho hw
      · exact lx_ok r _ _ _ _ _ _ ho hw
    · exact lx_ok r _ _ _ _ _ _ (psh_ok la ho hw) rfl
/-- How long what is shown is. -/
def ww (x : List (List UInt8)) : Nat := (x.map fun t => t.length + 1).sum
def wl (ls : List (List (List UInt8))) : Nat := (ls.map ww).sum
theorem ww_app (a b : List (List UInt8)) : ww (a ++ b) = ww a + ww b := by unfold ww; rw [List.map_append, List.sum_append]
theorem wl_app (a b : List (List (List UInt8))) : wl (a ++ b) = wl a + wl b := by unfold wl; rw [List.map_append, List.sum_append]
theorem jn_len : ∀ (x : List (List UInt8)), (jn x).length + 1 ≤ ww x + 1 ∧ (x ≠ [] → (jn x).length + 1 = ww x)
  | [] => ⟨Nat.le_refl _, fun h => absurd rfl h⟩
  | [t] => ⟨by simp [jn, ww], fun _ => by simp [jn, ww]⟩
  | t :: u :: ts => by
    have ih := (jn_len (u :: ts)).2 (by simp)
    have e : ww (t :: u :: ts) = t.length + 1 + ww (u :: ts) := by simp [ww]
    have e2 : (jn (t :: u :: ts)).length = t.length + 1 + (jn (u :: ts)).length := by simp [jn]; omega
    refine ⟨by omega, fun _ => by omega⟩
theorem shw_len : ∀ (ls : List (List (List UInt8))), (shw ls).length ≤ wl ls + ls.length
  | [] => Nat.le_refl _
  | x :: ls => by
    have := shw_len ls
    have := (jn_len x).1
    have e : (shw (x :: ls)).length = (jn x).length + 1 + (shw ls).length := by show ((jn x ++ [10]) ++ shw ls).length = _; simp; omega
    have e2 : wl (x :: ls) = ww x + wl ls := by simp [wl]
    rw [e, e2, List.length_cons]
    omega
theorem shw_len' : ∀ (ls : List (List (List UInt8))), ls.all lok = true → (shw ls).length = wl ls
  | [], _ => rfl
  | x :: ls, h => by
    simp only [List.all_cons, Bool.and_eq_true] at h
    have := shw_len' ls h.2
    have := (jn_len x).2 (by intro e; rw [e] at h; cases h.1)
    have e : (shw (x :: ls)).length = (jn x).length + 1 + (shw ls).length := by show ((jn x ++ [10]) ++ shw ls).length = _; simp; omega
    have e2 : wl (x :: ls) = ww x + wl ls := by simp [wl]
    rw [e, e2]
    omega
theorem ww_apl : ∀ (ws : List Wd) (c : UInt8), ww (txw (apl ws c)) ≤ ww (txw ws) + 1
  | [], _ => by simp [apl, txw, ww]
  | [w], c => by simp [apl, txw, ww]
  | w :: v :: ws, c => by
    have := ww_apl (v :: ws) c
    have e : ww (txw (apl (w :: v :: ws) c)) = w.1.length + 1 + ww (txw (apl (v :: ws) c)) := by simp [apl, txw, ww]
    have e2 : ww (txw (w :: v :: ws)) = w.1.length + 1 + ww (txw (v :: ws)) := by simp [txw, ww]
    omega
theorem psh_wl (out : List Ln) (ws : List Wd) (la : Int) : wl (txs (psh out ws la)) = wl (txs out) + ww (txw ws) := by
  rw [psh_out, wl_app]
  cases ws with
  | nil => simp [wl, txw, ww]
  | cons v ws => simp [wl]
theorem lx_len : ∀ (l : List UInt8) (i : Int) (out : List Ln) (ws : List Wd) (la : Int) (rem op : Bool), wl (txs (lx l i out ws la rem op).1) ≤ wl (txs out) + ww (txw ws) + l.length + bif op then 0 else 1
  | [], _, out, ws, la, _, op => by
    show wl (txs (psh out ws la)) ≤ _
    rw [psh_wl]; omega
  | c :: r, i, out, ws, la, rem, op => by
    unfold lx
    rw [List.length_cons]
    cases ((c.toNat : Int) == 10)
    · cases (rem || (c.toNat : Int) == 35) <;> simp only [cond_true, cond_false]
      · cases (isB c) <;> simp only [cond_true, cond_false]
        · cases isW c <;> simp only [cond_true, cond_false, Bool.not_true, Bool.not_false]
          · show 0 ≤ _; omega
          · cases op <;> simp only [cond_true, cond_false]
            · have := lx_len r (i + 1) out (ws ++ [([c], i)]) la false true
              rw [txw_app, ww_app] at this
              have e : ww (txw [([c], i)]) = 2 := by simp [txw, ww]
              rw [e] at this
              simp only [cond_true] at this
              omega
            · have := lx_len r (i + 1) out (apl ws c) la false true
              have := ww_apl ws c
              simp only [cond_true] at *
              omega
        · have := lx_len r (i + 1) out ws la false false
          simp only [cond_false] at this
          cases op <;> simp only [cond_true, cond_false] <;> omega
      · have := lx_len r (i + 1) out ws la true false
        simp only [cond_false] at this
        cases op <;> simp only [cond_true, cond_false] <;> omega
    · have := lx_len r (i + 1) (psh out ws la) [] (i + 1) false false
      rw [psh_wl] at this
      simp only [cond_true, cond_false] at *
      have e : ww (txw []) = 0 := rfl
      rw [e] at this
      cases op <;> simp only [cond_true, cond_false] <;> omega
/-- How the program cuts a line: blanks, a word, and so on, as long as there is a word. -/
def lnF : Nat → List UInt8 → Int → List Wd × List UInt8
  | 0, l, _ => ([], l)
  | n + 1, l, a => bif (l.dropWhile isB).takeWhile isW == [] then ([], l.dropWhile isB) else
    (((l.dropWhile isB).takeWhile isW, a + ((l.takeWhile isB).length : Int)) :: (lnF n ((l.dropWhile isB).dropWhile isW) (a + ((l.takeWhile isB).length : Int) + (((l.dropWhile isB).takeWhile isW).length : Int))).1,
      (lnF n ((l.dropWhile isB).dropWhile isW) (a + ((l.takeWhile isB).length : Int) + (((l.dropWhile isB).takeWhile isW).length : Int))).2)
def n10 (c : UInt8) : Bool := !((c.toNat : Int) == 10)
def h35 (l : List UInt8) : Bool := match l with
  | [] => false
  | c :: _ => (c.toNat : Int) == 35
def rmk (l : List UInt8) : List UInt8 := bif h35 l then l.dropWhile n10 else l
def lnW (l : List UInt8) (a : Int) : List Wd := (lnF (l.length + 1) l a).1
def lnR (l : List UInt8) (a : Int) : List UInt8 := rmk (lnF (l.length + 1) l a).2
theorem isB_not {c : UInt8} (h : isB c = true) : ((c.toNat : Int) == 10) = false ∧ ((c.toNat : Int) == 35) = false := by
  unfold isB at h
  rw [Bool.or_eq_true, beq_iff_eq, beq_iff_eq] at h
  exact ⟨beq_eq_false_iff_ne.2 (by omega), beq_eq_false_iff_ne.2 (by omega)⟩
theorem lx_B {c : UInt8} (h : isB c = true) (r : List UInt8) (i : Int) (out : List Ln) (ws : List Wd) (la : Int) (op : Bool) : lx (c :: r) i out ws la false op = lx r (i + 1) out ws la false false := by
  obtain ⟨h1, h2⟩ := isB_not h
  show (bif (c.toNat : Int) == 10 then _ else bif false || (c.toNat : Int) == 35 then _ else bif isB c then _ else bif !isW c then _ else _) = _
  rw [h1, h2, h]
  rfl
theorem lx_skip : ∀ (l : List UInt8) (i : Int) (out : List Ln) (ws : List Wd) (la : Int), lx l i out ws la false false = lx (l.dropWhile isB) (i + ((l.takeWhile isB).length : Int)) out ws la false false
  | [], i, out, ws, la => by simp
  | c :: r, i, out, ws, la => by
    cases h : isB c
    · simp [h]
    · rw [lx_B h, lx_skip r]
      simp only [List.dropWhile_cons, List.takeWhile_cons, h, if_true, List.length_cons]
      rw [show i + 1 + ((r.takeWhile isB).length : Int) = i + (((r.takeWhile isB).length + 1 : Nat) : Int) by omega]
/-- What begins with no byte of a word. -/
def nW (l : List UInt8) : Prop := ∀ c r, l = c :: r → isW c = false
theorem lx_op {l : List UInt8} (h : nW l) (i : Int) (out : List Ln) (ws : List Wd) (la : Int) : lx l i out ws la false true = lx l i out ws la false false := by
  cases l with
  | nil => rfl
  | cons c r =>
    have hc := h c r rfl
    unfold lx
    rw [hc]
    rfl
theorem dropW_head {p : UInt8 → Bool} : ∀ (l : List UInt8) {c : UInt8} {r : List UInt8}, l.dropWhile p = c :: r → p c = false
  | [], _, _, h => by cases h
  | x :: l, c, r, h => by
    rw [List.dropWhile_cons] at h
    cases hx : p x with
    | true => rw [hx] at h; exact dropW_head l h
    | false =>
      rw [hx] at h
      simp at h
      rw [← h.1]; exact hx
theorem takeW_all {p : UInt8 → Bool} : ∀ (l : List UInt8), (l.takeWhile p).all p = true
  | [] => rfl
  | x :: l => by
    cases hx : p x with
    | true => simp only [List.takeWhile_cons, hx, if_true, List.all_cons, takeW_all l, Bool.true_and]
    | false => simp [hx]
theorem takeW_nil {p : UInt8 → Bool} {c : UInt8} {r : List UInt8} (h : ((c :: r).takeWhile p == []) = true) : p c = false := by
  cases hc : p c with
  | false => rfl
  | true => simp [hc] at h
theorem tdW (p : UInt8 → Bool) (l : List UInt8) : l.length = (l.takeWhile p).length + (l.dropWhile p).length := by
  have := congrArg List.length (List.takeWhile_append_dropWhile (p := p) (l := l))
  rw [List.length_append] at this
  exact this.symm
theorem lnF_le : ∀ (n : Nat) (l : List UInt8) (a : Int), (lnF n l a).2.length ≤ l.length
  | 0, l, _ => Nat.le_refl _
  | n + 1, l, a => by
    have h1 := tdW isB l
    have h2 := tdW isW (l.dropWhile isB)
    unfold lnF
    cases ((l.dropWhile isB).takeWhile isW == [])
    · have := lnF_le n ((l.dropWhile isB).dropWhile isW) (a + ((l.takeWhile isB).length : Int) + (((l.dropWhile isB).takeWhile isW).length : Int))
      simp only [cond_false]
      omega
    · simp only [cond_true]; omega
theorem lnF_lx : ∀ (n : Nat) (l : List UInt8) (a : Int), l.length < n → ∀ (out : List Ln) (ws : List Wd) (la : Int),
    lx l a out ws la false false = lx (lnF n l a).2 (a + (l.length : Int) - ((lnF n l a).2.length : Int)) out (ws ++ (lnF n l a).1) la false false ∧ ∀ c r, (lnF n l a).2 = c :: r → isW c = false ∧ isB c = false
  | 0, l, a, h, _, _, _ => absurd h (Nat.not_lt_zero _)
  | n + 1, l, a, h, out, ws, la => by
    have h1 := tdW isB l
    have h2 := tdW isW (l.dropWhile isB)
    have hs := lx_skip l a out ws la
    unfold lnF
    cases hw : ((l.dropWhile isB).takeWhile isW == [])
    · simp only [cond_false]
      have hne : isWd ((l.dropWhile isB).takeWhile isW) = true := by
        unfold isWd
        rw [hw, takeW_all]; rfl
      have hpos : 0 < ((l.dropWhile isB).takeWhile isW).length := by
        rcases Nat.eq_zero_or_pos ((l.dropWhile isB).takeWhile isW).length with e | e
        · rw [List.length_eq_zero_iff.1 e] at hw; cases hw
        · exact e
      have hd : nW ((l.dropWhile isB).dropWhile isW) := fun c r e => dropW_head _ e
      have hwd := lx_word hne ((l.dropWhile isB).dropWhile isW) (a + ((l.takeWhile isB).length : Int)) out ws la
      rw [List.takeWhile_append_dropWhile] at hwd
      obtain ⟨g1, g2⟩ := lnF_lx n ((l.dropWhile isB).dropWhile isW) (a + ((l.takeWhile isB).length : Int) + (((l.dropWhile isB).takeWhile isW).length : Int)) (by omega) out (ws ++ [((l.dropWhile isB).takeWhile isW, a + ((l.takeWhile isB).length : Int))]) la
      refine ⟨?_, g2⟩
      rw [hs, hwd, lx_op hd, g1, List.append_assoc]
      congr 1
      omega
    · simp only [cond_true]
      refine ⟨?_, fun c r e => ?_⟩
      · rw [hs, List.append_nil]
        congr 1
        omega
      · rw [e] at hw
        exact ⟨takeW_nil hw, dropW_head _ e⟩
theorem lx_rem : ∀ (l : List UInt8) (i : Int) (out : List Ln) (ws : List Wd) (la : Int), lx l i out ws la true false = lx (l.dropWhile n10) (i + ((l.takeWhile n10).length : Int)) out ws la true false
  | [], i, out, ws, la => by simp
  | c :: r, i, out, ws, la => by
    cases h : ((c.toNat : Int) == 10)
    · have hn : n10 c = true := by unfold n10; rw [h]; rfl
      have e : lx (c :: r) i out ws la true false = lx r (i + 1) out ws la true false := by
        show (bif (c.toNat : Int) == 10 then _ else bif true || (c.toNat : Int) == 35 then _ else _) = _
        rw [h]; rfl
      rw [e, lx_rem r]
      simp only [List.dropWhile_cons, List.takeWhile_cons, hn, if_true, List.length_cons]
      rw [show i + 1 + ((r.takeWhile n10).length : Int) = i + (((r.takeWhile n10).length + 1 : Nat) : Int) by omega]
    · have hn : n10 c = false := by unfold n10; rw [h]; rfl
      simp [hn]
/-- A LINE, AND WHAT IS BEHIND IT. -/
def afterL (l : List UInt8) (a : Int) (out : List Ln) (la : Int) : List Ln × Int × Int := match lnR l a with
  | [] => (psh out (lnW l a) la, 0, 0)
  | c :: r => bif (c.toNat : Int) == 10 then lx r (a + (l.length : Int) - ((c :: r).length : Int) + 1) (psh out (lnW l a) la) [] (a + (l.length : Int) - ((c :: r).length : Int) + 1) false false else ([], a + (l.length : Int) - ((c :: r).length : Int), 70)
theorem lx_afterL (l : List UInt8) (a : Int) (out : List Ln) (la : Int) : lx l a out [] la false false = afterL l a out la := by
  obtain ⟨g1, g2⟩ := lnF_lx (l.length + 1) l a (Nat.lt_succ_self _) out [] la
  rw [g1, List.nil_append]
  have hle := lnF_le (l.length + 1) l a
  unfold afterL lnR lnW
  generalize (lnF (l.length + 1) l a).1 = ws at *
  generalize (lnF (l.length + 1) l a).2 = t at *
  clear g1
  cases t with
  | nil => rfl
  | cons c r =>
    obtain ⟨hw, hb⟩ := g2 c r rfl
    cases h : ((c.toNat : Int) == 35) with
    | false =>
      have e : rmk (c :: r) = c :: r := by
        show (bif (c.toNat : Int) == 35 then _ else _) = _
        rw [h]; rfl
      rw [e]
      show (bif (c.toNat : Int) == 10 then _ else bif false || (c.toNat : Int) == 35 then _ else bif isB c then _ else bif !isW c then _ else _) = _
      rw [h, hw, hb]
      rfl
    | true =>
      have h10 : ((c.toNat : Int) == 10) = false := by
        rw [beq_iff_eq] at h
        exact beq_eq_false_iff_ne.2 (by omega)
      have e : rmk (c :: r) = r.dropWhile n10 := by
        show (bif (c.toNat : Int) == 35 then _ else _) = _
        rw [h]
        have hn : n10 c = true := by unfold n10; rw [h10]; rfl
        simp only [cond_true, List.dropWhile_cons, hn, if_true]
      rw [e]
      have e2 : ∀ i, lx (c :: r) i out ws la false false = lx r (i + 1) out ws la true false := fun i => by
        show (bif (c.toNat : Int) == 10 then _ else bif false || (c.toNat : Int) == 35 then _ else _) = _
        rw [h10, h]; rfl
      rw [e2, lx_rem]
      have hl := tdW n10 r
      cases hd : r.dropWhile n10 with
      | nil => rfl
      | cons x q =>
        have hx : ((x.toNat : Int) == 10) = true := by
          have := dropW_head _ hd
          unfold n10 at this
          simpa using this
        rw [hd] at hl
        show (bif (x.toNat : Int) == 10 then _ else _) = _
        simp only [hx, cond_true]
        rw [List.length_cons] at hle hl
        rw [show a + (l.length : Int) - ((c :: r).length : Int) + 1 + ((r.takeWhile n10).length : Int) = a + (l.length : Int) - ((x :: q).length : Int) by
          rw [List.length_cons, List.length_cons]; omega]
abbrev tt {α : Type} : α → Prop := fun _ => True
section
variable {P : Program} {w00 : World} {N : Nat} {L : List Loc} {E : List (Nat × VTy)} {d : Nat} {t0 : TypeId} {pos : String} {af : Array Edge} {gd : Option (Nat × Bool)} {ats : Array TypeId}
theorem st_ssub {o o1 o2 : Operand} {l : List UInt8} {x y : Int} {ty : TypeId} [ho : OpC E o (.is (Tx l))] [h1 : OpC E o1 (.is (.int .i64 x))] [h2 : OpC E o2 (.is (.int .i64 y))] [ht : StrC P ty] (hx : 0 ≤ x ∧ x ≤ y ∧ y ≤ (l.length : Int)) : StepT P w00 N L E ⟨some d, .slice ty o (some o1) (some o2) none, t0, pos, af, gd⟩ (.is (Tx ((l.take y.toNat).drop x.toNat))) := by
  constructor
  intro X ρ w hc _ hN hm hsl
  have e0 : ρ o = Tx l := ho.get (X := X) (w := w) hc fun p hp e => hsl p hp (by simp [Op.operands, e])
  have e1 : ρ o1 = .int .i64 x := h1.get (X := X) (w := w) hc fun p hp e => hsl p hp (by simp [Op.operands, e])
  have e2 : ρ o2 = .int .i64 y := h2.get (X := X) (w := w) hc fun p hp e => hsl p hp (by simp [Op.operands, e])
  have hu := ht.ok
  obtain ⟨hx0, hx1, hx2⟩ := hx
  have e3 := bs_ext l x.toNat y.toNat
  have e4 := bs_size l
  clear hc hsl ho ht h1 h2
  unfold Yields
  go_simp
  exact ⟨rfl, Below.refl _ _⟩
/-- The address of what a caller holds, of plain cells. -/
def VTy.pcs (c : List Value) : VTy := ⟨fun X w v => ∃ b, v = .pointer (some ⟨b, 0, none⟩) ∧ Free X w b ∧ ∀ (j : Nat) (u : Value), c[j]? = some u → w.cell? ⟨b, j, none⟩ = some u,
  fun ⟨b, e, hb, h⟩ hk hX => ⟨b, e, Free.mono hk hX b hb, fun j u hj => (World.cell?_of_block (hk.block b hb.1 hb.2)).trans (h j u hj)⟩⟩
theorem st_nilP {o : Operand} {c : List Value} [ho : OpC E o (.pcs c)] : StepT P w00 N L E ⟨some d, .nilCheck o, t0, pos, af, gd⟩ (.pcs c) := by
  constructor
  intro X ρ w hc _ hN hm hsl
  have h := ho.get (X := X) (w := w) hc fun p hp e => hsl p hp (by simp [Op.operands, e])
  have h' := h
  obtain ⟨b, e, hb, hcs⟩ := h'
  have hr : (execOp ρ ⟨some d, .nilCheck o, t0, pos, af, gd⟩).run P w = .ok (.value (.pointer (some ⟨b, 0, none⟩))) w := by
    clear hc hsl ho hm h hcs hb
    go_simp
  unfold Yields
  rw [hr]
  exact ⟨by rw [← e]; exact h, Below.refl _ _⟩
theorem st_fldP {ty : TypeId} {s i fo k : Nat} {ag : Bool} {c : List Value} {u : Value} [hs : Look E s (.pcs c)] [hf : FieldC P ty i fo k ag] [hn : NthV c fo u] : StepT P w00 N L E ⟨some d, .fieldAddr ty (.tmp s) i, t0, pos, af, gd⟩ (.pv u) := by
  constructor
  intro X ρ w hc _ hN hm hsl
  obtain ⟨b, e, hb, hcs⟩ := hsl _ hs.mem (by simp [Op.operands])
  have e' : ρ (.tmp s) = .pointer (some ⟨b, 0, none⟩) := e
  obtain ⟨fs, f, h1, h2, h3, h4, h5, _⟩ := hf.ok
  have hz : (sizeOf f.type).run P w = .ok k w := by
    cases hq : P.info? f.type with
    | none => rw [hq] at h4; cases h4
    | some q =>
      rw [hq] at h4
      have : q.size = k := by simpa using h4
      simp [sizeOf, typeInfo, hq, this]
  have hrun : (execOp ρ ⟨some d, .fieldAddr ty (.tmp s) i, t0, pos, af, gd⟩).run P w = .ok (.value (.pointer (some ⟨b, fo, none⟩))) w := by
    unfold execOp
    simp only [e', Instr.fieldAt, Instr.sureAddr, fieldPlace, Sem.run_bind, Sem.run_pure, Result.andThen_ok, run_underlying h1 w, h2, hz, h5, if_false, h3, Addr.add_mid, Nat.zero_add]
  unfold Yields
  rw [hrun]
  exact ⟨⟨b, fo, rfl, hb, hcs _ _ hn.ok⟩, Below.refl _ _⟩
theorem AllH.weakX {X : List Nat} {w : World} {As : List VTy} {vs : List Value} (h : AllH X w As vs) : AllH [] w As vs := h.stable ⟨Nat.le_refl _, fun _ _ _ => rfl⟩ fun _ h _ => by cases h
/-- A method that only reads is called at a variable of the call's own. -/
theorem scown {G : World → Prop} {f : FuncId} {p r : Nat} {os : List Operand} {ks : List Nat} {As : List VTy} {T0 : VTy} {c : List Value} {v : Value} [hs : Look E p (.is (.pointer (some ⟨r, 0, none⟩)))] [hl : LocC L r T0] [cc : CellsC T0 c] [k : OpsK E os ks As] [sg : StabG G] (hG : G w00) (h : Ctr P G f (0 :: ks) (.pcs c :: As) (fun _ => .is v)) :
    StepT P w00 N L E ⟨some d, .call { callee := .value (.func f), args := (.tmp p :: os).toArray, argTypes := ats }, t0, pos, af, gd⟩ (.is v) := by
  constructor
  intro X ρ w hc hf hN hm hsl
  have e1 : ρ (.tmp p) = .pointer (some ⟨r, 0, none⟩) := hsl _ hs.mem (by simp [Op.operands, Call.operands])
  have e := k.get (X := X) (w := w) hc hf fun q hq he => hsl q hq (by simpa [Op.operands, Call.operands] using .inr he)
  obtain ⟨g1, g2, u, ty, g3, g4⟩ := hm.loc _ hl.mem
  rw [cc.ok g3] at g4
  have hr : (execOp ρ ⟨some d, .call { callee := .value (.func f), args := (.tmp p :: os).toArray, argTypes := ats }, t0, pos, af, gd⟩).run P w = .ok (.enter f (.pointer (some ⟨r, 0, none⟩) :: os.map ρ).toArray) w := by
    have hff := hf f
    have hen := h.ent
    clear hsl h hm hN hc e k g3
    go_simp
    exact hen _ _
  unfold Yields
  rw [hr]
  refine (h.run (X := []) (sg.stab hG hm.below) (fun _ h => by cases h) (vs := .pointer (some ⟨r, 0, none⟩) :: os.map ρ) ⟨⟨r, rfl, ⟨hm.far _ g1, fun h => by cases h⟩, fun j u hj => cell_at g4 (by simpa using hj)⟩, e.weakX⟩).mono ?_
  rintro e w' ⟨v, rfl, hT, hB⟩
  exact ⟨v, rfl, hT, hB⟩
/-- A function that is handed on: of a byte it tells whether it fits. -/
def VTy.fp (P : Program) (p : UInt8 → Bool) : VTy := ⟨fun X w v => ∃ (f : FuncId) (us : List Value) (ks : List Nat) (Us : List VTy), v = .func (.func f) #[] us.toArray ∧ AllH X w Us us ∧ ∀ c : UInt8, Ctr P S1 f ks (.is (.int .u8 (c.toNat : Int)) :: Us) (fun _ => .is (.bool (p c))),
  fun ⟨f, us, ks, Us, e, h, hc⟩ hk hX => ⟨f, us, ks, Us, e, h.stable hk hX, hc⟩⟩
theorem st_fp {p : UInt8 → Bool} {s : Nat} {o : Operand} {c : UInt8} {b : Bool} [hs : Look E s (.fp P p)] [ho : OpC E o (.is (.int .u8 (c.toNat : Int)))] (hb : p c = b) : StepT P w00 N L E ⟨some d, .call { callee := .value (.tmp s), args := #[o], argTypes := ats }, t0, pos, af, gd⟩ (.is (.bool b)) := by
  constructor
  intro X ρ w hc hf hN hm hsl
  obtain ⟨f, us, ks, Us, e, h, hct⟩ := hsl _ hs.mem (by simp [Op.operands, Call.operands])
  have e0 : ρ o = .int .u8 (c.toNat : Int) := ho.get (X := X) (w := w) hc fun p hp e => hsl p hp (by simp [Op.operands, Call.operands, e])
  have e' : ρ (.tmp s) = .func (.func f) #[] us.toArray := e
  have hr : (execOp ρ ⟨some d, .call { callee := .value (.tmp s), args := #[o], argTypes := ats }, t0, pos, af, gd⟩).run P w = .ok (.enter f (.int .u8 (c.toNat : Int) :: us).toArray) w := by
    have hen := (hct c).ent
    clear hsl hm hN hc e h hf hct
    go_simp
    exact hen _ _
  unfold Yields
  rw [hr]
  subst hb
  refine ((hct c).run trivial hm.far (vs := .int .u8 (c.toNat : Int) :: us) ⟨rfl, h⟩).mono ?_
  rintro e w' ⟨v, rfl, hT, hB⟩
  exact ⟨v, rfl, hT, hB⟩
end
/-- Arguments that say more. -/
theorem Ctr.args {P : Program} {G : World → Prop} {f : FuncId} {ks ks' : List Nat} {As As' : List VTy} {T : Nat → VTy} (h : Ctr P G f ks As T) (ha : ∀ {X : List Nat} {w : World} {vs : List Value}, AllH X w As' vs → AllH X w As vs) : Ctr P G f ks' As' T := ⟨h.ent, h.down, fun hG hX hv => h.run hG hX (ha hv)⟩
theorem PtC.args {P : Program} {G : World → Prop} {f : FuncId} {ks ks' : List Nat} {T0 T1 T : VTy} {As As' : List VTy} (h : PtC P G f T0 ks As T1 T) (ha : ∀ {X : List Nat} {w : World} {vs : List Value}, AllH X w As' vs → AllH X w As vs) : PtC P G f T0 ks' As' T1 T := ⟨h.ent, fun hG hm hv => h.run hG hm (ha hv)⟩
theorem fp_of {P : Program} {f : FuncId} {p : UInt8 → Bool} {ks : List Nat} (h : ∀ c : UInt8, Ctr P S1 f ks [.is (.int .u8 (c.toNat : Int))] (fun _ => .is (.bool (p c)))) {X : List Nat} {w : World} {v : Value} (hv : (VTy.fv f [] []).holds X w v) : (VTy.fp P p).holds X w v := by
  obtain ⟨vs, us, e, h1, h2⟩ := hv
  match vs, us, h1, h2 with
  | [], [], _, _ => exact ⟨f, [], ks, [], e, trivial, h⟩
/-- A part of a struct in a row. -/
class FaC {α : Type} {β : outParam Type} (r : Rp α) (off : Nat) (r' : outParam (Rp β)) (f : outParam (α → β)) : Prop where
  ok : ∀ {w : World} {S : Nat → Prop} {a : α} {cs : List Value}, r.rd w S a cs → ∃ c1 c2 c3, cs = c1 ++ c2 ++ c3 ∧ c1.length = off ∧ r'.rd w S (f a) c2
class K1 {α : Type} (r : Rp α) : Prop where
  ok : r.k = 1
instance : K1 Rp.str := ⟨rfl⟩
instance {k : IntKind} : K1 (Rp.int k) := ⟨rfl⟩
instance {α : Type} {r : Rp α} : K1 r.row := ⟨rfl⟩
instance FaC.fst {α β : Type} {r : Rp α} {s : Rp β} : FaC (r.pair s) 0 r Prod.fst := ⟨fun ⟨c1, c2, e, h1, _⟩ => ⟨[], c1, c2, e, rfl, h1⟩⟩
instance FaC.snd {α β : Type} {r : Rp α} {s : Rp β} [k : K1 r] : FaC (r.pair s) 1 s Prod.snd := ⟨fun ⟨c1, c2, e, h1, h2⟩ => ⟨c1, c2, [], by rw [e, List.append_nil], (r.len h1).trans k.ok, h2⟩⟩
/-- What one cell says. -/
class ScalC {α : Type} (r : Rp α) (a : α) (T : outParam VTy) : Prop where
  ok : ∀ {X : List Nat} {w : World} {v : Value}, r.rd w (Free X w) a [v] → T.holds X w v
instance {l : List UInt8} : ScalC Rp.str l (.is (Tx l)) := ⟨fun ⟨t, e, h⟩ => by
  injection e with e _
  subst e
  show Value.string t = _
  rw [tx_of t, h]⟩
instance {k : IntKind} {x : Int} : ScalC (Rp.int k) x (.is (.int k x)) := ⟨fun h => by
  injection (show [_] = [_] from h) with e _⟩
instance {α : Type} {r : Rp α} {l : List α} : ScalC r.row l (.rw r tt l) := ⟨fun h => ⟨fun _ _ => trivial, h⟩⟩
section
variable {P : Program} {w00 : World} {N : Nat} {L : List Loc} {E : List (Nat × VTy)} {d : Nat} {t0 : TypeId} {pos : String} {af : Array Edge} {gd : Option (Nat × Bool)} {ats : Array TypeId}
theorem rangeAt_mid {w : World} {b o : Nat} {c1 c2 c3 : List Value} (h : w.rangeAt b o (c1 ++ c2 ++ c3)) : w.rangeAt b (o + c1.length) c2 := fun j v hv => by
  have := h (c1.length + j) v (by
    rw [List.append_assoc, List.getElem?_append_right (Nat.le_add_right _ _), Nat.add_sub_cancel_left, List.getElem?_append_left (List.getElem?_eq_some_iff.1 hv).1]
    exact hv)
  rwa [← Nat.add_assoc] at this
theorem st_fldE {α β : Type} {r : Rp α} {r' : Rp β} {p : α → Prop} {a : α} {g : α → β} {ty : TypeId} {s i fo k : Nat} {ag : Bool} [hs : Look E s (.pe r p a)] [hf : FieldC P ty i fo k ag] [hn : FaC r fo r' g] : StepT P w00 N L E ⟨some d, .fieldAddr ty (.tmp s) i, t0, pos, af, gd⟩ (.pe r' tt (g a)) := by
  constructor
  intro X ρ w hc _ hN hm hsl
  obtain ⟨_, b, o, cs, e, hb, hcs, hrd⟩ := hsl _ hs.mem (by simp [Op.operands])
  have e' : ρ (.tmp s) = .pointer (some ⟨b, o, none⟩) := e
  obtain ⟨fs, f, h1, h2, h3, h4, h5, _⟩ := hf.ok
  have hz : (sizeOf f.type).run P w = .ok k w := by
    cases hq : P.info? f.type with
    | none => rw [hq] at h4; cases h4
    | some q =>
      rw [hq] at h4
      have : q.size = k := by simpa using h4
      simp [sizeOf, typeInfo, hq, this]
  have hrun : (execOp ρ ⟨some d, .fieldAddr ty (.tmp s) i, t0, pos, af, gd⟩).run P w = .ok (.value (.pointer (some ⟨b, o + fo, none⟩))) w := by
    unfold execOp
    simp only [e', Instr.fieldAt, Instr.sureAddr, fieldPlace, Sem.run_bind, Sem.run_pure, Result.andThen_ok, run_underlying h1 w, h2, hz, h5, if_false, h3, Addr.add_mid]
  obtain ⟨c1, c2, c3, rfl, hl, hr⟩ := hn.ok hrd
  unfold Yields
  rw [hrun]
  exact ⟨⟨trivial, b, _, c2, rfl, hb, by rw [← hl]; exact rangeAt_mid hcs, hr⟩, Below.refl _ _⟩
theorem st_loadS {α : Type} {r : Rp α} {p : α → Prop} {a : α} {ty : TypeId} {s : Nat} {T : VTy} [hs : Look E s (.pe r p a)] [k1 : K1 r] [ht : TyC P ty 1 false] [hn : ScalC r a T] : StepT P w00 N L E ⟨some d, .load ty (.tmp s), t0, pos, af, gd⟩ T := by
  constructor
  intro X ρ w hc _ hN hm hsl
  obtain ⟨_, b, o, cs, e, hb, hcs, hrd⟩ := hsl _ hs.mem (by simp [Op.operands])
  have e' : ρ (.tmp s) = .pointer (some ⟨b, o, none⟩) := e
  obtain ⟨dd, hu, hd⟩ := ht.row
  obtain ⟨u, rfl⟩ : ∃ u, cs = [u] := List.length_eq_one_iff.1 ((r.len hrd).trans k1.ok)
  have hag : (isAgg ty).run P w = .ok false w := by
    unfold isAgg
    rw [Sem.run_bind, run_underlying hu w]
    cases dd <;> first | rfl | cases hd
  have hcell : w.cell? ⟨b, o, none⟩ = some u := hcs 0 u rfl
  have hrun : (execOp ρ ⟨some d, .load ty (.tmp s), t0, pos, af, gd⟩).run P w = .ok (.value u) w := by
    unfold execOp
    simp only [e', Instr.loadAt, Instr.sureAddr, loadVar, Sem.run_bind, Sem.run_pure, Result.andThen_ok, hag, run_load, hcell, if_false, Bool.false_eq_true]
  unfold Yields
  rw [hrun]
  exact ⟨hn.ok hrd, Below.refl _ _⟩
end
/-- A call that gets the address of a variable; its answer may tell from which block on it is new. How memory was stands at 999, apart from all slots. -/
structure PtB (P : Program) (G : World → Prop) (f : FuncId) (T0 : VTy) (ks : List Nat) (As : List VTy) (T1 : VTy) (T : Nat → VTy) : Prop where
  ent : Enters P f
  down : ∀ {B B' : Nat} {X : List Nat} {w : World} {v : Value}, B' ≤ B → (T B).holds X w v → (T B').holds X w v
  run : ∀ {w00 w : World} {X : List Nat} {L0 : List Loc} {r : Nat} {vs : List Value}, G w → Mem w00 X ((r, T0) :: L0) w → AllH X w As vs → Calls P f (.pointer (some ⟨r, 0, none⟩) :: vs).toArray w (PGives w00 X ((r, T1) :: L0) w (T w.heap.size))
theorem PtB.args {P : Program} {G : World → Prop} {f : FuncId} {ks ks' : List Nat} {T0 T1 : VTy} {T : Nat → VTy} {As As' : List VTy} (h : PtB P G f T0 ks As T1 T) (ha : ∀ {X : List Nat} {w : World} {vs : List Value}, AllH X w As' vs → AllH X w As vs) : PtB P G f T0 ks' As' T1 T := ⟨h.ent, h.down, fun hG hm hv => h.run hG hm (ha hv)⟩
theorem AllH.count {X : List Nat} {w : World} : ∀ {As : List VTy} {vs : List Value}, AllH X w As vs → vs.length = As.length
  | [], [], _ => rfl
  | _ :: _, _ :: _, h => by rw [List.length_cons, List.length_cons, h.2.count]
  | [], _ :: _, h => h.elim
  | _ :: _, [], h => h.elim
section
variable {P : Program} {w00 : World} {X : List Nat} {L L' : List Loc} {E : List (Nat × VTy)} {n : Nat} {ops : Array Oper} {rest : List Oper} {Q : Exit → Act → World → Prop} {cs : List Code} {t0 : TypeId} {pos : String} {af : Array Edge}
theorem ptb {G : World → Prop} {f : FuncId} {fn : Func} {c : Code} {T0 : VTy} {ks : List Nat} {As : List VTy} {T1 : VTy} {T : Nat → VTy} [dn : DownC T] (hf : P.funcs[f]? = some fn) (hb : fn.body = some c) (hn : fn.ntmps = n) (hl : As.length + 1 ≤ n) (he : Enters P f)
    (h : ∀ w00 X L0 r w, G w → Mem w00 X ((r, T0) :: L0) w → GC P w00 X ((r, T0) :: L0) (argE 0 (.is (.pointer (some ⟨r, 0, none⟩)) :: As) ++ [(999, .gh X w)]) n [c] (bodyPost P fn (PGives w00 X ((r, T1) :: L0) w (T w.heap.size)))) : PtB P G f T0 ks As T1 T :=
  ⟨he, dn.down, fun {w00 w X L0 r vs} hG hm ha => by
    have hlen := ha.count
    have hg := h w00 X L0 r w hG hm
    have ha' : AllH X w (.is (.pointer (some ⟨r, 0, none⟩)) :: As) (.pointer (some ⟨r, 0, none⟩) :: vs) := ⟨rfl, ha⟩
    refine calls_of_wp hf hb (CW.out (g_of (X := X) (L := (r, T0) :: L0) (E := argE 0 (.is (.pointer (some ⟨r, 0, none⟩)) :: As) ++ [(999, .gh X w)]) ⟨?_, rfl, fun p hp => ?_, hm⟩ hg))
    · rw [hn]
      simp
      omega
    · rcases List.mem_append.1 hp with hp | hp
      · refine argE_slot ha' (fun j hj => ?_) p hp
        rw [Nat.zero_add, Array.getD_eq_getD_getElem?, Array.getElem?_append_left (by simpa using hj), List.getElem?_toArray, List.getD_eq_getElem?_getD]
      · rw [List.mem_singleton.1 hp]
        exact gh_refl⟩
theorem pn_end {w0 : World} {X0 : List Nat} {L1 : List Loc} {v : Value} {a : Act} {w : World} {T : VTy} (h : TS w00 X L E n a w) [g : MemE E 999 (.gh X0 w0)] (sx : ∀ b ∈ X0, b ∈ X) (sl : ∀ p ∈ L1, p ∈ L) (hx : ∀ p ∈ L1, p.1 ∈ X0) (hn : (L1.map Prod.fst).Nodup) (hf : ∀ b ∈ X0, b < w0.heap.size) (hT : T.holds X w v) : PGives w00 X0 L1 w0 T (.returned v) w := by
  obtain ⟨g1, g2⟩ := h.slots _ g.mem
  have hs : ∀ {T : VTy} {u : Value}, T.holds X w u → T.holds X0 w u := fun {T u} h => T.stable h ⟨Nat.le_refl _, fun _ _ _ => rfl⟩ fun b hb _ => sx b hb
  refine ⟨v, rfl, hs hT, ⟨fun p hp => ?_, fun b hb => Nat.lt_of_lt_of_le (hf b hb) g2.size, hn, h.mem.below⟩, g2⟩
  obtain ⟨k1, k2, u, ty, k3, k4⟩ := h.mem.loc _ (sl p hp)
  exact ⟨hx p hp, k2, u, ty, hs k3, k4⟩
theorem rn_1 {w0 : World} {X0 : List Nat} {L0 : List Loc} {r : Nat} {T0 T1 : VTy} {fn : Func} {q : ResultVar} {T T' : VTy} (hr : fn.results = #[q]) (hm : Mem w00 X0 ((r, T0) :: L0) w0) [g : MemE E 999 (.gh X0 w0)] [hX : SubX X0 X] [sl : SubL ((r, T1) :: L0) L] [k : ResC P L E q T] (hc : Cv T T') : GT w00 X L E n (bodyPost P fn (PGives w00 X0 ((r, T1) :: L0) w0 T')) :=
  ⟨fun a w ht => by
    obtain ⟨v, e, hT⟩ := k.ok ht
    exact bodyPost_ret (results_one hr e) ht.df (pn_end ht hX.sub sl.sub (fun p hp => (List.mem_cons.1 hp).elim (fun h => by rw [h]; exact (hm.loc _ List.mem_cons_self).1) fun h => (hm.loc _ (List.mem_cons_of_mem _ h)).1) hm.nodup hm.far (hc.ok _ _ _ hT))⟩
/-- Such a call. -/
theorem g_pb {G : World → Prop} {f : FuncId} {s p r : Nat} {os : List Operand} {ks : List Nat} {As : List VTy} {T0 T0' T1 : VTy} {T : Nat → VTy} {ats : Array TypeId} [hs : Look E p (.is (.pointer (some ⟨r, 0, none⟩)))] [k : OpsK E os ks As] [sg : StabG G] (hG : G w00) (h : PtB P G f T0 ks As T1 T) [hl : LocC L r T0'] [cv : CvC T0' T0] [hu : UpdC L r T0' T1 L'] (hd : (Nat.blt s n && !(E.map Prod.fst).elem s) = true)
    (next : GR P w00 X L' ((s, T w00.heap.size) :: E) n ops rest cs Q) : GR P w00 X L E n ops (⟨some s, .call { callee := .value (.func f), args := (.tmp p :: os).toArray, argTypes := ats }, t0, pos, af, none⟩ :: rest) cs Q := ⟨fun a w ht => by
  refine wpList_run rfl ?_
  obtain ⟨L0, _, _, p1, p2⟩ := hu.upd.split
  have e1 : a.eval (.tmp p) = .pointer (some ⟨r, 0, none⟩) := ht.slots _ hs.mem
  have e2 := k.get (X := X) (w := w) (ρ := a.eval) (fun _ => rfl) (fun _ => rfl) fun q hq _ => ht.slots q hq
  have hm0 := ht.mem.perm p1
  have hm1 : Mem w00 X ((r, T0) :: L0) w := ⟨fun q hq => by
    rcases List.mem_cons.1 hq with rfl | hq
    · obtain ⟨g1, g2, u, ty, g3, g4⟩ := hm0.loc _ List.mem_cons_self
      exact ⟨g1, g2, u, ty, cv.ok g3, g4⟩
    · exact hm0.loc q (List.mem_cons_of_mem _ hq), hm0.far, hm0.nodup, hm0.below⟩
  have hc := h.run (sg.stab hG ht.mem.below) hm1 e2
  have hr : ∀ ρ : Operand → Value, ρ (.func f) = .func (.func f) #[] #[] → (execOp ρ ⟨some s, .call { callee := .value (.func f), args := (.tmp p :: os).toArray, argTypes := ats }, t0, pos, af, none⟩).run P w = .ok (.enter f (ρ (.tmp p) :: os.map ρ).toArray) w := by
    intro ρ hff
    have hen := h.ent
    clear hc hm0 hm1 e2 k next e1
    go_simp
    exact hen _ _
  have hr := hr a.eval rfl
  rw [e1] at hr
  unfold Oper.wp
  rw [hr]
  refine hc.mono ?_
  rintro e w' ⟨v, rfl, hT, hm, hk⟩
  simp only [Bool.and_eq_true, Bool.not_eq_true'] at hd
  refine next.run _ _ ⟨by simp [Act.put, ht.size], ht.df, fun q hq => ?_, hm.perm p2.symm⟩
  have hsz : s < a.tmps.size := by rw [ht.size, ← Nat.blt_eq]; exact hd.1
  rcases List.mem_cons.1 hq with rfl | hq
  · rw [put_getD _ _ _ _ hsz, if_pos rfl]; exact h.down ht.mem.below.size hT
  · have hne : q.1 ≠ s := fun e => by
      have : (E.map Prod.fst).elem s = true := by rw [List.elem_eq_mem, decide_eq_true_eq, ← e]; exact List.mem_map_of_mem hq
      rw [hd.2] at this; cases this
    rw [put_getD _ _ _ _ hsz, if_neg hne]
    exact q.2.stable (ht.slots q hq) hk fun _ hb _ => hb⟩
end
/-- The same, where the call has one variable alone. -/
structure PtO (P : Program) (G : World → Prop) (f : FuncId) (T0 : VTy) (ks : List Nat) (As : List VTy) (T1 : VTy) (T : Nat → VTy) : Prop where
  ent : Enters P f
  down : ∀ {B B' : Nat} {X : List Nat} {w : World} {v : Value}, B' ≤ B → (T B).holds X w v → (T B').holds X w v
  run : ∀ {w00 w : World} {X : List Nat} {r : Nat} {vs : List Value}, G w → Mem w00 X [(r, T0)] w → AllH X w As vs → Calls P f (.pointer (some ⟨r, 0, none⟩) :: vs).toArray w (PGives w00 X [(r, T1)] w (T w.heap.size))
section
variable {P : Program} {w00 : World} {X : List Nat} {L L' : List Loc} {E : List (Nat × VTy)} {n : Nat} {ops : Array Oper} {rest : List Oper} {Q : Exit → Act → World → Prop} {cs : List Code} {t0 : TypeId} {pos : String} {af : Array Edge}
theorem pto {G : World → Prop} {f : FuncId} {fn : Func} {c : Code} {T0 : VTy} {ks : List Nat} {As : List VTy} {T1 : VTy} {T : Nat → VTy} [dn : DownC T] (hf : P.funcs[f]? = some fn) (hb : fn.body = some c) (hn : fn.ntmps = n) (hl : As.length + 1 ≤ n) (he : Enters P f)
    (h : ∀ w00 X r w, G w → Mem w00 X [(r, T0)] w → GC P w00 X [(r, T0)] (argE 0 (.is (.pointer (some ⟨r, 0, none⟩)) :: As) ++ [(999, .gh X w)]) n [c] (bodyPost P fn (PGives w00 X [(r, T1)] w (T w.heap.size)))) : PtO P G f T0 ks As T1 T :=
  ⟨he, dn.down, fun {w00 w X r vs} hG hm ha => by
    have hlen := ha.count
    have hg := h w00 X r w hG hm
    have ha' : AllH X w (.is (.pointer (some ⟨r, 0, none⟩)) :: As) (.pointer (some ⟨r, 0, none⟩) :: vs) := ⟨rfl, ha⟩
    refine calls_of_wp hf hb (CW.out (g_of (X := X) (L := [(r, T0)]) (E := argE 0 (.is (.pointer (some ⟨r, 0, none⟩)) :: As) ++ [(999, .gh X w)]) ⟨?_, rfl, fun p hp => ?_, hm⟩ hg))
    · rw [hn]
      simp
      omega
    · rcases List.mem_append.1 hp with hp | hp
      · refine argE_slot ha' (fun j hj => ?_) p hp
        rw [Nat.zero_add, Array.getD_eq_getD_getElem?, Array.getElem?_append_left (by simpa using hj), List.getElem?_toArray, List.getD_eq_getElem?_getD]
      · rw [List.mem_singleton.1 hp]
        exact gh_refl⟩
theorem g_po {G : World → Prop} {f : FuncId} {s p r : Nat} {os : List Operand} {ks : List Nat} {As : List VTy} {T0 T1 : VTy} {T : Nat → VTy} {ats : Array TypeId} [hs : Look E p (.is (.pointer (some ⟨r, 0, none⟩)))] [k : OpsK E os ks As] [sg : StabG G] (hG : G w00) (h : PtO P G f T0 ks As T1 T) (hd : (Nat.blt s n && !(E.map Prod.fst).elem s) = true)
    (next : GR P w00 X [(r, T1)] ((s, T w00.heap.size) :: E) n ops rest cs Q) : GR P w00 X [(r, T0)] E n ops (⟨some s, .call { callee := .value (.func f), args := (.tmp p :: os).toArray, argTypes := ats }, t0, pos, af, none⟩ :: rest) cs Q := ⟨fun a w ht => by
  refine wpList_run rfl ?_
  have e1 : a.eval (.tmp p) = .pointer (some ⟨r, 0, none⟩) := ht.slots _ hs.mem
  have e2 := k.get (X := X) (w := w) (ρ := a.eval) (fun _ => rfl) (fun _ => rfl) fun q hq _ => ht.slots q hq
  have hc := h.run (sg.stab hG ht.mem.below) ht.mem e2
  have hr : ∀ ρ : Operand → Value, ρ (.func f) = .func (.func f) #[] #[] → (execOp ρ ⟨some s, .call { callee := .value (.func f), args := (.tmp p :: os).toArray, argTypes := ats }, t0, pos, af, none⟩).run P w = .ok (.enter f (ρ (.tmp p) :: os.map ρ).toArray) w := by
    intro ρ hff
    have hen := h.ent
    clear hc e2 k next e1
    go_simp
    exact hen _ _
  have hr := hr a.eval rfl
  rw [e1] at hr
  unfold Oper.wp
  rw [hr]
  refine hc.mono ?_
  rintro e w' ⟨v, rfl, hT, hm, hk⟩
  simp only [Bool.and_eq_true, Bool.not_eq_true'] at hd
  refine next.run _ _ ⟨by simp [Act.put, ht.size], ht.df, fun q hq => ?_, hm⟩
  have hsz : s < a.tmps.size := by rw [ht.size, ← Nat.blt_eq]; exact hd.1
  rcases List.mem_cons.1 hq with rfl | hq
  · rw [put_getD _ _ _ _ hsz, if_pos rfl]; exact h.down ht.mem.below.size hT
  · have hne : q.1 ≠ s := fun e => by
      have : (E.map Prod.fst).elem s = true := by rw [List.elem_eq_mem, decide_eq_true_eq, ← e]; exact List.mem_map_of_mem hq
      rw [hd.2] at this; cases this
    rw [put_getD _ _ _ _ hsz, if_neg hne]
    exact q.2.stable (ht.slots q hq) hk fun _ hb _ => hb⟩
theorem gh_size {w0 : World} {X0 : List Nat} {a : Act} {w : World} [g : MemE E 999 (.gh X0 w0)] (h : TS w00 X L E n a w) : w0.heap.size ≤ w.heap.size := (h.slots _ g.mem).2.size
end
end Go.Proofs.Ytkjojpeamabdmaa
