/- Lines that are written over, text by text; LexLines. -/
import Derived.Test.YtkjojpeamabdmaaGH
set_option linter.unusedSimpArgs false
set_option linter.unusedVariables false
namespace Go.Proofs.Ytkjojpeamabdmaa
open Go Go.RowKit
/-- How many lines, and words, there may be. -/
theorem ls_bound {ls : List Ln} {n : Nat} (h1 : (txs ls).all lok = true) (h2 : wl (txs ls) ≤ n) : wl (txs ls) + ls.length ≤ n + n ∧ ls.length ≤ n ∧ ∀ x ∈ ls, x.1.length ≤ n := by
  have hl : ls.length ≤ wl (txs ls) := by
    have : ∀ m : List Ln, (txs m).all lok = true → m.length ≤ wl (txs m) := by
      intro m
      induction m with
      | nil => intro _; exact Nat.zero_le _
      | cons x m ih =>
        intro h
        have h' : lok (txw x.1) = true ∧ (txs m).all lok = true := by simpa [txs] using h
        have := ih h'.2
        have e : wl (txs (x :: m)) = ww (txw x.1) + wl (txs m) := by simp [wl, txs]
        have hne : x.1 ≠ [] := fun e0 => by have := h'.1; rw [e0] at this; cases this
        have h1 : 0 < x.1.length := by
          cases hx : x.1 with
          | nil => exact absurd hx hne
          | cons => simp
        have := ww_count x.1
        rw [e, List.length_cons]
        omega
    exact this ls h1
  refine ⟨by omega, by omega, fun x hx => ?_⟩
  obtain ⟨i, hi⟩ := List.mem_iff_getElem?.1 hx
  have := ww_at hi
  have := ww_count x.1
  omega
theorem lexR_ok (s : List UInt8) : (txs (lexR s).1).all lok = true ∧ wl (txs (lexR s).1) ≤ s.length + 1 ∧ wl (txs (lexR s).1) ≤ 65537 := by
  unfold lexR
  cases h : decide (65536 < s.length) with
  | true => exact ⟨rfl, Nat.zero_le _, Nat.zero_le _⟩
  | false =>
    have h1 := lx_ok s 0 [] [] 0 false false rfl rfl
    have h2 := lx_len s 0 [] [] 0 false false
    have h3 := of_decide_eq_false h
    have e1 : wl (txs []) = 0 := rfl
    have e2 : ww (txw []) = 0 := rfl
    rw [e1, e2] at h2
    simp only [cond_false] at *
    exact ⟨h1, by omega, by omega⟩
section
variable {w00 : World} {N : Nat} {L : List Loc} {E : List (Nat × VTy)} {d : Nat} {t0 : TypeId} {pos : String} {af : Array Edge} {gd : Option (Nat × Bool)} {ats : Array TypeId}
end
end Go.Proofs.Ytkjojpeamabdmaa
