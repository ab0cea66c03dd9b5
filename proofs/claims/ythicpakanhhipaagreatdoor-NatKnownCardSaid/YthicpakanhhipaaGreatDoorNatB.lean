/- nat: Product: what each call answers, and leaves. -/
import Derived.Test.YthicpakanhhipaaGreatDoorNatA
import Derived.Deep.RegionHeld3
namespace Go.Proofs.YthicpakanhhipaaGreatDoor
open Go Go.RowKit

def prodv : List (List Int) → Int
  | [] => 1
  | xs :: l => val 4294967296 xs * prodv l
def totl : List (List Int) → Nat
  | [] => 0
  | xs :: l => xs.length + totl l
theorem prodv_append (a b : List (List Int)) : prodv (a ++ b) = prodv a * prodv b := by
  induction a with
  | nil => simp [prodv]
  | cons x a ih => simp only [List.cons_append, prodv, ih, Int.mul_assoc]
theorem totl_append (a b : List (List Int)) : totl (a ++ b) = totl a + totl b := by
  induction a with
  | nil => simp [totl]
  | cons x a ih => simp only [List.cons_append, totl, ih, Nat.add_assoc]
theorem prodv_bound {l : List (List Int)} (h : ∀ xs ∈ l, Dg 4294967296 xs) : 0 ≤ prodv l ∧ prodv l < 4294967296 ^ (totl l + 1) := by
  suffices 0 ≤ prodv l ∧ prodv l ≤ 4294967296 ^ totl l by
    have p := pow_pos' (show (0 : Int) < 4294967296 by decide) (totl l)
    rw [Int.pow_succ]
    omega
  induction l with
  | nil => simp [prodv, totl]
  | cons x l ih =>
    obtain ⟨h1, h2⟩ := ih (fun xs hx => h xs (by simp [hx]))
    have h3 := val_nonneg (β := 4294967296) (by decide) (h x (by simp))
    have h4 := val_lt (β := 4294967296) (by decide) (h x (by simp))
    refine ⟨Int.mul_nonneg h3 h1, ?_⟩
    simp only [prodv, totl, Int.pow_add]
    exact Int.mul_le_mul (by omega) h2 h1 (by omega)

/-- s[:m], s[m:], of rows. -/
theorem SlS.front {w : World} {B : Nat} {A : Option Addr} {n c : Nat} {xss : List (List Int)} (h : SlS w B A n c xss) {m : Nat} (hm : m ≤ n) : SlS w B A m c (xss.take m) := by
  refine ⟨by rw [List.length_take]; have := h.1; omega, Nat.le_trans hm h.2.1, h.2.2.1, h.2.2.2.1, fun hn => ?_⟩
  obtain ⟨b, off, hA, hb, hc⟩ := h.2.2.2.2 (by omega)
  refine ⟨b, off, hA, hb, fun j x hx => hc j x ?_⟩
  rw [List.getElem?_take] at hx
  split at hx
  · exact hx
  · cases hx
theorem SlS.back {w : World} {B : Nat} {A : Option Addr} {n c : Nat} {xss : List (List Int)} (h : SlS w B A n c xss) {m : Nat} (hm : m ≤ n) : SlS w B (if c = m then A else A.map (·.add m)) (n - m) (c - m) (xss.drop m) := by
  have h1 := h.1
  have h2 := h.2.1
  have h3 := h.2.2.1
  refine ⟨by rw [List.length_drop]; omega, by omega, by omega, fun hA => ?_, fun hn => ?_⟩
  · split at hA
    · omega
    · have h0 := h.2.2.2.1 (by cases A <;> simp_all)
      omega
  · obtain ⟨b, off, rfl, hb, hc⟩ := h.2.2.2.2 (by omega)
    rw [if_neg (by omega)]
    refine ⟨b, off + m, by simp [Addr.add_lit], hb, fun j x hx => ?_⟩
    rw [Nat.add_assoc]
    exact hc _ x (by rw [← hx, List.getElem?_drop])
theorem SlS.more {w : World} {B B' : Nat} {A : Option Addr} {n c : Nat} {xss : List (List Int)} (h : SlS w B A n c xss) (hB : B ≤ B') : SlS w B' A n c xss := by
  refine ⟨h.1, h.2.1, h.2.2.1, h.2.2.2.1, fun hn => ?_⟩
  obtain ⟨b, off, hA, hb, hc⟩ := h.2.2.2.2 hn
  refine ⟨b, off, hA, by omega, fun j x hx => ?_⟩
  obtain ⟨A', n', c', e1, e2⟩ := hc j x hx
  exact ⟨A', n', c', e1, e2.more hB⟩

/-- Rows that may be multiplied. -/
structure PArg (w : World) (N : Nat) (A : Option Addr) (n c : Nat) (xss : List (List Int)) : Prop where
  s : SlS w w.heap.size A n c xss
  le : n ≤ N
  dg : ∀ xs ∈ xss, Dg 4294967296 xs
  tot : totl xss ≤ 100000000
theorem PArg.below {w w' : World} {N : Nat} {A : Option Addr} {n c : Nat} {xss : List (List Int)} (h : PArg w N A n c xss) (hb : Below w.heap.size w w') : PArg w' N A n c xss :=
  ⟨(h.s.below hb (Nat.le_refl _)).more hb.size, h.le, h.dg, h.tot⟩
theorem PArg.front {w : World} {N m : Nat} {A : Option Addr} {n c : Nat} {xss : List (List Int)} (h : PArg w (N + 1) A n c xss) (hm : m + 1 ≤ n) : PArg w N A m c (xss.take m) := by
  refine ⟨h.s.front (by omega), by have := h.le; omega, fun xs hx => h.dg xs (List.mem_of_mem_take hx), ?_⟩
  have := h.tot
  rw [← List.take_append_drop m xss, totl_append] at this
  omega
theorem PArg.back {w : World} {N m : Nat} {A : Option Addr} {n c : Nat} {xss : List (List Int)} (h : PArg w (N + 1) A n c xss) (hm : m ≤ n) (hm0 : 0 < m) : PArg w N (if c = m then A else A.map (·.add m)) (n - m) (c - m) (xss.drop m) := by
  refine ⟨h.s.back hm, by have := h.le; omega, fun xs hx => h.dg xs (List.mem_of_mem_drop hx), ?_⟩
  have := h.tot
  rw [← List.take_append_drop m xss, totl_append] at this
  omega
/-- A product that was answered. -/
def Got (w : World) (A : Option Addr) (n c : Nat) (N : Int) : Prop := ∃ ys, Row 4294967296 N ys ∧ Sl .u32 w w.heap.size A n c ys ∧ n ≤ 100000001
theorem NewN.got {w w' : World} {N : Int} {e : Ending} (h : NewN w N e w') (hN : N < 4294967296 ^ 100000001) : ∃ A n c, e = .returned (.slice A n c) ∧ Got w' A n c N ∧ Below w.heap.size w w' := by
  obtain ⟨ys, hr, A, n, c, rfl, ho, hb⟩ := h
  refine ⟨A, n, c, rfl, ⟨ys, hr, ho.sl, ?_⟩, hb⟩
  have := hr.len_le (by decide) hN
  have := ho.len
  omega
theorem mul_got {W W1 W2 : World} {A A2 : Option Addr} {n c m c2 : Nat} {N M : Int} (h1 : Got W1 A n c N) (b1 : Below W1.heap.size W1 W) (h2 : Got W2 A2 m c2 M) (b2 : Below W2.heap.size W2 W) :
    Calls Tryz.prog 11 #[.slice A n c, .slice A2 m c2] W (NewN W (N * M)) := by
  obtain ⟨xs, r1, s1, l1⟩ := h1
  obtain ⟨ys, r2, s2, l2⟩ := h2
  have := Mul_any ((s1.below b1 (Nat.le_refl _)).more b1.size) ((s2.below b2 (Nat.le_refl _)).more b2.size) (Nat.le_refl _) r1.dg r2.dg (by omega) (by omega)
  rw [r1.val, r2.val] at this
  exact this

def ProdOk (N : Nat) : Prop := ∀ (w : World) (A : Option Addr) (n c : Nat) (xss : List (List Int)), PArg w N A n c xss → Calls Tryz.prog 12 #[.slice A n c] w (NewN w (prodv xss))
theorem prod_arg {N : Nat} (ih : ProdOk N) {w W : World} {A : Option Addr} {n c : Nat} {xss : List (List Int)} (hS : Below w.heap.size w W) (hA : PArg w N A n c xss) :
    Calls Tryz.prog 12 #[.slice A n c] W fun e W' => ∃ A' n' c', e = .returned (.slice A' n' c') ∧ Got W' A' n' c' (prodv xss) ∧ Below W.heap.size W W' := by
  refine (ih W A n c xss (hA.below hS)).mono fun e W' h => h.got ?_
  have h1 := (prodv_bound hA.dg).2
  have h2 := pow_mono (show (0 : Int) < 4294967296 by decide) (show totl xss + 1 ≤ 100000001 by have := hA.tot; omega)
  exact Int.lt_of_lt_of_le h1 h2

set_option maxHeartbeats 2000000 in
theorem Product_all : ∀ N, ProdOk N
  | 0 => by
    intro w A n c xss h
    obtain rfl : n = 0 := by have := h.le; omega
    obtain rfl : xss = [] := List.eq_nil_of_length_eq_zero h.s.1
    clear h
    go_enter Tryz.func12, Tryz.ntmps12
    go_wp2_with fail
    go_ret
    exact ⟨[1], row1 rfl (by omega), _, 1, 1, rfl, Own.lit .u32 27 w (Nat.le_refl _) [1] 1 rfl (by omega), (Below.refl _ _).alloc (Nat.le_refl _) _⟩
  | N + 1 => by
    have ih := Product_all N
    intro w A n c xss h
    have hl := h.s.1
    have hmx := h.s.lenMax
    have hnc := h.s.2.1
    by_cases h0 : n = 0
    · subst h0
      obtain rfl : xss = [] := List.eq_nil_of_length_eq_zero hl
      clear h ih
      go_enter Tryz.func12, Tryz.ntmps12
      go_wp2_with fail
      go_ret
      exact ⟨[1], row1 rfl (by omega), _, 1, 1, rfl, Own.lit .u32 27 w (Nat.le_refl _) [1] 1 rfl (by omega), (Below.refl _ _).alloc (Nat.le_refl _) _⟩
    · by_cases h1 : n = 1
      · subst h1
        obtain ⟨b, off, xs, A1, n1, c1, rfl, hb, ex, hc, hs⟩ := h.s.at_ (j := 0) (by omega)
        rw [Nat.add_zero] at hc
        obtain rfl : xss = [xs] := by
          match xss, hl, ex with
          | [y], _, ex => simp at ex; rw [ex]
        have hd := h.dg xs (by simp)
        have ht := h.tot
        simp only [totl] at ht
        have hl1 := hs.len
        clear h ih
        go_enter Tryz.func12, Tryz.ntmps12
        go_wp2_with fail
        refine (Trim_any hs (by omega)).mono ?_
        rintro e w1 ⟨A2, n2, c2, rfl, ho, hb1⟩
        go_wp2_with fail
        go_ret
        exact ⟨_, ⟨tl_Dg hd, tl_idem _, by rw [tl_val]; simp [prodv]⟩, A2, n2, c2, rfl, ho, hb1⟩
      · have hne0 : ((n : Int) == 0) = false := beq_eq_false_iff_ne.2 (by omega)
        have hne1 : ((n : Int) == 1) = false := beq_eq_false_iff_ne.2 (by omega)
        have HF := h.front (m := n / 2) (by omega)
        have HB := h.back (m := n / 2) (by omega) (by omega)
        have HP := Lib.hid (show prodv (xss.take (n / 2)) * prodv (xss.drop (n / 2)) = prodv xss by rw [← prodv_append, List.take_append_drop])
        have hq : (n : Int).tdiv 2 = ((n / 2 : Nat) : Int) := by rw [Int.tdiv_eq_ediv_of_nonneg (by omega)]; omega
        have hw0 : IntKind.i64.wrap ((n / 2 : Nat) : Int) = ((n / 2 : Nat) : Int) := by rw [IntKind.wrap_i64]; omega
        generalize hk : n / 2 = k at *
        have hkn : k ≤ n := by omega
        have hkc : k ≤ c := by omega
        rw [if_neg (by omega)] at HB
        have h0S : Below w.heap.size w w := Below.refl _ _
        clear h
        go_enter Tryz.func12, Tryz.ntmps12
        go_wp2_with fail
        go_region_held3 (fun W => Below w.heap.size w W)
          (first | assumption | exact Below.drew (by assumption) | exact Below.trans (by assumption) (Below.mono (by assumption) (Below.size (by assumption))))
          (first
            | (go_at_call 12; go_must (refine (prod_arg ih (show Below w.heap.size w _ by assumption) (by first | exact HF | exact HB)).mono ?_; rintro e wS ⟨Az, nz, cz, rfl, hG, hbz⟩))
            | (go_at_call 11; go_must (refine (mul_got ‹Got _ _ _ _ (prodv (List.take k xss))› hbz hG (Below.refl _ _)).mono ?_; rintro e wM ⟨ys, hr, Am, nm, cm, rfl, ho, hbm⟩)))
        all_goals
          have hs : w.heap.size ≤ wS.heap.size := Nat.le_trans (show w.heap.size ≤ _ from (‹Below w.drew.heap.size w.drew _›).size) hbz.size
          rw [HP.out] at hr
          go_wp2_with fail
          go_ret
          exact ⟨ys, hr, Am, nm, cm, rfl, ho.lower hs, ‹Below w.heap.size w wM›⟩

theorem Product_any {w : World} {B : Nat} {A : Option Addr} {n c : Nat} {xss : List (List Int)} (hs : SlS w B A n c xss) (hB : B ≤ w.heap.size) (hx : ∀ xs ∈ xss, Dg 4294967296 xs) (ht : totl xss ≤ 100000000) :
    Calls Tryz.prog 12 #[.slice A n c] w (NewN w (prodv xss)) := Product_all n w A n c xss ⟨hs.more hB, Nat.le_refl _, hx, ht⟩
end Go.Proofs.YthicpakanhhipaaGreatDoor
