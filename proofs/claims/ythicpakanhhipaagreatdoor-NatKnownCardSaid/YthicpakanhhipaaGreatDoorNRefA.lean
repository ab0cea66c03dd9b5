/- tallageref02: trim, digit, up, Less, Add, Sub: what each call answers. -/
import Derived.Test.YthicpakanhhipaaGreatDoorProg
import Derived.Test.YthicpakanhhipaaGreatDoorMath
import Derived.Test.YthicpakanhhipaaGreatDoorMem
import Derived.WalkLawsBesides
import Derived.Deep.QuietTactic
import Derived.BigQuiet
import Derived.Lib.Hide
import Derived.KernelRfl
import Derived.Laws.BitsLemmas
namespace Go.Proofs.YthicpakanhhipaaGreatDoor
open Go Go.RowKit

theorem elemB : ElemT Tryz.prog 25 5 .u8 1 := ⟨Tryz.underlying25, info_parts (by kernel_rfl)⟩
theorem and1_u8 {x : Int} (h0 : 0 ≤ x) (h1 : x < 256) : bits .and .u8 x 1 = x % 2 := bits_mask .u8 8 (by decide) wraps_u8 1 (by decide) x h0 h1

/-- What 'trim' answers: the row without its noughts, in the same memory. -/
def TrimB (w : World) (B : Nat) (A : Option Addr) (c : Nat) (xs : List Int) (e : Ending) : Prop :=
  ∃ n', e = .returned (.slice A n' c) ∧ Sl .u8 w B A n' c (tl xs)
theorem Sl.start {k : IntKind} {w : World} {B : Nat} {A : Option Addr} {n c : Nat} {xs : List Int} (hs : Sl k w B A n c xs) (h : tl xs = []) : Sl k w B A 0 c (tl xs) := by
  rw [h]
  have := hs.front (m := 0) (by omega)
  simpa using this

set_option maxHeartbeats 400000 in
theorem btrim_any {w : World} {B : Nat} {A : Option Addr} {n c : Nat} {xs : List Int} (hs : Sl .u8 w B A n c xs) :
    Calls Tryz.prog 28 #[.slice A n c] w fun e w' => TrimB w B A c xs e ∧ w = w' := by
  have hm := hs.lenMax
  have hnc := hs.le
  go_enter Tryz.func28, Tryz.ntmps28
  go_wp2
  go_loop [3] (fun i => ∃ k : Nat, k ≤ n ∧ i = .int .i64 k ∧ TlTake xs k) (fun i => (intOf i).toNat)
  case atStart => exact ⟨n, by omega, rfl, .start hs.len⟩
  case round =>
    obtain ⟨k, hk, rfl, ht⟩ := hrel
    by_cases h0 : k = 0
    · subst h0
      have hz := Lib.hid ht.zero
      go_wp2
      go_ret
      exact ⟨⟨0, rfl, hs.start hz.out⟩, rfl⟩
    · obtain ⟨j, rfl⟩ : ∃ j, k = j + 1 := ⟨k - 1, by omega⟩
      obtain ⟨b, off, x, rfl, _, hx, hcell⟩ := hs.at_ (j := j) (by omega)
      by_cases hx0 : x = 0
      · subst hx0
        go_wp2
        go_round
        case rel => exact ⟨j, by omega, rfl, ht.down hx⟩
        case measure => simp [intOf] <;> omega
      · have hb : (x == 0) = false := beq_eq_false_iff_ne.2 hx0
        have hj : (((j : Int) + 1) == 0) = false := beq_eq_false_iff_ne.2 (by omega)
        have hstop := Lib.hid (ht.stop hx hx0)
        go_wp2
        go_ret
        exact ⟨⟨j + 1, rfl, by rw [hstop.out]; exact hs.front hk⟩, rfl⟩

set_option maxHeartbeats 400000 in
theorem bdigit_any {w : World} {B : Nat} {A : Option Addr} {n c : Nat} {xs : List Int} {i : Nat} (hs : Sl .u8 w B A n c xs) :
    Calls Tryz.prog 51 #[.slice A n c, .int .i64 i] w fun e w' => e = .returned (.int .u8 (xs[i]?.getD 0)) ∧ w = w' := by
  have hm := hs.lenMax
  by_cases hlt : i < n
  · obtain ⟨b, off, x, rfl, _, hx, hcell⟩ := hs.at_ hlt
    have e : xs[i]?.getD 0 = x := by rw [hx]; rfl
    rw [e]
    go_enter Tryz.func51, Tryz.ntmps51
    go_wp2
    go_ret
    exact ⟨rfl, rfl⟩
  · have e : xs[i]?.getD 0 = 0 := by rw [List.getElem?_eq_none (by have := hs.len; omega)]; rfl
    rw [e]
    go_enter Tryz.func51, Tryz.ntmps51
    go_wp2
    go_ret
    exact ⟨rfl, rfl⟩

set_option maxHeartbeats 400000 in
theorem bup_any {w : World} {B : Nat} {A : Option Addr} {n c : Nat} {xs : List Int} {d : Int} (hs : Sl .u8 w B A n c xs) (hB : B ≤ w.heap.size) (hx : Dg 2 xs) (hd : 0 ≤ d ∧ d < 2) (hn : n ≤ 1000000000) :
    Calls Tryz.prog 29 #[.slice A n c, .int .u8 d] w (Seen .u8 2 w (d + 2 * val 2 xs)) := by
  go_enter Tryz.func29, Tryz.ntmps29
  have ho : Own .u8 5 (w.alloc (.cells #[.int .u8 d] 5)) w.heap.size (some ⟨w.heap.size, 0, none⟩) 1 1 [d] := Own.lit .u8 5 w (Nat.le_refl _) [d] 1 rfl (by omega)
  have HO := Lib.hid ho
  clear ho
  go_wp2_with (at_builtin; refine wpList_app elemB rfl _ _ rfl HO.out rfl (hs.alloc hB _) rfl (by omega) (by unfold maxLen; omega) (by rw [size_one]; omega) ?_; intro A3 c3 w3 h3 hg)
  have b3 : Below w.heap.size w w3 := ((Below.refl _ _).alloc (Nat.le_refl _) _).grown hg (by rw [size_one]; omega) (fun k hk => (HO.out.blk_ k hk).1)
  clear hg HO
  refine (btrim_any h3.sl).mono ?_
  rintro e w' ⟨⟨n', rfl, hs'⟩, rfl⟩
  have hd3 : Dg 2 ([d] ++ xs) := Dg.cons hd hx
  have hr : Row 2 (d + 2 * val 2 xs) (tl ([d] ++ xs)) := ⟨tl_Dg hd3, tl_idem _, by rw [tl_val]; rfl⟩
  have HR := Lib.hid hr
  clear hr hd3
  go_wp2_with fail
  go_ret
  exact ⟨_, A3, n', c3, rfl, HR.out, hs', b3⟩

set_option maxHeartbeats 1000000 in
theorem bless_any {w : World} {B : Nat} {A A2 : Option Addr} {n c m c2 : Nat} {xs ys : List Int} (hs : Sl .u8 w B A n c xs) (ht : Sl .u8 w B A2 m c2 ys) (hx : Dg 2 xs) (hy : Dg 2 ys) :
    Calls Tryz.prog 38 #[.slice A n c, .slice A2 m c2] w fun e w' => e = .returned (.bool (decide (val 2 xs < val 2 ys))) ∧ Below w.heap.size w w' := by
  have X1 := Lib.hid (tl_Dg hx)
  have Y1 := Lib.hid (tl_Dg hy)
  have XV := Lib.hid (tl_val 2 xs)
  have YV := Lib.hid (tl_val 2 ys)
  have XT := tl_idem xs
  have YT := tl_idem ys
  go_enter Tryz.func38, Tryz.ntmps38
  go_wp2_with fail
  refine (btrim_any hs).mono ?_
  rintro e w' ⟨⟨n', rfl, hs'⟩, rfl⟩
  go_wp2_with fail
  refine (btrim_any ht).mono ?_
  rintro e w' ⟨⟨m', rfl, ht'⟩, rfl⟩
  generalize tl xs = us at *
  generalize tl ys = vs at *
  clear hs ht
  have hb1 := hs'.lenMax
  have hb2 := ht'.lenMax
  by_cases hne : n' = m'
  · subst hne
    go_wp2_with fail
    go_loopw [5] (fun i wr => ∃ k : Nat, k ≤ n' ∧ i = .int .i64 ((k : Int) - 1) ∧ AlikeP us vs k ∧ ∃ q, wr = w.drewN q) (fun i _ => (intOf i + 1).toNat)
    case atStart =>
      refine ⟨n', Nat.le_refl _, rfl, fun i hi => ?_, 0, rfl⟩
      rw [List.getElem?_eq_none (by rw [hs'.len]; omega), List.getElem?_eq_none (by rw [ht'.len]; omega)]
    case round =>
      obtain ⟨k, hk, rfl, hal, q, rfl⟩ := hrel
      by_cases h0 : k = 0
      · subst h0
        have hfin := Lib.hid (show decide (val 2 xs < val 2 ys) = false by rw [← XV.out, ← YV.out, hal.eq (β := 2)]; simp)
        clear hal
        go_wp2
        go_ret
        exact ⟨congrArg (fun b => Ending.returned (.bool b)) hfin.out.symm, Below.drewN' (Below.refl _ _) _⟩
      · obtain ⟨j, rfl⟩ : ∃ j, k = j + 1 := ⟨k - 1, by omega⟩
        obtain ⟨b, off, x, rfl, _, ex, hc1⟩ := hs'.at_ (j := j) (by omega)
        obtain ⟨b2, off2, y, rfl, _, ey, hc2⟩ := ht'.at_ (j := j) (by omega)
        have hji : (j : Int) < (n' : Int) := by omega
        by_cases hxy : x = y
        · subst hxy
          have hal' := Lib.hid (show AlikeP us vs j from fun i hi => by
            rcases Nat.eq_or_lt_of_le hi with h | h
            · subst h; rw [ex, ey]
            · exact hal i h)
          clear hal
          go_wp2
          go_quiet (fail)
          go_wp2
          go_roundw
          case rel => exact ⟨j, by omega, by simp, hal'.out, _, rfl⟩
          case measure => simp [intOf]
        · have hb : (x != y) = true := by rw [bne_iff_ne]; exact hxy
          have hres := Lib.hid (show decide (val 2 xs < val 2 ys) = decide (x < y) by
            rw [← XV.out, ← YV.out]
            rcases Int.lt_trichotomy x y with h | h | h
            · have := hal.lt (β := 2) (i := j) (by decide) X1.out Y1.out (by rw [ex, ey]; exact h)
              simp [h, this]
            · exact absurd h hxy
            · have := AlikeP.lt (β := 2) (i := j) (by decide) Y1.out X1.out (fun i hi => (hal i hi).symm) (by rw [ex, ey]; exact h)
              rw [decide_eq_false (by omega), decide_eq_false (by omega)])
          clear hal
          go_wp2
          go_quiet (fail)
          go_wp2
          go_quiet (fail)
          go_wp2
          go_ret
          exact ⟨congrArg (fun b => Ending.returned (.bool b)) hres.out.symm, Below.drewN' (Below.drewN' (Below.drewN' (Below.refl _ _) _) _) _⟩
  · have hb : ((n' : Int) != (m' : Int)) = true := by rw [bne_iff_ne]; omega
    have hres := Lib.hid (show decide (val 2 xs < val 2 ys) = decide (n' < m') by
      rw [← XV.out, ← YV.out]
      rcases Nat.lt_or_ge n' m' with h | h
      · have := val_lt_of_len (β := 2) (by decide) X1.out Y1.out YT (by rw [hs'.len, ht'.len]; exact h)
        rw [decide_eq_true this, decide_eq_true (by omega)]
      · have := val_lt_of_len (β := 2) (by decide) Y1.out X1.out XT (by rw [hs'.len, ht'.len]; omega)
        rw [decide_eq_false (by omega), decide_eq_false (by omega)])
    go_wp2_with fail
    go_ret
    exact ⟨congrArg (fun b => Ending.returned (.bool b)) hres.out.symm, Below.refl _ _⟩
end Go.Proofs.YthicpakanhhipaaGreatDoor
