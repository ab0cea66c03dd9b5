/- tallageref01: cut, halves, at: what each call answers. -/
import Derived.Test.YtgdfjfmgcnbdaaaDoorLawA
import Derived.Deep.RegionHeld3
namespace Go.Proofs.YtgdfjfmgcnbdaaaDoor
open Go Go.RowKit

theorem elemI : ElemT Tryd.prog 46 3 .i64 8 := ⟨Tryd.underlying46, info_parts (by kernel_rfl)⟩

/-- What 'cut' answers: the row without its noughts, in the same memory. -/
def CutR (w : World) (B : Nat) (A : Option Addr) (c : Nat) (xs : List Int) (e : Ending) : Prop :=
  ∃ n', e = .returned (.slice A n' c) ∧ Sl .i64 w B A n' c (tl xs)

set_option maxHeartbeats 400000 in
theorem cut_any {w : World} {B : Nat} {A : Option Addr} {n c : Nat} {xs : List Int} (hs : Sl .i64 w B A n c xs) :
    Calls Tryd.prog 42 #[.slice A n c] w fun e w' => CutR w B A c xs e ∧ w = w' := by
  have hm := hs.lenMax
  have hnc := hs.le
  go_enter Tryd.func42, Tryd.ntmps42
  go_wp2
  go_loop [0] (fun l => ∃ k : Nat, k ≤ n ∧ l = .slice A k c ∧ TlTake xs k) (fun l => match l with | .slice _ k _ => k | _ => 0)
  case atStart => exact ⟨n, by omega, rfl, .start hs.len⟩
  case round =>
    obtain ⟨k, hk, rfl, ht⟩ := hrel
    by_cases h0 : k = 0
    · subst h0
      have hz := Lib.hid ht.zero
      go_wp2
      go_ret
      refine ⟨⟨0, rfl, ?_⟩, rfl⟩
      rw [hz.out]
      have := hs.front (m := 0) (by omega)
      simpa using this
    · obtain ⟨j, rfl⟩ : ∃ j, k = j + 1 := ⟨k - 1, by omega⟩
      obtain ⟨b, off, x, rfl, _, hx, hcell⟩ := hs.at_ (j := j) (by omega)
      by_cases hx0 : x = 0
      · subst hx0
        go_wp2
        go_round
        case rel => exact ⟨j, by omega, rfl, ht.down hx⟩
        case measure => simp
      · have hb : (x == 0) = false := beq_eq_false_iff_ne.2 hx0
        have hstop := Lib.hid (ht.stop hx hx0)
        go_wp2
        go_ret
        refine ⟨⟨j + 1, rfl, ?_⟩, rfl⟩
        rw [hstop.out]
        exact hs.front (by omega)

theorem at_any {w : World} {B : Nat} {A : Option Addr} {n c : Nat} {xs : List Int} {i : Nat} (hs : Sl .i64 w B A n c xs) :
    Calls Tryd.prog 32 #[.slice A n c, .int .i64 i] w fun e w' => e = .returned (.int .i64 (xs[i]?.getD 0)) ∧ w = w' := by
  have hm := hs.lenMax
  by_cases hlt : i < n
  · obtain ⟨b, off, x, rfl, _, hx, hcell⟩ := hs.at_ hlt
    have e : xs[i]?.getD 0 = x := by rw [hx]; rfl
    rw [e]
    go_enter Tryd.func32, Tryd.ntmps32
    go_wp2
    go_ret
    exact ⟨rfl, rfl⟩
  · have e : xs[i]?.getD 0 = 0 := by rw [List.getElem?_eq_none (by have := hs.len; omega)]; rfl
    rw [e]
    go_enter Tryd.func32, Tryd.ntmps32
    go_wp2
    go_ret
    exact ⟨rfl, rfl⟩

theorem Own.cutR {w wr : World} {B B2 : Nat} {A : Option Addr} {n c n' : Nat} {xs : List Int} (h : Own .i64 3 w B A n c xs) (hs : Sl .i64 wr B2 A n' c (tl xs)) : Own .i64 3 w B A n' c (tl xs) := by
  have hl := hs.len
  have h1 := tl_len xs
  have h2 := h.len
  have e := tl_take xs
  rw [hl] at e
  rcases h.form with ⟨rfl, h3, rfl⟩ | ⟨g, rfl, _⟩
  · obtain rfl : n' = 0 := by omega
    rw [List.eq_nil_of_length_eq_zero hl]
    exact Own.nil
  · rw [e]
    exact h.front (by omega) (by simp)
/-- Half limbs. -/
def hv : List Int → List Int
  | [] => []
  | x :: xs => x % 65536 :: x / 65536 :: hv xs
theorem hv_snoc (xs : List Int) (x : Int) : hv (xs ++ [x]) = hv xs ++ [x % 65536, x / 65536] := by
  induction xs with
  | nil => rfl
  | cons y ys ih => simp [hv, ih]
theorem hv_len (xs : List Int) : (hv xs).length = 2 * xs.length := by
  induction xs with
  | nil => rfl
  | cons y ys ih => simp [hv, ih]; omega
theorem hv_val (xs : List Int) : val 65536 (hv xs) = val 4294967296 xs := by
  induction xs with
  | nil => rfl
  | cons y ys ih => simp only [hv, val, ih]; omega
theorem hv_dg {xs : List Int} (h : Dg 4294967296 xs) : Dg 65536 (hv xs) := by
  induction xs with
  | nil => exact Dg.nil
  | cons y ys ih =>
    have := h.head
    exact Dg.cons (by omega) (Dg.cons (by omega) (ih h.tail))

/-- A number in new memory, in half limbs. -/
def NewH (w : World) (N : Int) (e : Ending) (w' : World) : Prop :=
  ∃ ys A n c, Row 65536 N ys ∧ e = .returned (.slice A n c) ∧ Own .i64 3 w' w.heap.size A n c ys ∧ Below w.heap.size w w'

theorem half_lo {x : Int} (h : 0 ≤ x ∧ x < 4294967296) : IntKind.i64.wrap (x.tmod 65536) = x % 65536 := by
  rw [Int.tmod_eq_emod_of_nonneg h.1, IntKind.wrap_i64]; omega
theorem half_hi {x : Int} (h : 0 ≤ x ∧ x < 4294967296) : IntKind.i64.wrap (IntKind.u32.wrap (x.tdiv 65536)) = x / 65536 := by
  rw [Int.tdiv_eq_ediv_of_nonneg h.1, IntKind.wrap_u32, IntKind.wrap_i64]; omega
set_option maxHeartbeats 1000000 in
theorem halves_any {w : World} {B : Nat} {A : Option Addr} {n c : Nat} {xs : List Int} (hs : Sl .u32 w B A n c xs) (hB : B ≤ w.heap.size) (hx : Dg 4294967296 xs) (hn : n ≤ 1000000000) :
    Calls Tryd.prog 31 #[.slice A n c] w (NewH w (val 4294967296 xs)) := by
  go_enter Tryd.func31, Tryd.ntmps31
  go_wp2
  go_loopw [3, 4] (fun ov iv wr => ∃ (i m c2 : Nat) (A2 : Option Addr), i ≤ n ∧ iv = .int .i64 i ∧ ov = .slice A2 m c2 ∧ Own .i64 3 wr w.heap.size A2 m c2 (hv (xs.take i)) ∧ Below w.heap.size w wr) (fun _ iv _ => n - (intOf iv).toNat)
  case atStart => exact ⟨0, 0, 0, none, Nat.zero_le _, rfl, rfl, Own.nil, Below.refl _ _⟩
  case round =>
    obtain ⟨i, m, c2, A2, hi, rfl, rfl, ho, hb⟩ := hrel
    have hol := ho.len
    rw [hv_len, List.length_take] at hol
    by_cases hlt : i < n
    · obtain ⟨b, off, x, rfl, _, ex, hcell⟩ := (hs.below hb hB).at_ hlt
      have hxx := hx.get ex
      have hin : (i : Int) < (n : Int) := by omega
      have hbB : b < w.heap.size := by omega
      have hi1 : 0 ≤ (i : Int) := Int.natCast_nonneg _
      go_wp2
      go_region_held3 (fun w' => w'.cell? ⟨b, off + i, none⟩ = some (.int .u32 x))
        (first | go_keep | (rw [hg.cell_far _ (by have := hb.size; simp; omega) (by intro h; have := (ho.blk_ b h.symm).1; omega)]; assumption))
        ((refine step_app elemI (by rfl) _ _ (by rfl) (ho.alloc _).drew1 (by rfl) (Sl.new2 .i64 _ _ _ _).drew1 (by rfl) (by omega) (by unfold maxLen; omega) (by have := hb.size; simp; omega) ?_; intro A3 c3 w3 h3 hg))
      rw [half_lo hxx, half_hi hxx, ← hv_snoc, ← take_succ_of ex] at h3
      have hb3 : Below w.heap.size w w3 := ((hb.alloc hb.size _).drew).grown hg (by have := hb.size; simp; omega) (fun k hk => (ho.blk_ k hk).1)
      clear hg ho hb hbB hi1
      go_wp2
      go_roundw
      case rel => exact ⟨i + 1, _, _, _, by omega, by go_num, rfl, h3, hb3⟩
      case measure => simp [intOf] <;> omega
    · obtain rfl : n = i := by omega
      have hN := Lib.hid (show val 65536 (tl (hv (xs.take n))) = val 4294967296 xs by rw [tl_val, hv_val, List.take_of_length_le (by rw [hs.len]; omega)])
      have hD := hv_dg (hx.take n)
      go_wp2_with fail
      refine (cut_any ho.sl).mono ?_
      rintro e w' ⟨⟨n', rfl, hs'⟩, rfl⟩
      go_wp2
      go_ret
      refine ⟨_, A2, n', c2, ⟨tl_Dg hD, tl_idem _, hN.out⟩, rfl, ho.cutR hs', hb⟩
end Go.Proofs.YtgdfjfmgcnbdaaaDoor
