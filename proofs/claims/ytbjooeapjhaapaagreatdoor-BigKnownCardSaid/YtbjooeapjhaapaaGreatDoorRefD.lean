/- tallageref01: cut, halves, at: what each call answers. -/
import Derived.Test.YtbjooeapjhaapaaGreatDoorLimbG
import Derived.Deep.RegionHeld3
namespace Go.Proofs.YtbjooeapjhaapaaGreatDoor
open Go Go.RowKit

theorem elemI : ElemT Tryz.prog 67 3 .i64 8 := ⟨Tryz.underlying67, info_parts (by kernel_rfl)⟩

/-- What 'cut' answers: the row without its noughts, in the same memory. -/
def CutR (w : World) (B : Nat) (A : Option Addr) (c : Nat) (xs : List Int) (e : Ending) : Prop :=
  ∃ n', e = .returned (.slice A n' c) ∧ Sl .i64 w B A n' c (tl xs)

set_option maxHeartbeats 400000 in
theorem cut_any {w : World} {B : Nat} {A : Option Addr} {n c : Nat} {xs : List Int} (hs : Sl .i64 w B A n c xs) :
    Calls Tryz.prog 102 #[.slice A n c] w fun e w' => CutR w B A c xs e ∧ w = w' := by
  have hm := hs.lenMax
  have hnc := hs.le
  go_enter Tryz.func102, Tryz.ntmps102
  go_wp2
  go_loop [0] (fun l => ∃ k : Nat, k ≤ n ∧ l = .slice A k c ∧ TlTake xs k) (fun l => match l with | .slice _ k _ => k | _ => 0)
  case atStart => exact ⟨n, by omega, rfl, .start hs.len⟩
  case round =>
    obtain ⟨k, hk, rfl, ht⟩ := hrel
    by_cases h0 : k = 0
    · subst h0
      have hz := Lib.hid ht.zero
      go_wp2
      go_ret
      refine ⟨⟨0, rfl, ?_⟩, rfl⟩
      rw [hz.out]
      have := hs.front (m := 0) (by omega)
      simpa using this
    · obtain ⟨j, rfl⟩ : ∃ j, k = j + 1 := ⟨k - 1, by omega⟩
      obtain ⟨b, off, x, rfl, _, hx, hcell⟩ := hs.at_ (j := j) (by omega)
      by_cases hx0 : x = 0
      · subst hx0
        go_wp2
        go_round
        case rel => exact ⟨j, by omega, rfl, ht.down hx⟩
        case measure => simp
      · have hb : (x == 0) = false := beq_eq_false_iff_ne.2 hx0
        have hstop := Lib.hid (ht.stop hx hx0)
        go_wp2
        go_ret
        refine ⟨⟨j + 1, rfl, ?_⟩, rfl⟩
        rw [hstop.out]
        exact hs.front (by omega)

theorem at_any {w : World} {B : Nat} {A : Option Addr} {n c : Nat} {xs : List Int} {i : Nat} (hs : Sl .i64 w B A n c xs) :
    Calls Tryz.prog 80 #[.slice A n c, .int .i64 i] w fun e w' => e = .returned (.int .i64 (xs[i]?.getD 0)) ∧ w = w' := by
  have hm := hs.lenMax
  by_cases hlt : i < n
  · obtain ⟨b, off, x, rfl, _, hx, hcell⟩ := hs.at_ hlt
    have e : xs[i]?.getD 0 = x := by rw [hx]; rfl
    rw [e]
    go_enter Tryz.func80, Tryz.ntmps80
    go_wp2
    go_ret
    exact ⟨rfl, rfl⟩
  · have e : xs[i]?.getD 0 = 0 := by rw [List.getElem?_eq_none (by have := hs.len; omega)]; rfl
    rw [e]
    go_enter Tryz.func80, Tryz.ntmps80
    go_wp2
    go_ret
    exact ⟨rfl, rfl⟩

theorem Own.cutR {w wr : World} {B B2 : Nat} {A : Option Addr} {n c n' : Nat} {xs : List Int} (h : Own .i64 3 w B A n c xs) (hs : Sl .i64 wr B2 A n' c (tl xs)) : Own .i64 3 w B A n' c (tl xs) := by
  have hl := hs.len
  have h1 := tl_len xs
  have h2 := h.len
  have e := tl_take xs
  rw [hl] at e
  rcases h.form with ⟨rfl, h3, rfl⟩ | ⟨g, rfl, _⟩
  · obtain rfl : n' = 0 := by omega
    rw [List.eq_nil_of_length_eq_zero hl]
    exact Own.nil
  · rw [e]
    exact h.front (by omega) (by simp)
/-- Half limbs. -/
def hv : List Int → List Int
  | [] => []
  | x :: xs => x % 65536 :: x / 65536 :: hv xs
theorem hv_snoc (xs : List Int) (x : Int) : hv (xs ++ [x]) = hv xs ++ [x % 65536, x / 65536] := by
  induction xs with
  | nil => rfl
  | cons y ys ih => simp [hv, ih]
theorem hv_len (xs : List Int) : (hv xs).length = 2 * xs.length := by
  induction xs with
  | nil => rfl
  | cons y ys ih => simp [hv, ih]; omega
theorem hv_val (xs : List Int) : val 65536 (hv xs) = val 4294967296 xs := by
  induction xs with
  | nil => rfl
  | cons y ys ih => simp only [hv, val, ih]; omega
theorem hv_dg {xs : List Int} (h : Dg 4294967296 xs) : Dg 65536 (hv xs) := by
  induction xs with
  | nil => exact Dg.nil
  | cons y ys ih =>
    have := h.head
    exact Dg.cons (by omega) (Dg.cons (by omega) (ih h.tail))

/-- A number in new memory, in half limbs. -/
def NewH (w : World) (N : Int) (e : Ending) (w' : World) : Prop :=
  ∃ ys A n c, Row 65536 N ys ∧ e = .returned (.slice A n c) ∧ Own .i64 3 w' w.heap.size A n c ys ∧ Below w.heap.size w w'

theorem half_lo {x : Int} (h : 0 ≤ x ∧ x < 4294967296) : IntKind.i64.wrap (x.tmod 65536) = x % 65536 := by
  rw [Int.tmod_eq_emod_of_nonneg h.1, IntKind.wrap_i64]; omega
theorem half_hi {x : Int} (h : 0 ≤ x ∧ x < 4294967296) : IntKind.i64.wrap (IntKind.u32.wrap (x.tdiv 65536)) = x / 65536 := by
  rw [Int.tdiv_eq_ediv_of_nonneg h.1, IntKind.wrap_u32, IntKind.wrap_i64]; omega
set_option maxHeartbeats 1000000 in
theorem halves_any {w : World} {B : Nat} {A : Option Addr} {n c : Nat} {xs : List Int} (hs : Sl .u32 w B A n c xs) (hB : B ≤ w.heap.size) (hx : Dg 4294967296 xs) (hn : n ≤ 1000000000) :
    Calls Tryz.prog 79 #[.slice A n c] w (NewH w (val 4294967296 xs)) := by
  go_enter Tryz.func79, Tryz.ntmps79
  go_wp2
  go_loopw [3, 4] (fun ov iv wr => ∃ (i m c2 : Nat) (A2 : Option Addr), i ≤ n ∧ iv = .int .i64 i ∧ ov = .slice A2 m c2 ∧ Own .i64 3 wr w.heap.size A2 m c2 (hv (xs.take i)) ∧ Below w.heap.size w wr) (fun _ iv _ => n - (intOf iv).toNat)
  case atStart => exact ⟨0, 0, 0, none, Nat.zero_le _, rfl, rfl, Own.nil, Below.refl _ _⟩
  case round =>
    obtain ⟨i, m, c2, A2, hi, rfl, rfl, ho, hb⟩ := hrel
    have hol := ho.len
    rw [hv_len, List.length_take] at hol
    by_cases hlt : i < n
    · obtain ⟨b, off, x, rfl, _, ex, hcell⟩ := (hs.below hb hB).at_ hlt
      have hxx := hx.get ex
      have hin : (i : Int) < (n : Int) := by omega
      have hbB : b < w.heap.size := by omega
      have hi1 : 0 ≤ (i : Int) := Int.natCast_nonneg _
      go_wp2
      go_region_held3 (fun w' => w'.cell? ⟨b, off + i, none⟩ = some (.int .u32 x))
        (first | go_keep | (rw [hg.cell_far _ (by have := hb.size; simp; omega) (by intro h; have := (ho.blk_ b h.symm).1; omega)]; assumption))
        ((refine step_app elemI (by rfl) _ _ (by rfl) (ho.alloc _).drew1 (by rfl) (Sl.new2 .i64 _ _ _ _).drew1 (by rfl) (by omega) (by unfold maxLen; omega) (by have := hb.size; simp; omega) ?_; intro A3 c3 w3 h3 hg))
      rw [half_lo hxx, half_hi hxx, ← hv_snoc, ← take_succ_of ex] at h3
      have hb3 : Below w.heap.size w w3 := ((hb.alloc hb.size _).drew).grown hg (by have := hb.size; simp; omega) (fun k hk => (ho.blk_ k hk).1)
      clear hg ho hb hbB hi1
      go_wp2
      go_roundw
      case rel => exact ⟨i + 1, _, _, _, by omega, by go_num, rfl, h3, hb3⟩
      case measure => simp [intOf] <;> omega
    · obtain rfl : n = i := by omega
      have hN := Lib.hid (show val 65536 (tl (hv (xs.take n))) = val 4294967296 xs by rw [tl_val, hv_val, List.take_of_length_le (by rw [hs.len]; omega)])
      have hD := hv_dg (hx.take n)
      go_wp2_with fail
      refine (cut_any ho.sl).mono ?_
      rintro e w' ⟨⟨n', rfl, hs'⟩, rfl⟩
      go_wp2
      go_ret
      refine ⟨_, A2, n', c2, ⟨tl_Dg hD, tl_idem _, hN.out⟩, rfl, ho.cutR hs', hb⟩
end Go.Proofs.YtbjooeapjhaapaaGreatDoor
/- tallageref01: limbs, Trim, Cmp, Bits: what each call answers. -/
namespace Go.Proofs.YtbjooeapjhaapaaGreatDoor
open Go Go.RowKit

/-- Pairs of half limbs as limbs. -/
def pr : List Int → List Int
  | [] => []
  | [x] => [x]
  | x :: y :: r => (x + 65536 * y) :: pr r
theorem pr_val : ∀ l : List Int, val 4294967296 (pr l) = val 65536 l
  | [] => rfl
  | [x] => by simp [pr, val]
  | x :: y :: r => by simp only [pr, val, pr_val r]; omega
theorem pr_dg : ∀ {l : List Int}, Dg 65536 l → Dg 4294967296 (pr l)
  | [], _ => Dg.nil
  | [x], h => Dg.cons (by have := h.head; omega) Dg.nil
  | x :: y :: r, h => Dg.cons (by have := h.head; have := h.tail.head; omega) (pr_dg h.tail.tail)
theorem pr_nil : ∀ {l : List Int}, pr l = [] → l = []
  | [], _ => rfl
  | [x], h => by simp [pr] at h
  | x :: y :: r, h => by simp [pr] at h
theorem pr_tr : ∀ {l : List Int}, Dg 65536 l → Tr l → Tr (pr l)
  | [], _, _ => rfl
  | [x], _, h => h
  | x :: y :: r, hd, h => by
    refine Tr.cons (pr_tr hd.tail.tail h.tail.tail) fun e => ?_
    have hr := pr_nil e
    subst hr
    have h1 := h.tail.single
    have h2 := hd.head
    have h3 := hd.tail.head
    omega
theorem pr_append : ∀ (l m : List Int) (j : Nat), l.length = 2 * j → pr (l ++ m) = pr l ++ pr m
  | [], m, _, _ => rfl
  | [x], m, j, h => by simp at h; omega
  | x :: y :: r, m, j, h => by
    simp only [List.cons_append, pr]
    rw [pr_append r m (j - 1) (by simp at h; omega)]
theorem pr_len : ∀ (l : List Int), (pr l).length ≤ l.length
  | [] => by simp [pr]
  | [x] => by simp [pr]
  | x :: y :: r => by have := pr_len r; simp [pr]; omega

set_option maxHeartbeats 1000000 in
theorem limbs_any {w : World} {B : Nat} {A : Option Addr} {n c : Nat} {xs : List Int} (hs : Sl .i64 w B A n c xs) (hB : B ≤ w.heap.size) (hx : Dg 65536 xs) (hn : n ≤ 2000000000) :
    Calls Tryz.prog 81 #[.slice A n c] w (NewN w (val 65536 xs)) := by
  have hll : (tl xs).length ≤ 2000000000 := by have := tl_len xs; have := hs.len; omega
  have hv := Lib.hid (tl_val 65536 xs)
  have hX := tl_Dg hx
  have hT := tl_idem xs
  go_enter Tryz.func81, Tryz.ntmps81
  go_wp2_with fail
  refine (cut_any hs).mono ?_
  rintro e w' ⟨⟨n', rfl, hs'⟩, rfl⟩
  have hl' := hs'.len
  generalize tl xs = X at *
  clear hs
  go_wp2_with fail
  go_loopw [3, 4] (fun ov iv wr => ∃ (j m c2 : Nat) (A2 : Option Addr), 2 * j ≤ n' + 1 ∧ iv = .int .i64 (2 * (j : Int)) ∧ ov = .slice A2 m c2 ∧ Own .u32 66 wr w.heap.size A2 m c2 (pr (X.take (2 * j))) ∧ Below w.heap.size w wr) (fun _ iv _ => n' + 1 - (intOf iv).toNat)
  case atStart => exact ⟨0, 0, 0, none, by omega, rfl, rfl, Own.nil, Below.refl _ _⟩
  case round =>
    obtain ⟨j, m, c2, A2, hj, rfl, rfl, ho, hb⟩ := hrel
    have hol := ho.len
    have hpl := pr_len (X.take (2 * j))
    rw [List.length_take] at hpl
    have hm : m ≤ 2000000000 := by omega
    by_cases hlt : 2 * j < n'
    · obtain ⟨b, off, x, rfl, _, ex, hcell⟩ := (hs'.below hb hB).at_ hlt
      have hxx := hX.get ex
      by_cases hlt2 : 2 * j + 1 < n'
      · obtain ⟨b', off', y, hA, _, ey, hcell2⟩ := (hs'.below hb hB).at_ hlt2
        injection hA with hA
        injection hA with e1 e2
        subst e1
        subst e2
        have hyy := hX.get ey
        have hnx : pr (X.take (2 * j)) ++ [x + 65536 * y] = pr (X.take (2 * (j + 1))) := by
          rw [show 2 * (j + 1) = 2 * j + 1 + 1 by omega, take_succ_of ey, take_succ_of ex, List.append_assoc, pr_append _ _ j (by rw [List.length_take]; omega)]
          rfl
        have HN := Lib.hid hnx
        clear hnx hol hpl
        go_wp2_with (at_builtin; refine wpList_app elemU rfl _ _ rfl (ho.alloc _) rfl (Sl.new1 .u32 _ _ _) rfl (by omega) (by unfold maxLen; omega) (by have := hb.size; simp; omega) ?_; intro A3 c3 w3 h3 hg)
        rw [HN.out] at h3
        have hb3 : Below w.heap.size w w3 := (hb.alloc hb.size _).grown hg (by have := hb.size; simp; omega) (fun k hk => (ho.blk_ k hk).1)
        clear hg ho hb
        go_wp2
        go_roundw
        case rel => exact ⟨j + 1, _, _, _, by omega, by go_num, rfl, h3, hb3⟩
        case measure => simp [intOf] <;> omega
      · have hnx : pr (X.take (2 * j)) ++ [x] = pr (X.take (2 * (j + 1))) := by
          have e1 : X.take (2 * (j + 1)) = X.take (2 * j) ++ [x] := by rw [List.take_of_length_le (by omega), ← take_succ_of ex, List.take_of_length_le (by omega)]
          rw [e1, pr_append _ _ j (by rw [List.length_take]; omega)]
          rfl
        have HN := Lib.hid hnx
        clear hnx hol hpl
        go_wp2_with (at_builtin; refine wpList_app elemU rfl _ _ rfl (ho.alloc _) rfl (Sl.new1 .u32 _ _ _) rfl (by omega) (by unfold maxLen; omega) (by have := hb.size; simp; omega) ?_; intro A3 c3 w3 h3 hg)
        rw [HN.out] at h3
        have hb3 : Below w.heap.size w w3 := (hb.alloc hb.size _).grown hg (by have := hb.size; simp; omega) (fun k hk => (ho.blk_ k hk).1)
        clear hg ho hb
        go_wp2
        go_roundw
        case rel => exact ⟨j + 1, _, _, _, by omega, by go_num, rfl, h3, hb3⟩
        case measure => simp [intOf] <;> omega
    · have hN := Lib.hid (show val 4294967296 (pr (X.take (2 * j))) = val 65536 xs by rw [pr_val, List.take_of_length_le (by omega)]; exact hv.out)
      have hD := pr_dg (hX.take (2 * j))
      have hTr : Tr (pr (X.take (2 * j))) := by rw [List.take_of_length_le (by omega)]; exact pr_tr hX hT
      have HT := Lib.hid hTr
      clear hTr hT
      go_wp2_with fail
      go_ret
      exact ⟨_, ⟨hD, HT.out, hN.out⟩, A2, m, c2, rfl, ho, hb⟩

/-- A number's half limbs are at most twice its limbs. -/
theorem half_len {n : Nat} {xs ys : List Int} (hl : xs.length = n) (hx : Dg 4294967296 xs) (hr : Row 65536 (val 4294967296 xs) ys) : ys.length ≤ 2 * n := by
  refine hr.len_le (by decide) (Int.lt_of_lt_of_le (val_lt (by decide) hx) ?_)
  rw [hl, show (4294967296 : Int) = 65536 ^ 2 by decide, ← Int.pow_mul]
  exact Int.le_refl _
theorem refTrim_any {w : World} {B : Nat} {A : Option Addr} {n c : Nat} {xs : List Int} (hs : Sl .u32 w B A n c xs) (hB : B ≤ w.heap.size) (hx : Dg 4294967296 xs) (hn : n ≤ 500000000) :
    Calls Tryz.prog 75 #[.slice A n c] w (NewN w (val 4294967296 xs)) := by
  go_enter Tryz.func75, Tryz.ntmps75
  go_wp2_with fail
  refine (halves_any hs hB hx (by omega)).mono ?_
  rintro e w1 ⟨ys, A1, n1, c1, hr, rfl, ho, hb⟩
  have hl1 : n1 ≤ 2 * n := by
    have := half_len hs.len hx hr
    have := ho.len
    omega
  go_wp2_with fail
  refine (limbs_any ho.sl (Nat.le_refl _) hr.dg (by omega)).mono ?_
  rintro e w2 ⟨zs, hz, A2, n2, c2, rfl, ho2, hb2⟩
  rw [hr.val] at hz
  go_wp2
  go_ret
  exact ⟨zs, hz, A2, n2, c2, rfl, ho2.lower hb.size, hb.trans (hb2.mono hb.size)⟩

/-- How two numbers stand, told in whatever world. -/
def CmpN (w : World) (a b : Int) (e : Ending) (w' : World) : Prop := e = .returned (.int .i64 (cmpI a b)) ∧ Below w.heap.size w w'

set_option maxHeartbeats 1000000 in
theorem refCmp_any {w : World} {B : Nat} {A A2 : Option Addr} {n c m c2 : Nat} {xs ys : List Int} (hs : Sl .u32 w B A n c xs) (ht : Sl .u32 w B A2 m c2 ys) (hB : B ≤ w.heap.size) (hx : Dg 4294967296 xs) (hy : Dg 4294967296 ys) (hn : n ≤ 500000000) (hm : m ≤ 500000000) :
    Calls Tryz.prog 62 #[.slice A n c, .slice A2 m c2] w (CmpN w (val 4294967296 xs) (val 4294967296 ys)) := by
  go_enter Tryz.func62, Tryz.ntmps62
  go_wp2_with fail
  refine (halves_any hs hB hx (by omega)).mono ?_
  rintro e w1 ⟨us, A1, n1, c1, hu, rfl, ho1, b1⟩
  have hl1 : n1 ≤ 2 * n := by have := half_len hs.len hx hu; have := ho1.len; omega
  go_wp2_with fail
  refine (halves_any ((ht.below b1 hB).more (Nat.le_trans hB b1.size)) (Nat.le_refl _) hy (by omega)).mono ?_
  rintro e w2 ⟨vs, A2', n2, c2', hv, rfl, ho2, b2⟩
  have hl2 : n2 ≤ 2 * m := by have := half_len ht.len hy hv; have := ho2.len; omega
  have s1 := (ho1.below b2).sl
  have s2 := ho2.sl
  have hb := b1.trans (b2.mono b1.size)
  have hul := ho1.len
  have hvl := ho2.len
  have EU := Lib.hid hu.val
  have EV := Lib.hid hv.val
  have dU := hu.dg
  have dV := hv.dg
  clear ho1 ho2 b1 b2 hu hv hs ht
  by_cases hcase : n1 < n2
  all_goals
    go_wp2_with fail
    go_loop [7] (fun iv => ∃ k : Nat, k ≤ max n1 n2 ∧ iv = .int .i64 ((k : Int) - 1) ∧ AlikeP us vs k) (fun iv => (intOf iv + 1).toNat)
    case atStart =>
      refine ⟨max n1 n2, Nat.le_refl _, congrArg (Value.int .i64) (by omega), fun i hi => ?_⟩
      rw [List.getElem?_eq_none (by omega), List.getElem?_eq_none (by omega)]
    case round =>
      obtain ⟨k, hk, rfl, hal⟩ := hrel
      by_cases h0 : k = 0
      · subst h0
        have hfin := Lib.hid (cmpI_eq (show val 4294967296 xs = val 4294967296 ys by rw [← EU.out, ← EV.out]; exact hal.eq))
        clear hal
        go_wp2_with fail
        go_ret
        exact ⟨by rw [hfin.out]; rfl, hb⟩
      · obtain ⟨j, rfl⟩ : ∃ j, k = j + 1 := ⟨k - 1, by omega⟩
        have ha := at_any (i := j) s1
        have hc := at_any (i := j) s2
        have hlt := hal.lt (β := 65536) (i := j) (by decide) dU dV
        have hgt := AlikeP.lt (β := 65536) (i := j) (by decide) dV dU (fun i hi => (hal i hi).symm)
        have hnx : us[j]?.getD 0 = vs[j]?.getD 0 → AlikeP us vs j := fun e i hi => by
          rcases Nat.eq_or_lt_of_le hi with h | h
          · subst h; exact e
          · exact hal i h
        generalize us[j]?.getD 0 = x at *
        generalize vs[j]?.getD 0 = y at *
        have HA := Lib.hid ha
        have HC := Lib.hid hc
        have HL := Lib.hid hlt
        have HG := Lib.hid hgt
        have HN := Lib.hid hnx
        clear ha hc hlt hgt hnx hal
        go_wp2_with fail
        refine HA.out.mono ?_
        rintro e w' ⟨rfl, rfl⟩
        go_wp2_with fail
        refine HC.out.mono ?_
        rintro e w' ⟨rfl, rfl⟩
        rcases Int.lt_trichotomy x y with h | h | h
        · go_wp2_with fail
          go_ret
          exact ⟨by rw [cmpI_lt (by rw [← EU.out, ← EV.out]; exact HL.out h)]; rfl, hb⟩
        · subst h
          go_wp2_with fail
          refine HA.out.mono ?_
          rintro e w' ⟨rfl, rfl⟩
          go_wp2_with fail
          refine HC.out.mono ?_
          rintro e w' ⟨rfl, rfl⟩
          go_wp2_with fail
          go_round
          case rel => exact ⟨j, by omega, by simp, by first | exact HN.out rfl | exact HN.out trivial⟩
          case measure => simp [intOf]
        · go_wp2_with fail
          refine HA.out.mono ?_
          rintro e w' ⟨rfl, rfl⟩
          go_wp2_with fail
          refine HC.out.mono ?_
          rintro e w' ⟨rfl, rfl⟩
          go_wp2_with fail
          go_ret
          exact ⟨by rw [cmpI_gt (by rw [← EU.out, ← EV.out]; exact HG.out h)]; rfl, hb⟩
end Go.Proofs.YtbjooeapjhaapaaGreatDoor
/- tallageref01: Add, Sub, Sum, MulSmall, DivSmall: what each call answers. -/
namespace Go.Proofs.YtbjooeapjhaapaaGreatDoor
open Go Go.RowKit

set_option maxHeartbeats 2000000 in
theorem refAdd_any {w : World} {B : Nat} {A A2 : Option Addr} {n c m c2 : Nat} {xs ys : List Int} (hs : Sl .u32 w B A n c xs) (ht : Sl .u32 w B A2 m c2 ys) (hB : B ≤ w.heap.size) (hx : Dg 4294967296 xs) (hy : Dg 4294967296 ys) (hn : n ≤ 400000000) (hm : m ≤ 400000000) :
    Calls Tryz.prog 55 #[.slice A n c, .slice A2 m c2] w (NewN w (val 4294967296 xs + val 4294967296 ys)) := by
  go_enter Tryz.func55, Tryz.ntmps55
  go_wp2_with fail
  refine (halves_any hs hB hx (by omega)).mono ?_
  rintro e w1 ⟨us, A1, n1, c1, hu, rfl, ho1, b1⟩
  have hl1 : n1 ≤ 2 * n := by have := half_len hs.len hx hu; have := ho1.len; omega
  go_wp2_with fail
  refine (halves_any ((ht.below b1 hB).more (Nat.le_trans hB b1.size)) (Nat.le_refl _) hy (by omega)).mono ?_
  rintro e w2 ⟨vs, A2', n2, c2', hv, rfl, ho2, b2⟩
  have hl2 : n2 ≤ 2 * m := by have := half_len ht.len hy hv; have := ho2.len; omega
  have s1 := (ho1.below b2).sl
  have s2 := ho2.sl
  have hb0 := b1.trans (b2.mono b1.size)
  have hul := ho1.len
  have hvl := ho2.len
  have EU := Lib.hid hu.val
  have EV := Lib.hid hv.val
  have dU := hu.dg
  have dV := hv.dg
  clear ho1 ho2 b1 b2 hu hv hs ht
  by_cases hcase : n1 < n2
  all_goals
    go_wp2_with fail
    go_loopw [7, 8, 9] (fun ov cv iv wr => ∃ (i c2 : Nat) (q : Int) (A3 : Option Addr) (O : List Int), iv = .int .i64 i ∧ cv = .int .i64 q ∧ ov = .slice A3 i c2 ∧ (0 ≤ q ∧ q ≤ 1) ∧ i ≤ max n1 n2 + 1 ∧ (i = max n1 n2 + 1 → q = 0) ∧ Own .i64 3 wr w2.heap.size A3 i c2 O ∧ Below w2.heap.size w2 wr ∧
        Acc 65536 (val 65536 (us.take i) + val 65536 (vs.take i)) O i q) (fun _ _ iv _ => max n1 n2 + 1 - (intOf iv).toNat)
    case atStart => exact ⟨0, 0, 0, none, [], rfl, rfl, rfl, by omega, by omega, by omega, Own.nil, Below.refl _ _, .start⟩
    case round =>
      obtain ⟨i, c3, q, A3, O, rfl, rfl, rfl, hq, hi, hiq, ho, hb, hacc⟩ := hrel
      by_cases hend : max n1 n2 ≤ i ∧ q = 0
      · obtain ⟨hge, rfl⟩ := hend
        have hN := Lib.hid (show val 65536 O = val 4294967296 xs + val 4294967296 ys by
          have := hacc.num
          rw [List.take_of_length_le (by omega), List.take_of_length_le (by omega), EU.out, EV.out] at this
          omega)
        have hD := hacc.dg
        clear hacc hiq
        go_wp2_with fail
        refine (limbs_any ho.sl (Nat.le_refl _) hD (by omega)).mono ?_
        rintro e w4 ⟨zs, hz, A4, n4, c4, rfl, ho4, b4⟩
        rw [hN.out] at hz
        go_wp2_with fail
        go_ret
        exact ⟨zs, hz, A4, n4, c4, rfl, ho4.lower (Nat.le_trans hb0.size hb.size), hb0.trans ((hb.trans (b4.mono hb.size)).mono hb0.size)⟩
      · have hgo : i < max n1 n2 ∨ (max n1 n2 ≤ i ∧ 0 < q) := by omega
        have hilt : i ≤ max n1 n2 := by rcases Nat.lt_or_ge (max n1 n2) i with h | h <;> omega
        have ha := at_any (i := i) (s1.below hb (Nat.le_refl _))
        have hc := at_any (i := i) (s2.below hb (Nat.le_refl _))
        have hxr := get0_dg (by decide) dU i
        have hyr := get0_dg (by decide) dV i
        have hnx : ∀ d q' : Int, (0 ≤ d ∧ d < 65536) → d + 65536 * q' = us[i]?.getD 0 + vs[i]?.getD 0 + q → Acc 65536 (val 65536 (us.take (i + 1)) + val 65536 (vs.take (i + 1))) (O ++ [d]) (i + 1) q' := by
          intro d q' hd e
          have := hacc.step hd e
          rw [val_take_next, val_take_next]
          rw [Int.mul_add] at this
          rw [show val 65536 (us.take i) + 65536 ^ i * us[i]?.getD 0 + (val 65536 (vs.take i) + 65536 ^ i * vs[i]?.getD 0) = val 65536 (us.take i) + val 65536 (vs.take i) + (65536 ^ i * us[i]?.getD 0 + 65536 ^ i * vs[i]?.getD 0) by omega]
          exact this
        have hz : max n1 n2 ≤ i → us[i]?.getD 0 = 0 ∧ vs[i]?.getD 0 = 0 := fun h => ⟨by rw [List.getElem?_eq_none (by omega)]; rfl, by rw [List.getElem?_eq_none (by omega)]; rfl⟩
        generalize us[i]?.getD 0 = x at *
        generalize vs[i]?.getD 0 = y at *
        have HA := Lib.hid ha
        have HC := Lib.hid hc
        have HN := Lib.hid hnx
        have HZ := Lib.hid hz
        have HO := Lib.hid ho
        clear ha hc hnx hz hacc hiq ho
        rcases hgo with hgo | hgo
        all_goals
          go_wp2_with (first | (go_at_call_of 80 (Value.slice A1 n1 c1); refine HA.out.mono ?_; rintro e w' ⟨rfl, rfl⟩) | (go_at_call_of 80 (Value.slice A2' n2 c2'); refine HC.out.mono ?_; rintro e w' ⟨rfl, rfl⟩) | (at_builtin; refine wpList_app elemI rfl _ _ rfl (HO.out.alloc _) rfl (Sl.new1 .i64 _ _ _) rfl (by omega) (by unfold maxLen; omega) (by have := hb.size; simp; omega) ?_; intro A5 c5 w5 h5 hg))
          have hb5 : Below w2.heap.size w2 w5 := (hb.alloc hb.size _).grown hg (by have := hb.size; simp; omega) (fun k hk => (HO.out.blk_ k hk).1)
          have hq' : (0 ≤ (x + y + q) / 65536 ∧ (x + y + q) / 65536 ≤ 1) ∧ (i + 1 = max n1 n2 + 1 → (x + y + q) / 65536 = 0) := by
            refine ⟨by omega, fun h => ?_⟩
            obtain ⟨h1, h2⟩ := HZ.out (by omega)
            omega
          have hacc' := HN.out ((x + y + q) % 65536) ((x + y + q) / 65536) (by omega) (by omega)
          have HR := Lib.hid hq'
          have HA5 := Lib.hid hacc'
          clear hq' hacc' hg hb HO HN HZ HA HC
          go_wp2
          go_roundw
          case rel => exact ⟨i + 1, c5, _, A5, _, by go_num, rfl, rfl, HR.out.1, by omega, HR.out.2, h5, hb5, HA5.out⟩
          case measure => simp [intOf] <;> omega

theorem mul_half {x m c : Int} (hx : 0 ≤ x ∧ x < 65536) (hm : 0 ≤ m ∧ m < 4294967296) (hc : 0 ≤ c ∧ c < 4294967296) :
    0 ≤ x * m ∧ x * m ≤ 281470681677825 ∧ (0 ≤ (x * m + c) % 65536 ∧ (x * m + c) % 65536 < 65536) ∧ (0 ≤ (x * m + c) / 65536 ∧ (x * m + c) / 65536 < 4294967296) ∧ (x * m + c) % 65536 + 65536 * ((x * m + c) / 65536) = x * m + c := by
  have h0 : 0 ≤ x * m := Int.mul_nonneg hx.1 hm.1
  have h1 : x * m ≤ 65535 * 4294967295 := Int.mul_le_mul (by omega) (by omega) hm.1 (by omega)
  omega

set_option maxHeartbeats 2000000 in
theorem refMulSmall_any {w : World} {B : Nat} {A : Option Addr} {n c : Nat} {xs : List Int} {m : Int} (hs : Sl .u32 w B A n c xs) (hB : B ≤ w.heap.size) (hx : Dg 4294967296 xs) (hm : 0 ≤ m ∧ m < 4294967296) (hn : n ≤ 400000000) :
    Calls Tryz.prog 65 #[.slice A n c, .int .u32 m] w (NewN w (m * val 4294967296 xs)) := by
  go_enter Tryz.func65, Tryz.ntmps65
  go_wp2_with fail
  refine (halves_any hs hB hx (by omega)).mono ?_
  rintro e w1 ⟨us, A1, n1, c1, hu, rfl, ho1, b1⟩
  have hl1 : n1 ≤ 2 * n := by have := half_len hs.len hx hu; have := ho1.len; omega
  have s1 := ho1.sl
  have hul := ho1.len
  have EU := Lib.hid hu.val
  have dU := hu.dg
  clear ho1 hu hs
  go_wp2_with fail
  go_loopw [6, 7, 8] (fun ov cv iv wr => ∃ (i c2 : Nat) (q : Int) (A3 : Option Addr) (O : List Int), iv = .int .i64 i ∧ cv = .int .i64 q ∧ ov = .slice A3 i c2 ∧ (0 ≤ q ∧ q < 4294967296) ∧ (n1 ≤ i → (i : Int) + q ≤ n1 + 4294967296) ∧ i ≤ n1 + 3 ∧ (i = n1 + 3 → q = 0) ∧ (i = n1 + 2 → q < 1) ∧ (i = n1 + 1 → q < 65536) ∧ Own .i64 3 wr w1.heap.size A3 i c2 O ∧ Below w1.heap.size w1 wr ∧
      Acc 65536 (m * val 65536 (us.take i)) O i q) (fun _ _ iv _ => n1 + 3 - (intOf iv).toNat)
  case atStart => exact ⟨0, 0, 0, none, [], rfl, rfl, rfl, by omega, by omega, by omega, by omega, by omega, by omega, Own.nil, Below.refl _ _, by simp [val]; exact .start⟩
  case round =>
    obtain ⟨i, c3, q, A3, O, rfl, rfl, rfl, hq, hiq, hi, hi3, hi2, hi1, ho, hb, hacc⟩ := hrel
    by_cases hend : n1 ≤ i ∧ q = 0
    · obtain ⟨hge, rfl⟩ := hend
      have hN := Lib.hid (show val 65536 O = m * val 4294967296 xs by
        have := hacc.num
        rw [List.take_of_length_le (by omega), EU.out] at this
        omega)
      have hD := hacc.dg
      clear hacc hiq hi1 hi2 hi3
      go_wp2_with fail
      refine (limbs_any ho.sl (Nat.le_refl _) hD (by omega)).mono ?_
      rintro e w4 ⟨zs, hz, A4, n4, c4, rfl, ho4, b4⟩
      rw [hN.out] at hz
      go_wp2_with fail
      go_ret
      exact ⟨zs, hz, A4, n4, c4, rfl, ho4.lower (Nat.le_trans b1.size hb.size), b1.trans ((hb.trans (b4.mono hb.size)).mono b1.size)⟩
    · have hgo : i < n1 ∨ (n1 ≤ i ∧ 0 < q) := by omega
      have hilt : i ≤ n1 + 1 := by omega
      have ha := at_any (i := i) (s1.below hb (Nat.le_refl _))
      have hxr := get0_dg (by decide) dU i
      have hnx : ∀ d q' : Int, (0 ≤ d ∧ d < 65536) → d + 65536 * q' = us[i]?.getD 0 * m + q → Acc 65536 (m * val 65536 (us.take (i + 1))) (O ++ [d]) (i + 1) q' := by
        intro d q' hd e
        have := hacc.step hd e
        rw [val_take_next, Int.mul_add, show m * (65536 ^ i * us[i]?.getD 0) = 65536 ^ i * (us[i]?.getD 0 * m) by grind]
        exact this
      have hz : n1 ≤ i → us[i]?.getD 0 = 0 := fun h => by rw [List.getElem?_eq_none (by omega)]; rfl
      generalize us[i]?.getD 0 = x at *
      obtain ⟨m0, m1, m2, m3, m4⟩ := mul_half hxr hm hq
      have HA := Lib.hid ha
      have HN := Lib.hid (hnx _ _ m2 m4)
      have HO := Lib.hid ho
      have HR := Lib.hid (show (n1 ≤ i + 1 → (i : Int) + 1 + (x * m + q) / 65536 ≤ n1 + 4294967296) ∧ (i + 1 = n1 + 3 → (x * m + q) / 65536 = 0) ∧ (i + 1 = n1 + 2 → (x * m + q) / 65536 < 1) ∧ (i + 1 = n1 + 1 → (x * m + q) / 65536 < 65536) from by
        rcases Nat.lt_or_ge i n1 with h | h
        · exact ⟨fun _ => by omega, fun _ => by omega, fun _ => by omega, fun _ => by omega⟩
        · have hx0 := hz h
          subst hx0
          rw [Int.zero_mul, Int.zero_add]
          exact ⟨fun _ => by omega, fun _ => by omega, fun _ => by omega, fun _ => by omega⟩)
      clear ha hnx hz hacc hiq ho hi1 hi2 hi3 m2 m4
      rcases hgo with hgo | hgo
      all_goals
        go_wp2_with (first | (go_at_call 80; refine HA.out.mono ?_; rintro e w' ⟨rfl, rfl⟩) | (at_builtin; refine wpList_app elemI rfl _ _ rfl (HO.out.alloc _) rfl (Sl.new1 .i64 _ _ _) rfl (by omega) (by unfold maxLen; omega) (by have := hb.size; simp; omega) ?_; intro A5 c5 w5 h5 hg))
        have hb5 : Below w1.heap.size w1 w5 := (hb.alloc hb.size _).grown hg (by have := hb.size; simp; omega) (fun k hk => (HO.out.blk_ k hk).1)
        clear hg hb HO HA
        go_wp2
        go_roundw
        case rel => exact ⟨i + 1, c5, _, A5, _, by go_num, rfl, rfl, m3, by have := HR.out.1; omega, by omega, HR.out.2.1, HR.out.2.2.1, HR.out.2.2.2, h5, hb5, HN.out⟩
        case measure => simp [intOf] <;> omega

/-- How often a digit goes in, and what is left, in new memory; or an error. -/
theorem refDivSmall_zero {w : World} {A : Option Addr} {n c : Nat} :
    Calls Tryz.prog 69 #[.slice A n c, .int .u32 0] w fun e w' => e = .returned (.tuple #[.slice none 0 0, .int .u32 0, .int .i64 20]) ∧ w = w' := by
  go_enter Tryz.func69, Tryz.ntmps69
  go_wp2
  go_ret3
  exact ⟨rfl, rfl⟩

theorem half_small {r x d : Int} (hx : 0 ≤ x ∧ x < 65536) (hr : 0 ≤ r ∧ r < d) : 0 ≤ (r * 65536 + x) / d ∧ (r * 65536 + x) / d < 65536 := by
  refine ⟨Int.ediv_nonneg (by omega) (by omega), Int.ediv_lt_of_lt_mul (by omega) ?_⟩
  have : (r + 1) * 65536 ≤ d * 65536 := by omega
  omega

set_option maxHeartbeats 2000000 in
theorem refDivSmall_any {w : World} {B : Nat} {A : Option Addr} {n c : Nat} {xs : List Int} {d : Int} (hs : Sl .u32 w B A n c xs) (hB : B ≤ w.heap.size) (hx : Dg 4294967296 xs) (hd : 0 < d ∧ d < 4294967296) (hn : n ≤ 400000000) :
    Calls Tryz.prog 69 #[.slice A n c, .int .u32 d] w (DivR w (val 4294967296 xs) d) := by
  have hd0 : (d == 0) = false := beq_eq_false_iff_ne.2 (by omega)
  go_enter Tryz.func69, Tryz.ntmps69
  go_wp2_with fail
  refine (halves_any hs hB hx (by omega)).mono ?_
  rintro e w1 ⟨us, A1, n1, c1, hu, rfl, ho1, b1⟩
  have hl1 : n1 ≤ 2 * n := by have := half_len hs.len hx hu; have := ho1.len; omega
  have s1 := ho1.sl
  have hul := ho1.len
  have EU := Lib.hid hu.val
  have dU := hu.dg
  clear ho1 hu hs
  go_wp2_with (at_make; refine wpList_mk elemI rfl _ _ rfl (B := w1.heap.size) n1 rfl rfl (by omega) (by omega) (by omega) (by unfold maxLen; omega) (Nat.le_refl _) ?_; intro w2 h2 hg2)
  have hmk := Mk.made h2 hg2
  clear h2 hg2
  go_loopw [9, 10] (fun rv iv wr => ∃ (k : Nat) (r : Int) (Q : List Int), k ≤ n1 ∧ iv = .int .i64 ((k : Int) - 1) ∧ rv = .int .i64 r ∧ Mk .i64 3 w1 (some ⟨w1.heap.size, 0, none⟩) n1 n1 Q wr ∧ Quo 65536 d us Q k r) (fun _ iv _ => (intOf iv + 1).toNat)
  case atStart => exact ⟨n1, 0, _, Nat.le_refl _, rfl, rfl, hmk, .start hd.1 (Dg.zeros (by decide) _) (by omega) (by simp)⟩
  case round =>
    obtain ⟨k, r, Q, hk, rfl, rfl, hmr, hq⟩ := hrel
    have hr := hq.rest
    clear hmk
    by_cases h0 : k = 0
    · subst h0
      have hnum := hq.num
      have hD := hq.dg
      clear hq
      simp only [List.drop_zero, EU.out] at hnum
      have e1 : val 4294967296 xs / d = val 65536 Q := by
        rw [hnum, Int.add_comm, Int.add_mul_ediv_left _ _ (by omega), Int.ediv_eq_zero_of_lt hr.1 hr.2]; omega
      have e2 : val 4294967296 xs % d = r := by rw [hnum, Int.add_comm, Int.add_mul_emod_self_left, Int.emod_eq_of_lt hr.1 hr.2]
      have E1 := Lib.hid e1
      have E2 := Lib.hid e2
      clear e1 e2 hnum
      go_wp2_with fail
      refine (limbs_any hmr.1.sl (Nat.le_refl _) hD (by omega)).mono ?_
      rintro e w4 ⟨zs, hz, A4, n4, c4, rfl, ho4, b4⟩
      rw [← E1.out] at hz
      go_wp2_with fail
      go_ret3
      refine ⟨zs, A4, n4, c4, hz, ?_, ho4.lower (Nat.le_trans b1.size hmr.2.size), b1.trans ((hmr.2.trans (b4.mono hmr.2.size)).mono b1.size)⟩
      rw [E2.out]; rfl
    · obtain ⟨j, rfl⟩ : ∃ j, k = j + 1 := ⟨k - 1, by omega⟩
      obtain ⟨b2, off2, x, rfl, _, ex, hc2⟩ := (hmr.other s1 (Nat.le_refl _)).at_ (j := j) (by omega)
      obtain ⟨g, s, hg, _, _, hcell, hfr, hput⟩ := hmr.set (i := j) (by omega)
      obtain rfl : w1.heap.size = g := by simpa using hg
      have hxx := dU.get ex
      have hsm := half_small hxx hr
      have hstep := hq.step ex (by have := hmr.1.len; omega) hsm
      rw [Int.mul_comm r] at hsm hstep
      have hnext := Lib.hid (hput ((65536 * r + x) / d))
      have HS := Lib.hid hstep
      have hy1 : 1 ≤ d := by omega
      have hrm0 := Int.emod_nonneg (65536 * r + x) (show d ≠ 0 by omega)
      have hrm1 := Int.emod_lt_of_pos (65536 * r + x) (show 0 < d by omega)
      clear hput hmr hq s1 hstep
      go_wp2_with fail
      go_roundw
      case rel => exact ⟨j, _, _, by omega, by simp, rfl, hnext.out, HS.out⟩
      case measure => simp [intOf] <;> omega
end Go.Proofs.YtbjooeapjhaapaaGreatDoor
/- tallageref01: Sub, Sum, Shift: what each call answers. -/
namespace Go.Proofs.YtbjooeapjhaapaaGreatDoor
open Go Go.RowKit

set_option maxHeartbeats 400000 in
theorem refSub_less {w : World} {B : Nat} {A A2 : Option Addr} {n c m c2 : Nat} {xs ys : List Int} (hs : Sl .u32 w B A n c xs) (ht : Sl .u32 w B A2 m c2 ys) (hB : B ≤ w.heap.size) (hx : Dg 4294967296 xs) (hy : Dg 4294967296 ys) (hn : n ≤ 400000000) (hm : m ≤ 400000000) (hlt : val 4294967296 xs < val 4294967296 ys) :
    Calls Tryz.prog 56 #[.slice A n c, .slice A2 m c2] w fun e w' => e = .returned (.tuple #[.slice none 0 0, .int .i64 2]) ∧ Below w.heap.size w w' := by
  have HC := Lib.hid (refCmp_any hs ht hB hx hy (by omega) (by omega))
  have hv := cmpI_lt hlt
  go_enter Tryz.func56, Tryz.ntmps56
  go_wp2_with fail
  refine HC.out.mono ?_
  rintro e w' ⟨he, hb⟩
  rw [hv] at he
  subst he
  clear hv
  go_wp2_with fail
  go_ret2
  exact ⟨rfl, hb⟩

set_option maxHeartbeats 2000000 in
theorem refSub_any {w : World} {B : Nat} {A A2 : Option Addr} {n c m c2 : Nat} {xs ys : List Int} (hs : Sl .u32 w B A n c xs) (ht : Sl .u32 w B A2 m c2 ys) (hB : B ≤ w.heap.size) (hx : Dg 4294967296 xs) (hy : Dg 4294967296 ys) (hn : n ≤ 400000000) (hm : m ≤ 400000000) (hle : val 4294967296 ys ≤ val 4294967296 xs) :
    Calls Tryz.prog 56 #[.slice A n c, .slice A2 m c2] w (NewE w (val 4294967296 xs - val 4294967296 ys)) := by
  have HC := Lib.hid (refCmp_any hs ht hB hx hy (by omega) (by omega))
  go_enter Tryz.func56, Tryz.ntmps56
  go_wp2_with fail
  refine HC.out.mono ?_
  rintro e w0 ⟨he, b0⟩
  obtain ⟨v, hv0, rfl⟩ : ∃ v : Int, 0 ≤ v ∧ e = .returned (.int .i64 v) := by
    refine ⟨_, ?_, he⟩
    unfold cmpI
    rw [if_neg (by omega)]
    split <;> omega
  clear he
  go_wp2_with fail
  refine (halves_any ((hs.below b0 hB).more (Nat.le_trans hB b0.size)) (Nat.le_refl _) hx (by omega)).mono ?_
  rintro e w1 ⟨us, A1, n1, c1, hu, rfl, ho1, b1⟩
  have hl1 : n1 ≤ 2 * n := by have := half_len hs.len hx hu; have := ho1.len; omega
  have b01 := b0.trans (b1.mono b0.size)
  go_wp2_with fail
  refine (halves_any ((ht.below b01 hB).more (Nat.le_trans hB b01.size)) (Nat.le_refl _) hy (by omega)).mono ?_
  rintro e w2 ⟨vs, A2', n2, c2', hv, rfl, ho2, b2⟩
  have s1 := (ho1.below b2).sl
  have s2 := ho2.sl
  have hb0 := b01.trans (b2.mono b01.size)
  have hul := ho1.len
  have hvl := ho2.len
  have hlen : n2 ≤ n1 := by
    rcases Nat.lt_or_ge n1 n2 with h | h
    · have := val_lt_of_len (β := 65536) (by decide) hu.dg hv.dg hv.tr (by omega)
      rw [hu.val, hv.val] at this
      omega
    · exact h
  have EU := Lib.hid hu.val
  have EV := Lib.hid hv.val
  have dU := hu.dg
  have dV := hv.dg
  clear ho1 ho2 b0 b01 b1 b2 hu hv hs ht HC
  go_wp2_with fail
  go_loopw [8, 9, 10] (fun ov cv iv wr => ∃ (i c2 : Nat) (q : Int) (A3 : Option Addr) (O : List Int), iv = .int .i64 i ∧ cv = .int .i64 q ∧ ov = .slice A3 i c2 ∧ (0 ≤ q ∧ q ≤ 1) ∧ i ≤ n1 ∧ Own .i64 3 wr w2.heap.size A3 i c2 O ∧ Below w2.heap.size w2 wr ∧
      Acc 65536 (val 65536 (us.take i) - val 65536 (vs.take i)) O i (-q)) (fun _ _ iv _ => n1 - (intOf iv).toNat)
  case atStart => exact ⟨0, 0, 0, none, [], rfl, rfl, rfl, by omega, by omega, Own.nil, Below.refl _ _, .start⟩
  case round =>
    obtain ⟨i, c3, q, A3, O, rfl, rfl, rfl, hq, hi, ho, hb, hacc⟩ := hrel
    by_cases hlt : i < n1
    · obtain ⟨b, off, x, rfl, _, ex, hcell⟩ := (s1.below hb (Nat.le_refl _)).at_ hlt
      have hs2 := s2.below hb (Nat.le_refl _)
      have hxr := dU.get ex
      have hyr := get0_dg (by decide) dV i
      have hin : (i : Int) < (n1 : Int) := by omega
      have hnx : ∀ d q' : Int, (0 ≤ d ∧ d < 65536) → d + 65536 * (-q') = x - vs[i]?.getD 0 - q → Acc 65536 (val 65536 (us.take (i + 1)) - val 65536 (vs.take (i + 1))) (O ++ [d]) (i + 1) (-q') := by
        intro d q' hd e
        have := hacc.step (f := x - vs[i]?.getD 0) (c' := -q') hd (by omega)
        rw [val_take_next, val_take_next, ex]
        rw [Int.mul_sub] at this
        rw [show val 65536 (us.take i) + 65536 ^ i * (some x).getD 0 - (val 65536 (vs.take i) + 65536 ^ i * vs[i]?.getD 0) = val 65536 (us.take i) - val 65536 (vs.take i) + (65536 ^ i * x - 65536 ^ i * vs[i]?.getD 0) by simp only [Option.getD_some]; omega]
        exact this
      have HC2 : Hid (∀ k, Calls Tryz.prog 80 #[.slice A2' n2 c2', .int .i64 i] (wr.drewN k) fun e w' => e = .returned (.int .i64 (vs[i]?.getD 0)) ∧ wr.drewN k = w') := fun k => at_any (i := i) (hs2.drew k)
      generalize vs[i]?.getD 0 = y at *
      have HN := Lib.hid hnx
      have HO := Lib.hid ho
      clear hnx hacc ho hs2
      go_wp2_with fail
      go_quiet ((go_at_call 80; refine (HC2.out _).mono ?_; rintro e w9 ⟨rfl, rfl⟩; exact ⟨rfl, _, rfl⟩))
      generalize hwq : wr.drewN _ = wq
      have HO' : Own .i64 3 wq w2.heap.size A3 i c3 O := by rw [← hwq]; exact HO.out.drew _
      have hb' : Below w2.heap.size w2 wq := by rw [← hwq]; exact Below.drewN' hb _
      clear hwq HO hb hcell HC2
      rcases Int.lt_or_le (x - y - q) 0 with hneg | hneg
      · have HA5 := Lib.hid (HN.out (x - y - q + 65536) 1 (by omega) (by omega))
        clear HN
        go_wp2_with (at_builtin; refine wpList_app elemI rfl _ _ rfl (HO'.alloc _) rfl (Sl.new1 .i64 _ _ _) rfl (by omega) (by unfold maxLen; omega) (by have := hb'.size; simp; omega) ?_; intro A5 c5 w5 h5 hg)
        have hb5 : Below w2.heap.size w2 w5 := (hb'.alloc hb'.size _).grown hg (by have := hb'.size; simp; omega) (fun k hk => (HO'.blk_ k hk).1)
        clear hg hb' HO'
        go_wp2
        go_roundw
        case rel => exact ⟨i + 1, c5, 1, A5, _, by go_num, rfl, rfl, by omega, by omega, h5, hb5, HA5.out⟩
        case measure => simp [intOf] <;> omega
      · have HA5 := Lib.hid (HN.out (x - y - q) 0 (by omega) (by omega))
        clear HN
        go_wp2_with (at_builtin; refine wpList_app elemI rfl _ _ rfl (HO'.alloc _) rfl (Sl.new1 .i64 _ _ _) rfl (by omega) (by unfold maxLen; omega) (by have := hb'.size; simp; omega) ?_; intro A5 c5 w5 h5 hg)
        have hb5 : Below w2.heap.size w2 w5 := (hb'.alloc hb'.size _).grown hg (by have := hb'.size; simp; omega) (fun k hk => (HO'.blk_ k hk).1)
        clear hg hb' HO'
        go_wp2
        go_roundw
        case rel => exact ⟨i + 1, c5, 0, A5, _, by go_num, rfl, rfl, by omega, by omega, h5, hb5, HA5.out⟩
        case measure => simp [intOf] <;> omega
    · obtain rfl : n1 = i := by omega
      have hN : val 65536 O = val 4294967296 xs - val 4294967296 ys := by
        have h1 := hacc.num
        have h2 := val_lt (by decide) hacc.dg
        have h3 := val_nonneg (by decide) hacc.dg
        rw [hacc.len] at h2
        rw [List.take_of_length_le (l := us) (by omega), List.take_of_length_le (l := vs) (by omega), EU.out, EV.out] at h1
        have hq0 : q = 0 := by
          rcases Int.lt_or_le 0 q with h | h
          · obtain rfl : q = 1 := by omega
            omega
          · omega
        subst hq0
        omega
      have HN := Lib.hid hN
      have hD := hacc.dg
      clear hacc hN
      go_wp2_with fail
      refine (limbs_any ho.sl (Nat.le_refl _) hD (by omega)).mono ?_
      rintro e w4 ⟨zs, hz, A4, n4, c4, rfl, ho4, b4⟩
      rw [HN.out] at hz
      go_wp2_with fail
      go_ret2
      exact ⟨zs, A4, n4, c4, hz, rfl, ho4.lower (Nat.le_trans hb0.size hb.size), hb0.trans ((hb.trans (b4.mono hb.size)).mono hb0.size)⟩
end Go.Proofs.YtbjooeapjhaapaaGreatDoor
