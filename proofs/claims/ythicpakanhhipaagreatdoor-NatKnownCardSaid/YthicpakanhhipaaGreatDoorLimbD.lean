/- limb: Sub, Sum, Add: what each call answers, and leaves. -/
import Derived.Test.YthicpakanhhipaaGreatDoorLimbC
namespace Go.Proofs.YthicpakanhhipaaGreatDoor
open Go Go.RowKit

/-- A number in new memory, and no error. -/
def NewE (w : World) (N : Int) (e : Ending) (w' : World) : Prop :=
  ∃ ys A n c, Row 4294967296 N ys ∧ e = .returned (.tuple #[.slice A n c, .int .i64 0]) ∧ Own .u32 27 w' w.heap.size A n c ys ∧ Below w.heap.size w w'

theorem Below.of_drewN {B : Nat} {w w' : World} {q : Nat} (h : Below B (w.drewN q) w') : Below B w w' := ⟨h.os, h.tape, h.output, h.size, h.block⟩

set_option maxHeartbeats 400000 in
theorem Sub_less {w : World} {B : Nat} {A A2 : Option Addr} {n c m c2 : Nat} {xs ys : List Int} (hs : Sl .u32 w B A n c xs) (ht : Sl .u32 w B A2 m c2 ys) (hx : Dg 4294967296 xs) (hy : Dg 4294967296 ys) (hlt : val 4294967296 xs < val 4294967296 ys) :
    Calls Tryz.prog 93 #[.slice A n c, .slice A2 m c2] w fun e w' => e = .returned (.tuple #[.slice none 0 0, .int .i64 2]) ∧ ∃ q, w' = w.drewN q := by
  have HC := Lib.hid (Cmp_any hs ht hx hy)
  have hv := cmpI_lt hlt
  go_enter Tryz.func93, Tryz.ntmps93
  go_wp2_with fail
  refine HC.out.mono ?_
  rintro e w' ⟨hr, q, rfl⟩
  obtain rfl : e = .returned (.int .i64 (-1)) := by unfold CmpR at hr; rw [hr, hv]
  clear hr hv
  go_wp2_with fail
  go_ret2
  exact ⟨rfl, q, rfl⟩

set_option maxHeartbeats 400000 in
theorem Sub_any {w : World} {B : Nat} {A A2 : Option Addr} {n c m c2 : Nat} {xs ys : List Int} (hs : Sl .u32 w B A n c xs) (ht : Sl .u32 w B A2 m c2 ys) (hB : B ≤ w.heap.size) (hx : Dg 4294967296 xs) (hy : Dg 4294967296 ys) (hle : val 4294967296 ys ≤ val 4294967296 xs) (hn : n ≤ 1000000000) :
    Calls Tryz.prog 93 #[.slice A n c, .slice A2 m c2] w (NewE w (val 4294967296 xs - val 4294967296 ys)) := by
  have HC := Lib.hid (Cmp_any hs ht hx hy)
  go_enter Tryz.func93, Tryz.ntmps93
  go_wp2_with fail
  refine HC.out.mono ?_
  rintro e w' ⟨hr, q, rfl⟩
  obtain ⟨v, hv0, rfl⟩ : ∃ v : Int, 0 ≤ v ∧ e = .returned (.int .i64 v) := by
    unfold CmpR at hr
    refine ⟨_, ?_, hr⟩
    unfold cmpI
    rw [if_neg (by omega)]
    split <;> omega
  clear hr
  go_wp2_with fail
  refine (Trim_any (hs.drew q) hn).mono ?_
  rintro e w1 ⟨A1, n1, c1, rfl, h1, hb1⟩
  have hb1' : Below w.heap.size w w1 := Below.of_drewN hb1
  clear hb1
  go_wp2_with fail
  refine (used_any (ht.below hb1' hB)).mono ?_
  rintro e w2 ⟨⟨A', n', c', rfl, hs', _⟩, rfl⟩
  have hl1 := h1.len
  have hl2 := hs'.len
  have hlen : n' ≤ n1 := by
    rcases Nat.lt_or_ge n1 n' with h | h
    · have := val_lt_of_len (β := 4294967296) (by decide) (tl_Dg hx) (tl_Dg hy) (tl_idem ys) (by omega)
      rw [tl_val, tl_val] at this
      omega
    · exact h
  have h1' : Own .u32 27 w1 w.heap.size A1 n1 c1 (tl xs) := h1
  go_wp2_with fail
  refine (takeFrom_any (h1'.lower hB) hs' (Nat.le_trans hB hb1'.size) (tl_Dg hx) (tl_Dg hy) hlen (by rw [tl_val, tl_val]; exact hle)).mono ?_
  rintro e w2 ⟨rfl, S1, h2, hd2, hval, hg⟩
  have hb2 : Below w.heap.size w w2 := hb1'.grown hg hb1'.size (fun k hk => (h1'.blk_ k hk).1)
  have h2' : Own .u32 27 w2 w.heap.size A1 n1 c1 S1 := h2.raise h1'
  go_wp2_with fail
  refine (used_any h2'.sl).mono ?_
  rintro e w3 ⟨⟨A3, n3, c3, rfl, hs3, hA3⟩, rfl⟩
  go_wp2_with fail
  go_ret2
  refine ⟨_, A3, n3, c3, ⟨tl_Dg hd2, tl_idem _, ?_⟩, rfl, h2'.used hs3 hA3, hb2⟩
  rw [tl_val, hval, tl_val, tl_val]
  omega

/-- A slice of rows, below block B. -/
def SlS (w : World) (B : Nat) (A : Option Addr) (n c : Nat) (xss : List (List Int)) : Prop :=
  xss.length = n ∧ n ≤ c ∧ c ≤ maxLen ∧ (A = none → c = 0) ∧
    (0 < n → ∃ b off, A = some ⟨b, off, none⟩ ∧ b < B ∧ ∀ j xs, xss[j]? = some xs → ∃ A' n' c', w.cell? ⟨b, off + j, none⟩ = some (.slice A' n' c') ∧ Sl .u32 w B A' n' c' xs)
section
variable {w w' : World} {B : Nat} {A : Option Addr} {n c : Nat} {xss : List (List Int)}
theorem SlS.keep (h : SlS w B A n c xss) (hk : ∀ p : Addr, p.block < B → w'.cell? p = w.cell? p) : SlS w' B A n c xss := by
  refine ⟨h.1, h.2.1, h.2.2.1, h.2.2.2.1, fun hn => ?_⟩
  obtain ⟨b, off, hA, hb, hc⟩ := h.2.2.2.2 hn
  refine ⟨b, off, hA, hb, fun j x hx => ?_⟩
  obtain ⟨A', n', c', h1, h2⟩ := hc j x hx
  exact ⟨A', n', c', (hk _ hb).trans h1, h2.keep hk⟩
theorem SlS.below {B' : Nat} (h : SlS w B A n c xss) (hb : Below B' w w') (hB : B ≤ B') : SlS w' B A n c xss := h.keep fun _ hp => hb.cell (by omega)
theorem SlS.at_ (h : SlS w B A n c xss) {j : Nat} (hj : j < n) : ∃ b off xs A' n' c', A = some ⟨b, off, none⟩ ∧ b < B ∧ xss[j]? = some xs ∧ w.cell? ⟨b, off + j, none⟩ = some (.slice A' n' c') ∧ Sl .u32 w B A' n' c' xs := by
  obtain ⟨b, off, hA, hb, hc⟩ := h.2.2.2.2 (by omega)
  have hl : j < xss.length := by have := h.1; omega
  obtain ⟨A', n', c', h1, h2⟩ := hc j _ (List.getElem?_eq_getElem hl)
  exact ⟨b, off, xss[j], A', n', c', hA, hb, List.getElem?_eq_getElem hl, h1, h2⟩
theorem SlS.lenMax (h : SlS w B A n c xss) : n ≤ 9223372036854775807 := by
  have h1 := h.2.1
  have h2 := h.2.2.1
  unfold maxLen at h2
  omega
end
/-- All rows together. -/
def sumV (xss : List (List Int)) : Int := (xss.map (val 4294967296)).sum
theorem sumV_snoc (l : List (List Int)) (xs : List Int) : sumV (l ++ [xs]) = sumV l + val 4294967296 xs := by simp [sumV]
/-- Each of the first i has at most M digits, without its noughts. -/
def Most (xss : List (List Int)) (i M : Nat) : Prop := ∀ j xs, j < i → xss[j]? = some xs → (tl xs).length ≤ M
theorem Most.step {xss : List (List Int)} {i M L : Nat} (h : Most xss i M) {xs : List Int} (hx : xss[i]? = some xs) (hL : (tl xs).length = L) : Most xss (i + 1) (max M L) := by
  intro j ys hj hy
  by_cases hji : j = i
  · subst hji
    rw [hx] at hy
    injection hy with hy
    subst hy
    omega
  · have := h j ys (by omega) hy
    omega

/-- In the midst of a sum. -/
structure SumI (xss : List (List Int)) (M i : Nat) (S : List Int) : Prop where
  dg : Dg 4294967296 S
  num : val 4294967296 S = sumV (xss.take i)
  most : val 4294967296 S ≤ (i : Int) * 4294967296 ^ M
theorem SumI.fit {xss : List (List Int)} {M i : Nat} {S xs : List Int} (h : SumI xss M i S) (hx : Dg 4294967296 xs) (hl : (tl xs).length ≤ M) (hi : (i : Int) + 1 ≤ 9223372036854775807) :
    val 4294967296 S + val 4294967296 xs ≤ ((i : Int) + 1) * 4294967296 ^ M ∧ val 4294967296 S + val 4294967296 xs < 4294967296 ^ (M + 2) := by
  refine sum_fit hi h.most ?_
  rw [← tl_val]
  exact Int.lt_of_lt_of_le (val_lt (by decide) (tl_Dg hx)) (pow_mono (by decide) hl)
theorem SumI.step {xss : List (List Int)} {M i : Nat} {S S1 xs : List Int} (h : SumI xss M i S) (ex : xss[i]? = some xs) (hd : Dg 4294967296 S1) (hv : val 4294967296 S1 = val 4294967296 S + val 4294967296 xs)
    (hm : val 4294967296 S + val 4294967296 xs ≤ ((i : Int) + 1) * 4294967296 ^ M) : SumI xss M (i + 1) S1 := by
  refine ⟨hd, ?_, by rw [hv]; exact hm⟩
  rw [hv, h.num, List.take_add_one, ex]
  exact (sumV_snoc _ _).symm

theorem SlS.two (w : World) {B : Nat} {A A2 : Option Addr} {n c m c2 : Nat} {xs ys : List Int} (hB : B ≤ w.heap.size) (hs : Sl .u32 w B A n c xs) (ht : Sl .u32 w B A2 m c2 ys) (t : TypeId) :
    SlS (w.alloc (.cells #[.slice A n c, .slice A2 m c2] t)) (w.heap.size + 1) (some ⟨w.heap.size, 0, none⟩) 2 2 [xs, ys] := by
  refine ⟨rfl, Nat.le_refl _, by unfold maxLen; omega, fun h => (by cases h), fun _ => ⟨w.heap.size, 0, rfl, by omega, fun j zs hz => ?_⟩⟩
  have hj : j < 2 := (List.getElem?_eq_some_iff.1 hz).1
  rcases j with _ | _ | j
  · simp at hz; subst hz
    exact ⟨A, n, c, by simp [World.cell?_alloc_new], (hs.alloc hB _).more (by omega)⟩
  · simp at hz; subst hz
    exact ⟨A2, m, c2, by simp [World.cell?_alloc_new], (ht.alloc hB _).more (by omega)⟩
  · omega

set_option maxHeartbeats 1000000 in
theorem Sum_any {w : World} {B : Nat} {A : Option Addr} {n c : Nat} {xss : List (List Int)} (hs : SlS w B A n c xss) (hB : B ≤ w.heap.size) (hx : ∀ xs ∈ xss, Dg 4294967296 xs) (hn : ∀ xs ∈ xss, xs.length ≤ 1000000000) :
    Calls Tryz.prog 63 #[.slice A n c] w (NewN w (sumV xss)) := by
  have hm := hs.lenMax
  go_enter Tryz.func63, Tryz.ntmps63
  go_wp2_with fail
  go_loop [3, 11] (fun mv iv => ∃ i M : Nat, i ≤ n ∧ M ≤ 1000000000 ∧ iv = .int .i64 i ∧ mv = .int .i64 M ∧ Most xss i M) (fun _ iv => n - (intOf iv).toNat)
  case atStart => exact ⟨0, 0, by omega, by omega, rfl, rfl, fun j xs h => absurd h (by omega)⟩
  case round =>
    obtain ⟨i, M, hi, hM, rfl, rfl, hmost⟩ := hrel
    by_cases hlt : i < n
    · obtain ⟨b, off, xs, A', n', c', rfl, _, ex, hcell, hsl⟩ := hs.at_ hlt
      have hmem := List.mem_of_getElem? ex
      go_wp2_with fail
      refine (used_any hsl).mono ?_
      rintro e w' ⟨⟨A2, n2, c2, rfl, hs2, _⟩, rfl⟩
      have hl2 := hs2.len
      have hl3 : n2 ≤ 1000000000 := by have := hn xs hmem; have := tl_len xs; omega
      have hstep := Lib.hid (hmost.step ex hl2)
      clear hmost
      go_wp2_with fail
      go_round
      case rel => exact ⟨i + 1, max M n2, by omega, by omega, by go_num, congrArg (Value.int .i64) (by split <;> omega), hstep.out⟩
      case measure => simp [intOf] <;> omega
    · obtain rfl : n = i := by omega
      go_wp2_with (at_make; refine wpList_mk elemU rfl _ _ rfl (B := w.heap.size) (M + 2) rfl rfl (by omega) (by omega) (by omega) (by unfold maxLen; omega) (Nat.le_refl _) ?_; intro w1 h1 hg1)
      have hmk := Mk.made h1 hg1
      clear h1 hg1
      go_loopw [26] (fun iv wr => ∃ (i : Nat) (S : List Int), i ≤ n ∧ iv = .int .i64 i ∧ Mk .u32 27 w (some ⟨w.heap.size, 0, none⟩) (M + 2) (M + 2) S wr ∧ SumI xss M i S) (fun iv _ => n - (intOf iv).toNat)
      case atStart => exact ⟨0, _, Nat.zero_le _, rfl, hmk, Dg.zeros (by decide) _, by rw [val_zeros]; rfl, by rw [val_zeros]; simp⟩
      case round =>
        obtain ⟨i, S, hi, rfl, hmr, hsum⟩ := hrel
        clear hmk
        by_cases hlt : i < n
        · obtain ⟨b, off, xs, A', n', c', rfl, _, ex, hcell, hsl⟩ := (hs.below hmr.2 hB).at_ hlt
          have hmem := List.mem_of_getElem? ex
          have hl := hmost i xs hlt ex
          have hfit := hsum.fit (hx xs hmem) hl (by omega)
          have HS := Lib.hid hsum
          have HF := Lib.hid hfit
          have HM := Lib.hid hmost
          clear hsum hfit hmost
          go_wp2_with fail
          refine (used_any hsl).mono ?_
          rintro e w' ⟨⟨A2, n2, c2, rfl, hs2, _⟩, rfl⟩
          have hl2 := hs2.len
          go_wp2_with fail
          refine (addTo_any (hmr.1.lower hB) hs2 (Nat.le_trans hB hmr.2.size) HS.out.1 (tl_Dg (hx xs hmem)) (by omega) (by rw [tl_val]; exact HF.out.2)).mono ?_
          rintro e w2 ⟨rfl, S1, h2, hd2, hval, hg⟩
          have hmk2 : Mk .u32 27 w (some ⟨w.heap.size, 0, none⟩) (M + 2) (M + 2) S1 w2 :=
            ⟨h2.raise hmr.1, hmr.2.grown hg hmr.2.size (fun k hk => (hmr.1.blk_ k hk).1)⟩
          have hnext := Lib.hid (HS.out.step ex hd2 (by rw [hval, tl_val, Int.one_mul]) HF.out.1)
          clear hval h2 hmr hs hsl hs2
          go_wp2_with fail
          go_roundw
          case rel => exact ⟨i + 1, S1, by omega, by go_num, hmk2, hnext.out⟩
          case measure => simp [intOf] <;> omega
        · obtain rfl : n = i := by omega
          have HS := Lib.hid hsum
          clear hsum
          go_wp2_with fail
          refine (used_any hmr.1.sl).mono ?_
          rintro e w3 ⟨⟨A3, n3, c3, rfl, hs3, hA3⟩, rfl⟩
          go_wp2_with fail
          go_ret
          refine ⟨_, ⟨tl_Dg HS.out.1, tl_idem _, ?_⟩, A3, n3, c3, rfl, hmr.1.used hs3 hA3, hmr.2⟩
          rw [tl_val, HS.out.num, List.take_of_length_le (by rw [hs.1]; omega)]

set_option maxHeartbeats 400000 in
theorem Add_any {w : World} {B : Nat} {A A2 : Option Addr} {n c m c2 : Nat} {xs ys : List Int} (hs : Sl .u32 w B A n c xs) (ht : Sl .u32 w B A2 m c2 ys) (hB : B ≤ w.heap.size) (hx : Dg 4294967296 xs) (hy : Dg 4294967296 ys) (hn : n ≤ 1000000000) (hm : m ≤ 1000000000) :
    Calls Tryz.prog 42 #[.slice A n c, .slice A2 m c2] w (NewN w (val 4294967296 xs + val 4294967296 ys)) := by
  have hl1 := hs.len
  have hl2 := ht.len
  have hsl := Lib.hid (SlS.two w hB hs ht 22)
  go_enter Tryz.func42, Tryz.ntmps42
  go_wp2_with fail
  refine (Sum_any hsl.out (by simp) (by simp [hx, hy]) (by simp; omega)).mono ?_
  rintro e w1 ⟨zs, hr, A3, n3, c3, rfl, h3, hb3⟩
  have hs3 : sumV [xs, ys] = val 4294967296 xs + val 4294967296 ys := by simp [sumV]
  rw [hs3] at hr
  have h4 := h3.lower (B' := w.heap.size) (by simp)
  have hb4 : Below w.heap.size w w1 := ((Below.refl _ _).alloc (Nat.le_refl _) _).trans (hb3.mono (by simp))
  clear h3 hb3 hs3
  go_wp2_with fail
  go_ret
  exact ⟨zs, hr, A3, n3, c3, rfl, h4, hb4⟩
end Go.Proofs.YthicpakanhhipaaGreatDoor
