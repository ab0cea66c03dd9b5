/- tallageref03: cut, halves, limbs, less, times, take, often, parts: what each call answers. -/
import Derived.Test.YtbjooeapjhaapaaGreatDoorRefD
import Derived.Test.YtbjooeapjhaapaaGreatDoorMathU
import Derived.StillTailTactics
import Derived.Test.YtbjooeapjhaapaaGreatDoorLimbG
namespace Go.Proofs.YtbjooeapjhaapaaGreatDoor
open Go Go.RowKit

set_option maxHeartbeats 400000 in
theorem cut3_any {w : World} {B : Nat} {A : Option Addr} {n c : Nat} {xs : List Int} (hs : Sl .i64 w B A n c xs) :
    Calls Tryz.prog 72 #[.slice A n c] w fun e w' => CutR w B A c xs e ∧ w = w' := by
  have hm := hs.lenMax
  have hnc := hs.le
  go_enter Tryz.func72, Tryz.ntmps72
  go_wp2
  go_loop [0] (fun l => ∃ k : Nat, k ≤ n ∧ l = .slice A k c ∧ TlTake xs k) (fun l => match l with | .slice _ k _ => k | _ => 0)
  case atStart => exact ⟨n, by omega, rfl, .start hs.len⟩
  case round =>
    obtain ⟨k, hk, rfl, ht⟩ := hrel
    by_cases h0 : k = 0
    · subst h0
      have hz := Lib.hid ht.zero
      go_wp2
      go_ret
      refine ⟨⟨0, rfl, ?_⟩, rfl⟩
      rw [hz.out]
      have := hs.front (m := 0) (by omega)
      simpa using this
    · obtain ⟨j, rfl⟩ : ∃ j, k = j + 1 := ⟨k - 1, by omega⟩
      obtain ⟨b, off, x, rfl, _, hx, hcell⟩ := hs.at_ (j := j) (by omega)
      by_cases hx0 : x = 0
      · subst hx0
        go_wp2
        go_round
        case rel => exact ⟨j, by omega, rfl, ht.down hx⟩
        case measure => simp
      · have hb : (x == 0) = false := beq_eq_false_iff_ne.2 hx0
        have hstop := Lib.hid (ht.stop hx hx0)
        go_wp2
        go_ret
        refine ⟨⟨j + 1, rfl, ?_⟩, rfl⟩
        rw [hstop.out]
        exact hs.front (by omega)

set_option maxHeartbeats 1000000 in
theorem halves3_any {w : World} {B : Nat} {A : Option Addr} {n c : Nat} {xs : List Int} (hs : Sl .u32 w B A n c xs) (hB : B ≤ w.heap.size) (hx : Dg 4294967296 xs) (hn : n ≤ 1000000000) :
    Calls Tryz.prog 45 #[.slice A n c] w (NewH w (val 4294967296 xs)) := by
  go_enter Tryz.func45, Tryz.ntmps45
  go_wp2
  go_loopw [3, 4] (fun ov iv wr => ∃ (i m c2 : Nat) (A2 : Option Addr), i ≤ n ∧ iv = .int .i64 i ∧ ov = .slice A2 m c2 ∧ Own .i64 3 wr w.heap.size A2 m c2 (hv (xs.take i)) ∧ Below w.heap.size w wr) (fun _ iv _ => n - (intOf iv).toNat)
  case atStart => exact ⟨0, 0, 0, none, Nat.zero_le _, rfl, rfl, Own.nil, Below.refl _ _⟩
  case round =>
    obtain ⟨i, m, c2, A2, hi, rfl, rfl, ho, hb⟩ := hrel
    have hol := ho.len
    rw [hv_len, List.length_take] at hol
    by_cases hlt : i < n
    · obtain ⟨b, off, x, rfl, _, ex, hcell⟩ := (hs.below hb hB).at_ hlt
      have hxx := hx.get ex
      have hin : (i : Int) < (n : Int) := by omega
      have hbB : b < w.heap.size := by omega
      have hi1 : 0 ≤ (i : Int) := Int.natCast_nonneg _
      go_wp2
      go_region_held3 (fun w' => w'.cell? ⟨b, off + i, none⟩ = some (.int .u32 x))
        (first | go_keep | (rw [hg.cell_far _ (by have := hb.size; simp; omega) (by intro h; have := (ho.blk_ b h.symm).1; omega)]; assumption))
        ((refine step_app elemI (by rfl) _ _ (by rfl) (ho.alloc _).drew1 (by rfl) (Sl.new2 .i64 _ _ _ _).drew1 (by rfl) (by omega) (by unfold maxLen; omega) (by have := hb.size; simp; omega) ?_; intro A3 c3 w3 h3 hg))
      rw [half_lo hxx, half_hi hxx, ← hv_snoc, ← take_succ_of ex] at h3
      have hb3 : Below w.heap.size w w3 := ((hb.alloc hb.size _).drew).grown hg (by have := hb.size; simp; omega) (fun k hk => (ho.blk_ k hk).1)
      clear hg ho hb hbB hi1
      go_wp2
      go_roundw
      case rel => exact ⟨i + 1, _, _, _, by omega, by go_num, rfl, h3, hb3⟩
      case measure => simp [intOf] <;> omega
    · obtain rfl : n = i := by omega
      have hN := Lib.hid (show val 65536 (tl (hv (xs.take n))) = val 4294967296 xs by rw [tl_val, hv_val, List.take_of_length_le (by rw [hs.len]; omega)])
      have hD := hv_dg (hx.take n)
      go_wp2_with fail
      refine (cut3_any ho.sl).mono ?_
      rintro e w' ⟨⟨n', rfl, hs'⟩, rfl⟩
      go_wp2
      go_ret
      refine ⟨_, A2, n', c2, ⟨tl_Dg hD, tl_idem _, hN.out⟩, rfl, ho.cutR hs', hb⟩
theorem pr_len2 : ∀ (l : List Int) (j : Nat), l.length = 2 * j → (pr l).length = j
  | [], j, h => by simp at h; simp [pr]; omega
  | [x], j, h => by simp at h; omega
  | x :: y :: r, j, h => by
    have := pr_len2 r (j - 1) (by simp at h; omega)
    simp at h
    simp [pr, this]; omega
/-- Limbs made in place: the first i halves are in. -/
def prz (X : List Int) (i h : Nat) : List Int := pr (X.take i) ++ List.replicate (h - (i + 1) / 2) 0
theorem prz_start (X : List Int) (h : Nat) : prz X 0 h = List.replicate h 0 := by simp [prz, pr]
theorem prz_done {X : List Int} : prz X X.length ((X.length + 1) / 2) = pr X := by simp [prz]
theorem set_mid {A R : List Int} {j : Nat} {x y : Int} (h : A.length = j) : (A ++ y :: R)[j]? = some y ∧ (A ++ y :: R).set j x = A ++ x :: R := by
  subst h
  constructor
  · simp
  · rw [List.set_append_right _ _ (Nat.le_refl _)]; simp
theorem prz_even {X : List Int} {j : Nat} {x : Int} (hx : X[2 * j]? = some x) : (prz X (2 * j) ((X.length + 1) / 2))[j]? = some 0 ∧ (prz X (2 * j) ((X.length + 1) / 2)).set j x = prz X (2 * j + 1) ((X.length + 1) / 2) := by
  have hl := lt_of_get hx
  have hl2 : (X.take (2 * j)).length = 2 * j := by rw [List.length_take]; omega
  have e : (X.length + 1) / 2 - (2 * j + 1) / 2 = ((X.length + 1) / 2 - (2 * j + 1 + 1) / 2) + 1 := by omega
  unfold prz
  rw [e, List.replicate_succ, take_succ_of hx, pr_append _ _ j hl2, show pr [x] = [x] from rfl, List.append_assoc]
  exact set_mid (pr_len2 _ j hl2)
theorem prz_odd {X : List Int} {j : Nat} {x y : Int} (hx : X[2 * j]? = some x) (hy : X[2 * j + 1]? = some y) :
    (prz X (2 * j + 1) ((X.length + 1) / 2))[j]? = some x ∧ (prz X (2 * j + 1) ((X.length + 1) / 2)).set j (x + 65536 * y) = prz X (2 * j + 2) ((X.length + 1) / 2) := by
  have hl := lt_of_get hy
  have hl2 : (X.take (2 * j)).length = 2 * j := by rw [List.length_take]; omega
  have e : (X.length + 1) / 2 - (2 * j + 1 + 1) / 2 = (X.length + 1) / 2 - (2 * j + 2 + 1) / 2 := by omega
  unfold prz
  rw [show 2 * j + 2 = 2 * j + 1 + 1 from rfl] at e ⊢
  rw [take_succ_of hy, take_succ_of hx, List.append_assoc, pr_append _ _ j hl2, pr_append _ _ j hl2, show pr [x] = [x] from rfl, show pr ([x] ++ [y]) = [x + 65536 * y] from rfl, List.append_assoc, List.append_assoc, e]
  exact set_mid (pr_len2 _ j hl2)

/-- Limbs out of half limbs, noughts at their end perhaps. -/
def NewV (w : World) (N : Int) (L : Nat) (e : Ending) (w' : World) : Prop :=
  ∃ ys A n c, Dg 4294967296 ys ∧ val 4294967296 ys = N ∧ n ≤ L ∧ e = .returned (.slice A n c) ∧ Own .u32 66 w' w.heap.size A n c ys ∧ Below w.heap.size w w'
end Go.Proofs.YtbjooeapjhaapaaGreatDoor
/- tallageref03: less, times: what each call answers. -/
namespace Go.Proofs.YtbjooeapjhaapaaGreatDoor
open Go Go.RowKit

def ltB (a b : Int) : Bool := decide (a < b)
theorem ltB_true {a b : Int} (h : a < b) : ltB a b = true := decide_eq_true h
theorem ltB_false {a b : Int} (h : ¬ a < b) : ltB a b = false := decide_eq_false h
set_option maxHeartbeats 1000000 in
theorem less3_any {w : World} {B : Nat} {A A2 : Option Addr} {n c m c2 : Nat} {xs ys : List Int} (hs : Sl .i64 w B A n c xs) (ht : Sl .i64 w B A2 m c2 ys) (hx : Dg 65536 xs) (hy : Dg 65536 ys) (tx : Tr xs) (ty : Tr ys) :
    Calls Tryz.prog 96 #[.slice A n c, .slice A2 m c2] w fun e w' => e = .returned (.bool (ltB (val 65536 xs) (val 65536 ys))) ∧ ∃ k, w' = w.drewN k := by
  have hxl := hs.len
  have hyl := ht.len
  have hm1 := hs.lenMax
  have hm2 := ht.lenMax
  rcases Nat.lt_trichotomy n m with hnm | hnm | hnm
  · have hv := ltB_true (val_lt_of_len (β := 65536) (by decide) hx hy ty (by omega))
    rw [hv]
    clear hv
    go_enter Tryz.func96, Tryz.ntmps96
    go_wp2_with fail
    go_ret
    exact ⟨rfl, 0, rfl⟩
  · subst hnm
    have HL := Lib.hid (show ∀ k, AlikeP xs ys k → k = 0 → ltB (val 65536 xs) (val 65536 ys) = false from fun k h e => by subst e; exact ltB_false (by rw [h.eq (β := 65536)]; omega))
    have HS := Lib.hid (show ∀ j x y, AlikeP xs ys (j + 1) → xs[j]? = some x → ys[j]? = some y → (x < y → ltB (val 65536 xs) (val 65536 ys) = true) ∧ (y < x → ltB (val 65536 xs) (val 65536 ys) = false) ∧ (x = y → AlikeP xs ys j) from fun j x y h ex ey => by
      refine ⟨fun hlt => ltB_true (h.lt (by decide) hx hy (by rw [ex, ey]; exact hlt)), fun hlt => ltB_false ?_, fun e i hi => ?_⟩
      · have := AlikeP.lt (β := 65536) (by decide) hy hx (fun i hi => (h i hi).symm) (show ys[j]?.getD 0 < xs[j]?.getD 0 by rw [ex, ey]; exact hlt)
        omega
      · rcases Nat.eq_or_lt_of_le hi with h' | h'
        · subst h'; rw [ex, ey, e]
        · exact h i h')
    generalize ltB (val 65536 xs) (val 65536 ys) = res at *
    clear hx hy tx ty
    go_enter Tryz.func96, Tryz.ntmps96
    go_wp2_with fail
    go_loopw [5] (fun iv wr => ∃ k : Nat, k ≤ n ∧ iv = .int .i64 ((k : Int) - 1) ∧ AlikeP xs ys k ∧ ∃ q, wr = w.drewN q) (fun iv _ => (intOf iv + 1).toNat)
    case atStart => exact ⟨n, Nat.le_refl _, rfl, fun i hi => by rw [List.getElem?_eq_none (by omega), List.getElem?_eq_none (by omega)], 0, rfl⟩
    case round =>
      obtain ⟨k, hk, rfl, hal, q, rfl⟩ := hrel
      by_cases h0 : k = 0
      · subst h0
        have hr := Lib.hid (HL.out _ hal rfl)
        go_wp2_with fail
        go_ret
        exact ⟨by rw [hr.out]; rfl, q, rfl⟩
      · obtain ⟨j, rfl⟩ : ∃ j, k = j + 1 := ⟨k - 1, by omega⟩
        obtain ⟨b1, off1, x, rfl, _, ex, hc1⟩ := hs.at_ (j := j) (by omega)
        obtain ⟨b2, off2, y, rfl, _, ey, hc2⟩ := ht.at_ (j := j) (by omega)
        have HJ := Lib.hid (HS.out j x y hal ex ey)
        have hji : (j : Int) < (n : Int) := by omega
        clear hal HS HL
        by_cases hxy : x = y
        · subst hxy
          go_wp2
          go_quiet (fail)
          go_wp2
          go_roundw
          case rel => exact ⟨j, by omega, by simp, by first | exact HJ.out.2.2 rfl | exact HJ.out.2.2 trivial, _, rfl⟩
          case measure => simp [intOf]
        · have hb : (x != y) = true := by rw [bne_iff_ne]; exact hxy
          have hres := Lib.hid (show decide (x < y) = res by
            rcases Int.lt_trichotomy x y with h | h | h
            · rw [HJ.out.1 h, decide_eq_true h]
            · exact absurd h hxy
            · rw [HJ.out.2.1 h, decide_eq_false (by omega)])
          go_wp2
          go_quiet (fail)
          go_wp2
          go_quiet (fail)
          go_wp2
          go_ret
          exact ⟨congrArg (fun b => Ending.returned (.bool b)) hres.out, _, by simp only [World.drewN_drewN]; rfl⟩
  · have hv := ltB_false (a := val 65536 xs) (b := val 65536 ys) (by have := val_lt_of_len (β := 65536) (by decide) hy hx tx (by omega); omega)
    rw [hv]
    have hd : decide (n < m) = false := decide_eq_false (by omega)
    have hb : ((n : Int) != (m : Int)) = true := by rw [bne_iff_ne]; omega
    clear hv
    go_enter Tryz.func96, Tryz.ntmps96
    go_wp2_with fail
    go_ret
    exact ⟨rfl, 0, rfl⟩
end Go.Proofs.YtbjooeapjhaapaaGreatDoor
/- tallageref03: times: what it answers. -/
namespace Go.Proofs.YtbjooeapjhaapaaGreatDoor
open Go Go.RowKit

/-- In the midst of a row of a product. -/
def TimesJ (X Y P S : List Int) (i : Nat) (x : Int) (k : Nat) (cr : Int) : Prop :=
  (0 ≤ cr ∧ cr < 65536) ∧ ((k ≤ Y.length ∧ Mac 65536 1 x P Y S i k cr) ∨ (k = Y.length + 1 ∧ cr = 0 ∧ MulJ 65536 X Y S (i + 1)))
theorem Mk.at_row {k : IntKind} {e : TypeId} {w wr : World} {g n c : Nat} {xs : List Int} (h : Mk k e w (some ⟨g, 0, none⟩) n c xs wr) {i : Nat} (hi : i < n) : ∃ x, xs[i]? = some x ∧ wr.cell? ⟨g, i, none⟩ = some (.int k x) ∧ wr.frozen? ⟨g, i, none⟩ = false ∧
    ∀ y, Mk k e w (some ⟨g, 0, none⟩) n c (xs.set i y) (wr.setCell ⟨g, i, none⟩ (.int k y)) := by
  obtain ⟨g', x, hA, _, hx, hc, hf, hp⟩ := h.set hi
  injection hA with hA
  injection hA with hA
  subst hA
  exact ⟨x, hx, hc, hf, hp⟩

set_option maxRecDepth 20000 in
set_option maxHeartbeats 2000000 in
theorem times3_any {w : World} {B : Nat} {A A2 : Option Addr} {n c m c2 : Nat} {xs ys : List Int} (hs : Sl .i64 w B A n c xs) (ht : Sl .i64 w B A2 m c2 ys) (hB : B ≤ w.heap.size) (hx : Dg 65536 xs) (hy : Dg 65536 ys) (hn : n ≤ 100000000) (hm : m ≤ 100000000) :
    Calls Tryz.prog 57 #[.slice A n c, .slice A2 m c2] w (NewH w (val 65536 xs * val 65536 ys)) := by
  have hxl := hs.len
  have hyl := ht.len
  have hnc := hs.le
  have hmc := ht.le
  go_enter Tryz.func57, Tryz.ntmps57
  go_wp2_with (at_make; refine wpList_mk elemI rfl _ _ rfl (B := w.heap.size) (n + m + 1) rfl (by first | rfl | simp) (by omega) (by omega) (by omega) (by unfold maxLen; omega) (Nat.le_refl _) ?_; intro w3 h3 hg3)
  have hmk := Mk.made h3 hg3
  clear h3 hg3
  go_loopw [6] (fun iv wr => ∃ (i : Nat) (P : List Int), i ≤ n ∧ iv = .int .i64 i ∧ Mk .i64 3 w (some ⟨w.heap.size, 0, none⟩) (n + m + 1) (n + m + 1) P wr ∧ MulJ 65536 xs ys P i) (fun iv _ => n - (intOf iv).toNat)
  case atStart => exact ⟨0, _, Nat.zero_le _, rfl, hmk, by have := MulJ.start (β := 65536) (by decide) xs ys; rw [hxl, hyl] at this; exact this⟩
  case round =>
    obtain ⟨i, P, hi, rfl, hmr, hp⟩ := hrel
    clear hmk
    have hsz := hmr.2.size
    by_cases hlt : i < n
    · obtain ⟨b1, off1, x, rfl, hb1, ex, hcx⟩ := hs.at_ hlt
      have hxx := hx.get ex
      have HP := Lib.hid hp
      have dP := hp.dg
      have hmr0 := Lib.hid hmr
      clear hp hmr
      go_wp2_with fail
      go_loopw [7, 8] (fun cv kv wr' => ∃ (k : Nat) (cr : Int) (S : List Int), kv = .int .i64 k ∧ cv = .int .i64 cr ∧ k ≤ m + 1 ∧ Mk .i64 3 w (some ⟨w.heap.size, 0, none⟩) (n + m + 1) (n + m + 1) S wr' ∧ TimesJ xs ys P S i x k cr) (fun _ kv _ => m + 1 - (intOf kv).toNat)
      case atStart => exact ⟨0, 0, P, rfl, rfl, by omega, hmr0.out, by omega, .inl ⟨Nat.zero_le _, .start dP⟩⟩
      case round =>
        obtain ⟨k, cr, S, rfl, rfl, hk, hmk, hcr, hj⟩ := hrel
        clear hmr0
        have hcx' := (hmk.other hs hB)
        obtain ⟨b1', off1', x', hA, hb1', ex', hcx2⟩ := hcx'.at_ hlt
        injection hA with hA
        injection hA with q1 q2
        subst q1; subst q2
        rw [ex] at ex'
        obtain rfl : x = x' := by injection ex'
        clear hcx' ex'
        rcases hj with ⟨hkm, hmac⟩ | ⟨hkm, rfl, hdone⟩
        · obtain ⟨s, es, hcs, hfs, hput⟩ := hmk.at_row (i := i + k) (by omega)
          have hss := hmac.dg.get es
          by_cases hlk : k < m
          · obtain ⟨b2, off2, y, rfl, hb2, ey, hcy⟩ := (hmk.other ht hB).at_ hlk
            have hyy := hy.get ey
            obtain ⟨d1, d2, d3, d4, d5⟩ := mac_half hxx hyy hss hcr
            have hw1 : IntKind.i64.wrap (x * y) = x * y := by rw [IntKind.wrap_i64]; omega
            have hw2 : IntKind.i64.wrap (s + cr + x * y) = s + cr + x * y := by rw [IntKind.wrap_i64]; omega
            have hstep := Lib.hid (hmac.step es ey d3 d5)
            have HN := Lib.hid (hput ((s + cr + x * y) % 65536))
            have hin : (i : Int) < (n : Int) := by omega
            have hkn : (k : Int) < (m : Int) := by omega
            clear hput hmac hmk d5 es ey hs ht
            go_wp2_with fail
            go_quiet (fail)
            go_wp2_with fail
            go_roundw
            case rel => exact ⟨k + 1, _, _, by go_num, rfl, by omega, HN.out.drew _, d4, .inl ⟨by omega, hstep.out⟩⟩
            case measure => simp [intOf] <;> omega
          · obtain rfl : k = m := by omega
            have hxi := ex
            rw [← hyl] at hmac
            by_cases hc0 : cr = 0
            · subst hc0
              have HJ := Lib.hid (HP.out.keep ex hmac (by decide))
              have HM := Lib.hid hmk
              clear hput hmac hmk es ex hs ht
              go_wp2_with fail
              go_roundw
              case rel => exact ⟨i + 1, _, by omega, by go_num, HM.out, HJ.out⟩
              case measure => simp [intOf] <;> omega
            · have hz := HP.out.next ex hmac
              rw [hyl, es] at hz
              obtain rfl : s = 0 := by injection hz
              have hst := HP.out.step ex hmac hcr
              rw [hyl] at hst
              have HJ := Lib.hid hst
              have HN := Lib.hid (hput cr)
              have hcp : 0 < cr := by omega
              have hw1 : cr.tmod 65536 = cr := by rw [Int.tmod_eq_emod_of_nonneg (by omega)]; omega
              have hw2 : cr.tdiv 65536 = 0 := by rw [Int.tdiv_eq_ediv_of_nonneg (by omega)]; omega
              have hw3 : cr % 65536 = cr := by omega
              have hw4 : cr / 65536 = 0 := by omega
              clear hput hmac hmk es ex hs ht hst hz hc0
              go_wp2_with fail
              go_roundw
              case rel => exact ⟨k + 1, 0, _, by go_num, rfl, by omega, HN.out, by omega, .inr ⟨by omega, rfl, HJ.out⟩⟩
              case measure => simp [intOf] <;> omega
        · rw [hyl] at hkm
          subst hkm
          have HJ := Lib.hid hdone
          have HM := Lib.hid hmk
          clear hdone hmk hs ht ex
          go_wp2_with fail
          go_roundw
          case rel => exact ⟨i + 1, _, by omega, by go_num, HM.out, HJ.out⟩
          case measure => simp [intOf] <;> omega
    · obtain rfl : n = i := by omega
      rw [← hxl] at hp
      have HR := Lib.hid (show Row 65536 (val 65536 xs * val 65536 ys) (tl P) from ⟨tl_Dg hp.dg, tl_idem _, by rw [tl_val, hp.done]⟩)
      clear hp
      go_wp2_with fail
      refine (cut3_any hmr.1.sl).mono ?_
      rintro e w' ⟨⟨n', rfl, hs'⟩, rfl⟩
      go_wp2_with fail
      go_ret
      exact ⟨_, _, n', _, HR.out, rfl, hmr.1.cutR hs', hmr.2⟩
end Go.Proofs.YtbjooeapjhaapaaGreatDoor
/- tallageref03: often: what it answers. -/
namespace Go.Proofs.YtbjooeapjhaapaaGreatDoor
open Go Go.RowKit

set_option maxRecDepth 20000 in
set_option maxHeartbeats 2000000 in
theorem often3_any {w : World} {B : Nat} {A A2 : Option Addr} {n c m c2 : Nat} {xs ys : List Int} (hs : Sl .i64 w B A n c xs) (ht : Sl .i64 w B A2 m c2 ys) (hB : B ≤ w.heap.size) (hx : Dg 65536 xs) (hy : Dg 65536 ys) (tx : Tr xs) (hV : val 65536 xs < 65536 * val 65536 ys) (hm : m ≤ 10000000) :
    Calls Tryz.prog 73 #[.slice A n c, .slice A2 m c2] w fun e w' => e = .returned (.int .i64 (val 65536 xs / val 65536 ys)) ∧ Below w.heap.size w w' := by
  have h0 := val_nonneg (β := 65536) (by decide) hx
  have HS := Lib.hid (Halve.start h0 hV)
  clear hV h0
  go_enter Tryz.func73, Tryz.ntmps73
  go_wp2_with fail
  go_loopw [5, 6] (fun lv hv wr => ∃ lo hi : Int, lv = .int .i64 lo ∧ hv = .int .i64 hi ∧ Halve (val 65536 xs) (val 65536 ys) lo hi ∧ Below w.heap.size w wr) (fun lv hv _ => (intOf hv - intOf lv).toNat)
  case atStart => exact ⟨0, 65536, rfl, rfl, HS.out, Below.refl _ _⟩
  case round =>
    obtain ⟨lo, hi, rfl, rfl, hh, hb⟩ := hrel
    have l0 := hh.lo0
    have l1 := hh.lt
    have l2 := hh.hi0
    by_cases hgt : 1 < hi - lo
    · have hmid := hh.mid hgt
      obtain ⟨mid, hmd⟩ : ∃ mid, mid = (lo + hi) / 2 := ⟨_, rfl⟩
      have hq : (lo + hi).tdiv 2 = mid := by rw [Int.tdiv_eq_ediv_of_nonneg (by omega), hmd]
      have hdn := fun h => hh.down hgt h
      have hup := fun h => hh.up hgt h
      rw [← hmd] at hdn hup hmid
      have DN := Lib.hid hdn
      have UP := Lib.hid hup
      have hmr : 0 ≤ mid ∧ mid < 65536 := by omega
      have hdm : Dg 65536 [mid] := Dg.cons hmr Dg.nil
      have hvm : val 65536 [mid] = mid := by simp [val]
      have HVM := Lib.hid hvm
      clear hmd hdn hup hh hvm HS
      go_wp2_with fail
      refine (times3_any ((ht.below hb hB).alloc (Nat.le_trans hB hb.size) _ |>.more (show B ≤ wr.heap.size + 1 by have := hb.size; omega)) (Sl.new1 .i64 _ _ _) (by rw [size_one]; exact Nat.le_refl _) hy hdm (by omega) (by omega)).mono ?_
      rintro e w1 ⟨us, A1, n1, c1, hu, rfl, ho1, hb1⟩
      rw [HVM.out] at hu
      have hb2 : Below w.heap.size w w1 := hb.trans ((((Below.refl _ _).alloc (Nat.le_refl _) _).trans (hb1.mono (by rw [size_one]; omega))).mono hb.size)
      have s1 := ho1.sl
      have HD := hu.dg
      have HT := hu.tr
      have HU := Lib.hid hu.val
      have hlessc := less3_any ((hs.below hb2 hB).more (Nat.le_trans hB hb2.size)) s1 hx HD tx HT
      rw [HU.out] at hlessc
      clear hu ho1 hb1 s1
      by_cases hlt : val 65536 xs < val 65536 ys * mid
      · have hd := ltB_true hlt
        rw [hd] at hlessc
        have HL := Lib.hid hlessc
        have H1 := Lib.hid (DN.out hlt)
        have H2 := Lib.hid hb2
        clear hlessc hd DN UP hlt hb2 hb
        go_wp2_with fail
        refine HL.out.mono ?_
        rintro e w2 ⟨rfl, q, rfl⟩
        go_wp2_with fail
        go_roundw
        case rel => exact ⟨lo, mid, rfl, rfl, H1.out, Below.drewN' H2.out _⟩
        case measure => simp [intOf] <;> omega
      · have hd := ltB_false hlt
        rw [hd] at hlessc
        have HL := Lib.hid hlessc
        have H1 := Lib.hid (UP.out (by omega))
        have H2 := Lib.hid hb2
        clear hlessc hd DN UP hlt hb2 hb
        go_wp2_with fail
        refine HL.out.mono ?_
        rintro e w2 ⟨rfl, q, rfl⟩
        go_wp2_with fail
        go_roundw
        case rel => exact ⟨mid, hi, rfl, rfl, H1.out, Below.drewN' H2.out _⟩
        case measure => simp [intOf] <;> omega
    · have HF := Lib.hid (hh.done hgt).1
      clear hh HS
      go_wp2_with fail
      go_ret
      exact ⟨by rw [HF.out]; rfl, hb⟩
end Go.Proofs.YtbjooeapjhaapaaGreatDoor
/- tallageref03: take: what it answers. -/
namespace Go.Proofs.YtbjooeapjhaapaaGreatDoor
open Go Go.RowKit

set_option maxRecDepth 20000 in
set_option maxHeartbeats 2000000 in
theorem take3_any {w : World} {B : Nat} {A A2 : Option Addr} {n c m c2 : Nat} {xs ys : List Int} {q : Int} (hs : Sl .i64 w B A n c xs) (ht : Sl .i64 w B A2 m c2 ys) (hB : B ≤ w.heap.size) (hx : Dg 65536 xs) (hy : Dg 65536 ys) (ty : Tr ys) (hq : 0 ≤ q ∧ q < 65536) (hle : q * val 65536 ys ≤ val 65536 xs) (hn : n ≤ 1000000000) :
    Calls Tryz.prog 74 #[.slice A n c, .slice A2 m c2, .int .i64 q] w (NewH w (val 65536 xs - q * val 65536 ys)) := by
  have hxl := hs.len
  have hyl := ht.len
  have hnc := hs.le
  have hmc := ht.lenMax
  have HF := Lib.hid (less_nonneg (by decide) hx hy hq.1 hle)
  have HW := Lib.hid (less_whole (by decide) hx hy ty hq.1 hle)
  clear hle
  go_enter Tryz.func74, Tryz.ntmps74
  go_wp2_with fail
  go_loopw [7, 8, 9] (fun ov bv iv wr => ∃ (i c3 : Nat) (b : Int) (A3 : Option Addr) (O : List Int), iv = .int .i64 i ∧ bv = .int .i64 b ∧ ov = .slice A3 i c3 ∧ (0 ≤ b ∧ b < 65536) ∧ i ≤ n ∧ Own .i64 3 wr w.heap.size A3 i c3 O ∧ Below w.heap.size w wr ∧
      Acc 65536 (val 65536 (xs.take i) - q * val 65536 (ys.take i)) O i (-b)) (fun _ _ iv _ => n - (intOf iv).toNat)
  case atStart => exact ⟨0, 0, 0, none, [], rfl, rfl, rfl, by omega, by omega, Own.nil, Below.refl _ _, by simpa [val] using Acc.start (β := 65536)⟩
  case round =>
    obtain ⟨i, c3, b, A3, O, rfl, rfl, rfl, hb, hi, ho, hbl, hacc⟩ := hrel
    by_cases hlt : i < n
    · obtain ⟨b1, off1, x, rfl, _, ex, hcx⟩ := (hs.below hbl hB).at_ hlt
      have hxx := hx.get ex
      have hyy := get0_dg (by decide) hy i
      have hnext : ∀ d b' : Int, (0 ≤ d ∧ d < 65536) → d + 65536 * -b' = (x - q * ys[i]?.getD 0) + -b → Acc 65536 (val 65536 (xs.take (i + 1)) - q * val 65536 (ys.take (i + 1))) (O ++ [d]) (i + 1) (-b') := by
        intro d b' hd e
        have := hacc.step hd e
        rw [less_take, ex, Option.getD_some]
        exact this
      obtain ⟨y, hyd⟩ : ∃ y, y = ys[i]?.getD 0 := ⟨_, rfl⟩
      rw [← hyd] at hnext hyy
      obtain ⟨t0, t1, t2, t3⟩ := take_half (x := x - b - q * y) hxx hb hq hyy rfl
      have hw1 : IntKind.i64.wrap (q * y) = q * y := by rw [IntKind.wrap_i64]; omega
      have HX := Lib.hid hnext
      have HO := Lib.hid ho
      have HB := Lib.hid hbl
      by_cases hlk : i < m
      · obtain ⟨b2, off2, y', rfl, _, ey, hcy⟩ := (ht.below hbl hB).at_ hlk
        rw [ey, Option.getD_some] at hyd
        subst hyd
        by_cases hneg : x - b - q * y < 0
        · obtain ⟨u1, u2, u3⟩ := t2 hneg
          have HN := Lib.hid (HX.out _ _ u2 u3)
          have hw2 : (65535 - (x - b - q * y)).tdiv 65536 = (65535 - (x - b - q * y)) / 65536 := by rw [Int.tdiv_eq_ediv_of_nonneg (by omega)]
          clear hnext hacc t2 t3 u3 hs ht ho hbl
          go_wp2_with (at_builtin; refine wpList_app elemI rfl _ _ rfl (HO.out.alloc _) rfl (Sl.new1 .i64 _ _ _) rfl (by omega) (by unfold maxLen; omega) (by have := HB.out.size; simp; omega) ?_; intro A5 c5 w5 h5 hg)
          have hb5 : Below w.heap.size w w5 := (HB.out.alloc HB.out.size _).grown hg (by have := HB.out.size; simp; omega) (fun k hk => (HO.out.blk_ k hk).1)
          clear hg
          go_wp2_with fail
          go_roundw
          case rel => exact ⟨i + 1, c5, _, A5, _, by go_num, rfl, rfl, u1, by omega, h5, hb5, HN.out⟩
          case measure => simp [intOf] <;> omega
        · have h0 : 0 ≤ x - b - q * y := by omega
          have HN := Lib.hid (HX.out _ 0 (by omega) (t3 h0))
          clear hnext hacc t2 t3 hs ht ho hbl hneg
          go_wp2_with (at_builtin; refine wpList_app elemI rfl _ _ rfl (HO.out.alloc _) rfl (Sl.new1 .i64 _ _ _) rfl (by omega) (by unfold maxLen; omega) (by have := HB.out.size; simp; omega) ?_; intro A5 c5 w5 h5 hg)
          have hb5 : Below w.heap.size w w5 := (HB.out.alloc HB.out.size _).grown hg (by have := HB.out.size; simp; omega) (fun k hk => (HO.out.blk_ k hk).1)
          clear hg
          go_wp2_with fail
          go_roundw
          case rel => exact ⟨i + 1, c5, _, A5, _, by go_num, rfl, rfl, by omega, by omega, h5, hb5, HN.out⟩
          case measure => simp [intOf] <;> omega
      · have hz : y = 0 := by rw [hyd, List.getElem?_eq_none (by omega)]; rfl
        subst hz
        rw [Int.mul_zero, Int.sub_zero] at t2 t3 t1
        rw [Int.mul_zero] at hnext
        by_cases hneg : x - b < 0
        · obtain ⟨u1, u2, u3⟩ := t2 hneg
          have HN := Lib.hid (hnext _ _ u2 u3)
          have hw2 : (65535 - (x - b)).tdiv 65536 = (65535 - (x - b)) / 65536 := by rw [Int.tdiv_eq_ediv_of_nonneg (by omega)]
          clear hnext hacc t2 t3 u3 hs ht ho hbl HX hyd t0 hw1
          go_wp2_with (at_builtin; refine wpList_app elemI rfl _ _ rfl (HO.out.alloc _) rfl (Sl.new1 .i64 _ _ _) rfl (by omega) (by unfold maxLen; omega) (by have := HB.out.size; simp; omega) ?_; intro A5 c5 w5 h5 hg)
          have hb5 : Below w.heap.size w w5 := (HB.out.alloc HB.out.size _).grown hg (by have := HB.out.size; simp; omega) (fun k hk => (HO.out.blk_ k hk).1)
          clear hg
          go_wp2_with fail
          go_roundw
          case rel => exact ⟨i + 1, c5, _, A5, _, by go_num, rfl, rfl, u1, by omega, h5, hb5, HN.out⟩
          case measure => simp [intOf] <;> omega
        · have h0 : 0 ≤ x - b := by omega
          have HN := Lib.hid (hnext _ 0 (by omega) (t3 h0))
          clear hnext hacc t2 t3 hs ht ho hbl hneg HX hyd t0 hw1
          go_wp2_with (at_builtin; refine wpList_app elemI rfl _ _ rfl (HO.out.alloc _) rfl (Sl.new1 .i64 _ _ _) rfl (by omega) (by unfold maxLen; omega) (by have := HB.out.size; simp; omega) ?_; intro A5 c5 w5 h5 hg)
          have hb5 : Below w.heap.size w w5 := (HB.out.alloc HB.out.size _).grown hg (by have := HB.out.size; simp; omega) (fun k hk => (HO.out.blk_ k hk).1)
          clear hg
          go_wp2_with fail
          go_roundw
          case rel => exact ⟨i + 1, c5, _, A5, _, by go_num, rfl, rfl, by omega, by omega, h5, hb5, HN.out⟩
          case measure => simp [intOf] <;> omega
    · obtain rfl : n = i := by omega
      have hv := hacc
      have h1 : val 65536 O = val 65536 xs - q * val 65536 ys := by
        rw [List.take_of_length_le (l := xs) (by omega)] at hacc
        have e := HW.out
        have f := HF.out
        rw [hxl] at e f
        rw [e] at f hacc
        exact hacc.down (by decide) hb.1 f
      have HR := Lib.hid (show Row 65536 (val 65536 xs - q * val 65536 ys) (tl O) from ⟨tl_Dg hacc.dg, tl_idem _, by rw [tl_val, h1]⟩)
      clear hacc hv h1 HF HW
      go_wp2_with fail
      refine (cut3_any ho.sl).mono ?_
      rintro e w' ⟨⟨n', rfl, hs'⟩, rfl⟩
      go_wp2_with fail
      go_ret
      exact ⟨_, _, n', _, HR.out, rfl, ho.cutR hs', hbl⟩
end Go.Proofs.YtbjooeapjhaapaaGreatDoor
/- tallageref03: parts: what it answers. -/
namespace Go.Proofs.YtbjooeapjhaapaaGreatDoor
open Go Go.RowKit

/-- How often, and what is left, in half limbs. -/
def PartsR (w : World) (U V : Int) (e : Ending) (w' : World) : Prop :=
  ∃ qs rs A n c A2 m c2, Row 65536 (U / V) qs ∧ Row 65536 (U % V) rs ∧ e = .returned (.tuple #[.slice A n c, .slice A2 m c2]) ∧ Sl .i64 w' w'.heap.size A n c qs ∧ Sl .i64 w' w'.heap.size A2 m c2 rs ∧ Below w.heap.size w w'
set_option maxRecDepth 20000 in
set_option maxHeartbeats 2000000 in
theorem parts3_any {w : World} {B : Nat} {A A2 : Option Addr} {n c m c2 : Nat} {xs ys : List Int} (hs : Sl .i64 w B A n c xs) (ht : Sl .i64 w B A2 m c2 ys) (hB : B ≤ w.heap.size) (hx : Dg 65536 xs) (hy : Dg 65536 ys) (ty : Tr ys) (hV : 0 < val 65536 ys) (hn : n ≤ 10000000) (hm : m ≤ 10000000) :
    Calls Tryz.prog 44 #[.slice A n c, .slice A2 m c2] w (PartsR w (val 65536 xs) (val 65536 ys)) := by
  have hxl := hs.len
  have hyl := ht.len
  have hnc := hs.le
  have hmc := ht.le
  go_enter Tryz.func44, Tryz.ntmps44
  go_wp2_with (at_make; refine wpList_mk elemI rfl _ _ rfl (B := w.heap.size) n rfl (by first | rfl | simp) (by omega) (by omega) (by omega) (by unfold maxLen; omega) (Nat.le_refl _) ?_; intro w3 h3 hg3)
  have hmk := Mk.made h3 hg3
  clear h3 hg3
  go_loopw [7, 8] (fun rv iv wr => ∃ (k r c3 : Nat) (A3 : Option Addr) (Q rs : List Int) (R : Int), k ≤ n ∧ iv = .int .i64 ((k : Int) - 1) ∧ rv = .slice A3 r c3 ∧ Mk .i64 3 w (some ⟨w.heap.size, 0, none⟩) n n Q wr ∧ Own .i64 3 wr (w.heap.size + 1) A3 r c3 rs ∧ Row 65536 R rs ∧
      Quo 65536 (val 65536 ys) xs Q k R) (fun _ iv _ => (intOf iv + 1).toNat)
  case atStart => exact ⟨n, 0, 0, none, _, [], 0, Nat.le_refl _, rfl, rfl, hmk, Own.nil, ⟨Dg.nil, Tr.nil, rfl⟩, .start hV (Dg.zeros (by decide) _) (by omega) (by simp)⟩
  case round =>
    obtain ⟨k, r, c3, A3, Q, rs, R, hk, rfl, rfl, hmr, hro, hrr, hq⟩ := hrel
    clear hmk
    have hsz := hmr.2.size
    by_cases h0 : k = 0
    · subst h0
      have hnum := hq.num
      have hrest := hq.rest
      simp only [List.drop_zero] at hnum
      obtain ⟨e1, e2⟩ := quo_eq (U := val 65536 xs) (V := val 65536 ys) (q := val 65536 Q) (r := R) (by rw [hnum, Int.mul_comm]) hrest.1 hrest.2
      have HQ := Lib.hid (show Row 65536 (val 65536 xs / val 65536 ys) (tl Q) from ⟨tl_Dg hq.dg, tl_idem _, by rw [tl_val, e1]⟩)
      have HR := Lib.hid (show Row 65536 (val 65536 xs % val 65536 ys) rs from ⟨hrr.dg, hrr.tr, by rw [hrr.val, e2]⟩)
      clear hq hnum hrest e1 e2 hrr hs ht
      go_wp2_with fail
      refine (cut3_any hmr.1.sl).mono ?_
      rintro e w' ⟨⟨n', rfl, hs'⟩, rfl⟩
      go_wp2_with fail
      go_ret2
      exact ⟨_, _, _, _, _, _, _, _, HQ.out, HR.out, rfl, (hmr.1.cutR hs').sl, hro.sl, hmr.2⟩
    · obtain ⟨j, rfl⟩ : ∃ j, k = j + 1 := ⟨k - 1, by omega⟩
      obtain ⟨b1, off1, x, rfl, _, ex, hcx⟩ := (hmr.other hs hB).at_ (j := j) (by omega)
      have hxx := hx.get ex
      have hrest := hq.rest
      have hjn : (j : Int) < (n : Int) := by omega
      have hrl : r ≤ m + 1 := by
        have := hrr.len_le (k := m) (by decide) (by have := val_lt (β := 65536) (by decide) hy; rw [hyl] at this; omega)
        have := hro.len
        omega
      have hrol := hro.len
      have hlow : w.heap.size + 1 ≤ wr.heap.size := (hmr.1.blk_ _ rfl).2
      have hq0 : 0 ≤ (R * 65536 + x) / val 65536 ys ∧ (R * 65536 + x) / val 65536 ys < 65536 := by
        have := ahead (β := 65536) (V := val 65536 ys) hxx hrest
        refine ⟨Int.ediv_nonneg (by omega) (by omega), Int.ediv_lt_of_lt_mul hV (by omega)⟩
      have hfit : x + 65536 * R < 65536 * val 65536 ys := (ahead hxx hrest).2
      have hval : val 65536 ([x] ++ rs) = x + 65536 * R := by rw [List.singleton_append]; simp only [val]; rw [hrr.val]
      have hdg : Dg 65536 ([x] ++ rs) := Dg.cons hxx hrr.dg
      have hdiv : (x + 65536 * R) / val 65536 ys = (R * 65536 + x) / val 65536 ys := by rw [show x + 65536 * R = R * 65536 + x by omega]
      have hrem : x + 65536 * R - (R * 65536 + x) / val 65536 ys * val 65536 ys = (R * 65536 + x) % val 65536 ys := by
        have := Int.mul_ediv_add_emod (R * 65536 + x) (val 65536 ys)
        rw [Int.mul_comm ((R * 65536 + x) / val 65536 ys)]
        omega
      have hle : (R * 65536 + x) / val 65536 ys * val 65536 ys ≤ x + 65536 * R := by
        have := Int.emod_nonneg (R * 65536 + x) (show val 65536 ys ≠ 0 by omega)
        omega
      have hQl : Q.length = n := hmr.1.len
      have HST := Lib.hid (hq.step ex (by omega) hq0)
      have HV := Lib.hid hval
      have HD := Lib.hid hdiv
      have HR := Lib.hid hrem
      have HLE := Lib.hid hle
      have HF := Lib.hid hfit
      have HM := Lib.hid hmr
      have HRO := Lib.hid hro
      have HQ0 := Lib.hid hq0
      clear hq hval hdiv hrem hle hfit hmr hro hq0 hrr hs hrest ex hQl
      go_wp2_with (at_builtin; refine wpList_app elemI rfl _ _ rfl (Own.lit .i64 3 wr hlow [x] 1 rfl (by omega)) rfl (HRO.out.alloc _).sl rfl (by omega) (by unfold maxLen; omega) (by rw [size_one]; omega) ?_; intro A5 c5 w5 h5 hg)
      have hlx : (some (⟨wr.heap.size, 0, none⟩ : Addr)).map (·.block) = some wr.heap.size := rfl
      have hb5 : Below wr.heap.size wr w5 := ((Below.refl _ _).alloc (Nat.le_refl _) _).grown hg (by rw [size_one]; omega) (fun k hk => Nat.le_of_eq (show wr.heap.size = k by simpa [blk] using hk))
      refine (cut3_any h5.sl).mono ?_
      rintro e w' ⟨⟨n6, rfl, hs6⟩, rfl⟩
      have ho6 := h5.cutR hs6
      have hl6 := hs6.len
      have hn6 : n6 ≤ r + 1 := by
        have h1 := tl_len ([x] ++ rs)
        rw [hl6] at h1
        simp at h1
        omega
      have hr6 : Row 65536 (x + 65536 * R) (tl ([x] ++ rs)) := ⟨tl_Dg hdg, tl_idem _, by rw [tl_val, HV.out]⟩
      generalize tl ([x] ++ rs) = zs at hs6 ho6 hl6 hr6
      have HM5 := Lib.hid (HM.out.below hb5)
      have s6 := ho6.sl
      have ht5 := ht.below ((HM5.out).2) hB
      have hz5 := HM5.out.2.size
      have HO6 := Lib.hid ho6
      clear h5 hg hb5 hs6 HM HRO HV hdg hlx
      go_wp2_with fail
      refine (often3_any s6 (ht5.more (Nat.le_trans hB hz5)) (Nat.le_refl _) hr6.dg hy hr6.tr (by rw [hr6.val]; exact HF.out) (by omega)).mono ?_
      rintro e w7 ⟨rfl, hb7⟩
      rw [hr6.val, HD.out]
      have HM7 := Lib.hid (HM5.out.below hb7)
      have HO7 := Lib.hid (HO6.out.below hb7)
      obtain ⟨z, hz, hcz, hfz, hput⟩ := HM7.out.at_row (i := j) (by omega)
      obtain ⟨q, hqd⟩ : ∃ q, q = (R * 65536 + x) / val 65536 ys := ⟨_, rfl⟩
      rw [← hqd]
      have HM8 := Lib.hid (hput q)
      have HQD := Lib.hid hqd
      have hg8 : w7.grownBy (w7.setCell ⟨w.heap.size, j, none⟩ (.int .i64 q)) (some w.heap.size) := by
        obtain ⟨g, _, hA, _, _, _, _, _, hp⟩ := HM7.out.1.set (i := j) (by omega)
        injection hA with hA
        injection hA with hA
        subst hA
        exact (hp q).2
      have HO8 := Lib.hid (HO7.out.keep hg8 (by
        rcases HO7.out.form with ⟨hn, _⟩ | ⟨g, hg, h1, _⟩
        · exact .inl (by rw [hn]; rfl)
        · exact .inr (by rw [hg]; intro h; injection h with h; simp at h; omega)))
      have ht8 := ht.below HM8.out.2 hB
      have hc8 : (w7.setCell ⟨w.heap.size, j, none⟩ (.int .i64 q)).cell? ⟨w.heap.size, j, none⟩ = some (.int .i64 q) := by
        obtain ⟨z', hz', hc', _⟩ := HM8.out.at_row (i := j) (by omega)
        rw [List.getElem?_set_self (by have := lt_of_get hz; omega)] at hz'
        injection hz' with hz'
        subst hz'
        exact hc'
      have hz8 := HM8.out.2.size
      have s8 := HO8.out.sl
      have HR6 := Lib.hid hr6
      clear hput hb7 hqd hz HM5 HO6 HM7 HO7 hg8 ht5 s6 hr6
      go_wp2_with fail
      refine (take3_any s8 (ht8.more (Nat.le_trans hB hz8)) (Nat.le_refl _) HR6.out.dg hy ty (by rw [HQD.out]; exact HQ0.out) (by rw [HR6.out.val, HQD.out]; exact HLE.out) (by omega)).mono ?_
      rintro e w9 ⟨us, A9, n9, c9, hu, rfl, ho9, hb9⟩
      rw [HR6.out.val, HQD.out, HR.out] at hu
      have HM9 := Lib.hid (HM8.out.below hb9)
      have ho9' := ho9.lower (show w.heap.size + 1 ≤ _ from (HM8.out.1.blk_ _ rfl).2)
      have HS := Lib.hid (show Quo 65536 (val 65536 ys) xs (Q.set j q) j ((R * 65536 + x) % val 65536 ys) by rw [HQD.out]; exact HST.out)
      clear ho9 hb9 HM8 HO8 ht8 s8 HST HQD HR HD
      go_wp2_with fail
      go_roundw
      case rel => exact ⟨j, n9, c9, A9, _, us, _, by omega, by simp, rfl, HM9.out, ho9', hu, HS.out⟩
      case measure => simp [intOf] <;> omega
end Go.Proofs.YtbjooeapjhaapaaGreatDoor
/- tallageref03: limbs: what it answers. -/
namespace Go.Proofs.YtbjooeapjhaapaaGreatDoor
open Go Go.RowKit

set_option maxRecDepth 20000 in
set_option maxHeartbeats 1000000 in
theorem limbs3_any {w : World} {B : Nat} {A : Option Addr} {n c : Nat} {xs : List Int} (hs : Sl .i64 w B A n c xs) (hB : B ≤ w.heap.size) (hx : Dg 65536 xs) (hn : n ≤ 1000000000) :
    Calls Tryz.prog 47 #[.slice A n c] w (NewV w (val 65536 xs) n) := by
  have hl := hs.len
  have HV := Lib.hid (pr_val xs)
  go_enter Tryz.func47, Tryz.ntmps47
  go_wp2_with (at_make; refine wpList_mk elemU rfl _ _ rfl (B := w.heap.size) ((n + 1) / 2) rfl (by first | rfl | simp) (by omega) (by omega) (by omega) (by unfold maxLen; omega) (Nat.le_refl _) ?_; intro w3 h3 hg3)
  have hmk := Mk.made h3 hg3
  clear h3 hg3
  go_loopw [4] (fun iv wr => ∃ (i : Nat) (P : List Int), i ≤ n ∧ iv = .int .i64 i ∧ P = prz xs i ((xs.length + 1) / 2) ∧ Mk .u32 66 w (some ⟨w.heap.size, 0, none⟩) ((n + 1) / 2) ((n + 1) / 2) P wr) (fun iv _ => n - (intOf iv).toNat)
  case atStart => exact ⟨0, _, Nat.zero_le _, rfl, rfl, by rw [prz_start, hl]; exact hmk⟩
  case round =>
    obtain ⟨i, P, hi, rfl, hP, hmr⟩ := hrel
    clear hmk
    have hsz := hmr.2.size
    by_cases hlt : i < n
    · obtain ⟨j, hj⟩ : ∃ j, i = 2 * j ∨ i = 2 * j + 1 := ⟨i / 2, by omega⟩
      rcases hj with rfl | rfl
      · obtain ⟨b, off, x, rfl, hbB, ex, hcell⟩ := (hmr.other hs hB).at_ hlt
        have hxx := hx.get ex
        obtain ⟨hp0, hp1⟩ := prz_even ex
        rw [← hP] at hp0 hp1
        obtain ⟨g, z, hA, hg, ez, hc0, hfr, hput⟩ := hmr.set (i := j) (by omega)
        injection hA with hA
        injection hA with hA
        subst hA
        have hq : ((2 * j : Nat) : Int).tdiv 2 = j := by rw [Int.tdiv_eq_ediv_of_nonneg (by omega)]; omega
        have hm : (((2 * j : Nat) : Int).tmod 2 == 0) = true := by rw [Int.tmod_eq_emod_of_nonneg (by omega)]; rw [beq_iff_eq]; omega
        have hw0 : IntKind.u32.wrap x = x := by rw [IntKind.wrap_u32]; omega
        have HN := Lib.hid (hput x)
        have HP1 := Lib.hid hp1
        clear hput hp0 hp1 hP ez hmr
        go_wp2_with fail
        go_roundw
        case rel => exact ⟨2 * j + 1, _, by omega, by go_num, HP1.out, HN.out⟩
        case measure => simp [intOf] <;> omega
      · obtain ⟨b, off, y, rfl, hbB, ey, hcell⟩ := (hmr.other hs hB).at_ hlt
        obtain ⟨x, ex⟩ := get_of_lt (xs := xs) (i := 2 * j) (by omega)
        have hxx := hx.get ex
        have hyy := hx.get ey
        obtain ⟨hp0, hp1⟩ := prz_odd ex ey
        rw [← hP] at hp0 hp1
        obtain ⟨g, z, hA, hg, ez, hc0, hfr, hput⟩ := hmr.set (i := j) (by omega)
        injection hA with hA
        injection hA with hA
        subst hA
        rw [hp0] at ez
        obtain rfl : x = z := by injection ez
        have hq : ((2 * j + 1 : Nat) : Int).tdiv 2 = j := by rw [Int.tdiv_eq_ediv_of_nonneg (by omega)]; omega
        have hm : (((2 * j + 1 : Nat) : Int).tmod 2 == 0) = false := by rw [Int.tmod_eq_emod_of_nonneg (by omega)]; rw [beq_eq_false_iff_ne]; omega
        have hw0 : IntKind.u32.wrap y = y := by rw [IntKind.wrap_u32]; omega
        have hw1 : IntKind.u32.wrap (65536 * y) = 65536 * y := by rw [IntKind.wrap_u32]; omega
        have hw2 : IntKind.u32.wrap (x + 65536 * y) = x + 65536 * y := by rw [IntKind.wrap_u32]; omega
        have hq1 : IntKind.i64.wrap (j : Int) = j := by rw [IntKind.wrap_i64]; omega
        have hjz : (j : Int) < ((n : Int) + 1) / 2 := by omega
        have hk1 : 2 * (j : Int) + 1 < (n : Int) := by omega
        have hk0 : 0 ≤ 2 * (j : Int) + 1 := by omega
        have hk2 : (2 * (j : Int) + 1).toNat = 2 * j + 1 := by omega
        have HN := Lib.hid (hput (x + 65536 * y))
        have HP1 := Lib.hid hp1
        clear hput hp0 hp1 hP hmr
        go_wp2_with fail
        have hq' : (2 * (j : Int) + 1).tdiv 2 = j := by have := hq; simpa using this
        go_still_tail 16, (by kernel_rfl)
        change wpList _ _ _ _ _ wr.drew
        have hc0' : wr.drew.cell? ⟨w.heap.size, j, none⟩ = some (.int .u32 x) := hc0
        have hfr' : wr.drew.frozen? ⟨w.heap.size, j, none⟩ = false := hfr
        have HN' : Mk .u32 66 w (some ⟨w.heap.size, 0, none⟩) ((n + 1) / 2) ((n + 1) / 2) (P.set j (x + 65536 * y)) (wr.drew.setCell ⟨w.heap.size, j, none⟩ (.int .u32 (x + 65536 * y))) := HN.out.drew 1
        clear hc0 hfr hcell HN
        go_wp2_with fail
        go_roundw
        case rel => exact ⟨2 * j + 2, _, by omega, by go_num, HP1.out, HN'⟩
        case measure => simp [intOf] <;> omega
    · obtain rfl : n = i := by omega
      have hv : val 4294967296 P = val 65536 xs := by rw [hP, ← hl, prz_done]; exact HV.out
      have hd : Dg 4294967296 P := by rw [hP, ← hl, prz_done]; exact pr_dg hx
      have HV2 := Lib.hid hv
      have HD := Lib.hid hd
      clear hv hd hP HV
      go_wp2_with fail
      go_ret
      exact ⟨P, _, _, _, HD.out, HV2.out, by omega, rfl, hmr.1, hmr.2⟩
end Go.Proofs.YtbjooeapjhaapaaGreatDoor
/- Whole numbers with a sign: what calls answer; boxes of two cells. -/
namespace Go.Proofs.YtbjooeapjhaapaaGreatDoor
open Go Go.RowKit

/-- A whole number in new memory: its own sign and limbs. -/
def NewI (w : World) (N : Int) (e : Ending) (w' : World) : Prop :=
  ∃ s ys A n c, Whole N s ys ∧ e = .returned (.agg #[.bool s, .slice A n c]) ∧ Own .u32 66 w' w.heap.size A n c ys ∧ Below w.heap.size w w'
/-- A number that is right, of the same value, in memory that was there. -/
def PlainI (w : World) (B : Nat) (N : Int) (n0 : Nat) (e : Ending) (w' : World) : Prop :=
  ∃ s xs A n c, e = .returned (.agg #[.bool s, .slice A n c]) ∧ Sl .u32 w' B A n c xs ∧ Dg 4294967296 xs ∧ rgt s xs = true ∧ sgv s (val 4294967296 xs) = N ∧ n ≤ n0 ∧ Below w.heap.size w w'
theorem grown_set (w : World) (b o : Nat) (v : Value) : w.grownBy (w.setCell ⟨b, o, none⟩ v) (some b) :=
  ⟨rfl, rfl, rfl, by simp [World.setCell], fun k _ hk => Below.heap_setCell _ _ _ k (fun e => hk (by rw [e]))⟩
section
variable {k : IntKind} {e : TypeId} {w w1 : World} {B r : Nat} {A : Option Addr} {n c : Nat} {xs : List Int} {v0 v1 : Value} {t : TypeId}
theorem Own.far (h : Own k e w B A n c xs) (hr : r < B) : blk A = none ∨ blk A ≠ some r := by
  rcases h.form with ⟨h, _⟩ | ⟨g, h, hg, _⟩
  · exact .inl (by rw [h]; rfl)
  · exact .inr (by rw [h]; intro h; simp [blk] at h; omega)
theorem Own.box (h : Own k e w B A n c xs) (hr : r < B) (o : Nat) (v : Value) : Own k e (w.setCell ⟨r, o, none⟩ v) B A n c xs := h.keep (grown_set w r o v) (h.far hr)
/-- A box of two cells, new, behind what keeps it. -/
theorem box_new (hb : Below (w.alloc (.cells #[v0, v1] t)).heap.size (w.alloc (.cells #[v0, v1] t)) w1) :
    w1.cell? ⟨w.heap.size, 0, none⟩ = some v0 ∧ w1.cell? ⟨w.heap.size, 1, none⟩ = some v1 ∧ w1.frozen? ⟨w.heap.size, 0, none⟩ = false ∧ w1.frozen? ⟨w.heap.size, 1, none⟩ = false ∧ w.heap.size < w1.heap.size ∧ Below w.heap.size w w1 := by
  have hlt : w.heap.size < (w.alloc (.cells #[v0, v1] t)).heap.size := by rw [size_one]; exact Nat.lt_succ_self _
  refine ⟨?_, ?_, ?_, ?_, Nat.lt_of_lt_of_le hlt hb.size, below_a1 hb⟩
  · rw [hb.cell (p := ⟨w.heap.size, 0, none⟩) hlt]; simp [World.cell?_alloc_new]
  · rw [hb.cell (p := ⟨w.heap.size, 1, none⟩) hlt]; simp [World.cell?_alloc_new]
  · rw [hb.frozen (p := ⟨w.heap.size, 0, none⟩) hlt]; simp [World.frozen?_alloc_new]
  · rw [hb.frozen (p := ⟨w.heap.size, 1, none⟩) hlt]; simp [World.frozen?_alloc_new]
end
theorem NewI.put {w w1 : World} {B r : Nat} {N : Int} {s : Bool} {ys : List Int} {A : Option Addr} {n c : Nat} {u v : Value} (hW : Whole N s ys) (hr : w.heap.size ≤ r) (ho : Own .u32 66 w1 B A n c ys) (hB : r < B) (hb : Below w.heap.size w w1) :
    NewI w N (.returned (.agg #[.bool s, .slice A n c])) ((w1.setCell ⟨r, 0, none⟩ u).setCell ⟨r, 1, none⟩ v) :=
  ⟨s, ys, A, n, c, hW, rfl, ((ho.box hB 0 u).box hB 1 v).lower (by omega), (hb.setCell (p := ⟨r, 0, none⟩) hr u).setCell (p := ⟨r, 1, none⟩) hr v⟩
/-- Two boxes of two cells each. -/
theorem box_new2 {w w1 : World} {v0 v1 u0 u1 : Value} {t t2 : TypeId} (hb : Below ((w.alloc (.cells #[v0, v1] t)).alloc (.cells #[u0, u1] t2)).heap.size ((w.alloc (.cells #[v0, v1] t)).alloc (.cells #[u0, u1] t2)) w1) :
    (w1.cell? ⟨w.heap.size, 0, none⟩ = some v0 ∧ w1.cell? ⟨w.heap.size, 1, none⟩ = some v1 ∧ w1.frozen? ⟨w.heap.size, 0, none⟩ = false ∧ w1.frozen? ⟨w.heap.size, 1, none⟩ = false) ∧
    (w1.cell? ⟨w.heap.size + 1, 0, none⟩ = some u0 ∧ w1.cell? ⟨w.heap.size + 1, 1, none⟩ = some u1 ∧ w1.frozen? ⟨w.heap.size + 1, 0, none⟩ = false ∧ w1.frozen? ⟨w.heap.size + 1, 1, none⟩ = false) ∧
    w.heap.size + 1 < w1.heap.size ∧ Below w.heap.size w w1 := by
  obtain ⟨h0, h1, h2, h3, h4, h5⟩ := box_new hb
  obtain ⟨g0, g1, g2, g3, g4, g5⟩ := box_new h5
  rw [size_one] at h0 h1 h2 h3 h4
  exact ⟨⟨g0, g1, g2, g3⟩, ⟨h0, h1, h2, h3⟩, h4, g5⟩
theorem size_two (w : World) (o o2 : Obj) : ((w.alloc o).alloc o2).heap.size = w.heap.size + 2 := by rw [size_one, size_one]
theorem size_three (w : World) (o o2 o3 : Obj) : (((w.alloc o).alloc o2).alloc o3).heap.size = w.heap.size + 3 := by rw [size_one, size_one, size_one]
/-- Three boxes of two cells each. -/
theorem box_new3 {w w1 : World} {v0 v1 u0 u1 x0 x1 : Value} {t t2 t3 : TypeId} (hb : Below (((w.alloc (.cells #[v0, v1] t)).alloc (.cells #[u0, u1] t2)).alloc (.cells #[x0, x1] t3)).heap.size (((w.alloc (.cells #[v0, v1] t)).alloc (.cells #[u0, u1] t2)).alloc (.cells #[x0, x1] t3)) w1) :
    (w1.cell? ⟨w.heap.size, 0, none⟩ = some v0 ∧ w1.cell? ⟨w.heap.size, 1, none⟩ = some v1 ∧ w1.frozen? ⟨w.heap.size, 0, none⟩ = false ∧ w1.frozen? ⟨w.heap.size, 1, none⟩ = false) ∧
    (w1.cell? ⟨w.heap.size + 1, 0, none⟩ = some u0 ∧ w1.cell? ⟨w.heap.size + 1, 1, none⟩ = some u1 ∧ w1.frozen? ⟨w.heap.size + 1, 0, none⟩ = false ∧ w1.frozen? ⟨w.heap.size + 1, 1, none⟩ = false) ∧
    (w1.cell? ⟨w.heap.size + 2, 0, none⟩ = some x0 ∧ w1.cell? ⟨w.heap.size + 2, 1, none⟩ = some x1 ∧ w1.frozen? ⟨w.heap.size + 2, 0, none⟩ = false ∧ w1.frozen? ⟨w.heap.size + 2, 1, none⟩ = false) ∧
    w.heap.size + 2 < w1.heap.size ∧ Below w.heap.size w w1 := by
  obtain ⟨h0, h1, h2, h3, h4, h5⟩ := box_new hb
  obtain ⟨g0, g1, g2, g3⟩ := box_new2 h5
  rw [size_two] at h0 h1 h2 h3 h4
  exact ⟨g0, g1, ⟨h0, h1, h2, h3⟩, h4, g3⟩
/-- A box of two cells written over. -/
def Boxed (W : World) (r : Nat) (u0 u1 : Value) : Prop := W.cell? ⟨r, 0, none⟩ = some u0 ∧ W.cell? ⟨r, 1, none⟩ = some u1 ∧ W.frozen? ⟨r, 0, none⟩ = false ∧ W.frozen? ⟨r, 1, none⟩ = false
theorem Boxed.put {w1 : World} {r : Nat} {v0 v1 : Value} (h : Boxed w1 r v0 v1) (u0 u1 : Value) : Boxed ((w1.setCell ⟨r, 0, none⟩ u0).setCell ⟨r, 1, none⟩ u1) r u0 u1 := by
  obtain ⟨h0, h1, h2, h3⟩ := h
  refine ⟨?_, ?_, ?_, ?_⟩ <;> go_simp
theorem Boxed.other {w1 : World} {r q : Nat} {v0 v1 : Value} (h : Boxed w1 r v0 v1) (hne : r ≠ q) (o : Nat) (u : Value) : Boxed (w1.setCell ⟨q, o, none⟩ u) r v0 v1 := by
  obtain ⟨h0, h1, h2, h3⟩ := h
  have e0 : w1.heap[r]? = (w1.setCell ⟨q, o, none⟩ u).heap[r]? := (Below.heap_setCell _ _ _ r hne).symm
  refine ⟨(World.cell?_of_block e0.symm).trans h0, (World.cell?_of_block e0.symm).trans h1, ?_, ?_⟩
  · rw [← h2]; unfold World.frozen?; rw [← e0]
  · rw [← h3]; unfold World.frozen?; rw [← e0]
theorem Boxed.below {w1 w2 : World} {r B : Nat} {v0 v1 : Value} (h : Boxed w1 r v0 v1) (hb : Below B w1 w2) (hr : r < B) : Boxed w2 r v0 v1 := by
  obtain ⟨h0, h1, h2, h3⟩ := h
  exact ⟨(hb.cell (p := ⟨r, 0, none⟩) hr).trans h0, (hb.cell (p := ⟨r, 1, none⟩) hr).trans h1, (hb.frozen (p := ⟨r, 0, none⟩) hr).trans h2, (hb.frozen (p := ⟨r, 1, none⟩) hr).trans h3⟩
theorem size_set (w : World) (p : Addr) (u : Value) : (w.setCell p u).heap.size = w.heap.size := by simp [World.setCell]
/-- What plain answers, told by its argument alone. -/
def PlOut (s : Bool) (A : Option Addr) (n c : Nat) (xs : List Int) (s' : Bool) (A' : Option Addr) (n' c' : Nat) (xs' : List Int) : Prop :=
  (rgt s xs = true ∧ s' = s ∧ A' = A ∧ n' = n ∧ c' = c ∧ xs' = xs) ∨ (rgt s xs = false ∧ s' = false ∧ A' = none ∧ n' = 0 ∧ c' = 0 ∧ xs' = [])
theorem PlOut.ex (s : Bool) (A : Option Addr) (n c : Nat) (xs : List Int) : ∃ s' A' n' c' xs', PlOut s A n c xs s' A' n' c' xs' := by
  cases h : rgt s xs
  · exact ⟨_, _, _, _, _, .inr ⟨h, rfl, rfl, rfl, rfl, rfl⟩⟩
  · exact ⟨_, _, _, _, _, .inl ⟨h, rfl, rfl, rfl, rfl, rfl⟩⟩
theorem PlOut.facts {w : World} {B : Nat} {s s' : Bool} {A A' : Option Addr} {n c n' c' : Nat} {xs xs' : List Int} (h : PlOut s A n c xs s' A' n' c' xs') (hs : Sl .u32 w B A n c xs) (hx : Dg 4294967296 xs) :
    Sl .u32 w B A' n' c' xs' ∧ Dg 4294967296 xs' ∧ rgt s' xs' = true ∧ sgv s' (val 4294967296 xs') = ival s xs ∧ n' ≤ n := by
  rcases h with ⟨h, rfl, rfl, rfl, rfl, rfl⟩ | ⟨h, rfl, rfl, rfl, rfl, rfl⟩
  · exact ⟨hs, hx, h, (ival_right h).symm, Nat.le_refl _⟩
  · exact ⟨Sl.nil, Dg.nil, rfl, by rw [ival_wrong h]; rfl, Nat.zero_le _⟩
theorem size_four (w : World) (o o2 o3 o4 : Obj) : ((((w.alloc o).alloc o2).alloc o3).alloc o4).heap.size = w.heap.size + 4 := by rw [size_one, size_one, size_one, size_one]
/-- Four boxes of two cells each. -/
theorem box_new4 {w w1 : World} {v0 v1 u0 u1 x0 x1 y0 y1 : Value} {t t2 t3 t4 : TypeId}
    (hb : Below ((((w.alloc (.cells #[v0, v1] t)).alloc (.cells #[u0, u1] t2)).alloc (.cells #[x0, x1] t3)).alloc (.cells #[y0, y1] t4)).heap.size ((((w.alloc (.cells #[v0, v1] t)).alloc (.cells #[u0, u1] t2)).alloc (.cells #[x0, x1] t3)).alloc (.cells #[y0, y1] t4)) w1) :
    Boxed w1 w.heap.size v0 v1 ∧ Boxed w1 (w.heap.size + 1) u0 u1 ∧ Boxed w1 (w.heap.size + 2) x0 x1 ∧ Boxed w1 (w.heap.size + 3) y0 y1 ∧ w.heap.size + 3 < w1.heap.size ∧ Below w.heap.size w w1 := by
  obtain ⟨h0, h1, h2, h3, h4, h5⟩ := box_new hb
  obtain ⟨g0, g1, g2, _, g3⟩ := box_new3 h5
  rw [size_three] at h0 h1 h2 h3 h4
  exact ⟨g0, g1, g2, ⟨h0, h1, h2, h3⟩, h4, g3⟩
end Go.Proofs.YtbjooeapjhaapaaGreatDoor
/- tallageref03: Right, plain, made: what each call answers. -/
namespace Go.Proofs.YtbjooeapjhaapaaGreatDoor
open Go Go.RowKit

set_option maxHeartbeats 1000000 in
theorem right3_any {w : World} {B : Nat} {s : Bool} {A : Option Addr} {n c : Nat} {xs : List Int} (hs : Sl .u32 w B A n c xs) (hB : B ≤ w.heap.size) :
    Calls Tryz.prog 27 #[.agg #[.bool s, .slice A n c]] w fun e w' => e = .returned (.bool (rgt s xs)) ∧ Below w.heap.size w w' := by
  have hl := hs.len
  have hm := hs.lenMax
  by_cases h0 : n = 0
  · subst h0
    have hx := List.eq_nil_of_length_eq_zero hl
    subst hx
    rw [rgt_nil]
    go_enter Tryz.func27, Tryz.ntmps27
    go_wp2_with fail
    go_ret
    exact ⟨rfl, (Below.refl _ _).alloc (Nat.le_refl _) _⟩
  · obtain ⟨j, rfl⟩ : ∃ j, n = j + 1 := ⟨n - 1, by omega⟩
    obtain ⟨b, off, z, rfl, hbB, ez, hcell⟩ := hs.at_ (j := j) (by omega)
    rw [rgt_get hl ez]
    have hb : (((j + 1 : Nat) : Int) == 0) = false := beq_eq_false_iff_ne.2 (by omega)
    have hlt : b < w.heap.size := by omega
    clear h0 ez
    go_enter Tryz.func27, Tryz.ntmps27
    go_wp2_with fail
    go_ret
    exact ⟨rfl, (Below.refl _ _).alloc (Nat.le_refl _) _⟩
set_option maxHeartbeats 1000000 in
theorem made3_any {w : World} {B : Nat} {s : Bool} {A : Option Addr} {n c : Nat} {xs : List Int} (hs : Sl .u32 w B A n c xs) (hB : B ≤ w.heap.size) (hx : Dg 4294967296 xs) (hn : n ≤ 500000000) :
    Calls Tryz.prog 46 #[.bool s, .slice A n c] w (NewI w (sgv s (val 4294967296 xs))) := by
  go_enter Tryz.func46, Tryz.ntmps46
  go_wp2_with fail
  refine (refTrim_any (hs.alloc hB _) (by rw [size_one]; omega) hx hn).mono ?_
  rintro e w1 ⟨ys, hr, A1, n1, c1, rfl, ho, hb⟩
  obtain ⟨hc0, hc1, hf0, hf1, hlt, hb1⟩ := box_new hb
  have HO := Lib.hid ho
  have HB := Lib.hid hb1
  have hl1 := ho.len
  have hv0 := val_nonneg (β := 4294967296) (by decide) hx
  have HP : w.heap.size < (w.alloc (.cells #[.bool false, .slice none 0 0] 26)).heap.size := by rw [size_one]; exact Nat.lt_succ_self _
  clear ho hb hb1
  by_cases h0 : n1 = 0
  · subst h0
    have hy := List.eq_nil_of_length_eq_zero hl1
    subst hy
    have hz : val 4294967296 xs = 0 := hr.val.symm
    have HW := Lib.hid (show Whole (sgv s (val 4294967296 xs)) false [] by rw [hz]; cases s <;> exact Whole.zero)
    clear hr hz hl1
    cases s
    all_goals
      go_wp2_with fail
      refine bodyPost_ret (v := .agg #[.bool false, .slice A1 0 c1]) ?_ rfl (NewI.put HW.out (Nat.le_refl _) HO.out HP HB.out)
      simp only [results, Tryz.results46]
      go_simp
  · have hpos : 0 < n1 := by omega
    have HW := Lib.hid (show Whole (sgv s (val 4294967296 xs)) s ys from Whole.mk' hr hv0 (fun _ hz => by
      have := Tr.zero (by decide) hr.dg hr.tr (hr.val.trans hz)
      rw [this] at hl1
      exact h0 hl1.symm))
    clear hr hl1
    cases s
    all_goals
      go_wp2_with fail
      refine bodyPost_ret (v := .agg #[.bool _, .slice A1 n1 c1]) ?_ rfl (NewI.put HW.out (Nat.le_refl _) HO.out HP HB.out)
      simp only [results, Tryz.results46]
      go_simp
end Go.Proofs.YtbjooeapjhaapaaGreatDoor
/- tallageref03: plain: what it answers. -/
namespace Go.Proofs.YtbjooeapjhaapaaGreatDoor
open Go Go.RowKit

set_option maxHeartbeats 1000000 in
theorem plain3_wrong {w : World} {B : Nat} {s : Bool} {A : Option Addr} {n c : Nat} {xs : List Int} (hr : rgt s xs = false) (hs : Sl .u32 w B A n c xs) (hB : B ≤ w.heap.size) :
    Calls Tryz.prog 43 #[.agg #[.bool s, .slice A n c]] w fun e w' => e = .returned (.agg #[.bool false, .slice none 0 0]) ∧ Below w.heap.size w w' := by
  have HC := fun W (h : Sl .u32 W B A n c xs) (hB : B ≤ W.heap.size) => right3_any (s := s) h hB
  rw [hr] at HC
  clear hr
  go_enter Tryz.func43, Tryz.ntmps43
  go_wp2_with fail
  refine (HC _ ((hs.alloc hB _).alloc (by rw [size_one]; omega) _) (by rw [size_two]; omega)).mono ?_
  rintro e w1 ⟨rfl, hb⟩
  obtain ⟨⟨p0, p1, p2, p3⟩, ⟨r0, r1, r2, r3⟩, hlt, hb1⟩ := box_new2 hb
  have HB := Lib.hid hb1
  clear hb hb1 HC hs
  go_wp2_with fail
  refine bodyPost_ret (v := .agg #[.bool false, .slice none 0 0]) ?_ rfl ⟨rfl, (HB.out.setCell (p := ⟨w.heap.size + 1, 0, none⟩) (Nat.le_succ _) _).setCell (p := ⟨w.heap.size + 1, 1, none⟩) (Nat.le_succ _) _⟩
  simp only [results, Tryz.results43]
  go_simp
set_option maxHeartbeats 1000000 in
theorem plain3_right {w : World} {B : Nat} {s : Bool} {A : Option Addr} {n c : Nat} {xs : List Int} (hr : rgt s xs = true) (hs : Sl .u32 w B A n c xs) (hB : B ≤ w.heap.size) :
    Calls Tryz.prog 43 #[.agg #[.bool s, .slice A n c]] w fun e w' => e = .returned (.agg #[.bool s, .slice A n c]) ∧ Below w.heap.size w w' := by
  have HC := fun W (h : Sl .u32 W B A n c xs) (hB : B ≤ W.heap.size) => right3_any (s := s) h hB
  rw [hr] at HC
  clear hr
  go_enter Tryz.func43, Tryz.ntmps43
  go_wp2_with fail
  refine (HC _ ((hs.alloc hB _).alloc (by rw [size_one]; omega) _) (by rw [size_two]; omega)).mono ?_
  rintro e w1 ⟨rfl, hb⟩
  obtain ⟨⟨p0, p1, p2, p3⟩, ⟨r0, r1, r2, r3⟩, hlt, hb1⟩ := box_new2 hb
  have HB := Lib.hid hb1
  clear hb hb1 HC hs
  go_wp2_with fail
  refine bodyPost_ret (v := .agg #[.bool s, .slice A n c]) ?_ rfl ⟨rfl, (HB.out.setCell (p := ⟨w.heap.size + 1, 0, none⟩) (Nat.le_succ _) _).setCell (p := ⟨w.heap.size + 1, 1, none⟩) (Nat.le_succ _) _⟩
  simp only [results, Tryz.results43]
  go_simp
theorem plain3_out {w : World} {B : Nat} {s s' : Bool} {A A' : Option Addr} {n c n' c' : Nat} {xs xs' : List Int} (h : PlOut s A n c xs s' A' n' c' xs') (hs : Sl .u32 w B A n c xs) (hB : B ≤ w.heap.size) :
    Calls Tryz.prog 43 #[.agg #[.bool s, .slice A n c]] w fun e w' => e = .returned (.agg #[.bool s', .slice A' n' c']) ∧ Below w.heap.size w w' := by
  rcases h with ⟨hr, rfl, rfl, rfl, rfl, rfl⟩ | ⟨hr, rfl, rfl, rfl, rfl, rfl⟩
  · exact plain3_right hr hs hB
  · exact plain3_wrong hr hs hB
theorem plain3_any {w : World} {B : Nat} {s : Bool} {A : Option Addr} {n c : Nat} {xs : List Int} (hs : Sl .u32 w B A n c xs) (hB : B ≤ w.heap.size) (hx : Dg 4294967296 xs) :
    Calls Tryz.prog 43 #[.agg #[.bool s, .slice A n c]] w (PlainI w B (ival s xs) n) := by
  obtain ⟨s', A', n', c', xs', h⟩ := PlOut.ex s A n c xs
  refine (plain3_out h hs hB).mono ?_
  rintro e w' ⟨rfl, hb⟩
  obtain ⟨f1, f2, f3, f4, f5⟩ := h.facts (hs.below hb hB) hx
  exact ⟨s', xs', A', n', c', rfl, f1, f2, f3, f4, f5, hb⟩
end Go.Proofs.YtbjooeapjhaapaaGreatDoor
