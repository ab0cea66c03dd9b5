/- tallageref01: Add, Sub, Sum, MulSmall, DivSmall: what each call answers. -/
import Derived.Test.YtgdfjfmgcnbdaaaDoorRefB
namespace Go.Proofs.YtgdfjfmgcnbdaaaDoor
open Go Go.RowKit

/-- Digits put one behind the other: O so far, c carried on; together they are F. -/
structure Acc (β F : Int) (O : List Int) (i : Nat) (c : Int) : Prop where
  dg : Dg β O
  len : O.length = i
  num : val β O + β ^ i * c = F
theorem Acc.start {β : Int} : Acc β 0 [] 0 0 := ⟨Dg.nil, rfl, by simp [val]⟩
theorem Acc.step {β F f c d c' : Int} {O : List Int} {i : Nat} (h : Acc β F O i c) (hd : 0 ≤ d ∧ d < β) (e : d + β * c' = f + c) : Acc β (F + β ^ i * f) (O ++ [d]) (i + 1) c' := by
  refine ⟨h.dg.append (Dg.cons hd Dg.nil), by simp [h.len], ?_⟩
  rw [val_snoc, h.len, ← h.num, Int.pow_succ]
  have : β ^ i * (d + β * c') = β ^ i * (f + c) := by rw [e]
  grind
theorem val_take_next (β : Int) (X : List Int) (i : Nat) : val β (X.take (i + 1)) = val β (X.take i) + β ^ i * X[i]?.getD 0 := by
  rcases Nat.lt_or_ge i X.length with hl | hl
  · obtain ⟨y, hy⟩ := get_of_lt hl
    rw [take_succ_of hy, val_snoc, List.length_take, Nat.min_eq_left (by omega), hy]
    rfl
  · rw [List.getElem?_eq_none hl, List.take_of_length_le (by omega), List.take_of_length_le hl]
    simp
theorem get0_dg {β : Int} (hβ : 0 < β) {X : List Int} (h : Dg β X) (i : Nat) : 0 ≤ X[i]?.getD 0 ∧ X[i]?.getD 0 < β := by
  rcases Nat.lt_or_ge i X.length with hl | hl
  · obtain ⟨y, hy⟩ := get_of_lt hl
    rw [hy]
    exact h.get hy
  · rw [List.getElem?_eq_none hl]
    exact ⟨Int.le_refl _, hβ⟩

set_option maxHeartbeats 2000000 in
theorem refAdd_any {w : World} {B : Nat} {A A2 : Option Addr} {n c m c2 : Nat} {xs ys : List Int} (hs : Sl .u32 w B A n c xs) (ht : Sl .u32 w B A2 m c2 ys) (hB : B ≤ w.heap.size) (hx : Dg 4294967296 xs) (hy : Dg 4294967296 ys) (hn : n ≤ 400000000) (hm : m ≤ 400000000) :
    Calls Tryd.prog 15 #[.slice A n c, .slice A2 m c2] w (NewN w (val 4294967296 xs + val 4294967296 ys)) := by
  go_enter Tryd.func15, Tryd.ntmps15
  go_wp2_with fail
  refine (halves_any hs hB hx (by omega)).mono ?_
  rintro e w1 ⟨us, A1, n1, c1, hu, rfl, ho1, b1⟩
  have hl1 : n1 ≤ 2 * n := by have := half_len hs.len hx hu; have := ho1.len; omega
  go_wp2_with fail
  refine (halves_any ((ht.below b1 hB).more (Nat.le_trans hB b1.size)) (Nat.le_refl _) hy (by omega)).mono ?_
  rintro e w2 ⟨vs, A2', n2, c2', hv, rfl, ho2, b2⟩
  have hl2 : n2 ≤ 2 * m := by have := half_len ht.len hy hv; have := ho2.len; omega
  have s1 := (ho1.below b2).sl
  have s2 := ho2.sl
  have hb0 := b1.trans (b2.mono b1.size)
  have hul := ho1.len
  have hvl := ho2.len
  have EU := Lib.hid hu.val
  have EV := Lib.hid hv.val
  have dU := hu.dg
  have dV := hv.dg
  clear ho1 ho2 b1 b2 hu hv hs ht
  by_cases hcase : n1 < n2
  all_goals
    go_wp2_with fail
    go_loopw [7, 8, 9] (fun ov cv iv wr => ∃ (i c2 : Nat) (q : Int) (A3 : Option Addr) (O : List Int), iv = .int .i64 i ∧ cv = .int .i64 q ∧ ov = .slice A3 i c2 ∧ (0 ≤ q ∧ q ≤ 1) ∧ i ≤ max n1 n2 + 1 ∧ (i = max n1 n2 + 1 → q = 0) ∧ Own .i64 3 wr w2.heap.size A3 i c2 O ∧ Below w2.heap.size w2 wr ∧
        Acc 65536 (val 65536 (us.take i) + val 65536 (vs.take i)) O i q) (fun _ _ iv _ => max n1 n2 + 1 - (intOf iv).toNat)
    case atStart => exact ⟨0, 0, 0, none, [], rfl, rfl, rfl, by omega, by omega, by omega, Own.nil, Below.refl _ _, .start⟩
    case round =>
      obtain ⟨i, c3, q, A3, O, rfl, rfl, rfl, hq, hi, hiq, ho, hb, hacc⟩ := hrel
      by_cases hend : max n1 n2 ≤ i ∧ q = 0
      · obtain ⟨hge, rfl⟩ := hend
        have hN := Lib.hid (show val 65536 O = val 4294967296 xs + val 4294967296 ys by
          have := hacc.num
          rw [List.take_of_length_le (by omega), List.take_of_length_le (by omega), EU.out, EV.out] at this
          omega)
        have hD := hacc.dg
        clear hacc hiq
        go_wp2_with fail
        refine (limbs_any ho.sl (Nat.le_refl _) hD (by omega)).mono ?_
        rintro e w4 ⟨zs, hz, A4, n4, c4, rfl, ho4, b4⟩
        rw [hN.out] at hz
        go_wp2_with fail
        go_ret
        exact ⟨zs, hz, A4, n4, c4, rfl, ho4.lower (Nat.le_trans hb0.size hb.size), hb0.trans ((hb.trans (b4.mono hb.size)).mono hb0.size)⟩
      · have hgo : i < max n1 n2 ∨ (max n1 n2 ≤ i ∧ 0 < q) := by omega
        have hilt : i ≤ max n1 n2 := by rcases Nat.lt_or_ge (max n1 n2) i with h | h <;> omega
        have ha := at_any (i := i) (s1.below hb (Nat.le_refl _))
        have hc := at_any (i := i) (s2.below hb (Nat.le_refl _))
        have hxr := get0_dg (by decide) dU i
        have hyr := get0_dg (by decide) dV i
        have hnx : ∀ d q' : Int, (0 ≤ d ∧ d < 65536) → d + 65536 * q' = us[i]?.getD 0 + vs[i]?.getD 0 + q → Acc 65536 (val 65536 (us.take (i + 1)) + val 65536 (vs.take (i + 1))) (O ++ [d]) (i + 1) q' := by
          intro d q' hd e
          have := hacc.step hd e
          rw [val_take_next, val_take_next]
          rw [Int.mul_add] at this
          rw [show val 65536 (us.take i) + 65536 ^ i * us[i]?.getD 0 + (val 65536 (vs.take i) + 65536 ^ i * vs[i]?.getD 0) = val 65536 (us.take i) + val 65536 (vs.take i) + (65536 ^ i * us[i]?.getD 0 + 65536 ^ i * vs[i]?.getD 0) by omega]
          exact this
        have hz : max n1 n2 ≤ i → us[i]?.getD 0 = 0 ∧ vs[i]?.getD 0 = 0 := fun h => ⟨by rw [List.getElem?_eq_none (by omega)]; rfl, by rw [List.getElem?_eq_none (by omega)]; rfl⟩
        generalize us[i]?.getD 0 = x at *
        generalize vs[i]?.getD 0 = y at *
        have HA := Lib.hid ha
        have HC := Lib.hid hc
        have HN := Lib.hid hnx
        have HZ := Lib.hid hz
        have HO := Lib.hid ho
        clear ha hc hnx hz hacc hiq ho
        rcases hgo with hgo | hgo
        all_goals
          go_wp2_with (first | (go_at_call_of 32 (Value.slice A1 n1 c1); refine HA.out.mono ?_; rintro e w' ⟨rfl, rfl⟩) | (go_at_call_of 32 (Value.slice A2' n2 c2'); refine HC.out.mono ?_; rintro e w' ⟨rfl, rfl⟩) | (at_builtin; refine wpList_app elemI rfl _ _ rfl (HO.out.alloc _) rfl (Sl.new1 .i64 _ _ _) rfl (by omega) (by unfold maxLen; omega) (by have := hb.size; simp; omega) ?_; intro A5 c5 w5 h5 hg))
          have hb5 : Below w2.heap.size w2 w5 := (hb.alloc hb.size _).grown hg (by have := hb.size; simp; omega) (fun k hk => (HO.out.blk_ k hk).1)
          have hq' : (0 ≤ (x + y + q) / 65536 ∧ (x + y + q) / 65536 ≤ 1) ∧ (i + 1 = max n1 n2 + 1 → (x + y + q) / 65536 = 0) := by
            refine ⟨by omega, fun h => ?_⟩
            obtain ⟨h1, h2⟩ := HZ.out (by omega)
            omega
          have hacc' := HN.out ((x + y + q) % 65536) ((x + y + q) / 65536) (by omega) (by omega)
          have HR := Lib.hid hq'
          have HA5 := Lib.hid hacc'
          clear hq' hacc' hg hb HO HN HZ HA HC
          go_wp2
          go_roundw
          case rel => exact ⟨i + 1, c5, _, A5, _, by go_num, rfl, rfl, HR.out.1, by omega, HR.out.2, h5, hb5, HA5.out⟩
          case measure => simp [intOf] <;> omega

theorem mul_half {x m c : Int} (hx : 0 ≤ x ∧ x < 65536) (hm : 0 ≤ m ∧ m < 4294967296) (hc : 0 ≤ c ∧ c < 4294967296) :
    0 ≤ x * m ∧ x * m ≤ 281470681677825 ∧ (0 ≤ (x * m + c) % 65536 ∧ (x * m + c) % 65536 < 65536) ∧ (0 ≤ (x * m + c) / 65536 ∧ (x * m + c) / 65536 < 4294967296) ∧ (x * m + c) % 65536 + 65536 * ((x * m + c) / 65536) = x * m + c := by
  have h0 : 0 ≤ x * m := Int.mul_nonneg hx.1 hm.1
  have h1 : x * m ≤ 65535 * 4294967295 := Int.mul_le_mul (by omega) (by omega) hm.1 (by omega)
  omega

set_option maxHeartbeats 2000000 in
theorem refMulSmall_any {w : World} {B : Nat} {A : Option Addr} {n c : Nat} {xs : List Int} {m : Int} (hs : Sl .u32 w B A n c xs) (hB : B ≤ w.heap.size) (hx : Dg 4294967296 xs) (hm : 0 ≤ m ∧ m < 4294967296) (hn : n ≤ 400000000) :
    Calls Tryd.prog 26 #[.slice A n c, .int .u32 m] w (NewN w (m * val 4294967296 xs)) := by
  go_enter Tryd.func26, Tryd.ntmps26
  go_wp2_with fail
  refine (halves_any hs hB hx (by omega)).mono ?_
  rintro e w1 ⟨us, A1, n1, c1, hu, rfl, ho1, b1⟩
  have hl1 : n1 ≤ 2 * n := by have := half_len hs.len hx hu; have := ho1.len; omega
  have s1 := ho1.sl
  have hul := ho1.len
  have EU := Lib.hid hu.val
  have dU := hu.dg
  clear ho1 hu hs
  go_wp2_with fail
  go_loopw [6, 7, 8] (fun ov cv iv wr => ∃ (i c2 : Nat) (q : Int) (A3 : Option Addr) (O : List Int), iv = .int .i64 i ∧ cv = .int .i64 q ∧ ov = .slice A3 i c2 ∧ (0 ≤ q ∧ q < 4294967296) ∧ (n1 ≤ i → (i : Int) + q ≤ n1 + 4294967296) ∧ i ≤ n1 + 3 ∧ (i = n1 + 3 → q = 0) ∧ (i = n1 + 2 → q < 1) ∧ (i = n1 + 1 → q < 65536) ∧ Own .i64 3 wr w1.heap.size A3 i c2 O ∧ Below w1.heap.size w1 wr ∧
      Acc 65536 (m * val 65536 (us.take i)) O i q) (fun _ _ iv _ => n1 + 3 - (intOf iv).toNat)
  case atStart => exact ⟨0, 0, 0, none, [], rfl, rfl, rfl, by omega, by omega, by omega, by omega, by omega, by omega, Own.nil, Below.refl _ _, by simp [val]; exact .start⟩
  case round =>
    obtain ⟨i, c3, q, A3, O, rfl, rfl, rfl, hq, hiq, hi, hi3, hi2, hi1, ho, hb, hacc⟩ := hrel
    by_cases hend : n1 ≤ i ∧ q = 0
    · obtain ⟨hge, rfl⟩ := hend
      have hN := Lib.hid (show val 65536 O = m * val 4294967296 xs by
        have := hacc.num
        rw [List.take_of_length_le (by omega), EU.out] at this
        omega)
      have hD := hacc.dg
      clear hacc hiq hi1 hi2 hi3
      go_wp2_with fail
      refine (limbs_any ho.sl (Nat.le_refl _) hD (by omega)).mono ?_
      rintro e w4 ⟨zs, hz, A4, n4, c4, rfl, ho4, b4⟩
      rw [hN.out] at hz
      go_wp2_with fail
      go_ret
      exact ⟨zs, hz, A4, n4, c4, rfl, ho4.lower (Nat.le_trans b1.size hb.size), b1.trans ((hb.trans (b4.mono hb.size)).mono b1.size)⟩
    · have hgo : i < n1 ∨ (n1 ≤ i ∧ 0 < q) := by omega
      have hilt : i ≤ n1 + 1 := by omega
      have ha := at_any (i := i) (s1.below hb (Nat.le_refl _))
      have hxr := get0_dg (by decide) dU i
      have hnx : ∀ d q' : Int, (0 ≤ d ∧ d < 65536) → d + 65536 * q' = us[i]?.getD 0 * m + q → Acc 65536 (m * val 65536 (us.take (i + 1))) (O ++ [d]) (i + 1) q' := by
        intro d q' hd e
        have := hacc.step hd e
        rw [val_take_next, Int.mul_add, show m * (65536 ^ i * us[i]?.getD 0) = 65536 ^ i * (us[i]?.getD 0 * m) by grind]
        exact this
      have hz : n1 ≤ i → us[i]?.getD 0 = 0 := fun h => by rw [List.getElem?_eq_none (by omega)]; rfl
      generalize us[i]?.getD 0 = x at *
      obtain ⟨m0, m1, m2, m3, m4⟩ := mul_half hxr hm hq
      have HA := Lib.hid ha
      have HN := Lib.hid (hnx _ _ m2 m4)
      have HO := Lib.hid ho
      have HR := Lib.hid (show (n1 ≤ i + 1 → (i : Int) + 1 + (x * m + q) / 65536 ≤ n1 + 4294967296) ∧ (i + 1 = n1 + 3 → (x * m + q) / 65536 = 0) ∧ (i + 1 = n1 + 2 → (x * m + q) / 65536 < 1) ∧ (i + 1 = n1 + 1 → (x * m + q) / 65536 < 65536) from by
        rcases Nat.lt_or_ge i n1 with h | h
        · exact ⟨fun _ => by omega, fun _ => by omega, fun _ => by omega, fun _ => by omega⟩
        · have hx0 := hz h
          subst hx0
          rw [Int.zero_mul, Int.zero_add]
          exact ⟨fun _ => by omega, fun _ => by omega, fun _ => by omega, fun _ => by omega⟩)
      clear ha hnx hz hacc hiq ho hi1 hi2 hi3 m2 m4
      rcases hgo with hgo | hgo
      all_goals
        go_wp2_with (first | (go_at_call 32; refine HA.out.mono ?_; rintro e w' ⟨rfl, rfl⟩) | (at_builtin; refine wpList_app elemI rfl _ _ rfl (HO.out.alloc _) rfl (Sl.new1 .i64 _ _ _) rfl (by omega) (by unfold maxLen; omega) (by have := hb.size; simp; omega) ?_; intro A5 c5 w5 h5 hg))
        have hb5 : Below w1.heap.size w1 w5 := (hb.alloc hb.size _).grown hg (by have := hb.size; simp; omega) (fun k hk => (HO.out.blk_ k hk).1)
        clear hg hb HO HA
        go_wp2
        go_roundw
        case rel => exact ⟨i + 1, c5, _, A5, _, by go_num, rfl, rfl, m3, by have := HR.out.1; omega, by omega, HR.out.2.1, HR.out.2.2.1, HR.out.2.2.2, h5, hb5, HN.out⟩
        case measure => simp [intOf] <;> omega

/-- How often a digit goes in, and what is left, in new memory; or an error. -/
theorem refDivSmall_zero {w : World} {A : Option Addr} {n c : Nat} :
    Calls Tryd.prog 25 #[.slice A n c, .int .u32 0] w fun e w' => e = .returned (.tuple #[.slice none 0 0, .int .u32 0, .int .i64 20]) ∧ w = w' := by
  go_enter Tryd.func25, Tryd.ntmps25
  go_wp2
  go_ret3
  exact ⟨rfl, rfl⟩

theorem half_small {r x d : Int} (hx : 0 ≤ x ∧ x < 65536) (hr : 0 ≤ r ∧ r < d) : 0 ≤ (r * 65536 + x) / d ∧ (r * 65536 + x) / d < 65536 := by
  refine ⟨Int.ediv_nonneg (by omega) (by omega), Int.ediv_lt_of_lt_mul (by omega) ?_⟩
  have : (r + 1) * 65536 ≤ d * 65536 := by omega
  omega

set_option maxHeartbeats 2000000 in
theorem refDivSmall_any {w : World} {B : Nat} {A : Option Addr} {n c : Nat} {xs : List Int} {d : Int} (hs : Sl .u32 w B A n c xs) (hB : B ≤ w.heap.size) (hx : Dg 4294967296 xs) (hd : 0 < d ∧ d < 4294967296) (hn : n ≤ 400000000) :
    Calls Tryd.prog 25 #[.slice A n c, .int .u32 d] w (DivR w (val 4294967296 xs) d) := by
  have hd0 : (d == 0) = false := beq_eq_false_iff_ne.2 (by omega)
  go_enter Tryd.func25, Tryd.ntmps25
  go_wp2_with fail
  refine (halves_any hs hB hx (by omega)).mono ?_
  rintro e w1 ⟨us, A1, n1, c1, hu, rfl, ho1, b1⟩
  have hl1 : n1 ≤ 2 * n := by have := half_len hs.len hx hu; have := ho1.len; omega
  have s1 := ho1.sl
  have hul := ho1.len
  have EU := Lib.hid hu.val
  have dU := hu.dg
  clear ho1 hu hs
  go_wp2_with (at_make; refine wpList_mk elemI rfl _ _ rfl (B := w1.heap.size) n1 rfl rfl (by omega) (by omega) (by omega) (by unfold maxLen; omega) (Nat.le_refl _) ?_; intro w2 h2 hg2)
  have hmk := Mk.made h2 hg2
  clear h2 hg2
  go_loopw [9, 10] (fun rv iv wr => ∃ (k : Nat) (r : Int) (Q : List Int), k ≤ n1 ∧ iv = .int .i64 ((k : Int) - 1) ∧ rv = .int .i64 r ∧ Mk .i64 3 w1 (some ⟨w1.heap.size, 0, none⟩) n1 n1 Q wr ∧ Quo 65536 d us Q k r) (fun _ iv _ => (intOf iv + 1).toNat)
  case atStart => exact ⟨n1, 0, _, Nat.le_refl _, rfl, rfl, hmk, .start hd.1 (Dg.zeros (by decide) _) (by omega) (by simp)⟩
  case round =>
    obtain ⟨k, r, Q, hk, rfl, rfl, hmr, hq⟩ := hrel
    have hr := hq.rest
    clear hmk
    by_cases h0 : k = 0
    · subst h0
      have hnum := hq.num
      have hD := hq.dg
      clear hq
      simp only [List.drop_zero, EU.out] at hnum
      have e1 : val 4294967296 xs / d = val 65536 Q := by
        rw [hnum, Int.add_comm, Int.add_mul_ediv_left _ _ (by omega), Int.ediv_eq_zero_of_lt hr.1 hr.2]; omega
      have e2 : val 4294967296 xs % d = r := by rw [hnum, Int.add_comm, Int.add_mul_emod_self_left, Int.emod_eq_of_lt hr.1 hr.2]
      have E1 := Lib.hid e1
      have E2 := Lib.hid e2
      clear e1 e2 hnum
      go_wp2_with fail
      refine (limbs_any hmr.1.sl (Nat.le_refl _) hD (by omega)).mono ?_
      rintro e w4 ⟨zs, hz, A4, n4, c4, rfl, ho4, b4⟩
      rw [← E1.out] at hz
      go_wp2_with fail
      go_ret3
      refine ⟨zs, A4, n4, c4, hz, ?_, ho4.lower (Nat.le_trans b1.size hmr.2.size), b1.trans ((hmr.2.trans (b4.mono hmr.2.size)).mono b1.size)⟩
      rw [E2.out]; rfl
    · obtain ⟨j, rfl⟩ : ∃ j, k = j + 1 := ⟨k - 1, by omega⟩
      obtain ⟨b2, off2, x, rfl, _, ex, hc2⟩ := (hmr.other s1 (Nat.le_refl _)).at_ (j := j) (by omega)
      obtain ⟨g, s, hg, _, _, hcell, hfr, hput⟩ := hmr.set (i := j) (by omega)
      obtain rfl : w1.heap.size = g := by simpa using hg
      have hxx := dU.get ex
      have hsm := half_small hxx hr
      have hstep := hq.step ex (by have := hmr.1.len; omega) hsm
      rw [Int.mul_comm r] at hsm hstep
      have hnext := Lib.hid (hput ((65536 * r + x) / d))
      have HS := Lib.hid hstep
      have hy1 : 1 ≤ d := by omega
      have hrm0 := Int.emod_nonneg (65536 * r + x) (show d ≠ 0 by omega)
      have hrm1 := Int.emod_lt_of_pos (65536 * r + x) (show 0 < d by omega)
      clear hput hmr hq s1 hstep
      go_wp2_with fail
      go_roundw
      case rel => exact ⟨j, _, _, by omega, by simp, rfl, hnext.out, HS.out⟩
      case measure => simp [intOf] <;> omega
end Go.Proofs.YtgdfjfmgcnbdaaaDoor
