/- tallageref01: Sub, Sum, Shift: what each call answers. -/
import Derived.Test.YtgdfjfmgcnbdaaaDoorRefC
namespace Go.Proofs.YtgdfjfmgcnbdaaaDoor
open Go Go.RowKit

set_option maxHeartbeats 400000 in
theorem refSub_less {w : World} {B : Nat} {A A2 : Option Addr} {n c m c2 : Nat} {xs ys : List Int} (hs : Sl .u32 w B A n c xs) (ht : Sl .u32 w B A2 m c2 ys) (hB : B ≤ w.heap.size) (hx : Dg 4294967296 xs) (hy : Dg 4294967296 ys) (hn : n ≤ 400000000) (hm : m ≤ 400000000) (hlt : val 4294967296 xs < val 4294967296 ys) :
    Calls Tryd.prog 10 #[.slice A n c, .slice A2 m c2] w fun e w' => e = .returned (.tuple #[.slice none 0 0, .int .i64 2]) ∧ Below w.heap.size w w' := by
  have HC := Lib.hid (refCmp_any hs ht hB hx hy (by omega) (by omega))
  have hv := cmpI_lt hlt
  go_enter Tryd.func10, Tryd.ntmps10
  go_wp2_with fail
  refine HC.out.mono ?_
  rintro e w' ⟨he, hb⟩
  rw [hv] at he
  subst he
  clear hv
  go_wp2_with fail
  go_ret2
  exact ⟨rfl, hb⟩

set_option maxHeartbeats 2000000 in
theorem refSub_any {w : World} {B : Nat} {A A2 : Option Addr} {n c m c2 : Nat} {xs ys : List Int} (hs : Sl .u32 w B A n c xs) (ht : Sl .u32 w B A2 m c2 ys) (hB : B ≤ w.heap.size) (hx : Dg 4294967296 xs) (hy : Dg 4294967296 ys) (hn : n ≤ 400000000) (hm : m ≤ 400000000) (hle : val 4294967296 ys ≤ val 4294967296 xs) :
    Calls Tryd.prog 10 #[.slice A n c, .slice A2 m c2] w (NewE w (val 4294967296 xs - val 4294967296 ys)) := by
  have HC := Lib.hid (refCmp_any hs ht hB hx hy (by omega) (by omega))
  go_enter Tryd.func10, Tryd.ntmps10
  go_wp2_with fail
  refine HC.out.mono ?_
  rintro e w0 ⟨he, b0⟩
  obtain ⟨v, hv0, rfl⟩ : ∃ v : Int, 0 ≤ v ∧ e = .returned (.int .i64 v) := by
    refine ⟨_, ?_, he⟩
    unfold cmpI
    rw [if_neg (by omega)]
    split <;> omega
  clear he
  go_wp2_with fail
  refine (halves_any ((hs.below b0 hB).more (Nat.le_trans hB b0.size)) (Nat.le_refl _) hx (by omega)).mono ?_
  rintro e w1 ⟨us, A1, n1, c1, hu, rfl, ho1, b1⟩
  have hl1 : n1 ≤ 2 * n := by have := half_len hs.len hx hu; have := ho1.len; omega
  have b01 := b0.trans (b1.mono b0.size)
  go_wp2_with fail
  refine (halves_any ((ht.below b01 hB).more (Nat.le_trans hB b01.size)) (Nat.le_refl _) hy (by omega)).mono ?_
  rintro e w2 ⟨vs, A2', n2, c2', hv, rfl, ho2, b2⟩
  have s1 := (ho1.below b2).sl
  have s2 := ho2.sl
  have hb0 := b01.trans (b2.mono b01.size)
  have hul := ho1.len
  have hvl := ho2.len
  have hlen : n2 ≤ n1 := by
    rcases Nat.lt_or_ge n1 n2 with h | h
    · have := val_lt_of_len (β := 65536) (by decide) hu.dg hv.dg hv.tr (by omega)
      rw [hu.val, hv.val] at this
      omega
    · exact h
  have EU := Lib.hid hu.val
  have EV := Lib.hid hv.val
  have dU := hu.dg
  have dV := hv.dg
  clear ho1 ho2 b0 b01 b1 b2 hu hv hs ht HC
  go_wp2_with fail
  go_loopw [8, 9, 10] (fun ov cv iv wr => ∃ (i c2 : Nat) (q : Int) (A3 : Option Addr) (O : List Int), iv = .int .i64 i ∧ cv = .int .i64 q ∧ ov = .slice A3 i c2 ∧ (0 ≤ q ∧ q ≤ 1) ∧ i ≤ n1 ∧ Own .i64 3 wr w2.heap.size A3 i c2 O ∧ Below w2.heap.size w2 wr ∧
      Acc 65536 (val 65536 (us.take i) - val 65536 (vs.take i)) O i (-q)) (fun _ _ iv _ => n1 - (intOf iv).toNat)
  case atStart => exact ⟨0, 0, 0, none, [], rfl, rfl, rfl, by omega, by omega, Own.nil, Below.refl _ _, .start⟩
  case round =>
    obtain ⟨i, c3, q, A3, O, rfl, rfl, rfl, hq, hi, ho, hb, hacc⟩ := hrel
    by_cases hlt : i < n1
    · obtain ⟨b, off, x, rfl, _, ex, hcell⟩ := (s1.below hb (Nat.le_refl _)).at_ hlt
      have hs2 := s2.below hb (Nat.le_refl _)
      have hxr := dU.get ex
      have hyr := get0_dg (by decide) dV i
      have hin : (i : Int) < (n1 : Int) := by omega
      have hnx : ∀ d q' : Int, (0 ≤ d ∧ d < 65536) → d + 65536 * (-q') = x - vs[i]?.getD 0 - q → Acc 65536 (val 65536 (us.take (i + 1)) - val 65536 (vs.take (i + 1))) (O ++ [d]) (i + 1) (-q') := by
        intro d q' hd e
        have := hacc.step (f := x - vs[i]?.getD 0) (c' := -q') hd (by omega)
        rw [val_take_next, val_take_next, ex]
        rw [Int.mul_sub] at this
        rw [show val 65536 (us.take i) + 65536 ^ i * (some x).getD 0 - (val 65536 (vs.take i) + 65536 ^ i * vs[i]?.getD 0) = val 65536 (us.take i) - val 65536 (vs.take i) + (65536 ^ i * x - 65536 ^ i * vs[i]?.getD 0) by simp only [Option.getD_some]; omega]
        exact this
      have HC2 : Hid (∀ k, Calls Tryd.prog 32 #[.slice A2' n2 c2', .int .i64 i] (wr.drewN k) fun e w' => e = .returned (.int .i64 (vs[i]?.getD 0)) ∧ wr.drewN k = w') := fun k => at_any (i := i) (hs2.drew k)
      generalize vs[i]?.getD 0 = y at *
      have HN := Lib.hid hnx
      have HO := Lib.hid ho
      clear hnx hacc ho hs2
      go_wp2_with fail
      go_quiet ((go_at_call 32; refine (HC2.out _).mono ?_; rintro e w9 ⟨rfl, rfl⟩; exact ⟨rfl, _, rfl⟩))
      generalize hwq : wr.drewN _ = wq
      have HO' : Own .i64 3 wq w2.heap.size A3 i c3 O := by rw [← hwq]; exact HO.out.drew _
      have hb' : Below w2.heap.size w2 wq := by rw [← hwq]; exact Below.drewN' hb _
      clear hwq HO hb hcell HC2
      rcases Int.lt_or_le (x - y - q) 0 with hneg | hneg
      · have HA5 := Lib.hid (HN.out (x - y - q + 65536) 1 (by omega) (by omega))
        clear HN
        go_wp2_with (at_builtin; refine wpList_app elemI rfl _ _ rfl (HO'.alloc _) rfl (Sl.new1 .i64 _ _ _) rfl (by omega) (by unfold maxLen; omega) (by have := hb'.size; simp; omega) ?_; intro A5 c5 w5 h5 hg)
        have hb5 : Below w2.heap.size w2 w5 := (hb'.alloc hb'.size _).grown hg (by have := hb'.size; simp; omega) (fun k hk => (HO'.blk_ k hk).1)
        clear hg hb' HO'
        go_wp2
        go_roundw
        case rel => exact ⟨i + 1, c5, 1, A5, _, by go_num, rfl, rfl, by omega, by omega, h5, hb5, HA5.out⟩
        case measure => simp [intOf] <;> omega
      · have HA5 := Lib.hid (HN.out (x - y - q) 0 (by omega) (by omega))
        clear HN
        go_wp2_with (at_builtin; refine wpList_app elemI rfl _ _ rfl (HO'.alloc _) rfl (Sl.new1 .i64 _ _ _) rfl (by omega) (by unfold maxLen; omega) (by have := hb'.size; simp; omega) ?_; intro A5 c5 w5 h5 hg)
        have hb5 : Below w2.heap.size w2 w5 := (hb'.alloc hb'.size _).grown hg (by have := hb'.size; simp; omega) (fun k hk => (HO'.blk_ k hk).1)
        clear hg hb' HO'
        go_wp2
        go_roundw
        case rel => exact ⟨i + 1, c5, 0, A5, _, by go_num, rfl, rfl, by omega, by omega, h5, hb5, HA5.out⟩
        case measure => simp [intOf] <;> omega
    · obtain rfl : n1 = i := by omega
      have hN : val 65536 O = val 4294967296 xs - val 4294967296 ys := by
        have h1 := hacc.num
        have h2 := val_lt (by decide) hacc.dg
        have h3 := val_nonneg (by decide) hacc.dg
        rw [hacc.len] at h2
        rw [List.take_of_length_le (l := us) (by omega), List.take_of_length_le (l := vs) (by omega), EU.out, EV.out] at h1
        have hq0 : q = 0 := by
          rcases Int.lt_or_le 0 q with h | h
          · obtain rfl : q = 1 := by omega
            omega
          · omega
        subst hq0
        omega
      have HN := Lib.hid hN
      have hD := hacc.dg
      clear hacc hN
      go_wp2_with fail
      refine (limbs_any ho.sl (Nat.le_refl _) hD (by omega)).mono ?_
      rintro e w4 ⟨zs, hz, A4, n4, c4, rfl, ho4, b4⟩
      rw [HN.out] at hz
      go_wp2_with fail
      go_ret2
      exact ⟨zs, A4, n4, c4, hz, rfl, ho4.lower (Nat.le_trans hb0.size hb.size), hb0.trans ((hb.trans (b4.mono hb.size)).mono hb0.size)⟩

theorem Sl.front' {k : IntKind} {w : World} {B : Nat} {A : Option Addr} {n c : Nat} {xs : List Int} (h : Sl k w B A n c xs) : n = xs.length := h.len.symm
theorem sum_small {xss : List (List Int)} {L i : Nat} (hL : ∀ xs ∈ xss, xs.length ≤ L) (hx : ∀ xs ∈ xss, Dg 4294967296 xs) (hi : i ≤ 1000) : 0 ≤ sumV (xss.take i) ∧ sumV (xss.take i) < 4294967296 ^ (L + 1) := by
  have key : ∀ i : Nat, 0 ≤ sumV (xss.take i) ∧ sumV (xss.take i) ≤ (i : Int) * 4294967296 ^ L := by
    intro i
    induction i with
    | zero => simp [sumV]
    | succ i ih =>
      rcases Nat.lt_or_ge i xss.length with hl | hl
      · have hx' := hx xss[i] (List.getElem_mem hl)
        have v0 := val_nonneg (by decide) hx'
        have v1 := Int.lt_of_lt_of_le (val_lt (by decide) hx') (pow_mono (by decide) (hL xss[i] (List.getElem_mem hl)))
        rw [List.take_add_one, List.getElem?_eq_getElem hl]
        have e : sumV (xss.take i ++ (some xss[i]).toList) = sumV (xss.take i) + val 4294967296 xss[i] := sumV_snoc _ _
        rw [e]
        have e2 : ((i + 1 : Nat) : Int) * 4294967296 ^ L = (i : Int) * 4294967296 ^ L + 4294967296 ^ L := by rw [Int.natCast_add, Int.add_mul]; simp
        omega
      · rw [List.take_of_length_le (by omega)]
        rw [List.take_of_length_le hl] at ih
        have e2 : ((i + 1 : Nat) : Int) * 4294967296 ^ L = (i : Int) * 4294967296 ^ L + 4294967296 ^ L := by rw [Int.natCast_add, Int.add_mul]; simp
        have p := pow_pos' (show (0 : Int) < 4294967296 by decide) L
        omega
  obtain ⟨h1, h2⟩ := key i
  refine ⟨h1, Int.lt_of_le_of_lt h2 ?_⟩
  have p := pow_pos' (show (0 : Int) < 4294967296 by decide) L
  have : (i : Int) * 4294967296 ^ L ≤ 1000 * 4294967296 ^ L := Int.mul_le_mul_of_nonneg_right (by omega) (by omega)
  rw [Int.pow_succ]
  omega

set_option maxHeartbeats 1000000 in
theorem refSum_any {w : World} {B : Nat} {A : Option Addr} {n c : Nat} {xss : List (List Int)} {L : Nat} (hs : SlS w B A n c xss) (hB : B ≤ w.heap.size) (hx : ∀ xs ∈ xss, Dg 4294967296 xs) (hL : ∀ xs ∈ xss, xs.length ≤ L) (hL2 : L ≤ 1000000) (hn : n ≤ 1000) :
    Calls Tryd.prog 16 #[.slice A n c] w (NewN w (sumV xss)) := by
  go_enter Tryd.func16, Tryd.ntmps16
  go_wp2_with fail
  go_loopw [3, 4] (fun ov iv wr => ∃ (i m c2 : Nat) (A3 : Option Addr) (O : List Int), iv = .int .i64 i ∧ ov = .slice A3 m c2 ∧ i ≤ n ∧ Own .u32 37 wr w.heap.size A3 m c2 O ∧ Below w.heap.size w wr ∧ Row 4294967296 (sumV (xss.take i)) O) (fun _ iv _ => n - (intOf iv).toNat)
  case atStart => exact ⟨0, 0, 0, none, [], rfl, rfl, by omega, Own.nil, Below.refl _ _, ⟨Dg.nil, Tr.nil, rfl⟩⟩
  case round =>
    obtain ⟨i, m, c3, A3, O, rfl, rfl, hi, ho, hb, hr⟩ := hrel
    by_cases hlt : i < n
    · obtain ⟨b, off, xs, A', n', c', rfl, _, ex, hcell, hsl⟩ := (hs.below hb hB).at_ hlt
      have hmem := List.mem_of_getElem? ex
      have hm : m ≤ 1000001 := by
        have := hr.len_le (by decide) (sum_small (i := i) hL hx (by omega)).2
        have := ho.len
        omega
      have hnx : sumV (xss.take (i + 1)) = sumV (xss.take i) + val 4294967296 xs := by
        rw [List.take_add_one, ex]; exact sumV_snoc _ _
      have hn' : n' ≤ 400000000 := by have := hL xs hmem; have := hsl.len; omega
      have HN := Lib.hid hnx
      clear hnx
      go_wp2_with fail
      refine (refAdd_any ho.sl (hsl.more (Nat.le_trans hB hb.size)) (Nat.le_refl _) hr.dg (hx xs hmem) (by omega) hn').mono ?_
      rintro e w4 ⟨zs, hz, A4, n4, c4, rfl, ho4, b4⟩
      rw [hr.val, ← HN.out] at hz
      have hb4 := hb.trans (b4.mono hb.size)
      have ho4' := ho4.lower hb.size
      clear ho ho4 b4 hb hr hsl HN
      go_wp2_with fail
      go_roundw
      case rel => exact ⟨i + 1, n4, c4, A4, zs, by go_num, rfl, by omega, ho4', hb4, hz⟩
      case measure => simp [intOf] <;> omega
    · obtain rfl : n = i := by omega
      have hz : Row 4294967296 (sumV xss) O := by rw [List.take_of_length_le (by rw [hs.1]; omega)] at hr; exact hr
      clear hr
      go_wp2_with fail
      go_ret
      exact ⟨O, hz, A3, m, c3, rfl, ho, hb⟩
end Go.Proofs.YtgdfjfmgcnbdaaaDoor
