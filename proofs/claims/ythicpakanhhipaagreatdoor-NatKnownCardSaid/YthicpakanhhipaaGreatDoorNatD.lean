/- nat: divide, DivMod: what each call answers, and leaves. -/
import Derived.Test.YthicpakanhhipaaGreatDoorNatC
import Derived.Laws.CopyOwn
namespace Go.Proofs.YthicpakanhhipaaGreatDoor
open Go Go.RowKit

/-- copy(s, t), s a row of the call's own, t as long at most. -/
theorem wpList_cp {P : Program} {t e : TypeId} {k : IntKind} {bytes : Nat} (T : ElemT P t e k bytes) {w w0 : World} {ops : Array Oper} {rest : List Oper} {o : Oper} {a : Act} {Q : Exit → Act → World → Prop} (hgd : o.guard = none) (d s : Operand)
    (ho : o.op = .call { callee := .builtin .copy, args := #[d, s], argTypes := #[t, t] }) {g n c m c2 B2 : Nat} {A2 : Option Addr} {S X : List Int} (h : Mk k e w0 (some ⟨g, 0, none⟩) n c S w) (hs : Sl k w B2 A2 m c2 X)
    (ed : a.eval d = .slice (some ⟨g, 0, none⟩) n c) (es : a.eval s = .slice A2 m c2) (hm : m ≤ n) (hnc : n = c)
    (hK : ∀ w', Mk k e w0 (some ⟨g, 0, none⟩) n c (X ++ S.drop m) w' → wpList P ops Q rest (a.put o.dst (goInt m)) w') : wpList P ops Q (o :: rest) a w := by
  obtain ⟨i, hi, hz, hsz, hby⟩ := T.info
  subst hnc
  have hS := h.1.len
  have hX := hs.len
  rcases h.1.2 with ⟨hv, _⟩ | ⟨g', cap, cur, hv, hb, hg, h1, h2, h3, h4⟩
  · cases hv
  · injection hv with hv h5 h6
    injection hv with hv
    injection hv with hv
    subst hv
    subst h6
    have hcur : cur.toList = S.map (Value.int k) := by
      rw [← h4, List.take_of_length_le (by simp; omega)]
    have hcl : cur = (S.map (Value.int k)).toArray := by rw [← hcur]
    refine wpList_copy_splice hgd d s t t ho e T.slice (by rw [hi]; simp [hsz]) (some ⟨g, 0, none⟩) A2 n n m c2 ed es g 0 (S.map (Value.int k)) e (by rw [hg, hcl]) (X.map (Value.int k)) (by rw [List.length_map, hX]; exact (Nat.min_eq_left hm).symm) ?_ (by simp; omega)
      (fun v hv => by obtain ⟨_, _, rfl⟩ := List.mem_map.1 hv; rfl) w0.heap.size w0 h.2 hb ?_
    · intro hpos
      simp at hpos
      refine ⟨rfl, ?_⟩
      obtain ⟨b, off, hA, _, hc⟩ := hs.2.2.2.2 (by omega)
      subst hA
      exact ⟨_, rfl, fun j v hv => hs.news j v hv⟩
    · intro w' hH hB
      have e1 : (X.map (Value.int k)).length = m := by simp [hX]
      have := hK w' ⟨⟨by simp [hX]; omega, .inr ⟨g, n, _, rfl, hb, hH.out, Nat.le_refl _, h2, ?_, ?_⟩⟩, hB⟩
      · rw [e1]; exact this
      · simp [splice, hX, hS]; omega
      · simp only [splice, List.take_zero, List.nil_append, Nat.zero_add]
        rw [List.take_of_length_le (by simp [hX, hS]; omega)]
        simp [hX, List.map_drop]

/-- A divisor whose first binary digit is brought to the front. -/
theorem norm_bits {N : Int} {m b : Nat} (hb : IsBits N b) (h0 : 4294967296 ^ (m - 1) ≤ N) (h1 : N < 4294967296 ^ m) (hm : 0 < m) : ∃ s : Nat, (32 * (m : Int)) - (b : Int) = s ∧ s ≤ 31 ∧ b + s = 32 * m := by
  have e : ∀ k : Nat, (4294967296 : Int) ^ k = 2 ^ (32 * k) := fun k => by rw [show (4294967296 : Int) = 2 ^ 32 from rfl, ← Int.pow_mul]
  rw [e] at h0 h1
  have p := pow_pos' (show (0 : Int) < 2 by decide) (32 * (m - 1))
  rcases hb with ⟨h, _⟩ | ⟨h2, h3, h4⟩
  · omega
  · have hle : b ≤ 32 * m := by
      rcases Nat.lt_or_ge (32 * m) b with h | h
      · have := pow_mono (show (0 : Int) < 2 by decide) (show 32 * m ≤ b - 1 by omega)
        omega
      · exact h
    have hge : 32 * (m - 1) < b := by
      rcases Nat.lt_or_ge (32 * (m - 1)) b with h | h
      · exact h
      · have := pow_mono (show (0 : Int) < 2 by decide) h
        omega
    exact ⟨32 * m - b, by omega, by omega, by omega⟩
theorem norm_row {N : Int} {m b s : Nat} {V : List Int} (hb : IsBits N b) (hN : 0 < N) (hm : 0 < m) (hs : b + s = 32 * m) (hV : Row 4294967296 (2 ^ s * N) V) : V.length = m ∧ ∃ f, V[m - 1]? = some f ∧ 2147483648 ≤ f := by
  rcases hb with ⟨h, _⟩ | ⟨h2, h3, h4⟩
  · omega
  · have p := pow_pos' (show (0 : Int) < 2 by decide) s
    have lo : (2 : Int) ^ (32 * m - 1) ≤ 2 ^ s * N := by
      rw [show 32 * m - 1 = s + (b - 1) by omega, Int.pow_add]
      exact Int.mul_le_mul_of_nonneg_left h3 (by omega)
    have up : 2 ^ s * N < (4294967296 : Int) ^ m := by
      rw [show (4294967296 : Int) = 2 ^ 32 from rfl, ← Int.pow_mul, ← hs, Nat.add_comm, Int.pow_add]
      exact Int.mul_lt_mul_of_pos_left h4 p
    have l1 := hV.len_le (by decide) up
    have hvv := hV.val
    have l2 : m ≤ V.length := by
      rcases Nat.lt_or_ge V.length m with h | h
      · have := val_lt (β := 4294967296) (by decide) hV.dg
        have q := pow_mono (show (0 : Int) < 4294967296 by decide) (show V.length ≤ m - 1 by omega)
        rw [show (4294967296 : Int) ^ (m - 1) = 2 ^ (32 * (m - 1)) by rw [show (4294967296 : Int) = 2 ^ 32 from rfl, ← Int.pow_mul]] at q
        have := pow_mono (show (0 : Int) < 2 by decide) (show 32 * (m - 1) ≤ 32 * m - 1 by omega)
        omega
      · exact h
    refine ⟨by omega, ?_⟩
    obtain ⟨f, hf⟩ := get_of_lt (xs := V) (i := m - 1) (by omega)
    refine ⟨f, hf, ?_⟩
    have hd := hV.dg.get hf
    have e1 := val_split 4294967296 V (k := m - 1) (by omega)
    rw [val_head _ hf, List.drop_of_length_le (by omega)] at e1
    have e2 := val_lt (β := 4294967296) (by decide) (hV.dg.take (m - 1))
    rw [List.length_take, Nat.min_eq_left (by omega)] at e2
    simp only [val, Int.mul_zero, Int.add_zero] at e1
    have e3 : (2 : Int) ^ (32 * m - 1) = 4294967296 ^ (m - 1) * 2147483648 := by
      rw [show (4294967296 : Int) = 2 ^ 32 from rfl, ← Int.pow_mul, show (2147483648 : Int) = 2 ^ 31 from rfl, ← Int.pow_add]; congr 1; omega
    have e4 : (4294967296 : Int) ^ (m - 1) * 2147483648 < 4294967296 ^ (m - 1) * (f + 1) := by rw [Int.mul_add]; omega
    have := Int.lt_of_mul_lt_mul_left e4 (by have := pow_pos' (show (0 : Int) < 4294967296 by decide) (m - 1); omega)
    omega
/-- The row to be divided, and its first part, which is less than the divisor. -/
theorem norm_start {a b : Int} {n m s : Nat} {As : List Int} (ha0 : 0 ≤ a) (ha : a < 4294967296 ^ n) (hs : s ≤ 31) (hm : 0 < m) (hmn : m ≤ n) (hb : 4294967296 ^ (m - 1) ≤ b) (hA : Row 4294967296 (2 ^ s * a) As) :
    As.length ≤ n + 1 ∧ Dg 4294967296 (As ++ (List.replicate (n + 1) 0).drop As.length) ∧ (As ++ (List.replicate (n + 1) 0).drop As.length).length = n + 1 ∧ val 4294967296 (As ++ (List.replicate (n + 1) 0).drop As.length) = 2 ^ s * a ∧
      val 4294967296 ((As ++ (List.replicate (n + 1) 0).drop As.length).drop (n + 1 - m)) < 2 ^ s * b := by
  have p := pow_pos' (show (0 : Int) < 2 by decide) s
  have p2 := pow_mono (show (0 : Int) < 2 by decide) hs
  have q := pow_pos' (show (0 : Int) < 4294967296 by decide) n
  have up : 2 ^ s * a < 2 ^ s * (4294967296 : Int) ^ n := Int.mul_lt_mul_of_pos_left ha p
  have l1 := hA.len_le (k := n + 1) (by decide) (by
    rw [Int.pow_succ, Int.mul_comm _ 4294967296]
    have : 2 ^ s * (4294967296 : Int) ^ n ≤ 4294967296 * 4294967296 ^ n := Int.mul_le_mul_of_nonneg_right (by omega) (by omega)
    omega)
  have hd : Dg 4294967296 (As ++ (List.replicate (n + 1) 0).drop As.length) := hA.dg.append ((Dg.zeros (by decide) _).drop _)
  have hl : (As ++ (List.replicate (n + 1) (0 : Int)).drop As.length).length = n + 1 := by simp; omega
  have hv : val 4294967296 (As ++ (List.replicate (n + 1) 0).drop As.length) = 2 ^ s * a := by
    rw [val_append, List.drop_replicate, val_zeros, hA.val]; omega
  refine ⟨l1, hd, hl, hv, ?_⟩
  have e1 := val_split 4294967296 (As ++ (List.replicate (n + 1) 0).drop As.length) (k := n + 1 - m) (by omega)
  rw [hv] at e1
  have e2 := val_nonneg (β := 4294967296) (by decide) (hd.take (n + 1 - m))
  generalize val 4294967296 ((As ++ (List.replicate (n + 1) 0).drop As.length).drop (n + 1 - m)) = R at *
  have e3 : (2 : Int) ^ s * 4294967296 ^ n = 4294967296 ^ (n + 1 - m) * (2 ^ s * 4294967296 ^ (m - 1)) := by
    rw [Int.mul_left_comm, ← Int.pow_add, show n + 1 - m + (m - 1) = n by omega]
  have e4 : (4294967296 : Int) ^ (n + 1 - m) * R < 4294967296 ^ (n + 1 - m) * (2 ^ s * 4294967296 ^ (m - 1)) := by omega
  have e5 := Int.lt_of_mul_lt_mul_left e4 (by have := pow_pos' (show (0 : Int) < 4294967296 by decide) (n + 1 - m); omega)
  have e6 : (2 : Int) ^ s * 4294967296 ^ (m - 1) ≤ 2 ^ s * b := Int.mul_le_mul_of_nonneg_left hb (by omega)
  omega
theorem tr_low {xs : List Int} (hd : Dg 4294967296 xs) (ht : Tr xs) (h : 0 < xs.length) : 4294967296 ^ (xs.length - 1) ≤ val 4294967296 xs := by
  obtain ⟨zs, z, rfl, hz, _⟩ := ht.last (by intro e; subst e; simp at h)
  have h1 := hd z (by simp)
  have h2 := val_nonneg (β := 4294967296) (by decide) hd.left
  rw [val_snoc]
  have : (4294967296 : Int) ^ zs.length * 1 ≤ 4294967296 ^ zs.length * z := Int.mul_le_mul_of_nonneg_left (by omega) (by have := pow_pos' (show (0 : Int) < 4294967296 by decide) zs.length; omega)
  simp
  omega

/-- A quotient and what is left, in new memory. -/
def DivN (w : World) (a b : Int) (e : Ending) (w' : World) : Prop :=
  ∃ qs rs A1 n1 c1 A2 n2 c2, e = .returned (.tuple #[.slice A1 n1 c1, .slice A2 n2 c2]) ∧ Row 4294967296 (a / b) qs ∧ Row 4294967296 (a % b) rs ∧ Own .u32 27 w' w.heap.size A1 n1 c1 qs ∧ Own .u32 27 w' w.heap.size A2 n2 c2 rs ∧ Below w.heap.size w w'

theorem blk_ne {a b : Nat} (h : a ≠ b) : blk (some ⟨a, 0, none⟩) ≠ some b := fun e => h (by simpa [blk] using e)
theorem Own.of_grown {k : IntKind} {e : TypeId} {w w' : World} {B g : Nat} {A : Option Addr} {n c : Nat} {xs : List Int} (h : Own k e w B A n c xs) (hg : w.grownBy w' (some g)) (hne : blk A ≠ some g) : Own k e w' B A n c xs := h.keep hg (.inr hne)

set_option maxHeartbeats 2000000 in
theorem divide_any {w : World} {B : Nat} {A A2 : Option Addr} {n c m c2 : Nat} {X Y : List Int} (hs : Sl .u32 w B A n c X) (ht : Sl .u32 w B A2 m c2 Y) (hB : B ≤ w.heap.size) (hT : HalfT w) (hT0 : 0 < w.heap.size)
    (hX : Dg 4294967296 X) (hY : Dg 4294967296 Y) (tY : Tr Y) (hm : 2 ≤ m) (hmn : m ≤ n) (hn : n ≤ 400000000) :
    Calls Tryz.prog 36 #[.slice A n c, .slice A2 m c2] w (DivN w (val 4294967296 X) (val 4294967296 Y)) := by
  have hXl := hs.len
  have hYl := ht.len
  have hlow := tr_low hY tY (by omega)
  have hup := val_lt (β := 4294967296) (by decide) hY
  rw [hYl] at hlow hup
  have hp := pow_pos' (show (0 : Int) < 4294967296 by decide) (m - 1)
  have hX0 := val_nonneg (β := 4294967296) (by decide) hX
  have hX1 := val_lt (β := 4294967296) (by decide) hX
  rw [hXl] at hX1
  have HL := Lib.hid hlow
  have HU := Lib.hid hup
  have HN := Lib.hid (show 0 < val 4294967296 Y by omega)
  have HX := Lib.hid (And.intro hX0 hX1)
  have HT := Lib.hid hT
  clear hlow hup hp hX0 hX1 hT
  go_enter Tryz.func36, Tryz.ntmps36
  go_wp2_with fail
  refine (Bits_any ht HT.out hY (by omega)).mono ?_
  rintro e w' ⟨⟨b, hb, rfl⟩, rfl⟩
  obtain ⟨s, hs1, hs2, hs3⟩ := norm_bits hb HL.out HU.out (by omega)
  have hbm : (b : Int) ≤ 32 * m := by omega
  have HB := Lib.hid hb
  clear hb
  have hw1 : IntKind.i64.wrap (32 * (m : Int)) = 32 * (m : Int) := by rw [IntKind.wrap_i64]; omega
  have hw2 : IntKind.i64.wrap (32 * (m : Int) - b) = s := by rw [IntKind.wrap_i64]; omega
  go_wp2_with fail
  refine (Shift_up ht hB hY (by omega) (by omega)).mono ?_
  rintro e w1 ⟨V, A3, m3, c3, hV, rfl, hoV, hbV⟩
  obtain ⟨hVl, f, hf, hf2⟩ := norm_row HB.out HN.out (by omega) hs3 hV
  have hlV := hoV.len
  obtain rfl : m = m3 := by omega
  have HV := Lib.hid hV.val
  have dV := hV.dg
  have hs1' := hs.below hbV hB
  clear HB hV hs ht
  go_wp2_with fail
  refine (Shift_up hs1' (Nat.le_trans hB hbV.size) hX (by omega) (by omega)).mono ?_
  rintro e w2 ⟨As, A4, n4, c4, hA, rfl, hoA, hbA⟩
  have hlA := hoA.len
  have HS := Lib.hid (norm_start HX.out.1 HX.out.2 hs2 (by omega) hmn HL.out hA)
  have hl4 := HS.out.1
  have hbw := hbV.trans (hbA.mono hbV.size)
  have sV := (hoV.below hbA).sl
  have sA := hoA.sl
  clear hoV hoA hbV hbA hA hs1'
  have hw3 : IntKind.i64.wrap ((n : Int) + 1 - m) = ((n + 1 - m : Nat) : Int) := by rw [IntKind.wrap_i64]; omega
  go_wp2_with (first
    | (at_make
       first
       | (refine wpList_mk elemU rfl _ _ rfl (B := w2.heap.size) (n + 1) rfl rfl (by omega) (by omega) (by omega) (by unfold maxLen; omega) (Nat.le_refl _) ?_
          intro w3 h3 hg3
          have hmk := Mk.made h3 hg3
          have sA3 := sA.below hmk.2 (Nat.le_refl _))
       | (refine wpList_mk elemU rfl _ _ rfl (B := w4.heap.size) (n + 1 - m) rfl rfl (by omega) (by omega) (by omega) (by unfold maxLen; omega) (Nat.le_refl _) ?_
          intro w5 h5 hg5))
    | (with_reducible refine wpList_cp elemU rfl _ _ rfl hmk sA3 rfl rfl (by omega) rfl ?_; intro w4 hm4))
  subst hlA
  have hu5 := hm4.below ((Below.refl _ _).grown hg5 (Nat.le_refl _) (fun _ h => by cases h))
  have hgu := (hm4.1.blk_ _ rfl).2
  have sV5 := sV.below hu5.2 (Nat.le_refl _)
  obtain ⟨-, dU, lU, vU, hst⟩ := HS.out
  generalize As ++ List.drop As.length (List.replicate (n + 1) 0) = U0 at *
  have hq : DivJ 4294967296 (val 4294967296 V) U0 U0 (List.replicate (n + 1 - m) 0) (n + 1 - m) := DivJ.start dU (Dg.zeros (by decide) _) (by omega) (by simp) (by rw [HV.out]; exact hst)
  have VU := Lib.hid vU
  have hV0 := Lib.hid (show 0 < val 4294967296 V by rw [HV.out]; exact Int.mul_pos (pow_pos' (by decide) s) HN.out)
  clear HS vU hst hmk sA3 hm4 hg3 h3 dU sA
  go_loopw [12] (fun jv wr => ∃ (k : Nat) (U Q : List Int), k ≤ n + 1 - m ∧ jv = .int .i64 ((k : Int) - 1) ∧ Own .u32 27 wr w2.heap.size (some ⟨w2.heap.size, 0, none⟩) (n + 1) (n + 1) U ∧ Own .u32 27 wr w4.heap.size (some ⟨w4.heap.size, 0, none⟩) (n + 1 - m) (n + 1 - m) Q ∧
      DivJ 4294967296 (val 4294967296 V) U0 U Q k ∧ Below w2.heap.size w2 wr) (fun jv _ => (intOf jv + 1).toNat)
  case atStart => exact ⟨n + 1 - m, U0, _, Nat.le_refl _, rfl, hu5.1, h5, hq, hu5.2⟩
  case round =>
    obtain ⟨k, U, Q, hk, rfl, hoU, hoQ, hJ, hbr⟩ := hrel
    clear hu5 h5 hq hg5
    by_cases h0 : k = 0
    · subst h0
      obtain ⟨vQ, vR⟩ := hJ.done (by decide)
      obtain ⟨e1, e2⟩ := scale_div (U := val 4294967296 X) (V := val 4294967296 Y) (s := 2 ^ s) HN.out (pow_pos' (by decide) s)
      rw [VU.out, HV.out, Int.mul_comm _ (val 4294967296 X), Int.mul_comm _ (val 4294967296 Y)] at vQ vR
      rw [e1] at vQ
      rw [e2] at vR
      have HQ := Lib.hid vQ
      have HR := Lib.hid (show val 4294967296 U / 2 ^ s = val 4294967296 X % val 4294967296 Y by
        rw [vR, Int.mul_ediv_cancel _ (by have := pow_pos' (show (0 : Int) < 2 by decide) s; omega)])
      have dU := hJ.dgU
      have dQ := hJ.dgQ
      clear vQ vR e1 e2 hJ VU
      have hw6 : IntKind.i64.wrap (-(s : Int)) = -(s : Int) := by rw [IntKind.wrap_i64]; omega
      go_wp2_with fail
      refine (Shift_down hoU.sl (Nat.le_refl _) dU (by omega) (by omega)).mono ?_
      rintro e w6 ⟨R, A6, n6, c6, hR, rfl, hoR, hb6⟩
      have sQ := (hoQ.below hb6).sl
      rw [HR.out] at hR
      have RR := Lib.hid hR
      clear hR HR
      go_wp2_with fail
      refine (Trim_any sQ (by omega)).mono ?_
      rintro e w7 ⟨A7, n7, c7, rfl, ho7, hb7⟩
      have hw2 := hbw.size
      have hwr := hbr.size
      have hw6s := hb6.size
      have hbA : Below w.heap.size w w7 := hbw.trans ((hbr.trans ((hb6.trans (hb7.mono hw6s)).mono hwr)).mono hw2)
      have HB7 := Lib.hid hbA
      have oR := (hoR.below hb7).lower (Nat.le_trans hw2 hwr)
      have o7 := ho7.lower (Nat.le_trans (Nat.le_trans hw2 hwr) hw6s)
      clear hbA hbr hb6 hb7 hbw
      go_wp2_with fail
      go_ret2
      exact ⟨_, R, A7, n7, c7, A6, n6, c6, rfl, ⟨tl_Dg dQ, tl_idem _, by rw [tl_val, HQ.out]⟩, RR.out, o7, oR, HB7.out⟩
    · obtain ⟨j, rfl⟩ : ∃ j, k = j + 1 := ⟨k - 1, by omega⟩
      have lUU := hoU.len
      have lQQ := hoQ.len
      have hfit := hJ.fits (by decide) (show j < U.length by omega)
      have hne : ¬ (n + 1 = j) := by omega
      have HJ := Lib.hid hJ
      have dU := hJ.dgU
      have HBr := Lib.hid hbr
      have sVr := sV.below hbr (Nat.le_refl _)
      have hTD := Lib.hid (takeDigit_any (o := j) (n := j + m + 1 - j) (c := n + 1 - j) hoU sVr hbr.size dU dV hm (by omega) (by omega) (by omega) (by omega) hf hf2 hfit)
      clear hJ hbr hfit
      go_wp2_with fail
      refine hTD.out.mono ?_
      rintro e w6 ⟨d, S2, rfl, ho6, hdig, hg6⟩
      have hoQ6 := hoQ.of_grown hg6 (blk_ne (by omega))
      obtain ⟨z, hz, hcell, hfr, hput⟩ := hoQ6.at_row (i := j) (by omega)
      have hnext := Lib.hid (hput d)
      have hstep := Lib.hid (HJ.out.step (by decide) (by omega) (by omega) hV0.out hdig)
      have ho7 := Lib.hid (ho6.of_grown (hput d).2 (blk_ne (by omega)))
      have hb7 := Lib.hid (HBr.out.trans (((Below.refl _ _).grown hg6 HBr.out.size (fun k hk => by injection hk with hk; omega)).trans ((Below.refl _ _).grown (hput d).2 (Nat.le_trans HBr.out.size hg6.size) (fun k hk => by injection hk with hk; omega))))
      clear hput hdig hg6 hoQ6 ho6 hoU hoQ HJ HBr hTD
      go_wp2_with fail
      go_roundw
      case rel => exact ⟨j, S2, _, by omega, by simp, ho7.out, hnext.out.1, hstep.out, hb7.out⟩
      case measure => simp [intOf] <;> omega

/-- What DivMod answers. -/
def DivE (w : World) (a b : Int) (e : Ending) (w' : World) : Prop :=
  (b = 0 ∧ e = .returned (.tuple #[.slice none 0 0, .slice none 0 0, .int .i64 20]) ∧ Below w.heap.size w w') ∨
  (0 < b ∧ ∃ qs rs A1 n1 c1 A2 n2 c2, e = .returned (.tuple #[.slice A1 n1 c1, .slice A2 n2 c2, .int .i64 0]) ∧ Row 4294967296 (a / b) qs ∧ Row 4294967296 (a % b) rs ∧ Own .u32 27 w' w.heap.size A1 n1 c1 qs ∧ Own .u32 27 w' w.heap.size A2 n2 c2 rs ∧ Below w.heap.size w w')

set_option maxHeartbeats 2000000 in
theorem DivMod_any {w : World} {B : Nat} {A A2 : Option Addr} {n c m c2 : Nat} {xs ys : List Int} (hs : Sl .u32 w B A n c xs) (ht : Sl .u32 w B A2 m c2 ys) (hB : B ≤ w.heap.size) (hT : HalfT w) (hT0 : 0 < w.heap.size)
    (hx : Dg 4294967296 xs) (hy : Dg 4294967296 ys) (hn : n ≤ 400000000) (hm : m ≤ 400000000) :
    Calls Tryz.prog 17 #[.slice A n c, .slice A2 m c2] w (DivE w (val 4294967296 xs) (val 4294967296 ys)) := by
  have hxl := tl_len xs
  have hyl := tl_len ys
  have hl1 := hs.len
  have hl2 := ht.len
  have hx' := tl_Dg hx
  have hy' := tl_Dg hy
  have XV := Lib.hid (tl_val 4294967296 xs)
  have YV := Lib.hid (tl_val 4294967296 ys)
  have XT := tl_idem xs
  have YT := tl_idem ys
  have HT := Lib.hid hT
  clear hT
  go_enter Tryz.func17, Tryz.ntmps17
  go_wp2_with fail
  refine (Trim_any hs (by omega)).mono ?_
  rintro e w1 ⟨A1, n1, c1, rfl, ho1, hb1⟩
  have ht1 := ht.below hb1 hB
  go_wp2_with fail
  refine (Trim_any ht1 (by omega)).mono ?_
  rintro e w2 ⟨A3, n3, c3, rfl, ho2, hb2⟩
  have hbw := hb1.trans (hb2.mono hb1.size)
  have ho1' := ho1.below hb2
  have s1 := ho1'.sl
  have s2 := ho2.sl
  have o2 := ho2.lower hb1.size
  have e1 := s1.len
  have e2 := s2.len
  have HT2 := Lib.hid (HT.out.below hbw hT0)
  have hz2 := Nat.lt_of_lt_of_le hT0 hbw.size
  generalize tl xs = X at *
  generalize tl ys = Y at *
  have hw2s := hbw.size
  have x0 := val_nonneg (β := 4294967296) (by decide) hx'
  have X0 := Lib.hid x0
  have y0 := val_nonneg (β := 4294967296) (by decide) hy'
  clear hs ht ht1 ho1 ho2 hb1 hb2 HT hT0 x0
  by_cases h0 : n3 = 0
  · subst h0
    have hz : val 4294967296 ys = 0 := by rw [← YV.out, List.eq_nil_of_length_eq_zero e2]; rfl
    have HZ := Lib.hid hz
    have HB := Lib.hid hbw
    clear hz YV hbw y0 HT2 s1 s2 o2 ho1'
    go_wp2_with fail
    all_goals go_ret3
    all_goals exact .inl ⟨HZ.out, rfl, HB.out⟩
  · have hpos : 0 < val 4294967296 Y := by
      rcases Int.lt_or_le 0 (val 4294967296 Y) with h | h
      · exact h
      · have := Tr.zero (β := 4294967296) (by decide) hy' YT (by omega); subst this; simp at e2; omega
    have HP := Lib.hid hpos
    have hlen : ((n3 : Int) == 0) = false := beq_eq_false_iff_ne.2 (by omega)
    clear hpos y0
    by_cases hlt : val 4294967296 X < val 4294967296 Y
    · have hq : val 4294967296 xs / val 4294967296 ys = 0 := by rw [← XV.out, ← YV.out]; exact Int.ediv_eq_zero_of_lt X0.out hlt
      have hr : val 4294967296 xs % val 4294967296 ys = val 4294967296 X := by rw [← XV.out, ← YV.out]; exact Int.emod_eq_of_lt X0.out hlt
      have HQ := Lib.hid hq
      have HR := Lib.hid hr
      have HPs := Lib.hid (show 0 < val 4294967296 ys by rw [← YV.out]; exact HP.out)
      have hc := cmpI_lt hlt
      have HC := Lib.hid (Cmp_any s1 s2 hx' hy')
      have HB := Lib.hid hbw
      clear hq hr XV YV hlt hbw HT2 s1 s2
      go_wp2_with fail
      refine HC.out.mono ?_
      rintro e w3 ⟨hr3, q, rfl⟩
      obtain rfl : e = .returned (.int .i64 (-1)) := by unfold CmpR at hr3; rw [hr3, hc]
      clear hr3 hc
      go_wp2_with fail
      go_ret3
      exact .inr ⟨HPs.out, [], X, none, 0, 0, A1, n1, c1, rfl, by rw [HQ.out]; exact ⟨Dg.nil, Tr.nil, rfl⟩, by rw [HR.out]; exact ⟨hx', XT, rfl⟩, Own.nil, ho1'.drew q, Below.drewN' HB.out q⟩
    · have HC := Lib.hid (Cmp_ge s1 s2 hx' hy' (by omega))
      have HPs := Lib.hid (show 0 < val 4294967296 ys by rw [← YV.out]; exact HP.out)
      by_cases h1 : n3 = 1
      · subst h1
        obtain ⟨b, off, y, rfl, _, ey, hcell⟩ := s2.at_ (j := 0) (by omega)
        rw [Nat.add_zero] at hcell
        have hyy := hy'.get ey
        have hvY : val 4294967296 Y = y := by
          match Y, e2, ey with
          | [z], _, ey => simp at ey; subst ey; simp [val]
        have hy0 : 0 < y := by rw [← hvY]; exact HP.out
        have HQ := Lib.hid (show val 4294967296 X / y = val 4294967296 xs / val 4294967296 ys by rw [← XV.out, ← YV.out, hvY])
        have HR := Lib.hid (show val 4294967296 X % y = val 4294967296 xs % val 4294967296 ys by rw [← XV.out, ← YV.out, hvY])
        have HB := Lib.hid hbw
        clear XV YV hlt HP hvY hbw
        go_wp2_with fail
        refine HC.out.mono ?_
        rintro e w3 ⟨⟨v, hv0, rfl⟩, hb3⟩
        have hc3 : w3.cell? ⟨b, off, none⟩ = some (.int .u32 y) := by
          have := s2.below hb3 (Nat.le_refl _)
          obtain ⟨b', off', y', hA, _, ey', hc'⟩ := this.at_ (j := 0) (by omega)
          injection hA with hA
          injection hA with q1 q2
          subst q1; subst q2
          rw [ey] at ey'
          injection ey' with ey'
          subst ey'
          rw [Nat.add_zero] at hc'
          exact hc'
        have s13 := s1.below hb3 (Nat.le_refl _)
        have hw3s := hb3.size
        have HB3 := Lib.hid (HB.out.trans (hb3.mono hw2s))
        clear HC hcell hb3 HB s1 s2 HT2
        go_wp2_with fail
        refine (DivSmall_any s13 hw3s hx' ⟨hy0, hyy.2⟩ (by omega)).mono ?_
        rintro e w4 ⟨qs, A4, n4, c4, hq, rfl, ho4, hb4⟩
        have HQ4 := Lib.hid hq
        have hr0 := Int.emod_nonneg (val 4294967296 X) (show y ≠ 0 by omega)
        have hr1 := Int.emod_lt_of_pos (val 4294967296 X) hy0
        have hw4s := hb4.size
        have HB4 := Lib.hid (HB3.out.trans (hb4.mono (Nat.le_trans hw2s hw3s)))
        clear hq hb4
        generalize val 4294967296 X % y = r at *
        go_wp2_with fail
        refine (Trim_any (lit1 w4 w4.heap.size rfl r 27) (by omega)).mono ?_
        rintro e w5 ⟨A5, n5, c5, rfl, ho5, hb5⟩
        have hb5' := below_a1 hb5
        have HB5 := Lib.hid (HB4.out.trans (hb5'.mono (Nat.le_trans (Nat.le_trans hw2s hw3s) hw4s)))
        have o4 := Lib.hid ((ho4.below hb5').lower (Nat.le_trans hw2s hw3s))
        have o5 := Lib.hid (ho5.lower (B' := w.heap.size) (by rw [size_one]; omega))
        clear hb5 hb5' ho4 ho5 HB4
        go_wp2_with fail
        go_ret3
        exact .inr ⟨HPs.out, qs, _, A4, n4, c4, A5, n5, c5, rfl, by rw [← HQ.out]; exact HQ4.out, ⟨tl_Dg (dg1 (by omega)), tl_idem _, by rw [tl_val, ← HR.out]; simp [val]⟩, o4.out, o5.out, HB5.out⟩
      · have hlen1 : ((n3 : Int) == 1) = false := beq_eq_false_iff_ne.2 (by omega)
        have hmn : n3 ≤ n1 := by
          rcases Nat.lt_or_ge n1 n3 with h | h
          · have := val_lt_of_len (β := 4294967296) (by decide) hx' hy' YT (by omega)
            omega
          · exact h
        have HB := Lib.hid hbw
        have HX := Lib.hid (And.intro XV.out YV.out)
        clear XV YV hlt HP hbw
        go_wp2_with fail
        refine HC.out.mono ?_
        rintro e w3 ⟨⟨v, hv0, rfl⟩, hb3⟩
        have s13 := s1.below hb3 (Nat.le_refl _)
        have s23 := s2.below hb3 (Nat.le_refl _)
        have hw3s := hb3.size
        have HB3 := Lib.hid (HB.out.trans (hb3.mono hw2s))
        have HT3 := Lib.hid (HT2.out.below hb3 hz2)
        have hz3 := Nat.lt_of_lt_of_le hz2 hw3s
        clear HC hb3 HB s1 s2 HT2 ho1' o2
        go_wp2_with fail
        refine (divide_any s13 s23 hw3s HT3.out hz3 hx' hy' YT (by omega) hmn (by omega)).mono ?_
        rintro e w4 ⟨qs, rs, A4, n4, c4, A5, n5, c5, rfl, hq, hr, ho4, ho5, hb4⟩
        rw [HX.out.1, HX.out.2] at hq hr
        have HQ := Lib.hid hq
        have HR := Lib.hid hr
        have HB4 := Lib.hid (HB3.out.trans (hb4.mono (Nat.le_trans hw2s hw3s)))
        have o4 := Lib.hid (ho4.lower (Nat.le_trans hw2s hw3s))
        have o5 := Lib.hid (ho5.lower (Nat.le_trans hw2s hw3s))
        clear hq hr hb4 ho4 ho5 HB3
        go_wp2_with fail
        go_ret3
        exact .inr ⟨HPs.out, qs, rs, A4, n4, c4, A5, n5, c5, rfl, HQ.out, HR.out, o4.out, o5.out, HB4.out⟩
end Go.Proofs.YthicpakanhhipaaGreatDoor
