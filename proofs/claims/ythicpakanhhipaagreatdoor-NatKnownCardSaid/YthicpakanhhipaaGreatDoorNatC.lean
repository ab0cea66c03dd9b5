/- nat: takeTimes, putBack, guess, takeDigit: what each call answers, and leaves. -/
import Derived.Test.YthicpakanhhipaaGreatDoorNatB
import Derived.WalkMore
namespace Go.Proofs.YthicpakanhhipaaGreatDoor
open Go Go.RowKit

theorem take_digit {d y s c b : Int} (hd : 0 ≤ d ∧ d < 4294967296) (hy : 0 ≤ y ∧ y < 4294967296) (hs : 0 ≤ s ∧ s < 4294967296) (hc : 0 ≤ c ∧ c < 4294967296) (hb : 0 ≤ b ∧ b ≤ 1) :
    (0 ≤ y * d ∧ y * d ≤ 18446744065119617025) ∧ (0 ≤ c + y * d ∧ c + y * d ≤ 18446744073709551615) ∧ (0 ≤ (c + y * d) % 4294967296 ∧ (c + y * d) % 4294967296 < 4294967296) ∧ (0 ≤ (c + y * d) / 4294967296 ∧ (c + y * d) / 4294967296 < 4294967296) ∧
    (0 ≤ (s - (c + y * d) % 4294967296 - b) % 4294967296 ∧ (s - (c + y * d) % 4294967296 - b) % 4294967296 < 4294967296) ∧
    (s - (c + y * d) % 4294967296 - b) % 4294967296 + -1 * (4294967296 * ((c + y * d) / 4294967296 + bor s ((c + y * d) % 4294967296) b)) = s + -1 * (d * y + (c + b)) := by
  have h0 : 0 ≤ y * d := Int.mul_nonneg hy.1 hd.1
  have h1 : y * d ≤ 4294967295 * 4294967295 := Int.mul_le_mul (by omega) (by omega) hd.1 (by omega)
  have h2 := bor_eq (x := s) (y := (c + y * d) % 4294967296) (c := b) hs (by omega) hb
  have h3 : d * y = y * d := Int.mul_comm _ _
  omega
theorem last_digit {s c b : Int} (hs : 0 ≤ s ∧ s < 4294967296) (hc : 0 ≤ c ∧ c < 4294967296) (hb : 0 ≤ b ∧ b ≤ 1) :
    (0 ≤ (s - c - b) % 4294967296 ∧ (s - c - b) % 4294967296 < 4294967296) ∧ (s - c - b) % 4294967296 + -1 * (4294967296 * bor s c b) = s + -1 * (c + b) := by
  have h2 := bor_eq hs hc hb
  omega

/-- A row of which places o to o + m have been written. -/
def TookR (σ d : Int) (w : World) (B g N C o m : Nat) (S X : List Int) (b : Int) (S2 : List Int) (w' : World) : Prop :=
  Own .u32 27 w' B (some ⟨g, 0, none⟩) N C S2 ∧ Took 4294967296 σ d (val 4294967296 X) S S2 o m b ∧ w.grownBy w' (some g)

set_option maxHeartbeats 1000000 in
theorem takeTimes_any {w : World} {B g N C o n c m c2 : Nat} {A2 : Option Addr} {S X : List Int} {d : Int} (ho : Own .u32 27 w B (some ⟨g, 0, none⟩) N C S) (ht : Sl .u32 w B A2 m c2 X) (hB : B ≤ w.heap.size)
    (hS : Dg 4294967296 S) (hX : Dg 4294967296 X) (hd : 0 ≤ d ∧ d < 4294967296) (hmn : m + 1 ≤ n) (hnc : n ≤ c) (hfit : o + m + 1 ≤ N) :
    Calls Tryz.prog 79 #[.slice (some ⟨g, o, none⟩) n c, .slice A2 m c2, .int .u32 d] w fun e w' => ∃ b S2, e = .returned (.bool (b != 0)) ∧ TookR (-1) d w B g N C o m S X b S2 w' := by
  have htl := ht.len
  have hm := ht.lenMax
  have hgB := ho.blk_ g rfl
  go_enter Tryz.func79, Tryz.ntmps79
  go_wp2_with fail
  go_loopw [7, 8, 13] (fun cv bv iv wr => ∃ (i : Nat) (cr bo : Int), i ≤ m ∧ iv = .int .i64 i ∧ cv = .int .u64 cr ∧ bv = .int .u32 bo ∧ (0 ≤ cr ∧ cr < 4294967296) ∧ (0 ≤ bo ∧ bo ≤ 1) ∧ MacR (-1) d w B g N C o i S X (cr + bo) wr) (fun _ _ iv _ => m - (intOf iv).toNat)
  case atStart => exact ⟨0, 0, 0, Nat.zero_le _, rfl, rfl, rfl, by omega, by omega, S, ho, .start hS, World.grownBy.refl _ _⟩
  case round =>
    obtain ⟨i, cr, bo, hi, rfl, rfl, rfl, hcr, hbo, S1, h1, h2, h3⟩ := hrel
    have hS1 := h2.len
    have hSl := ho.len
    by_cases hlt : i < m
    · obtain ⟨s, hs, hcell, hfr, hput⟩ := h1.at_row (i := o + i) (by omega)
      obtain ⟨b2, off2, y, rfl, hb2, ey, hc2⟩ := (ht.grown h3 hB (fun k hk => by injection hk with hk; omega)).at_ hlt
      have hyy := hX.get ey
      have hss := h2.dg.get hs
      obtain ⟨d1, d2, d3, d4, d5, d6⟩ := take_digit hd hyy hss hcr hbo
      have hw1 : IntKind.u64.wrap (y * d) = y * d := by rw [IntKind.wrap_u64]; omega
      have hbb := bor_01 s ((cr + y * d) % 4294967296) bo
      have hnext := Lib.hid (hput ((s - (cr + y * d) % 4294967296 - bo) % 4294967296))
      have hstep := Lib.hid (h2.step hs ey d5 d6)
      have hg := Lib.hid h3
      have hsub := Lib.hid (sub32_any s ((cr + y * d) % 4294967296) bo wr hss d3 hbo)
      have hin : i < n := by omega
      clear hput h1 h2 h3 ho ht d6
      go_wp2_with (go_at_call 92; refine hsub.out.mono ?_; rintro e w' ⟨rfl, rfl⟩)
      go_roundw
      case rel => exact ⟨i + 1, _, _, by omega, by go_num, rfl, rfl, d4, hbb, _, hnext.out.1, hstep.out, grown_trans hg.out hnext.out.2⟩
      case measure => simp [intOf] <;> omega
    · obtain rfl : m = i := by omega
      obtain ⟨s, hs, hcell, hfr, hput⟩ := h1.at_row (i := o + m) (by omega)
      have hss := h2.dg.get hs
      obtain ⟨d1, d2⟩ := last_digit hss hcr hbo
      have hbb := bor_01 s cr bo
      have hnext := Lib.hid (hput ((s - cr - bo) % 4294967296))
      have htk := Lib.hid (h2.took (by decide) htl hs d1 hbb d2)
      have hg := Lib.hid h3
      have hsub := Lib.hid (sub32_any s cr bo wr hss hcr hbo)
      have hw1 : cr % 4294967296 = cr := by omega
      have hin : m < n := by omega
      clear hput h1 h2 h3 ho ht d2
      go_wp2_with (go_at_call 92; refine hsub.out.mono ?_; rintro e w' ⟨rfl, rfl⟩)
      go_ret
      exact ⟨_, _, rfl, hnext.out.1, htk.out, grown_trans hg.out hnext.out.2⟩

theorem back_digit {y s c : Int} (hy : 0 ≤ y ∧ y < 4294967296) (hs : 0 ≤ s ∧ s < 4294967296) (hc : 0 ≤ c ∧ c ≤ 1) :
    (0 ≤ (s + y + c) % 4294967296 ∧ (s + y + c) % 4294967296 < 4294967296) ∧ (0 ≤ (s + y + c) / 4294967296 ∧ (s + y + c) / 4294967296 ≤ 1) ∧ (s + y + c) % 4294967296 + 1 * (4294967296 * ((s + y + c) / 4294967296)) = s + 1 * (1 * y + c) := by
  omega

set_option maxHeartbeats 1000000 in
theorem putBack_any {w : World} {B g N C o n c m c2 : Nat} {A2 : Option Addr} {S X : List Int} (ho : Own .u32 27 w B (some ⟨g, 0, none⟩) N C S) (ht : Sl .u32 w B A2 m c2 X) (hB : B ≤ w.heap.size)
    (hS : Dg 4294967296 S) (hX : Dg 4294967296 X) (hmn : m + 1 ≤ n) (hnc : n ≤ c) (hfit : o + m + 1 ≤ N) :
    Calls Tryz.prog 80 #[.slice (some ⟨g, o, none⟩) n c, .slice A2 m c2] w fun e w' => e = .returned (.tuple #[]) ∧ ∃ b S2, TookR 1 1 w B g N C o m S X b S2 w' := by
  have htl := ht.len
  have hm := ht.lenMax
  have hgB := ho.blk_ g rfl
  go_enter Tryz.func80, Tryz.ntmps80
  go_wp2_with fail
  go_loopw [4, 9] (fun cv iv wr => ∃ (i : Nat) (cr : Int), i ≤ m ∧ iv = .int .i64 i ∧ cv = .int .u32 cr ∧ (0 ≤ cr ∧ cr ≤ 1) ∧ MacR 1 1 w B g N C o i S X cr wr) (fun _ iv _ => m - (intOf iv).toNat)
  case atStart => exact ⟨0, 0, Nat.zero_le _, rfl, rfl, by omega, S, ho, .start hS, World.grownBy.refl _ _⟩
  case round =>
    obtain ⟨i, cr, hi, rfl, rfl, hcr, S1, h1, h2, h3⟩ := hrel
    have hS1 := h2.len
    have hSl := ho.len
    by_cases hlt : i < m
    · obtain ⟨s, hs, hcell, hfr, hput⟩ := h1.at_row (i := o + i) (by omega)
      obtain ⟨b2, off2, y, rfl, hb2, ey, hc2⟩ := (ht.grown h3 hB (fun k hk => by injection hk with hk; omega)).at_ hlt
      have hyy := hX.get ey
      have hss := h2.dg.get hs
      obtain ⟨d1, d2, d3⟩ := back_digit hyy hss hcr
      have hnext := Lib.hid (hput ((s + y + cr) % 4294967296))
      have hstep := Lib.hid (h2.step hs ey d1 d3)
      have hg := Lib.hid h3
      have hadd := Lib.hid (add32_any s y cr wr hss hyy hcr)
      have hin : i < n := by omega
      clear hput h1 h2 h3 ho ht d3
      go_wp2_with (go_at_call 65; refine hadd.out.mono ?_; rintro e w' ⟨rfl, rfl⟩)
      go_roundw
      case rel => exact ⟨i + 1, _, by omega, by go_num, rfl, d2, _, hnext.out.1, hstep.out, grown_trans hg.out hnext.out.2⟩
      case measure => simp [intOf] <;> omega
    · obtain rfl : m = i := by omega
      obtain ⟨s, hs, hcell, hfr, hput⟩ := h1.at_row (i := o + m) (by omega)
      have hss := h2.dg.get hs
      have hnext := Lib.hid (hput ((s + cr) % 4294967296))
      have htk := Lib.hid (h2.took (β := 4294967296) (by decide) htl hs (d := (s + cr) % 4294967296) (b := (s + cr) / 4294967296) (by omega) (by omega) (by omega))
      have hg := Lib.hid h3
      have hin : m < n := by omega
      clear hput h1 h2 h3 ho ht
      go_wp2_with fail
      go_end0
      exact ⟨rfl, _, _, hnext.out.1, htk.out, grown_trans hg.out hnext.out.2⟩

set_option maxHeartbeats 2000000 in
theorem guess_any {w : World} {B g N C o n c p c2 : Nat} {A2 : Option Addr} {S X : List Int} {f s u0 u1 u2 q : Int} (ho : Own .u32 27 w B (some ⟨g, 0, none⟩) N C S) (ht : Sl .u32 w B A2 (p + 2) c2 X)
    (hmn : p + 3 ≤ n) (hnc : n ≤ c) (hn : n ≤ 1000000000) (hfit : o + p + 3 ≤ N) (ef : X[p + 1]? = some f) (es : X[p]? = some s) (e0 : S[o + (p + 2)]? = some u0) (e1 : S[o + (p + 1)]? = some u1) (e2 : S[o + p]? = some u2)
    (d0 : 0 ≤ u0 ∧ u0 < 4294967296) (d1 : 0 ≤ u1 ∧ u1 < 4294967296) (hE : GuessE f s (u0 * 4294967296 + u1) u2 q) :
    Calls Tryz.prog 78 #[.slice (some ⟨g, o, none⟩) n c, .slice A2 (p + 2) c2] w fun e w' => ∃ d : Int, e = .returned (.int .u32 d) ∧ (0 ≤ d ∧ d ≤ 4294967295) ∧ (d = q ∨ d = q + 1) ∧ ∃ k, w' = w.drewN k := by
  obtain ⟨b, off, x, rfl, _, ex, hc1⟩ := ht.at_ (j := p + 1) (by omega)
  obtain rfl : x = f := by rw [ex] at ef; injection ef
  obtain ⟨b', off', y, hA, _, ey, hc2⟩ := ht.at_ (j := p) (by omega)
  injection hA with hA
  injection hA with q1 q2
  subst q1; subst q2
  obtain rfl : y = s := by rw [ey] at es; injection es
  obtain ⟨z0, hz0, g0, -, -⟩ := ho.at_row (i := o + (p + 2)) (by omega)
  obtain rfl : z0 = u0 := by rw [hz0] at e0; injection e0
  obtain ⟨z1, hz1, g1, -, -⟩ := ho.at_row (i := o + (p + 1)) (by omega)
  obtain rfl : z1 = u1 := by rw [hz1] at e1; injection e1
  obtain ⟨z2, hz2, g2, -, -⟩ := ho.at_row (i := o + p) (by omega)
  obtain rfl : z2 = u2 := by rw [hz2] at e2; injection e2
  have hf := hE.hf
  have hs := hE.hs
  have hu := hE.hu
  have hh := hE.hh
  have hI := hE.start
  have hbd := hE.bound hI
  have hj := join64 (x := z0) (y := z1) d0 d1
  have hp1 : p + 1 < n := by omega
  have hp0 : p < n := by omega
  have hfb : (x != 0) = true := by rw [bne_iff_ne]; omega
  clear ho ht hz0 hz1 hz2 ex ey ef es
  have HE := Lib.hid hE
  have HI := Lib.hid hI
  clear hE hI
  go_enter Tryz.func78, Tryz.ntmps78
  go_wp2
  go_step3
  go_wp2
  go_quiet (fail)
  go_wp2
  go_quiet (fail)
  go_wp2
  go_quiet (fail)
  go_wp2
  go_step3
  go_wp2
  have hx0 : x ≠ 0 := by omega
  have hr0 : (z0 * 4294967296 + z1) % x ≤ 4294967295 := by have := Int.emod_lt_of_pos (z0 * 4294967296 + z1) (show 0 < x by omega); omega
  generalize z0 * 4294967296 + z1 = hi at *
  go_loop [9, 10] (fun dv rv => ∃ d r : Int, dv = .int .u64 d ∧ rv = .int .u64 r ∧ r ≤ 4294967295 ∧ Hid (GuessI x hi q d r)) (fun dv _ => (intOf dv).toNat)
  case atStart => exact ⟨_, _, rfl, rfl, hr0, HI⟩
  case round =>
    obtain ⟨d, r, rfl, rfl, hr, hI⟩ := hrel
    clear HI hbd hr0
    obtain ⟨b0, b1, b2, b3⟩ := HE.out.bound hI.out
    have hq := HE.out.hq
    have hge := hI.out.ge
    by_cases hbig : 4294967295 < d
    case' neg =>
      have hdy : 0 ≤ d * y ∧ d * y ≤ 18446744065119617025 := by
        have h0 : 0 ≤ d * y := Int.mul_nonneg b0 hs.1
        have h1 : d * y ≤ 4294967295 * 4294967295 := Int.mul_le_mul (by omega) (by omega) hs.1 (by omega)
        omega
      have hw1 : IntKind.u64.wrap (d * y) = d * y := by rw [IntKind.wrap_u64]; omega
      have hj2 := join64 (x := r) (y := z2) (by omega) hu
      by_cases ht : r * 4294967296 + z2 < d * y
      case' neg =>
        have hfin := Lib.hid (HE.out.done hI.out (by omega))
        clear hI HE
        go_wp2_with fail
        go_ret
        exact ⟨d, by go_num, by omega, hfin.out, _, rfl⟩
      have hl := HE.out.less hI.out (.inr ht)
    case' pos => have hl := HE.out.less hI.out (.inl hbig)
    all_goals
      clear hI
      have hd0 := hl.ge
      have HL := Lib.hid hl
      by_cases hbr : 4294967295 < r + x
      · have hfin := Lib.hid (HE.out.broke hl hbr)
        have hle := hfin.out.1
        clear hl HE
        go_wp2_with fail
        go_ret
        exact ⟨d - 1, by go_num, by have := hfin.out.1; omega, hfin.out.2, _, rfl⟩
      · clear hl
        go_wp2_with fail
        simp only [intOf]
        omega

/-- One digit of a quotient, taken in the call's own row. -/
def TakenR (w : World) (B g N C o : Nat) (S : List Int) (V : Int) (e : Ending) (w' : World) : Prop :=
  ∃ (d : Int) (S2 : List Int), e = .returned (.int .u32 d) ∧ Own .u32 27 w' B (some ⟨g, 0, none⟩) N C S2 ∧ DigR 4294967296 V S S2 o d ∧ w.grownBy w' (some g)

set_option maxHeartbeats 1000000 in
theorem takeDigit_any {w : World} {B g N C o n c m c2 : Nat} {A2 : Option Addr} {S X : List Int} {f : Int} (ho : Own .u32 27 w B (some ⟨g, 0, none⟩) N C S) (ht : Sl .u32 w B A2 m c2 X) (hB : B ≤ w.heap.size)
    (hS : Dg 4294967296 S) (hX : Dg 4294967296 X) (hm : 2 ≤ m) (hmn : m + 1 ≤ n) (hnc : n ≤ c) (hn : n ≤ 1000000000) (hfit : o + m + 1 ≤ N) (ef : X[m - 1]? = some f) (hf : 2147483648 ≤ f) (hW : val 4294967296 (S.drop o) < 4294967296 * val 4294967296 X) :
    Calls Tryz.prog 56 #[.slice (some ⟨g, o, none⟩) n c, .slice A2 m c2] w (TakenR w B g N C o S (val 4294967296 X)) := by
  obtain ⟨p, rfl⟩ : ∃ p, m = p + 2 := ⟨m - 2, by omega⟩
  have hSl := ho.len
  have hXl := ht.len
  obtain ⟨s, es⟩ := get_of_lt (xs := X) (i := p) (by omega)
  obtain ⟨u0, e0⟩ := get_of_lt (xs := S) (i := o + p + 2) (by omega)
  obtain ⟨u1, e1⟩ := get_of_lt (xs := S) (i := o + p + 1) (by omega)
  obtain ⟨u2, e2⟩ := get_of_lt (xs := S) (i := o + p) (by omega)
  obtain ⟨hV, hW2, hE⟩ := GuessE.of hS hX hXl ef es hf e0 e1 e2 hW
  have hG := Lib.hid (guess_any (c := c) ho ht (by omega) hnc hn (by omega) ef es e0 e1 e2 (hS.get e0) (hS.get e1) hE)
  have HW := Lib.hid hW2
  clear hE e0 e1 e2 es ef hW hW2
  go_enter Tryz.func56, Tryz.ntmps56
  go_wp2_with fail
  refine hG.out.mono ?_
  rintro e w1 ⟨d, rfl, hd, hq, k, rfl⟩
  have ho1 := ho.drew k
  have ht1 := ht.drew k
  have g1 : w.grownBy (w.drewN k) (some g) := ⟨rfl, rfl, rfl, Nat.le_refl _, fun _ _ _ => rfl⟩
  have hB1 : B ≤ (w.drewN k).heap.size := hB
  clear hG ho ht
  generalize w.drewN k = w1 at *
  go_wp2_with fail
  refine (takeTimes_any (d := d) ho1 ht1 hB1 hS hX (by omega) hmn hnc hfit).mono ?_
  rintro e w2 ⟨b, S2, rfl, h2, h3, h4⟩
  have hb := h3.b01
  have hgB := ho1.blk_ g rfl
  rcases (show b = 0 ∨ b = 1 by omega) with rfl | rfl
  · have hfin := Lib.hid (h3.down (by decide) hV hq)
    have h5 := Lib.hid (grown_trans g1 h4)
    clear h3 h4 g1 hb
    go_wp2_with fail
    go_ret
    exact ⟨d, S2, rfl, h2, hfin.out, h5.out⟩
  · have ht2 : Sl .u32 w2 B A2 (p + 2) c2 X := ht1.grown h4 hB1 (fun k hk => by injection hk with hk; omega)
    have HB := Lib.hid (fun b S3 (h : Took 4294967296 1 1 (val 4294967296 X) S2 S3 o (p + 2) b) => h3.back (by decide) h hS (by omega) hV HW.out hq)
    have h5 := Lib.hid (grown_trans g1 h4)
    have hd1 : 1 ≤ d := by
      have n1 := h3.num
      have n2 := h3.dg.dropLt (by decide) (o := o) (m := p + 2) (by rw [h3.rest]; exact top_zero (by decide) hS (by omega) HW.out) (by rw [h3.len]; omega)
      have n3 := val_nonneg (β := 4294967296) (by decide) (hS.drop o)
      rcases Int.lt_or_le 0 d with h | h
      · omega
      · obtain rfl : d = 0 := by omega
        simp only [Int.mul_one, Int.zero_mul, Int.mul_zero, Int.add_zero] at n1
        omega
    have d2 := h3.dg
    have h4s := h4.size
    clear h3 h4 g1 hb HW
    go_wp2_with fail
    refine (putBack_any h2 ht2 (Nat.le_trans hB1 h4s) d2 hX hmn hnc hfit).mono ?_
    rintro e w3 ⟨rfl, b, S3, h6, h7, h8⟩
    have hfin := Lib.hid (HB.out b S3 h7)
    have h9 := Lib.hid (grown_trans h5.out h8)
    clear h7 h8 HB h2
    go_wp2_with fail
    go_ret
    exact ⟨d - 1, S3, by go_num, h6, hfin.out, h9.out⟩
end Go.Proofs.YthicpakanhhipaaGreatDoor
