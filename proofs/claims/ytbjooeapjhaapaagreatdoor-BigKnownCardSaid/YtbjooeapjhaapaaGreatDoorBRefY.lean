/- tallageref03: Gcd: what it answers. -/
import Derived.Test.YtbjooeapjhaapaaGreatDoorBRefN
namespace Go.Proofs.YtbjooeapjhaapaaGreatDoor
open Go Go.RowKit

/-- The number that a slice of half limbs reads as in a world. -/
def rdh (w : World) : Value → Nat
  | .slice (some ⟨b, off, _⟩) n _ => (val 65536 ((List.range n).map fun j => match w.cell? ⟨b, off + j, none⟩ with | some (.int _ x) => x | _ => 0)).toNat
  | _ => 0
theorem Sl.rdh {w : World} {B : Nat} {A : Option Addr} {n c : Nat} {xs : List Int} (h : Sl .i64 w B A n c xs) : rdh w (.slice A n c) = (val 65536 xs).toNat := by
  cases A with
  | none =>
    have h0 := h.2.2.2.1 rfl
    have : xs = [] := List.eq_nil_of_length_eq_zero (by have := h.len; have := h.le; omega)
    subst this
    rfl
  | some a =>
    by_cases hn : 0 < n
    · obtain ⟨b, off, hA, _, hc⟩ := h.2.2.2.2 hn
      injection hA with hA
      subst hA
      have e : ((List.range n).map fun j => match w.cell? ⟨b, off + j, none⟩ with | some (.int _ x) => x | _ => 0) = xs := by
        refine List.ext_getElem? fun i => ?_
        rcases Nat.lt_or_ge i n with hi | hi
        · obtain ⟨x, hx⟩ := get_of_lt (xs := xs) (by rw [h.len]; exact hi)
          rw [List.getElem?_map, List.getElem?_range hi, hx]
          simp [hc i x hx]
        · rw [List.getElem?_eq_none (by simp; exact hi), List.getElem?_eq_none (by rw [h.len]; exact hi)]
      show (val 65536 _).toNat = _
      rw [e]
    · obtain rfl : n = 0 := by omega
      have : xs = [] := List.eq_nil_of_length_eq_zero h.len
      subst this
      rfl
set_option maxRecDepth 20000 in
set_option maxHeartbeats 4000000 in
theorem gcd3_any {w : World} {B : Nat} {s t : Bool} {A A2 : Option Addr} {n c m c2 : Nat} {xs ys : List Int} (hs : Sl .u32 w B A n c xs) (ht : Sl .u32 w B A2 m c2 ys) (hB : B ≤ w.heap.size) (hx : Dg 4294967296 xs) (hy : Dg 4294967296 ys) (hn : n ≤ 1000000) (hm : m ≤ 1000000) :
    Calls Tryz.prog 22 #[.agg #[.bool s, .slice A n c], .agg #[.bool t, .slice A2 m c2]] w (NewI w (gcdI ((ival s xs).natAbs : Int) ((ival t ys).natAbs : Int))) := by
  obtain ⟨s', A', n', c', xs', hp1⟩ := PlOut.ex s A n c xs
  obtain ⟨t', A2', m', c2', ys', hp2⟩ := PlOut.ex t A2 m c2 ys
  obtain ⟨f1, f2, f3, f4, f5⟩ := hp1.facts hs hx
  obtain ⟨g1, g2, g3, g4, g5⟩ := hp2.facts ht hy
  have HV := Lib.hid (show (((ival s xs).natAbs : Nat) : Int) = val 4294967296 xs' by rw [← f4]; exact sgv_abs (val_nonneg (by decide) f2))
  have HW := Lib.hid (show (((ival t ys).natAbs : Nat) : Int) = val 4294967296 ys' by rw [← g4]; exact sgv_abs (val_nonneg (by decide) g2))
  generalize hga : (((ival s xs).natAbs : Nat) : Int) = GA at HV ⊢
  generalize hgb : (((ival t ys).natAbs : Nat) : Int) = GB at HW ⊢
  have HP1 := Lib.hid hp1
  have HP2 := Lib.hid hp2
  have HF := Lib.hid (And.intro f1 f2)
  have HG := Lib.hid (And.intro g1 g2)
  have HS := Lib.hid hs
  have HT := Lib.hid ht
  clear hp1 hp2 f1 f2 f3 f4 g1 g2 g3 g4 hs ht hx hy hga hgb
  go_enter Tryz.func22, Tryz.ntmps22
  go_wp2_with fail
  have hb0 : Below w.heap.size w (((w.alloc (.cells #[.bool s, .slice A n c] 26)).alloc (.cells #[.bool t, .slice A2 m c2] 26)).alloc (.cells #[.bool false, .slice none 0 0] 26)) :=
    (((Below.refl _ _).alloc (Nat.le_refl _) _).alloc (by rw [size_one]; omega) _).alloc (by rw [size_two]; omega) _
  obtain ⟨bX, bY, bR, hlt, _⟩ := box_new3 (w := w) (v0 := .bool s) (v1 := .slice A n c) (u0 := .bool t) (u1 := .slice A2 m c2) (x0 := .bool false) (x1 := .slice none 0 0) (t := 26) (t2 := 26) (t3 := 26) (Below.refl _ _)
  generalize ((w.alloc (.cells #[.bool s, .slice A n c] 26)).alloc (.cells #[.bool t, .slice A2 m c2] 26)).alloc (.cells #[.bool false, .slice none 0 0] 26) = W0 at hb0 bX bY bR hlt ⊢
  have B0 := Lib.hid hb0
  have BX := Lib.hid bX
  have BY := Lib.hid bY
  have BR := Lib.hid bR
  have HL := Lib.hid hlt
  clear hb0 bX bY bR hlt
  refine wp_region_typed [(2, STy.is (.pointer (some ⟨w.heap.size, 0, none⟩))), (3, STy.is (.pointer (some ⟨w.heap.size + 1, 0, none⟩))), (9, STy.is (.agg #[.bool s, .slice A n c])), (10, STy.is (.agg #[.bool s', .slice A' n' c'])), (11, STy.is (.slice A' n' c')), (12, STy.half GA (2 * n')),
      (13, STy.is (.agg #[.bool t, .slice A2 m c2])), (14, STy.is (.agg #[.bool t', .slice A2' m' c2'])), (15, STy.is (.slice A2' m' c2')), (16, STy.half GB (2 * m')), (5, STy.half GA (2 * n')), (6, STy.half GB (2 * m'))]
    [2, 3] [] 31 (by kernel_rfl) (by kernel_rfl) rfl trivial ⟨rfl, rfl, trivial⟩ ?ok ?fin
  case ok =>
    repeat' first
      | exact OpSteps.nil
      | refine OpSteps.cons ?_ ?_
      | exact st3_box (fun _ _ h => h) (cell_on BX.out.1 (by have := HL.out; omega)) (cell_on BX.out.2.1 (by have := HL.out; omega)) (fun _ => rfl)
      | exact st3_box (fun _ _ h => h) (cell_on BY.out.1 (by have := HL.out; omega)) (cell_on BY.out.2.1 (by have := HL.out; omega)) (fun _ => rfl)
      | exact st3_field1 (fun _ _ h => h) (fun _ => rfl)
      | exact st_assign fun _ _ h => h
      | exact st_call1 enters3_plain (T0 := fun _ v => v = .agg #[.bool s, .slice A n c]) (fun _ _ h => h) (fun W v0 hb h0 => by
          subst h0
          refine (plain3_out HP1.out ((HS.out.below B0.out hB).below (hb.mono B0.out.size) hB) (Nat.le_trans hB (Nat.le_trans B0.out.size hb.size))).mono ?_
          rintro e w' ⟨rfl, hb'⟩
          exact ⟨⟨_, rfl, rfl⟩, hb'⟩)
      | exact st_call1 enters3_plain (T0 := fun _ v => v = .agg #[.bool t, .slice A2 m c2]) (fun _ _ h => h) (fun W v0 hb h0 => by
          subst h0
          refine (plain3_out HP2.out ((HT.out.below B0.out hB).below (hb.mono B0.out.size) hB) (Nat.le_trans hB (Nat.le_trans B0.out.size hb.size))).mono ?_
          rintro e w' ⟨rfl, hb'⟩
          exact ⟨⟨_, rfl, rfl⟩, hb'⟩)
      | exact st_call1 enters3_halves (T0 := fun _ v => v = .slice A' n' c') (fun _ _ h => h) (fun W v0 hb h0 => by
          subst h0
          have hz := B0.out.size
          have sl := HF.out.1.below (B0.out.trans (hb.mono hz)) hB
          refine (halves3_any sl (Nat.le_trans hB (Nat.le_trans hz hb.size)) HF.out.2 (by omega)).mono ?_
          rintro e w' ⟨zs, A5, n5, c5, hr, rfl, ho, hb'⟩
          have hl := half_len sl.len HF.out.2 hr
          rw [← HV.out] at hr
          exact ⟨⟨_, rfl, A5, n5, c5, zs, rfl, ho.sl, hr, by have := ho.len; omega⟩, hb'⟩)
      | exact st_call1 enters3_halves (T0 := fun _ v => v = .slice A2' m' c2') (fun _ _ h => h) (fun W v0 hb h0 => by
          subst h0
          have hz := B0.out.size
          have sl := HG.out.1.below (B0.out.trans (hb.mono hz)) hB
          refine (halves3_any sl (Nat.le_trans hB (Nat.le_trans hz hb.size)) HG.out.2 (by omega)).mono ?_
          rintro e w' ⟨zs, A5, n5, c5, hr, rfl, ho, hb'⟩
          have hl := half_len sl.len HG.out.2 hr
          rw [← HW.out] at hr
          exact ⟨⟨_, rfl, A5, n5, c5, zs, rfl, ho.sl, hr, by have := ho.len; omega⟩, hb'⟩)
  case fin =>
    intro v W1 ho hb
    obtain ⟨A5, n5, c5, us, e5, s5, r5, l5⟩ := ho.slot (d := 5) (by simp [dstD])
    obtain ⟨A6, n6, c6, vs, e6, s6, r6, l6⟩ := ho.slot (d := 6) (by simp [dstD])
    clear ho
    simp only [List.map_cons, List.map_nil, dstD, Option.getD_some, putAll, Act.put, List.setIfInBounds_toArray, List.set_cons_succ, List.set_cons_zero, e5, e6]
    clear e5 e6
    have BR1 := Lib.hid (Boxed.below BR.out hb HL.out)
    have HL1 := Lib.hid (Nat.lt_of_lt_of_le HL.out hb.size)
    have B1 := Lib.hid (B0.out.trans (hb.mono B0.out.size))
    have S5 := Lib.hid s5
    have S6 := Lib.hid s6
    have R5 := Lib.hid r5
    have R6 := Lib.hid r6
    have a5 : n5 ≤ 2000000 := by omega
    have a6 : n6 ≤ 2000000 := by omega
    clear hb HL BX BY BR B0 s5 s6 r5 r6 HP1 HP2 HF HG HS HT HV HW
    go_wp2_with fail
    go_loopw [5, 6] (fun av bv wr => ∃ (n3 c3 n4 c4 : Nat) (A3 A4 : Option Addr) (X Y : List Int) (U V : Int), av = .slice A3 n3 c3 ∧ bv = .slice A4 n4 c4 ∧ n3 ≤ 2000000 ∧ n4 ≤ 2000000 ∧ Sl .i64 wr wr.heap.size A3 n3 c3 X ∧ Sl .i64 wr wr.heap.size A4 n4 c4 Y ∧ Below W1.heap.size W1 wr ∧
        Row 65536 U X ∧ Row 65536 V Y ∧ gcdI U V = gcdI GA GB) (fun _ bv wr => rdh wr bv)
    case atStart => exact ⟨n5, c5, n6, c6, A5, A6, us, vs, GA, GB, rfl, rfl, a5, a6, S5.out, S6.out, Below.refl _ _, R5.out, R6.out, rfl⟩
    case round =>
      obtain ⟨n3, c3, n4, c4, A3, A4, X, Y, U, V, rfl, rfl, hn3, hn4, h3, h4, hb, r3, r4, hg⟩ := hrel
      have HG := Lib.hid hg
      have hmeas := Lib.hid h4.rdh
      have v3 : 0 ≤ U := by rw [← r3.val]; exact val_nonneg (by decide) r3.dg
      have v4 : 0 ≤ V := by rw [← r4.val]; exact val_nonneg (by decide) r4.dg
      clear hg S5 S6 R5 R6
      by_cases h0 : n4 = 0
      · subst h0
        have hv : V = 0 := by rw [← r4.val, List.eq_nil_of_length_eq_zero h4.len]; rfl
        have HU := Lib.hid (show U = gcdI GA GB by rw [← HG.out, hv, gcdI_zero v3])
        have R3 := Lib.hid r3
        have H3 := Lib.hid h3
        have BW := Lib.hid (B1.out.trans (hb.mono B1.out.size))
        have BRW := Lib.hid (Boxed.below BR1.out hb HL1.out)
        have HLW := Lib.hid (Nat.lt_of_lt_of_le HL1.out hb.size)
        clear hv HG hmeas r3 r4 h3 h4 hb
        go_wp2_with fail
        refine (limbs3_any H3.out (Nat.le_refl _) R3.out.dg (by omega)).mono ?_
        rintro e w4 ⟨zs, A7, n7, c7, hd, hv, hl, rfl, ho, hb4⟩
        rw [R3.out.val, HU.out] at hv
        have s7 := ho.sl
        have B4 := Lib.hid (BW.out.trans (hb4.mono BW.out.size))
        have BR4 := Lib.hid (Boxed.below BRW.out hb4 HLW.out)
        have HL4 := Lib.hid (Nat.lt_of_lt_of_le HLW.out hb4.size)
        have HV7 := Lib.hid hv
        have HD7 := Lib.hid hd
        clear ho hb4 hv hd
        go_wp2_with fail
        refine (made3_any s7 (Nat.le_refl _) HD7.out (by omega)).mono ?_
        rintro e w5 ⟨sc, Z, A8, n8, c8, hW, rfl, ho, hb2⟩
        rw [sgv_false, HV7.out] at hW
        obtain ⟨q0, q1, q2, q3⟩ := Boxed.below BR4.out hb2 HL4.out
        have HW := Lib.hid hW
        have HO := Lib.hid ho
        have HB := Lib.hid (B4.out.trans (hb2.mono B4.out.size))
        clear hW ho hb2 s7
        go_wp2_with fail
        refine bodyPost_ret (v := .agg #[.bool sc, .slice A8 n8 c8]) ?_ rfl (NewI.put HW.out (by omega) HO.out HL4.out HB.out)
        simp only [results, Tryz.results22]
        go_simp
      · have hpos : 0 < V := by
          rcases Int.lt_or_le 0 V with h | h
          · exact h
          · have := Tr.zero (β := 65536) (by decide) r4.dg r4.tr (by rw [r4.val]; omega)
            have := h4.len
            simp_all
        have HP := Lib.hid hpos
        have hY : V < 65536 ^ n4 := by rw [← r4.val, ← h4.len]; exact val_lt (by decide) r4.dg
        have HY := Lib.hid hY
        clear hpos hY
        go_wp2_with fail
        refine (parts3_any h3 h4 (Nat.le_refl _) r3.dg r4.dg r4.tr (by rw [r4.val]; exact HP.out) (by omega) (by omega)).mono ?_
        rintro e w2 ⟨qs, rs, A7, n7, c7, A8, n8, c8, rq, rr, rfl, s7, s8, b2⟩
        rw [r3.val, r4.val] at rr
        have hlt := Lib.hid (Int.emod_lt_of_pos U HP.out)
        have hge := Lib.hid (Int.emod_nonneg U (show V ≠ 0 by have := HP.out; omega))
        have hl8 : n8 ≤ n4 := by rw [← s8.len]; exact rr.len_le (by decide) (Int.lt_trans hlt.out HY.out)
        have hm8 := Lib.hid s8.rdh
        have HG2 := Lib.hid (show gcdI V (U % V) = gcdI GA GB by rw [gcdI_next v3 HP.out]; exact HG.out)
        have RR := Lib.hid rr
        have R4 := Lib.hid r4
        have s4 := Lib.hid ((h4.below b2 (Nat.le_refl _)).more b2.size)
        have S8 := Lib.hid s8
        have hb2 := Lib.hid (hb.trans (b2.mono hb.size))
        clear rq rr HG r3 r4 h3 h4 hb b2 s7 s8
        go_wp2_with fail
        go_roundw
        case rel => exact ⟨n4, c4, n8, c8, A4, A8, Y, rs, V, U % V, rfl, rfl, hn4, by omega, s4.out, S8.out, hb2.out, R4.out, RR.out, HG2.out⟩
        case measure =>
          show rdh _ _ < rdh _ _
          rw [hm8.out, hmeas.out, RR.out.val, R4.out.val]
          have := hlt.out
          have := hge.out
          omega
end Go.Proofs.YtbjooeapjhaapaaGreatDoor
