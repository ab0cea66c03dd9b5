/- tallagelaw02: NatKnown: it returns true. -/
import Derived.Test.YthicpakanhhipaaGreatDoorNLawK
namespace Go.Proofs.YthicpakanhhipaaGreatDoor
open Go Go.RowKit

set_option maxRecDepth 20000 in
set_option maxHeartbeats 8000000 in
theorem NatKnown_any {w : World} (hE : Env w) : Calls Tryz.prog 6 #[] w fun e w' => e = .returned (.bool true) ∧ Below w.heap.size w w' := by
  have HE := Lib.hid hE
  clear hE
  go_enter Tryz.func6, Tryz.ntmps6
  go_wp2_with fail
  have sl : Sl .u32 (w.alloc (.cells (tried.map (Value.int .u32)).toArray 27)) (w.heap.size + 1) (some ⟨w.heap.size, 0, none⟩) 15 15 tried := by
    obtain ⟨h1, h2, h3⟩ := (Own.lit .u32 27 w (B := w.heap.size) (Nat.le_refl _) tried 15 rfl (by omega)).sl
    exact ⟨h1, h2, by unfold maxLen; omega, fun h => (by cases h), fun _ => ⟨w.heap.size, 0, rfl, by omega, fun j y hy => by rw [Nat.zero_add]; simp [World.cell?_alloc_new, hy]⟩⟩
  have b1 : Below w.heap.size w (w.alloc (.cells (tried.map (Value.int .u32)).toArray 27)) := (Below.refl _ _).alloc (Nat.le_refl _) _
  simp only [tried, List.map_cons, List.map_nil] at sl b1
  have hsz := size_one w (.cells #[.int .u32 0, .int .u32 1, .int .u32 2, .int .u32 3, .int .u32 9, .int .u32 10, .int .u32 65535, .int .u32 65536, .int .u32 2147483647, .int .u32 2147483648, .int .u32 2147483649, .int .u32 999999999, .int .u32 1000000000, .int .u32 4294967294, .int .u32 4294967295] 27)
  generalize hw1 : w.alloc _ = w1 at sl b1 hsz ⊢
  clear hw1
  have hdg : Dg 4294967296 [0, 1, 2, 3, 9, 10, 65535, 65536, 2147483647, 2147483648, 2147483649, 999999999, 1000000000, 4294967294, 4294967295] := tried_dg
  generalize [(0 : Int), 1, 2, 3, 9, 10, 65535, 65536, 2147483647, 2147483648, 2147483649, 999999999, 1000000000, 4294967294, 4294967295] = tr at sl hdg
  have slw := sl.more (B' := w1.heap.size) (by omega)
  have E1 := Lib.hid (HE.out.below b1)
  have B1 := Lib.hid b1
  clear sl hsz HE b1
  generalize hLw : w.heap.size = L at slw
  go_loopw [2] (fun iv wr => ∃ i : Nat, i ≤ 15 ∧ iv = .int .i64 i ∧ Below w1.heap.size w1 wr) (fun iv _ => 15 - (intOf iv).toNat)
  case atStart => exact ⟨0, by omega, rfl, Below.refl _ _⟩
  case round =>
    obtain ⟨i, hi, rfl, bo⟩ := hrel
    obtain ⟨wo, rfl⟩ : ∃ wo : World, wo = wr := ⟨_, rfl⟩
    by_cases hilt : i < 15
    · have hik : (i : Int) < 15 := by omega
      go_wp2_with fail
      go_loopw [3] (fun kv wr => ∃ k : Nat, k ≤ 15 ∧ kv = .int .i64 k ∧ Below w1.heap.size w1 wr) (fun kv _ => 15 - (intOf kv).toNat)
      case atStart => exact ⟨0, by omega, rfl, bo⟩
      case round =>
        obtain ⟨k, hk, rfl, bw⟩ := hrel
        by_cases hklt : k < 15
        · have hkk : (k : Int) < 15 := by omega
          obtain ⟨v, hv⟩ : ∃ v : Nat, v = i + k := ⟨_, rfl⟩
          have hmod : IntKind.i64.wrap ((i : Int) + (k : Int)) = (v : Int) := by rw [IntKind.wrap_i64]; omega
          obtain ⟨g, hg, hg15⟩ : ∃ g : Nat, g = v % 15 ∧ g < 15 := ⟨_, rfl, by omega⟩
          have hmod2 : (v : Int).tmod 15 = (g : Int) := by rw [Int.tmod_eq_emod_of_nonneg (by omega)]; omega
          have hmod3 : IntKind.i64.wrap (g : Int) = (g : Int) := by rw [IntKind.wrap_i64]; omega
          have hgg : (g : Int) < 15 := by omega
          have slr := slw.below bw (Nat.le_refl _)
          obtain ⟨b', off', x, hA, hbB, ex, hcx⟩ := slr.at_ hilt
          injection hA with hA
          injection hA with q1 q2
          subst q1; subst q2
          obtain ⟨b', off', y, hA, _, ey, hcy⟩ := slr.at_ hklt
          injection hA with hA
          injection hA with q1 q2
          subst q1; subst q2
          obtain ⟨b', off', z, hA, _, ez, hcz⟩ := slr.at_ hg15
          injection hA with hA
          injection hA with q1 q2
          subst q1; subst q2
          rw [Nat.zero_add] at hcx hcy hcz
          have hxx := hdg.get ex
          have hyy := hdg.get ey
          have hzz := hdg.get ez
          have hLr : L < wr.heap.size := Nat.lt_of_lt_of_le hbB bw.size
          clear slr hg hv
          go_upto_region 8 with fail
          have KX := Lib.hid (show ∀ W, Below wr.heap.size wr W → W.cell? ⟨L, i, none⟩ = some (.int .u32 x) from fun W h => (h.cell (p := ⟨L, i, none⟩) hLr).trans hcx)
          have KY := Lib.hid (show ∀ W, Below wr.heap.size wr W → W.cell? ⟨L, k, none⟩ = some (.int .u32 y) from fun W h => (h.cell (p := ⟨L, k, none⟩) hLr).trans hcy)
          have KZ := Lib.hid (show ∀ W, Below wr.heap.size wr W → W.cell? ⟨L, g, none⟩ = some (.int .u32 z) from fun W h => (h.cell (p := ⟨L, g, none⟩) hLr).trans hcz)
          have BW := Lib.hid bw
          clear hcx hcy hcz bw
          refine wp_region_typed (E8 L i k g v x y z) [1, 2, 3] [] 234 (by kernel_rfl) (by kernel_rfl) rfl trivial ⟨rfl, rfl, rfl, trivial⟩ ?ok8 ?fin8
          case ok8 =>
            repeat' first
              | exact OpSteps.nil
              | refine OpSteps.cons ?_ ?_
              | exact st_move fun _ _ h => h
              | exact st_assign fun _ _ h => h
              | exact st_at (fun _ _ h => h) (fun _ _ h => h) (by assumption) (fun _ => rfl)
              | exact st_load (fun _ _ h => h) KX.out (fun _ => rfl)
              | exact st_load (fun _ _ h => h) KY.out (fun _ => rfl)
              | exact st_load (fun _ _ h => h) KZ.out (fun _ => rfl)
              | exact st_len (fun _ _ h => h) (fun _ => rfl)
              | exact st_add (fun _ _ h => h) (fun _ _ h => h) hmod (fun _ => rfl)
              | exact st_rem (fun _ _ h => h) (fun _ _ h => h) (by decide) hmod2 (fun _ => rfl)
              | exact st_row3 (fun _ _ h => h) (fun _ _ h => h) (fun _ _ h => h) hxx hyy hzz (fun _ A h => ⟨A, rfl, h⟩)
              | exact st_row2 (fun _ _ h => h) (fun _ _ h => h) hyy hxx (fun _ A h => ⟨A, rfl, h⟩)
          case fin8 =>
            intro v8 w8 ho hb8
            have h4 := ho.slot (d := 4) (by simp [dstD])
            have h5 := ho.slot (d := 5) (by simp [dstD])
            obtain ⟨A4, e4, r4⟩ := h4
            obtain ⟨A5, e5, r5⟩ := h5
            clear ho
            simp only [List.map_cons, List.map_nil, dstD, Option.getD_some, putAll, Act.put, List.setIfInBounds_toArray, List.set_cons_succ, List.set_cons_zero, e4, e5]
            clear e4 e5
            have KX8 := Lib.hid (show ∀ W, Below w8.heap.size w8 W → W.cell? ⟨L, i, none⟩ = some (.int .u32 x) from fun W h => KX.out W (hb8.trans (h.mono hb8.size)))
            have KY8 := Lib.hid (show ∀ W, Below w8.heap.size w8 W → W.cell? ⟨L, k, none⟩ = some (.int .u32 y) from fun W h => KY.out W (hb8.trans (h.mono hb8.size)))
            have B8 := Lib.hid (BW.out.trans (hb8.mono BW.out.size))
            have EE := E1.out.below B8.out
            clear KX KY KZ BW hb8
            go_wp2_with fail
            refine wp_region_typed (E9 L i k x y) [1, 2, 3, 4, 5] [(61, false), (75, false), (93, false), (106, false), (113, false)] 234 (by kernel_rfl) (by kernel_rfl) rfl
              ⟨fun _ _ h => h, fun _ _ h => h, fun _ _ h => h, fun _ _ h => h, fun _ _ h => h, trivial⟩ ⟨rfl, rfl, rfl, ⟨A4, rfl, r4⟩, ⟨A5, rfl, r5⟩, trivial⟩ ?ok9 ?fin9
            case ok9 =>
              repeat' first
                | exact OpSteps.nil
                | refine OpSteps.cons ?_ ?_
                | exact st_move fun _ _ h => h
                | exact st_assign fun _ _ h => h
                | exact st_at (fun _ _ h => h) (fun _ _ h => h) (by assumption) (fun _ => rfl)
                | exact st_load (fun _ _ h => h) KX8.out (fun _ => rfl)
                | exact st_load (fun _ _ h => h) KY8.out (fun _ => rfl)
                | exact st_not (fun _ _ h => h) (fun _ => rfl)
                | exact st_pick (fun _ _ h => h) (fun _ _ h => h) (fun _ => rfl)
                | exact st_row0 (fun _ A h => ⟨A, rfl, h⟩)
                | exact st_row1 (fun _ _ h => h) hxx (fun _ A h => ⟨A, rfl, h⟩)
                | exact st_row2 rfl rfl (by decide) (by decide) (fun _ A h => ⟨A, rfl, h⟩)
                | exact st_row2 (fun _ _ h => h) rfl hxx (by decide) (fun _ A h => ⟨A, rfl, h⟩)
                | exact st_row3 (fun _ _ h => h) rfl rfl hyy (by decide) (by decide) (fun _ A h => ⟨A, rfl, h⟩)
                | exact st_row3 (fun _ _ h => h) (fun _ _ h => h) rfl hyy hxx (by decide) (fun _ A h => ⟨A, rfl, h⟩)
                | exact st_row4 rfl rfl (fun _ _ h => h) (fun _ _ h => h) (by decide) (by decide) hxx hyy (fun _ A h => ⟨A, rfl, h⟩)
                | exact st_rows2 (fun _ _ h => h) (fun _ _ h => h) (fun _ A h => ⟨A, rfl, h⟩)
                | exact st_rows3 (fun _ _ h => h) (fun _ _ h => h) (fun _ _ h => h) (fun _ A h => ⟨A, rfl, h⟩)
                | exact st_call3 enters_mul (T0 := IsU) (T1 := IsU) (T2 := IsL) (fun _ _ ⟨A, e, h⟩ => ⟨A, _, e, h⟩) (fun _ _ ⟨A, e, h⟩ => ⟨A, _, e, h⟩) (fun _ _ ⟨A, e, h⟩ => ⟨A, _, e, h⟩) (mulC EE) (fun _ => rfl)
                | exact st_call3 enters_div (T0 := IsU) (T1 := IsU) (T2 := IsL) (fun _ _ ⟨A, e, h⟩ => ⟨A, _, e, h⟩) (fun _ _ ⟨A, e, h⟩ => ⟨A, _, e, h⟩) (fun _ _ ⟨A, e, h⟩ => ⟨A, _, e, h⟩) (divC EE) (fun _ => rfl)
                | exact st_call3 enters_div (T0 := IsU) (T1 := IsU) (T2 := IsL) (fun _ _ ⟨A, e, h⟩ => ⟨A, _, e, h⟩) (fun _ _ ⟨A, e, h⟩ => ⟨A, _, e, h⟩) (fun _ => ⟨none, 0, rfl, ArgL.none_⟩) (divC EE) (fun _ => rfl)
                | exact st_call3 enters_parts (T0 := IsU) (T1 := IsU) (T2 := IsU) (fun _ _ ⟨A, e, h⟩ => ⟨A, _, e, h⟩) (fun _ _ ⟨A, e, h⟩ => ⟨A, _, e, h⟩) (fun _ _ ⟨A, e, h⟩ => ⟨A, _, e, h⟩) (partsC EE) (fun _ => rfl)
            case fin9 =>
              intro v9 w9 ho hb9
              have h126 := ho.slot (d := 126) (by simp [dstD])
              have e126 : v9 126 = .bool false := h126
              clear ho h126 r4 r5 KX8 KY8 EE
              simp only [List.map_cons, List.map_nil, dstD, Option.getD_some, putAll, Act.put, List.setIfInBounds_toArray, List.set_cons_succ, List.set_cons_zero, e126]
              clear e126
              have B9 := Lib.hid (B8.out.trans (hb9.mono B8.out.size))
              clear hb9 B8
              go_wp2_with fail
              go_roundw
              case rel => exact ⟨k + 1, by omega, by go_num, B9.out⟩
              case measure => simp [intOf]; omega
        · obtain rfl : k = 15 := by omega
          have hm3 : IntKind.i64.wrap ((i : Int) * 3) = (i : Int) * 3 := by rw [IntKind.wrap_i64]; omega
          have hcv : IntKind.u8.wrap (i : Int) = (i : Int) := by rw [IntKind.wrap_u8]; omega
          have slr := slw.below bw (Nat.le_refl _)
          obtain ⟨b', off', x, hA, hbB, ex, hcx⟩ := slr.at_ hilt
          injection hA with hA
          injection hA with q1 q2
          subst q1; subst q2
          rw [Nat.zero_add] at hcx
          have hxx := hdg.get ex
          have hLr : L < wr.heap.size := Nat.lt_of_lt_of_le hbB bw.size
          have HM := Lib.hid hm3
          have HC := Lib.hid hcv
          clear slr hm3 hcv
          go_upto_region 11 with fail
          have KX := Lib.hid (show ∀ W, Below wr.heap.size wr W → W.cell? ⟨L, i, none⟩ = some (.int .u32 x) from fun W h => (h.cell (p := ⟨L, i, none⟩) hLr).trans hcx)
          have BW := Lib.hid bw
          have EE := E1.out.below bw
          clear hcx bw
          refine wp_region_typed (E11 L i ((i : Int) * 3) x) [1, 2] [(150, false)] 234 (by kernel_rfl) (by kernel_rfl) rfl ⟨fun _ _ h => h, trivial⟩ ⟨rfl, rfl, trivial⟩ ?ok11 ?fin11
          case ok11 =>
            repeat' first
              | exact OpSteps.nil
              | refine OpSteps.cons ?_ ?_
              | exact st_move fun _ _ h => h
              | exact st_assign fun _ _ h => h
              | exact st_at (fun _ _ h => h) (fun _ _ h => h) (by assumption) (fun _ => rfl)
              | exact st_load (fun _ _ h => h) KX.out (fun _ => rfl)
              | exact st_not (fun _ _ h => h) (fun _ => rfl)
              | exact st_pick (fun _ _ h => h) (fun _ _ h => h) (fun _ => rfl)
              | exact st_mul (fun _ _ h => h) HM.out (fun _ => rfl)
              | exact st_conv (fun _ _ h => h) HC.out (fun _ => rfl)
              | exact st_row2 (fun _ _ h => h) (fun _ _ h => h) hxx hxx (fun _ A h => ⟨A, rfl, h⟩)
              | exact st_row3 (fun _ _ h => h) rfl rfl hxx (by decide) (by decide) (fun _ A h => ⟨A, rfl, h⟩)
              | exact st_row3 (fun _ _ h => h) (fun _ _ h => h) rfl hxx hxx (by decide) (fun _ A h => ⟨A, rfl, h⟩)
              | exact st_call1 enters_put (T0 := fun w v => ∃ A, v = .slice A 2 2 ∧ ArgU w A 2 2) (T := IsT) (fun _ _ h => h) (putC EE) (fun _ _ h => h)
              | exact st_call4 enters_words (T0 := IsT) (T1 := IsI .u32 0 4294967295) (T2 := IsI .i64 (-9223372036854775808) 9223372036854775807) (T3 := IsU) (fun _ _ h => h) (fun _ _ h => ⟨_, h, hxx.1, Int.le_of_lt_add_one hxx.2⟩) (fun _ _ h => ⟨_, h, by omega, by omega⟩) (fun _ _ ⟨A, e, h⟩ => ⟨A, _, e, h⟩) (wordsC EE) (fun _ => rfl)
              | exact st_call5 enters_back (T0 := IsU) (T1 := IsT) (T2 := IsI .u32 0 4294967295) (T3 := IsI .u8 0 255) (T4 := IsI .u8 0 255) (fun _ _ ⟨A, e, h⟩ => ⟨A, _, e, h⟩) (fun _ => ⟨_, rfl, by decide⟩) (fun _ _ h => ⟨_, h, hxx.1, Int.le_of_lt_add_one hxx.2⟩) (fun _ _ h => ⟨_, h, by omega, by omega⟩) (fun _ => ⟨7, rfl, by decide, by decide⟩) (backC EE) (fun _ => rfl)
          case fin11 =>
            intro v9 w9 ho hb9
            have h126 := ho.slot (d := 168) (by simp [dstD])
            have e126 : v9 168 = .bool false := h126
            clear ho h126 KX EE
            simp only [List.map_cons, List.map_nil, dstD, Option.getD_some, putAll, Act.put, List.setIfInBounds_toArray, List.set_cons_succ, List.set_cons_zero, e126]
            clear e126
            have B9 := Lib.hid (BW.out.trans (hb9.mono BW.out.size))
            clear hb9 BW
            go_wp2_with fail
            go_roundw
            case rel => exact ⟨i + 1, by omega, by go_num, B9.out⟩
            case measure => simp [intOf]; omega
    · obtain rfl : i = 15 := by omega
      rw [show ((15 : Nat) : Int) = 15 from rfl]
      have BW := Lib.hid bo
      have EE := Lib.hid (E1.out.below bo)
      clear bo
      go_wp2_with fail
      have ht := texts_at wo texts 9 texts_small
      have bA : Below wo.heap.size wo (wo.alloc (.cells (texts.map Value.string).toArray 9)) := (Below.refl _ _).alloc (Nat.le_refl _) _
      have hsz := size_one wo (.cells (texts.map Value.string).toArray 9)
      simp only [texts, List.map_cons, List.map_nil] at ht bA hsz
      generalize hW0 : wo.alloc _ = W0 at ht bA hsz ⊢
      clear hW0
      have HT := Lib.hid ht
      have BA := Lib.hid (BW.out.trans (bA.mono BW.out.size))
      have EA := Lib.hid (EE.out.below bA)
      generalize hlo : wo.heap.size = M at HT hsz ⊢
      clear ht bA hlo EE BW
      go_loopw [171] (fun jv wr => ∃ j : Nat, j ≤ 15 ∧ jv = .int .i64 j ∧ Below W0.heap.size W0 wr) (fun jv _ => 15 - (intOf jv).toNat)
      case atStart => exact ⟨0, by omega, rfl, Below.refl _ _⟩
      case round =>
        obtain ⟨j, hj, rfl, bj⟩ := hrel
        by_cases hjlt : j < 15
        · have hji : (j : Int) < 15 := by omega
          obtain ⟨s, hcs, hs100⟩ := HT.out j hjlt
          have hcs' := (bj.cell (p := ⟨M, j, none⟩) (show M < W0.heap.size by omega)).trans hcs
          have hsm : s.size ≤ maxLen := by unfold maxLen; omega
          have BJ := Lib.hid bj
          have EJ := Lib.hid (EA.out.below bj)
          clear hcs bj hs100
          go_wp2_with fail
          refine (wordsK ArgU.none_ hsm (by omega) (by omega) EJ.out).mono ?_
          rintro e wa ⟨rfl, ba⟩
          have BJ2 := Lib.hid (BJ.out.trans (ba.mono BJ.out.size))
          have EJ2 := Lib.hid (EJ.out.below ba)
          clear ba BJ EJ hcs'
          go_wp2_with fail
          refine (wordsK (ArgU.lit1 _ rfl (by omega) _) hsm (by omega) (by omega) (EJ2.out.alloc _)).mono ?_
          rintro e wb ⟨rfl, bb⟩
          have BJ3 := Lib.hid (BJ2.out.trans ((((Below.refl _ _).alloc (Nat.le_refl _) _).trans (bb.mono (by rw [size_one]; omega))).mono BJ2.out.size))
          clear bb BJ2 EJ2
          go_wp2_with fail
          go_roundw
          case rel => exact ⟨j + 1, by omega, by go_num, BJ3.out⟩
          case measure => simp [intOf]; omega
        · obtain rfl : j = 15 := by omega
          rw [show ((15 : Nat) : Int) = 15 from rfl]
          have BJ := Lib.hid (BA.out.trans (bj.mono BA.out.size))
          have EJ := Lib.hid (EA.out.below bj)
          clear bj HT BA EA hj hjlt hi hilt
          obtain ⟨wo2, rfl⟩ : ∃ wo2 : World, wo2 = wr := ⟨_, rfl⟩
          go_wp2_with fail
          go_loopw [8, 9] (fun sv nv wr => ∃ n : Nat, n ≤ 4096 ∧ nv = .int .i64 n ∧ (∃ s : ByteArray, sv = .string s ∧ s.data.toList = List.replicate n 55) ∧ Below wo2.heap.size wo2 wr) (fun _ nv _ => 4096 - (intOf nv).toNat)
          case atStart => exact ⟨0, by omega, rfl, ⟨_, rfl, rfl⟩, Below.refl _ _⟩
          case round =>
            obtain ⟨n, hn, rfl, ⟨s, rfl, hs⟩, bn⟩ := hrel
            have hs0 : s.size = n := by rw [size_toList, hs, List.length_replicate]
            by_cases hnlt : n < 4096
            · have hni : (n : Int) < 4096 := by omega
              have hsm : s.size < 4096 := by omega
              have hsl : (s ++ (⟨#[55]⟩ : ByteArray)).data.toList = List.replicate (n + 1) 55 := by rw [snoc_list, hs, List.replicate_succ']
              have HS := Lib.hid hsl
              have BN := Lib.hid bn
              clear hs hsl bn hs0
              go_wp2_with fail
              go_roundw
              case rel => exact ⟨n + 1, by omega, by go_num, ⟨_, rfl, HS.out⟩, BN.out⟩
              case measure => simp [intOf]; omega
            · obtain rfl : n = 4096 := by omega
              obtain ⟨hw, hsz2⟩ := sevens hs
              have h7 := snoc_size s 55
              have hx := snoc_size s 120
              have hm7 : (s ++ (⟨#[55]⟩ : ByteArray)).size ≤ maxLen := by unfold maxLen; omega
              have hmx : (s ++ (⟨#[120]⟩ : ByteArray)).size ≤ maxLen := by unfold maxLen; omega
              have HW := Lib.hid hw
              have HZ := Lib.hid hsz2
              have HM7 := Lib.hid hm7
              have HMX := Lib.hid hmx
              have BN := Lib.hid (BJ.out.trans (bn.mono BJ.out.size))
              have EN := Lib.hid (EJ.out.below bn)
              clear h7 hx hw hs hsz2 bn BJ EJ hn hnlt hm7 hmx
              go_wp2_with fail
              refine (parseK HW.out (by rw [HZ.out]; omega)).mono ?_
              rintro e wa ⟨A1, n1, c1, rfl, t1, ba⟩
              have B1a := Lib.hid (BN.out.trans (ba.mono BN.out.size))
              have E1a := Lib.hid (EN.out.below ba)
              have T1 := Lib.hid t1
              clear t1 ba BN EN
              go_wp2_with fail
              refine powK.mono ?_
              rintro e wb ⟨A2, n2, c2, rfl, t2, bb⟩
              have B2a := Lib.hid (B1a.out.trans (bb.mono B1a.out.size))
              have E2a := Lib.hid (E1a.out.below bb)
              have T1b := Lib.hid (T1.out.below bb)
              have T2 := Lib.hid t2
              clear t2 bb B1a E1a T1
              go_wp2_with fail
              refine (putbackK T1b.out HW.out (by rw [HZ.out]; omega) E2a.out).mono ?_
              rintro e wc ⟨rfl, bc⟩
              have B3a := Lib.hid (B2a.out.trans (bc.mono B2a.out.size))
              have E3a := Lib.hid (E2a.out.below bc)
              have T2b := Lib.hid (T2.out.below bc)
              clear bc B2a E2a T1b T2
              go_wp2_with fail
              refine (puttenK T2b.out E3a.out).mono ?_
              rintro e wd ⟨s2, rfl, hs2, bd⟩
              have B4a := Lib.hid (B3a.out.trans (bd.mono B3a.out.size))
              have E4a := Lib.hid (E3a.out.below bd)
              clear bd B3a E3a T2b
              go_wp2_with fail
              refine (wordsK ArgU.none_ HM7.out (by omega) (by omega) E4a.out).mono ?_
              rintro e we ⟨rfl, be⟩
              have B5a := Lib.hid (B4a.out.trans (be.mono B4a.out.size))
              have E5a := Lib.hid (E4a.out.below be)
              clear be B4a E4a
              go_wp2_with fail
              refine (wordsK ArgU.none_ HMX.out (by omega) (by omega) E5a.out).mono ?_
              rintro e wf ⟨rfl, bf⟩
              have B6a := Lib.hid (B5a.out.trans (bf.mono B5a.out.size))
              have E6a := Lib.hid (E5a.out.below bf)
              clear bf B5a E5a
              go_wp2_with fail
              refine (mulK ArgU.none_ ArgU.none_ ArgL.none_ E6a.out).mono ?_
              rintro e wg ⟨rfl, bg⟩
              have B7a := Lib.hid (B6a.out.trans (bg.mono B6a.out.size))
              have E7a := Lib.hid (E6a.out.below bg)
              clear bg B6a E6a
              go_wp2_with fail
              refine (works_any _ E7a.out).mono ?_
              rintro e wh ⟨rfl, bh⟩
              have B8a := Lib.hid (B1.out.trans ((B7a.out.trans (bh.mono B7a.out.size)).mono B1.out.size))
              clear bh B7a E7a
              go_wp2_with fail
              go_ret
              exact ⟨rfl, B8a.out⟩
end Go.Proofs.YthicpakanhhipaaGreatDoor
