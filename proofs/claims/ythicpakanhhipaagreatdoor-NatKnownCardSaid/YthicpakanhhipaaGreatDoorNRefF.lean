/- tallageref02: Put: what each call answers. -/
import Derived.Test.YthicpakanhhipaaGreatDoorNRefE
namespace Go.Proofs.YthicpakanhhipaaGreatDoor
open Go Go.RowKit


/-- A digit's text. -/
theorem dig_text : ∀ k : Nat, k < 10 → ((⟨#[48, 49, 50, 51, 52, 53, 54, 55, 56, 57]⟩ : ByteArray).extract k (k + 1)).data.toList = [UInt8.ofNat (48 + k)] := by decide
theorem dig_front {k : Nat} (hk : k < 10) (t : ByteArray) : ((⟨#[48, 49, 50, 51, 52, 53, 54, 55, 56, 57]⟩ : ByteArray).extract k (k + 1) ++ t).data.toList = UInt8.ofNat (48 + k) :: t.data.toList := by
  rw [ByteArray.data_append, Array.toList_append, dig_text k hk]; rfl
theorem dig_size {k : Nat} (hk : k < 10) (t : ByteArray) : ((⟨#[48, 49, 50, 51, 52, 53, 54, 55, 56, 57]⟩ : ByteArray).extract k (k + 1) ++ t).size = t.size + 1 := by
  show (_ ++ t : ByteArray).data.size = _
  rw [← Array.length_toList, dig_front hk]
  simp

set_option maxHeartbeats 4000000 in
theorem bput_any {w : World} {B : Nat} {A : Option Addr} {n c : Nat} {xs : List Int} (hs : Sl .u8 w B A n c xs) (hB : B ≤ w.heap.size) (hx : Dg 2 xs) (hn : n ≤ 400000000) :
    Calls Tryz.prog 25 #[.slice A n c] w (PutB w (val 2 xs)) := by
  have hX := tl_Dg hx
  have hll : (tl xs).length ≤ 400000000 := by have := tl_len xs; have := hs.len; omega
  have XV := Lib.hid (tl_val 2 xs)
  have XZ := Lib.hid (Tr.zero (β := 2) (by decide) hX (tl_idem xs))
  have XT := tl_idem xs
  go_enter Tryz.func25, Tryz.ntmps25
  go_wp2_with fail
  refine (btrim_any hs).mono ?_
  rintro e w' ⟨⟨n', rfl, hs'⟩, rfl⟩
  have hl' := hs'.len
  generalize tl xs = X at *
  clear hs
  by_cases h0 : n' = 0
  · subst h0
    have hv : val 2 xs = 0 := by rw [← XV.out, List.eq_nil_of_length_eq_zero hl']; rfl
    have HV := Lib.hid hv
    clear hv XZ
    go_wp2_with fail
    go_ret
    exact ⟨_, rfl, by rw [HV.out]; rfl, Below.refl _ _⟩
  · have hpos : 0 < val 2 X := by
      have := val_nonneg (β := 2) (by decide) hX
      rcases Int.lt_or_le 0 (val 2 X) with h | h
      · exact h
      · have := XZ.out (by omega); subst this; simp at hl'; omega
    have HP := Lib.hid (show putL (val 2 xs).toNat = decL (val 2 X).toNat by rw [← XV.out]; exact if_neg (by omega))
    have hlen : ((n' : Int) == 0) = false := beq_eq_false_iff_ne.2 (by omega)
    clear XZ XV hpos
    go_wp2_with fail
    go_loopw [0, 3] (fun av ov wr => ∃ (n3 c3 : Nat) (A3 : Option Addr) (O : List Int) (t : ByteArray), av = .slice A3 n3 c3 ∧ ov = .string t ∧ n3 ≤ 400000000 ∧ Sl .u8 wr wr.heap.size A3 n3 c3 O ∧ Below w.heap.size w wr ∧ Dg 2 O ∧ Tr O ∧ t.size + n3 ≤ 400000001 ∧
        decL (val 2 X).toNat = decL (val 2 O).toNat ++ t.data.toList) (fun av _ wr => rdv wr av)
    case atStart => exact ⟨n', c, A, X, _, rfl, rfl, by omega, hs'.more hB, Below.refl _ _, hX, XT, by show 0 + n' ≤ _; omega, by show _ = _ ++ []; simp⟩
    case round =>
      clear hs' hl' hll
      obtain ⟨n3, c3, A3, O, t, rfl, rfl, hn3, ho, hbw, dO, tO, hts, hdec⟩ := hrel
      have hol := ho.len
      by_cases hz : n3 = 0
      · subst hz
        have HF := Lib.hid (show t.data.toList = putL (val 2 xs).toNat by
          rw [HP.out, hdec, List.eq_nil_of_length_eq_zero hol]
          show _ = decL 0 ++ _
          rw [decL_zero]; rfl)
        clear hdec
        go_wp2_with fail
        go_ret
        exact ⟨t, rfl, HF.out, hbw⟩
      · have v0 := val_nonneg (β := 2) (by decide) dO
        have hpos : 0 < val 2 O := by
          rcases Int.lt_or_le 0 (val 2 O) with h | h
          · exact h
          · have := Tr.zero (β := 2) (by decide) dO tO (by omega); subst this; simp at hol; omega
        have hlt := Lib.hid (show val 2 O < 2 ^ n3 by rw [← hol]; exact val_lt (by decide) dO)
        have hge := Lib.hid (val_ge dO tO (by omega))
        have HPOS := Lib.hid hpos
        have HDEC := Lib.hid hdec
        have hmeas := Lib.hid ho.rdv
        clear hpos hdec
        go_wp2_with fail
        refine (bsmall_any (by omega)).mono ?_
        rintro e w1 ⟨zs, Az, nz, cz, rfl, hrz, hsz, hb1⟩
        have hnz : nz ≤ 4 := by have := row_len (k := 4) hrz (by decide); have := hsz.len; omega
        have hbw1 := hbw.trans (hb1.mono hbw.size)
        have ho1 := (ho.below hb1 (Nat.le_refl _)).more hb1.size
        have dz := hrz.dg
        have vz := hrz.val
        clear hbw hb1 ho hrz
        go_wp2_with fail
        refine (bdivmod_any ho1 hsz (Nat.le_refl _) dO dz (by omega) (by omega) (by rw [vz]; omega)).mono ?_
        rintro e w2 ⟨qs, rs, A5, n5, c5, A6, n6, c6, rfl, rq, rr, s5, s6, b2⟩
        rw [vz] at rq rr
        have hbw2 := hbw1.trans (b2.mono hbw1.size)
        have hn6 : n6 ≤ 4 := by have := row_len (k := 4) rr (by omega); have := s6.len; omega
        have d6 := rr.dg
        have v6 := Lib.hid rr.val
        have r0 := Lib.hid (show 0 ≤ val 2 O % 10 ∧ val 2 O % 10 < 10 by omega)
        have RQ := Lib.hid rq
        clear ho1 hsz dz vz hbw1 b2 rr rq
        go_wp2_with fail
        refine (blimbs_any s6 (Nat.le_refl _) d6 (by omega)).mono ?_
        rintro e w3 ⟨ls, A7, n7, c7, rfl, hrl, s7, b3⟩
        rw [v6.out] at hrl
        have hbw3 := hbw2.trans (b3.mono hbw2.size)
        have s53 := (s5.below b3 (Nat.le_refl _)).more b3.size
        have hl7 := s7.len
        clear s6 d6 v6 hbw2 b3 s5
        have hn5 : n5 + 1 ≤ n3 := by
          obtain ⟨k, hk⟩ : ∃ k, n3 = k + 1 := ⟨n3 - 1, by omega⟩
          have := row_len (k := k) RQ.out (by have := hlt.out; rw [hk, Int.pow_succ] at this; omega)
          have := s53.len
          omega
        have hd2 : decL (val 2 X).toNat = decL (val 2 qs).toNat ++ (UInt8.ofNat (48 + (val 2 O % 10).toNat) :: t.data.toList) := by
          rw [HDEC.out, decL_pos (show 0 < (val 2 O).toNat by have := HPOS.out; omega), RQ.out.val, show (val 2 O / 10).toNat = (val 2 O).toNat / 10 by omega, show (val 2 O % 10).toNat = (val 2 O).toNat % 10 by omega, List.append_assoc]
          rfl
        have hms : (val 2 qs).toNat < (val 2 O).toNat := by rw [RQ.out.val]; have := HPOS.out; omega
        have HM := Lib.hid (show rdv w3 (.slice A5 n5 c5) < rdv wr (.slice A3 n3 c3) by rw [s53.rdv, hmeas.out]; exact hms)
        have HD2 := Lib.hid hd2
        have dQ := RQ.out.dg
        have tQ := RQ.out.tr
        have R0 := r0.out
        clear hd2 hms hmeas HDEC hlt hge r0 v0 RQ
        generalize val 2 O % 10 = r at *
        clear dO tO hol HPOS
        rcases (show r = 0 ∨ 0 < r by omega) with rfl | hr
        · have : ls = [] := Tr.zero (β := 4294967296) (by decide) hrl.dg hrl.tr hrl.val
          subst this
          obtain rfl : n7 = 0 := hl7.symm
          clear hrl s7 R0
          go_wp2_with fail
          go_roundw
          case rel => exact ⟨n5, c5, A5, qs, _, rfl, rfl, by omega, s53, hbw3, dQ, tQ, by rw [dig_size (k := 0) (by omega)]; omega, by rw [dig_front (k := 0) (by omega)]; exact HD2.out⟩
          case measure => exact HM.out
        · obtain ⟨k, rfl⟩ : ∃ k : Nat, r = k := ⟨r.toNat, by omega⟩
          have he : ls = [(k : Int)] := hrl.uniq (by decide) ⟨Dg.cons (by omega) Dg.nil, tl_snoc_ne [] (by omega), by simp [val]⟩
          subst he
          obtain rfl : n7 = 1 := hl7.symm
          obtain ⟨b, off, x, rfl, _, ex, hcell⟩ := s7.at_ (j := 0) (by omega)
          have hxk : x = (k : Int) := by simpa using ex.symm
          subst hxk
          have hk10 : k < 10 := by omega
          rw [Nat.add_zero] at hcell
          clear hrl s7 hr ex
          go_wp2_with fail
          go_roundw
          case rel => exact ⟨n5, c5, A5, qs, _, rfl, rfl, by omega, s53, hbw3, dQ, tQ, by rw [dig_size hk10]; omega, by rw [dig_front hk10]; exact HD2.out⟩
          case measure => exact HM.out
end Go.Proofs.YthicpakanhhipaaGreatDoor
