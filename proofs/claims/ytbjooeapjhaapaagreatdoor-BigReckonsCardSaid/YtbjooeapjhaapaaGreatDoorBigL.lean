/- big: Put, Parse; strings.CutPrefix of a minus: what each call answers. -/
import Derived.Test.YtbjooeapjhaapaaGreatDoorBigK
import Derived.Test.YtbjooeapjhaapaaGreatDoorNatK
import Derived.Test.YtbjooeapjhaapaaGreatDoorBRefH
import Derived.Test.YtbjooeapjhaapaaGreatDoorMathU
namespace Go.Proofs.YtbjooeapjhaapaaGreatDoor
open Go Go.RowKit

/-- A minus ahead, and what is behind it. -/
def headB (s : ByteArray) : Bool × ByteArray := if h : 0 < s.size then (if (s[0].toNat : Int) = 45 then (true, s.extract 1 s.size) else (false, s)) else (false, s)
theorem hasPrefix_no {w : World} (s : ByteArray) (h : s.size = 0) : Calls Tryz.prog 107 #[.string s, .string ⟨#[45]⟩] w fun e w' => e = .returned (.bool false) ∧ w = w' := by
  have h1 : ¬ (1 ≤ s.size) := by omega
  go_enter Tryz.func107, Tryz.ntmps107
  go_wp2_with fail
  go_ret
  exact ⟨rfl, rfl⟩
theorem ext_one (s : ByteArray) (h : 0 < s.size) : ((s.extract 0 1).toList == [45]) = decide ((s[0].toNat : Int) = 45) := by
  have e : (s.extract 0 1).toList = [s[0]] := by
    rw [ByteArray.toList_eq]
    have h2 : 0 < s.data.toList.length := by simpa using h
    have : (s.extract 0 1).data.toList = s.data.toList.take 1 := by
      rw [ByteArray.data_extract]
      simp
    rw [this, List.take_succ_eq_append_getElem (by simpa using h)]
    rfl
  rw [e]
  by_cases hc : s[0] = 45
  · rw [hc]; rfl
  · have h3 : ([s[0]] == [45]) = false := by rw [beq_eq_false_iff_ne]; intro h; injection h with h; exact hc h
    have h4 : ¬ ((s[0].toNat : Int) = 45) := fun h => hc (UInt8.toNat_inj.1 (by show s[0].toNat = 45; omega))
    rw [h3, decide_eq_false h4]
theorem hasPrefix_one {w : World} (s : ByteArray) (h : 0 < s.size) (hsz : s.size ≤ maxLen) : Calls Tryz.prog 107 #[.string s, .string ⟨#[45]⟩] w fun e w' => e = .returned (.bool (decide ((s[0].toNat : Int) = 45))) ∧ w = w' := by
  have h1 : (1 : Int) ≤ s.size := by omega
  have HX := Lib.hid (ext_one s h)
  unfold maxLen at hsz
  go_enter Tryz.func107, Tryz.ntmps107
  go_wp2_with fail
  rw [HX.out]
  go_ret
  exact ⟨rfl, rfl⟩
/-- What CutPrefix answers of a minus. -/
def CutPR (s : ByteArray) (e : Ending) : Prop := e = .returned (.tuple #[.string (headB s).2, .bool (headB s).1])
theorem headB_yes {s : ByteArray} (h : 0 < s.size) (h45 : (s[0].toNat : Int) = 45) : headB s = (true, s.extract 1 s.size) := by unfold headB; rw [dif_pos h, if_pos h45]
theorem headB_no {s : ByteArray} (h : ∀ h : 0 < s.size, (s[0].toNat : Int) ≠ 45) : headB s = (false, s) := by
  unfold headB
  by_cases h0 : 0 < s.size
  · rw [dif_pos h0, if_neg (h h0)]
  · rw [dif_neg h0]
theorem cutlite_any {w : World} (s : ByteArray) (hsz : s.size ≤ maxLen) : Calls Tryz.prog 86 #[.string s, .string ⟨#[45]⟩] w fun e w' => CutPR s e ∧ w = w' := by
  unfold CutPR
  by_cases h0 : s.size = 0
  · rw [headB_no (fun h => by omega)]
    have HP := Lib.hid (hasPrefix_no (w := w) s h0)
    go_enter Tryz.func86, Tryz.ntmps86
    go_wp2_with fail
    refine HP.out.mono ?_
    rintro e w' ⟨rfl, rfl⟩
    go_wp2_with fail
    go_ret2
    exact ⟨rfl, rfl⟩
  · have hp : 0 < s.size := by omega
    have HP := Lib.hid (hasPrefix_one (w := w) s hp hsz)
    by_cases h45 : (s[0].toNat : Int) = 45
    · rw [headB_yes hp h45]
      rw [decide_eq_true h45] at HP
      have h1 : (1 : Int) ≤ s.size := by omega
      clear h0
      go_enter Tryz.func86, Tryz.ntmps86
      go_wp2_with fail
      refine HP.out.mono ?_
      rintro e w' ⟨rfl, rfl⟩
      go_wp2_with fail
      go_ret2
      exact ⟨rfl, rfl⟩
    · rw [headB_no (fun _ => h45)]
      rw [decide_eq_false h45] at HP
      go_enter Tryz.func86, Tryz.ntmps86
      go_wp2_with fail
      refine HP.out.mono ?_
      rintro e w' ⟨rfl, rfl⟩
      go_wp2_with fail
      go_ret2
      exact ⟨rfl, rfl⟩
theorem cutp_any {w : World} (s : ByteArray) (hsz : s.size ≤ maxLen) : Calls Tryz.prog 63 #[.string s, .string ⟨#[45]⟩] w fun e w' => CutPR s e ∧ w = w' := by
  have HP := Lib.hid (cutlite_any (w := w) s hsz)
  unfold CutPR at HP ⊢
  generalize (headB s).2 = t at *
  generalize (headB s).1 = b at *
  go_enter Tryz.func63, Tryz.ntmps63
  go_wp2_with fail
  refine HP.out.mono ?_
  rintro e w' ⟨rfl, rfl⟩
  go_wp2_with fail
  go_ret2
  exact ⟨rfl, rfl⟩
theorem headB_size (s : ByteArray) : (headB s).2.size ≤ s.size := by
  unfold headB
  split
  · split
    · simp
    · exact Nat.le_refl _
  · exact Nat.le_refl _
/-- What Parse answers, of a sign and the text behind it. -/
def ParseS (w : World) (b : Bool) (t : ByteArray) (e : Ending) (w' : World) : Prop :=
  (¬ Written t ∧ e = .returned (.tuple #[.agg #[.bool false, .slice none 0 0], .int .i64 60]) ∧ Below w.heap.size w w') ∨
  (Written t ∧ 4096 < t.size ∧ e = .returned (.tuple #[.agg #[.bool false, .slice none 0 0], .int .i64 3]) ∧ Below w.heap.size w w') ∨
  (Written t ∧ t.size ≤ 4096 ∧ b = true ∧ dval t.data.toList = 0 ∧ e = .returned (.tuple #[.agg #[.bool false, .slice none 0 0], .int .i64 2]) ∧ Below w.heap.size w w') ∨
  (Written t ∧ t.size ≤ 4096 ∧ (b = true → dval t.data.toList ≠ 0) ∧ ∃ s1 xs A n c, Whole (sgv b (dval t.data.toList)) s1 xs ∧ e = .returned (.tuple #[.agg #[.bool s1, .slice A n c], .int .i64 0]) ∧ Own .u32 66 w' w.heap.size A n c xs ∧ Below w.heap.size w w')
/-- What Parse answers, of a whole number's text. -/
def ParseI (w : World) (s : ByteArray) (e : Ending) (w' : World) : Prop := ParseS w (headB s).1 (headB s).2 e w'
set_option maxRecDepth 20000 in
set_option maxHeartbeats 4000000 in
theorem bparsei_any {w : World} (s : ByteArray) (hsz : s.size ≤ maxLen) : Calls Tryz.prog 32 #[.string s] w (ParseI w s) := by
  have hsz2 := Nat.le_trans (headB_size s) hsz
  unfold ParseI
  have HC := fun W => cutp_any (w := W) s hsz
  unfold CutPR at HC
  generalize (headB s).2 = t at *
  generalize (headB s).1 = b at *
  have HC := Lib.hid HC
  obtain ⟨b0, b1, b2, b3, hlt, hb0⟩ := box_new (w := w) (v0 := .bool false) (v1 := .slice none 0 0) (t := 24) (Below.refl _ _)
  have BX := Lib.hid (show Boxed (w.alloc (.cells #[.bool false, .slice none 0 0] 24)) w.heap.size (.bool false) (.slice none 0 0) from ⟨b0, b1, b2, b3⟩)
  have B0 := Lib.hid hb0
  have HL := Lib.hid hlt
  clear hb0 b0 b1 b2 b3 hlt
  go_enter Tryz.func32, Tryz.ntmps32
  go_wp2_with fail
  generalize w.alloc (.cells #[.bool false, .slice none 0 0] 24) = W0 at B0 BX HL ⊢
  refine (HC.out _).mono ?_
  rintro e w1 ⟨rfl, rfl⟩
  go_wp2_with fail
  refine (Parse_any t hsz2).mono ?_
  rintro e w1 (⟨hw, rfl, hb⟩ | ⟨hw, hl, rfl, hb⟩ | ⟨hw, hl, ys, A, n, c, hr, rfl, ho, hb⟩)
  · have HW := Lib.hid hw
    have HB := Lib.hid (B0.out.trans (hb.mono B0.out.size))
    obtain ⟨q0, q1, q2, q3⟩ := BX.out.below hb HL.out
    clear hb hw
    go_wp2_with fail
    refine bodyPost_ret (v := .tuple #[.agg #[.bool false, .slice none 0 0], .int .i64 60]) ?_ rfl (.inl ⟨HW.out, rfl, (HB.out.setCell (p := ⟨w.heap.size, 0, none⟩) (Nat.le_refl _) _).setCell (p := ⟨w.heap.size, 1, none⟩) (Nat.le_refl _) _⟩)
    simp only [results, Tryz.results32]
    go_simp
  · have HW := Lib.hid hw
    have HB := Lib.hid (B0.out.trans (hb.mono B0.out.size))
    obtain ⟨q0, q1, q2, q3⟩ := BX.out.below hb HL.out
    clear hb hw
    go_wp2_with fail
    refine bodyPost_ret (v := .tuple #[.agg #[.bool false, .slice none 0 0], .int .i64 3]) ?_ rfl (.inr (.inl ⟨HW.out, hl, rfl, (HB.out.setCell (p := ⟨w.heap.size, 0, none⟩) (Nat.le_refl _) _).setCell (p := ⟨w.heap.size, 1, none⟩) (Nat.le_refl _) _⟩))
    simp only [results, Tryz.results32]
    go_simp
  · have hlen := ho.len
    have HW := Lib.hid hw
    have HB := Lib.hid (B0.out.trans (hb.mono B0.out.size))
    have HBX := Lib.hid (BX.out.below hb HL.out)
    have HL1 := Lib.hid (Nat.lt_of_lt_of_le HL.out hb.size)
    have HO := Lib.hid ho
    have HR := Lib.hid hr
    have hd0 := row_dig hr
    obtain ⟨q0, q1, q2, q3⟩ := BX.out.below hb HL.out
    clear hb hw ho hr
    by_cases hz : b = true ∧ n = 0
    · obtain ⟨rfl, rfl⟩ := hz
      have HD := Lib.hid (show dval t.data.toList = 0 by rw [← HR.out.val, List.eq_nil_of_length_eq_zero hlen]; rfl)
      go_wp2_with fail
      refine bodyPost_ret (v := .tuple #[.agg #[.bool false, .slice none 0 0], .int .i64 2]) ?_ rfl (.inr (.inr (.inl ⟨HW.out, hl, rfl, HD.out, rfl, (HB.out.setCell (p := ⟨w.heap.size, 0, none⟩) (Nat.le_refl _) _).setCell (p := ⟨w.heap.size, 1, none⟩) (Nat.le_refl _) _⟩)))
      simp only [results, Tryz.results32]
      go_simp
    · have HN := Lib.hid (show b = true → dval t.data.toList ≠ 0 from fun hb h0 => hz ⟨hb, by
        have := Tr.zero (by decide) HR.out.dg HR.out.tr (HR.out.val.trans h0)
        rw [this] at hlen
        exact hlen.symm⟩)
      have HWh := Lib.hid (Whole.num (s := b) HR.out hd0 hlen)
      rcases b with _ | _
      case' true => have hn0 : ((n : Int) == 0) = false := beq_eq_false_iff_ne.2 (fun h => hz ⟨rfl, by omega⟩)
      all_goals
        clear hz
        go_wp2_with fail
        refine number_any.mono ?_
        rintro e w3 ⟨rfl, hb⟩
        have HB3 := Lib.hid (HB.out.trans (hb.mono HB.out.size))
        have HO3 := Lib.hid (HO.out.below hb)
        clear q0 q1 q2 q3
        obtain ⟨q0, q1, q2, q3⟩ := HBX.out.below hb HL1.out
        clear hb
        go_wp2_with fail
        refine bodyPost_ret (v := .tuple #[.agg #[.bool (sgnOf _ n), .slice A n c], .int .i64 0]) ?_ rfl (.inr (.inr (.inr ⟨HW.out, hl, fun h => HN.out (by first | trivial | (simp at h)), _, ys, A, n, c, HWh.out, rfl, ((HO3.out.box HL.out 0 _).box HL.out 1 _).lower (by have := B0.out.size; omega), (HB3.out.setCell (p := ⟨w.heap.size, 0, none⟩) (Nat.le_refl _) _).setCell (p := ⟨w.heap.size, 1, none⟩) (Nat.le_refl _) _⟩)))
        simp only [results, Tryz.results32]
        go_simp
set_option maxRecDepth 20000 in
set_option maxHeartbeats 4000000 in
theorem bput_any {w : World} {B : Nat} {s : Bool} {A : Option Addr} {n c : Nat} {xs : List Int} (hs : Sl .u32 w B A n c xs) (hB : B ≤ w.heap.size) (hx : Dg 4294967296 xs) (hn : n ≤ 100000000) (hN : ((ival s xs).natAbs : Int) < 1000000000 ^ 456) (hE : Env w) :
    Calls Tryz.prog 37 #[.agg #[.bool s, .slice A n c]] w (TextI w (putI (ival s xs))) := by
  obtain ⟨s', A', n', c', xs', hp⟩ := PlOut.ex s A n c xs
  obtain ⟨f1, f2, f3, f4, f5⟩ := hp.facts hs hx
  have h0 := val_nonneg (β := 4294967296) (by decide) f2
  have hpos := fun h => rgt_pos f2 f3 h
  generalize ival s xs = N at f4 hN ⊢
  have hv : val 4294967296 xs' < 1000000000 ^ 456 := by
    have := sgv_abs (s := s') h0
    rw [f4] at this
    omega
  have HV := Lib.hid hv
  have HS := Lib.hid hs
  have HP := Lib.hid hp
  have F2 := Lib.hid f2
  have HE := Lib.hid hE
  clear hs hp f2 f3 hE hv hN
  obtain ⟨b0, b1, b2, b3, hlt, hb0⟩ := box_new (w := w) (v0 := .bool s) (v1 := .slice A n c) (t := 24) (Below.refl _ _)
  have BX := Lib.hid (show Boxed (w.alloc (.cells #[.bool s, .slice A n c] 24)) w.heap.size (.bool s) (.slice A n c) from ⟨b0, b1, b2, b3⟩)
  have B0 := Lib.hid hb0
  have HL := Lib.hid hlt
  clear hb0 b0 b1 b2 b3 hlt
  go_enter Tryz.func37, Tryz.ntmps37
  go_wp2_with fail
  generalize w.alloc (.cells #[.bool s, .slice A n c] 24) = W0 at B0 BX HL ⊢
  refine (counted_out HP.out (HS.out.below B0.out hB) (Nat.le_trans hB B0.out.size)).mono ?_
  rintro e w1 ⟨rfl, hb⟩
  have B1 := Lib.hid (B0.out.trans (hb.mono B0.out.size))
  obtain ⟨b0, b1, b2, b3, hlt, hb2⟩ := box_new (w := w1) (v0 := .bool s') (v1 := .slice A' n' c') (t := 74) (Below.refl _ _)
  have B2 := Lib.hid (B1.out.trans (hb2.mono B1.out.size))
  have HS2 := Lib.hid (f1.below B2.out hB)
  have HE2 := Lib.hid (HE.out.below B2.out)
  clear b0 b1 b2 b3 hb2 HS HP B0 BX HL hb
  rcases s' with _ | _
  · have HN := Lib.hid (show putI N = putL (val 4294967296 xs').toNat by
      rw [sgv_false] at f4
      unfold putI
      rw [if_neg (by omega)]
      congr 1
      omega)
    clear hpos f4
    go_wp2_with fail
    generalize w1.alloc (.cells #[.bool false, .slice A' n' c'] 74) = W2 at B2 HS2 hlt HE2 ⊢
    refine (Put_any HS2.out (Nat.le_trans hB B2.out.size) F2.out (by omega) HV.out HE2.out).mono ?_
    rintro e w3 ⟨u, rfl, hu, hb⟩
    have HU := Lib.hid hu
    have B3 := Lib.hid (B2.out.trans (hb.mono B2.out.size))
    clear hb hu
    go_wp2_with fail
    go_ret
    exact ⟨_, rfl, by rw [HN.out]; exact HU.out, B3.out⟩
  · have HN := Lib.hid (show putI N = 45 :: putL (val 4294967296 xs').toNat by
      have := hpos rfl
      rw [sgv_true] at f4
      unfold putI
      rw [if_pos (by omega)]
      congr 2
      omega)
    clear hpos f4
    go_wp2_with fail
    generalize w1.alloc (.cells #[.bool true, .slice A' n' c'] 74) = W2 at B2 HS2 hlt HE2 ⊢
    refine (Put_any HS2.out (Nat.le_trans hB B2.out.size) F2.out (by omega) HV.out HE2.out).mono ?_
    rintro e w3 ⟨u, rfl, hu, hb⟩
    have hus : u.size ≤ 100000 := by
      have e : u.data.toList.length = u.size := by simp
      have := putL_len HV.out
      rw [← hu] at this
      omega
    have hus2 : ¬ 9223372036854775807 < 1 + u.size := by omega
    have HU := Lib.hid hu
    have B3 := Lib.hid (B2.out.trans (hb.mono B2.out.size))
    clear hb hu
    go_wp2_with fail
    go_ret
    exact ⟨_, rfl, by rw [HN.out, ← HU.out]; simp, B3.out⟩
end Go.Proofs.YtbjooeapjhaapaaGreatDoor
