/- limb: takeFrom, Sub, MulSmall, DivSmall: what each call answers, and leaves. -/
import Derived.Test.YthicpakanhhipaaGreatDoorLimbB
namespace Go.Proofs.YthicpakanhhipaaGreatDoor
open Go Go.RowKit

theorem sub32_zero (x c : Int) (w : World) (hx : 0 ≤ x ∧ x < 4294967296) (hc : 0 ≤ c ∧ c ≤ 1) :
    Calls Tryz.prog 92 #[.int .u32 x, .int .u32 0, .int .u32 c] w fun e w' => e = .returned (.tuple #[.int .u32 ((x - c) % 4294967296), .int .u32 (bor x 0 c)]) ∧ w = w' := by
  have := sub32_any x 0 c w hx (by omega) hc
  rw [Int.sub_zero] at this
  exact this
theorem add32_c0 (x y : Int) (w : World) (hx : 0 ≤ x ∧ x < 4294967296) (hy : 0 ≤ y ∧ y < 4294967296) :
    Calls Tryz.prog 65 #[.int .u32 x, .int .u32 y, .int .u32 0] w fun e w' => e = .returned (.tuple #[.int .u32 ((x + y) % 4294967296), .int .u32 ((x + y) / 4294967296)]) ∧ w = w' := by
  have := add32_any x y 0 w hx hy (by omega)
  rw [Int.add_zero] at this
  exact this

set_option maxHeartbeats 1000000 in
theorem takeFrom_any {w : World} {B : Nat} {A A2 : Option Addr} {n c m c2 : Nat} {S X : List Int} (ho : Own .u32 27 w B A n c S) (ht : Sl .u32 w B A2 m c2 X) (hB : B ≤ w.heap.size) (hS : Dg 4294967296 S) (hX : Dg 4294967296 X) (hmn : m ≤ n)
    (hfit : val 4294967296 X ≤ val 4294967296 S) :
    Calls Tryz.prog 106 #[.slice A n c, .slice A2 m c2] w (PutR (-1) w B A n c S X) := by
  have hlen := ho.len
  have htl := ht.len
  have hn := ho.sl.lenMax
  have hm := ht.lenMax
  have HF := Lib.hid hfit
  clear hfit
  go_enter Tryz.func106, Tryz.ntmps106
  go_wp2_with fail
  go_loopw [4, 10] (fun cv iv wr => ∃ (i : Nat) (cr : Int), i ≤ m ∧ iv = .int .i64 i ∧ cv = .int .u32 cr ∧ PutI (-1) w B A n c S X i cr wr) (fun _ iv _ => m - (intOf iv).toNat)
  case atStart => exact ⟨0, 0, Nat.zero_le _, rfl, rfl, S, ho, .start hS, World.grownBy.refl _ _⟩
  case round =>
    obtain ⟨i, cr, hi, rfl, rfl, hinv⟩ := hrel
    have hgr : w.grownBy wr (blk A) := hinv.choose_spec.2.2
    by_cases hlt : i < m
    · obtain ⟨g, s, rfl, hBg, hs, hcr, hcell, hfr, hput⟩ := hinv.set (i := i) (by omega)
      obtain ⟨b2, off2, x, rfl, _, ex, hc2⟩ := (ht.grown hgr hB (fun k hk => by have : g = k := by simpa [blk] using hk
                                                                                omega)).at_ hlt
      have hxx := hX.get ex
      have hin : i < n := by omega
      have had := sub_digit hs hxx hcr rfl rfl
      have hnext := Lib.hid (hput ((s - x - cr) % 4294967296) x (bor s x cr) (by simp [ex]) had.1 had.2.1 had.2.2)
      clear hput hgr hinv ho ht had
      go_wp2_with (go_at_call 92; refine (sub32_any _ _ _ _ hs hxx hcr).mono ?_; rintro e w' ⟨rfl, rfl⟩)
      go_roundw
      case rel => exact ⟨i + 1, _, by omega, by go_num, rfl, hnext.out⟩
      case measure => simp [intOf] <;> omega
    · obtain rfl : m = i := by omega
      clear hgr
      go_wp2_with fail
      go_loopw [4, 7] (fun cv iv wr => ∃ (i : Nat) (cr : Int), m ≤ i ∧ i ≤ n ∧ iv = .int .i64 i ∧ cv = .int .u32 cr ∧ PutI (-1) w B A n c S X i cr wr) (fun _ iv _ => n - (intOf iv).toNat)
      case atStart => exact ⟨m, cr, Nat.le_refl _, hmn, rfl, rfl, hinv⟩
      case round =>
        obtain ⟨i, cr, hi, hin, rfl, rfl, hinv⟩ := hrel
        by_cases h0 : cr = 0
        · subst h0
          obtain ⟨S1, h1, h2, h3⟩ := hinv
          go_wp2_with fail
          go_end0
          exact ⟨rfl, S1, h1, h2.dg, by rw [h2.stop (by omega) (by omega)], h3⟩
        · have hb : (cr != 0) = true := by rw [bne_iff_ne]; exact h0
          have hlt2 : i < n := by
            obtain ⟨S1, h1, h2, h3⟩ := hinv
            have := h2.roomDown (by decide) (by omega) (by omega) h0 HF.out
            omega
          obtain ⟨g, s, rfl, hBg, hs, hcr, hcell, hfr, hput⟩ := hinv.set (i := i) hlt2
          have had := sub_digit (x := 0) hs (by decide) hcr rfl rfl
          rw [Int.sub_zero] at had
          have hnext := Lib.hid (hput ((s - cr) % 4294967296) 0 (bor s 0 cr) (by rw [List.getElem?_eq_none (by omega)]; rfl) had.1 had.2.1 had.2.2)
          clear hput hinv ho ht had
          go_wp2_with (go_at_call 92; refine (sub32_zero _ _ _ hs hcr).mono ?_; rintro e w' ⟨rfl, rfl⟩)
          go_roundw
          case rel => exact ⟨i + 1, _, by omega, by omega, by go_num, rfl, hnext.out⟩
          case measure => simp [intOf] <;> omega

/-- A number in new memory: its row. -/
def NewN (w : World) (N : Int) (e : Ending) (w' : World) : Prop := ∃ ys, Row 4294967296 N ys ∧ NewU w ys e w'

theorem Own.used {w wr : World} {B B2 : Nat} {A A' : Option Addr} {n c n' c' : Nat} {xs : List Int} (h : Own .u32 27 w B A n c xs) (hs : Sl .u32 wr B2 A' n' c' (tl xs)) (hA : (A' = none ∧ n' = 0 ∧ c' = 0) ∨ (A' = A ∧ c' = c ∧ 0 < n')) :
    Own .u32 27 w B A' n' c' (tl xs) := by
  have hl := hs.len
  rcases hA with ⟨rfl, rfl, rfl⟩ | ⟨rfl, rfl, h0⟩
  · rw [List.eq_nil_of_length_eq_zero hl]; exact Own.nil
  · have h1 := tl_len xs
    have h2 := h.len
    have hne : A' ≠ none := by
      rintro rfl
      rcases h.form with ⟨_, h3, _⟩ | ⟨g, h3, _⟩
      · omega
      · cases h3
    have := h.front (m := n') (by omega) hne
    have e := tl_take xs
    rw [hl] at e
    rw [e]
    exact this

set_option maxHeartbeats 400000 in
theorem MulSmall_any {w : World} {B : Nat} {A : Option Addr} {n c : Nat} {xs : List Int} {m : Int} (hs : Sl .u32 w B A n c xs) (hB : B ≤ w.heap.size) (hx : Dg 4294967296 xs) (hm : 0 ≤ m ∧ m < 4294967296) (hn : n ≤ 1000000000) :
    Calls Tryz.prog 43 #[.slice A n c, .int .u32 m] w (NewN w (m * val 4294967296 xs)) := by
  go_enter Tryz.func43, Tryz.ntmps43
  go_wp2_with fail
  refine (used_any hs).mono ?_
  rintro e w' ⟨⟨A', n', c', rfl, hs', _⟩, rfl⟩
  have hl := hs'.len
  have hn' : n' ≤ 1000000000 := by have := tl_len xs; have := hs.len; omega
  have hx' := tl_Dg hx
  have hv : Hid (val 4294967296 (tl xs) = val 4294967296 xs) := tl_val _ _
  generalize tl xs = X at *
  go_wp2_with (at_make; refine wpList_mk elemU rfl _ _ rfl (B := w.heap.size) (n' + 1) rfl rfl (by omega) (by omega) (by omega) (by unfold maxLen; omega) (Nat.le_refl _) ?_; intro w1 h1 hg1)
  have hmk := Mk.made h1 hg1
  clear h1 hg1
  go_loopw [6, 21] (fun hv iv wr => ∃ (i : Nat) (h : Int) (P : List Int), i ≤ n' ∧ iv = .int .i64 i ∧ hv = .int .u32 h ∧ Mk .u32 27 w (some ⟨w.heap.size, 0, none⟩) (n' + 1) (n' + 1) P wr ∧ Prod 4294967296 m X P i h) (fun _ iv _ => n' - (intOf iv).toNat)
  case atStart => exact ⟨0, 0, _, Nat.zero_le _, rfl, rfl, hmk, .start (by decide) (Dg.zeros (by decide) _)⟩
  case round =>
    obtain ⟨i, h, P, hi, rfl, rfl, hmr, hp⟩ := hrel
    have hhi := hp.high
    clear hmk
    by_cases hlt : i < n'
    · obtain ⟨b2, off2, x, rfl, _, ex, hc2⟩ := (hmr.other hs' hB).at_ hlt
      obtain ⟨g, s, hg, _, _, hcell, hfr, hput⟩ := hmr.set (i := i) (by omega)
      obtain rfl : w.heap.size = g := by simpa using hg
      have hxx := hx'.get ex
      have hPl := hmr.1.len
      obtain ⟨d1, d2, d3, d4, d5⟩ := mul_digit hxx hm hhi
      have hmul := mul32_any x m wr hxx hm
      have hnext := Lib.hid (hput ((x * m + h) % 4294967296))
      have hstep := Lib.hid (hp.step ex (by omega) d3 d4 d5)
      clear hput hmr hp hs' hs d3 d5
      have had := add32_c0 (x * m % 4294967296) h wr (by omega) hhi
      have HM := Lib.hid hmul
      have HA := Lib.hid had
      clear hmul had
      go_wp2_with (first | (go_at_call 64; refine HM.out.mono ?_; rintro e w' ⟨rfl, rfl⟩) | (go_at_call 65; refine HA.out.mono ?_; rintro e w' ⟨rfl, rfl⟩))
      go_roundw
      case rel => exact ⟨i + 1, _, _, by omega, by go_num, rfl, hnext.out, hstep.out⟩
      case measure => simp [intOf] <;> omega
    · obtain rfl : n' = i := by omega
      obtain ⟨g, s, hg, _, _, hcell, hfr, hput⟩ := hmr.set (i := n') (by omega)
      obtain rfl : w.heap.size = g := by simpa using hg
      have hfin := hp.stop hl hmr.1.len
      have hnext := Lib.hid (hput h)
      have HF := Lib.hid hfin
      clear hput hfin hmr
      go_wp2_with fail
      refine (used_any hnext.out.1.sl).mono ?_
      rintro e w' ⟨⟨A3, n3, c3, rfl, hs3, hA3⟩, rfl⟩
      go_wp2_with fail
      go_ret
      refine ⟨_, ⟨tl_Dg HF.out.2, tl_idem _, ?_⟩, _, _, _, rfl, hnext.out.1.used hs3 hA3, hnext.out.2⟩
      rw [tl_val, HF.out.1, hv.out]

set_option maxHeartbeats 400000 in
theorem DivSmall_zero {w : World} {A : Option Addr} {n c : Nat} :
    Calls Tryz.prog 35 #[.slice A n c, .int .u32 0] w fun e w' => e = .returned (.tuple #[.slice none 0 0, .int .u32 0, .int .i64 20]) ∧ w = w' := by
  go_enter Tryz.func35, Tryz.ntmps35
  go_wp2
  go_ret3
  exact ⟨rfl, rfl⟩

/-- How often a digit goes in, and what is left, in new memory. -/
def DivR (w : World) (N d : Int) (e : Ending) (w' : World) : Prop :=
  ∃ ys A n c, Row 4294967296 (N / d) ys ∧ e = .returned (.tuple #[.slice A n c, .int .u32 (N % d), .int .i64 0]) ∧ Own .u32 27 w' w.heap.size A n c ys ∧ Below w.heap.size w w'

set_option maxHeartbeats 400000 in
theorem DivSmall_any {w : World} {B : Nat} {A : Option Addr} {n c : Nat} {xs : List Int} {d : Int} (hs : Sl .u32 w B A n c xs) (hB : B ≤ w.heap.size) (hx : Dg 4294967296 xs) (hd : 0 < d ∧ d < 4294967296) (hn : n ≤ 1000000000) :
    Calls Tryz.prog 35 #[.slice A n c, .int .u32 d] w (DivR w (val 4294967296 xs) d) := by
  have hd0 : (d == 0) = false := beq_eq_false_iff_ne.2 (by omega)
  go_enter Tryz.func35, Tryz.ntmps35
  go_wp2_with fail
  refine (used_any hs).mono ?_
  rintro e w' ⟨⟨A', n', c', rfl, hs', _⟩, rfl⟩
  have hl := hs'.len
  have hn' : n' ≤ 1000000000 := by have := tl_len xs; have := hs.len; omega
  have hx' := tl_Dg hx
  have hv : Hid (val 4294967296 (tl xs) = val 4294967296 xs) := tl_val _ _
  generalize tl xs = X at *
  go_wp2_with (at_make; refine wpList_mk elemU rfl _ _ rfl (B := w.heap.size) n' rfl rfl (by omega) (by omega) (by omega) (by unfold maxLen; omega) (Nat.le_refl _) ?_; intro w1 h1 hg1)
  have hmk := Mk.made h1 hg1
  clear h1 hg1
  go_loopw [5, 7] (fun rv iv wr => ∃ (k : Nat) (r : Int) (Q : List Int), k ≤ n' ∧ iv = .int .i64 ((k : Int) - 1) ∧ rv = .int .u32 r ∧ Mk .u32 27 w (some ⟨w.heap.size, 0, none⟩) n' n' Q wr ∧ Quo 4294967296 d X Q k r) (fun _ iv _ => (intOf iv + 1).toNat)
  case atStart => exact ⟨n', 0, _, Nat.le_refl _, rfl, rfl, hmk, .start hd.1 (Dg.zeros (by decide) _) (by omega) (by simp)⟩
  case round =>
    obtain ⟨k, r, Q, hk, rfl, rfl, hmr, hq⟩ := hrel
    have hr := hq.rest
    clear hmk
    by_cases h0 : k = 0
    · subst h0
      have HQ := Lib.hid hq
      clear hq
      go_wp2_with fail
      refine (used_any hmr.1.sl).mono ?_
      rintro e w' ⟨⟨A3, n3, c3, rfl, hs3, hA3⟩, rfl⟩
      have hnum := HQ.out.num
      simp only [List.drop_zero] at hnum
      have e1 : val 4294967296 X / d = val 4294967296 Q := by
        rw [hnum, Int.add_comm, Int.add_mul_ediv_left _ _ (by omega), Int.ediv_eq_zero_of_lt hr.1 hr.2]; omega
      have e2 : val 4294967296 X % d = r := by rw [hnum, Int.add_comm, Int.add_mul_emod_self_left, Int.emod_eq_of_lt hr.1 hr.2]
      have E1 := Lib.hid e1
      have E2 := Lib.hid e2
      clear e1 e2 hnum
      go_wp2_with fail
      go_ret3
      refine ⟨_, A3, n3, c3, ⟨tl_Dg HQ.out.dg, tl_idem _, ?_⟩, ?_, hmr.1.used hs3 hA3, hmr.2⟩
      · rw [tl_val, ← hv.out, E1.out]
      · rw [← hv.out, E2.out]; rfl
    · obtain ⟨j, rfl⟩ : ∃ j, k = j + 1 := ⟨k - 1, by omega⟩
      obtain ⟨b2, off2, x, rfl, _, ex, hc2⟩ := (hmr.other hs' hB).at_ (j := j) (by omega)
      obtain ⟨g, s, hg, _, _, hcell, hfr, hput⟩ := hmr.set (i := j) (by omega)
      obtain rfl : w.heap.size = g := by simpa using hg
      have hxx := hx'.get ex
      have hdiv := div_small hxx hr
      have hstep := Lib.hid (hq.step ex (by have := hmr.1.len; omega) hdiv)
      have hnext := Lib.hid fun m => (hmr.drew m).set (i := j) (by omega)
      have HD := Lib.hid (div32_any r x d wr hxx hr hd.2)
      clear hput hmr hq hs' hs
      go_wp2_with (go_at_call 54; refine HD.out.mono ?_; rintro e w' ⟨rfl, q, rfl⟩)
      obtain ⟨g, s, hg, _, _, _, _, hput⟩ := hnext.out q
      obtain rfl : w.heap.size = g := by simpa using hg
      go_roundw
      case rel => exact ⟨j, _, _, by omega, by simp, rfl, hput _, hstep.out⟩
      case measure => simp [intOf] <;> omega
end Go.Proofs.YthicpakanhhipaaGreatDoor
