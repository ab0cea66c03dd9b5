/- limb: Cmp, addTo, takeFrom: what each call answers, and leaves. -/
import Derived.Test.YthicpakanhhipaaGreatDoorLimbA
import Derived.Test.YthicpakanhhipaaGreatDoorBits
namespace Go.Proofs.YthicpakanhhipaaGreatDoor
open Go Go.RowKit

def CmpR (xs ys : List Int) (e : Ending) : Prop := e = .returned (.int .i64 (cmpI (val 4294967296 xs) (val 4294967296 ys)))
/-- From place k on both rows are alike. -/
def Alike_ (xs ys : List Int) (k : Nat) : Prop := xs.drop k = ys.drop k
theorem CmpR.same {xs ys : List Int} (h : Alike_ (tl xs) (tl ys) 0) : CmpR xs ys (.returned (.int .i64 0)) := by
  unfold CmpR
  rw [cmpI_eq]
  unfold Alike_ at h
  simp only [List.drop_zero] at h
  rw [← tl_val _ xs, ← tl_val _ ys, h]
theorem CmpR.digit {xs ys : List Int} (hx : Dg 4294967296 xs) (hy : Dg 4294967296 ys) {j : Nat} {x y : Int} (h : Alike_ (tl xs) (tl ys) (j + 1)) (ex : (tl xs)[j]? = some x) (ey : (tl ys)[j]? = some y) (hne : x ≠ y) :
    CmpR xs ys (.returned (.int .i64 (sgn (decide (y < x))))) := by
  unfold CmpR
  rw [← tl_val _ xs, ← tl_val _ ys]
  by_cases hlt : y < x
  · rw [cmpI_gt (val_lt_of_digit (by decide) (tl_Dg hy) (tl_Dg hx) j ey ex h.symm hlt)]; simp [hlt, sgn]
  · rw [cmpI_lt (val_lt_of_digit (by decide) (tl_Dg hx) (tl_Dg hy) j ex ey h (by omega))]; simp [hlt, sgn]
theorem CmpR.len {xs ys : List Int} (hx : Dg 4294967296 xs) (hy : Dg 4294967296 ys) {n1 n2 : Nat} (h1 : (tl xs).length = n1) (h2 : (tl ys).length = n2) (hne : n1 ≠ n2) :
    CmpR xs ys (.returned (.int .i64 (sgn (decide (n2 < n1))))) := by
  unfold CmpR
  rw [← tl_val _ xs, ← tl_val _ ys]
  by_cases hlt : n2 < n1
  · rw [cmpI_gt (val_lt_of_len (by decide) (tl_Dg hy) (tl_Dg hx) (tl_idem xs) (by omega))]; simp [hlt, sgn]
  · rw [cmpI_lt (val_lt_of_len (by decide) (tl_Dg hx) (tl_Dg hy) (tl_idem ys) (by omega))]; simp [hlt, sgn]

set_option maxHeartbeats 1000000 in
theorem Cmp_any {w : World} {B : Nat} {A A2 : Option Addr} {n c m c2 : Nat} {xs ys : List Int} (hs : Sl .u32 w B A n c xs) (ht : Sl .u32 w B A2 m c2 ys) (hx : Dg 4294967296 xs) (hy : Dg 4294967296 ys) :
    Calls Tryz.prog 34 #[.slice A n c, .slice A2 m c2] w fun e w' => CmpR xs ys e ∧ ∃ m, w' = w.drewN m := by
  go_enter Tryz.func34, Tryz.ntmps34
  go_wp2_with fail
  refine (used_any hs).mono ?_
  rintro e w' ⟨⟨A', n', c', rfl, hs', _⟩, rfl⟩
  go_wp2_with fail
  refine (used_any ht).mono ?_
  rintro e w' ⟨⟨A2', m', c2', rfl, ht', _⟩, rfl⟩
  have hb1 := hs'.lenMax
  have hb2 := ht'.lenMax
  by_cases hne : n' = m'
  · subst hne
    go_wp2_with fail
    go_loopw [5] (fun i wr => ∃ k q : Nat, k ≤ n' ∧ i = .int .i64 ((k : Int) - 1) ∧ Alike_ (tl xs) (tl ys) k ∧ wr = w.drewN q) (fun i _ => (intOf i + 1).toNat)
    case atStart =>
      refine ⟨n', 0, Nat.le_refl _, rfl, ?_, rfl⟩
      unfold Alike_
      rw [List.drop_of_length_le (by rw [hs'.len]; omega), List.drop_of_length_le (by rw [ht'.len]; omega)]
    case round =>
      obtain ⟨k, q, hk, rfl, hal, rfl⟩ := hrel
      by_cases h0 : k = 0
      · subst h0
        go_wp2
        go_ret
        exact ⟨.same hal, q, rfl⟩
      · obtain ⟨j, rfl⟩ : ∃ j, k = j + 1 := ⟨k - 1, by omega⟩
        obtain ⟨b, off, x, rfl, _, ex, hc1⟩ := hs'.at_ (j := j) (by omega)
        obtain ⟨b2, off2, y, rfl, _, ey, hc2⟩ := ht'.at_ (j := j) (by omega)
        have hji : (j : Int) < (n' : Int) := by omega
        by_cases hxy : x = y
        · subst hxy
          go_wp2
          go_quiet (fail)
          go_wp2
          go_roundw
          case rel =>
            refine ⟨j, _, by omega, by simp, ?_, rfl⟩
            unfold Alike_ at *
            rw [drop_of ex, drop_of ey, hal]
          case measure => simp [intOf]
        · have hb : (x != y) = true := by rw [bne_iff_ne]; exact hxy
          have hres := Lib.hid (CmpR.digit hx hy hal ex ey hxy)
          go_wp2
          go_quiet (fail)
          go_wp2
          go_quiet ((go_at_call 53; refine (sign_any _ _).mono ?_; rintro e w1 ⟨rfl, rfl⟩; exact ⟨rfl, _, rfl⟩))
          go_wp2
          go_ret
          exact ⟨hres.out, _, by simp only [World.drewN_drewN]; rfl⟩
  · have hb : ((n' : Int) != (m' : Int)) = true := by rw [bne_iff_ne]; omega
    have hres := Lib.hid (CmpR.len hx hy hs'.len ht'.len hne)
    go_wp2_with fail
    refine (sign_any _ _).mono ?_
    rintro e w' ⟨rfl, rfl⟩
    go_wp2
    go_ret
    exact ⟨hres.out, 0, rfl⟩

/-- What addTo and takeFrom leave: the row written over, nothing else. -/
def PutR (σ : Int) (w : World) (B : Nat) (A : Option Addr) (n c : Nat) (S X : List Int) (e : Ending) (w' : World) : Prop :=
  e = .returned (.tuple #[]) ∧ ∃ S1, Own .u32 27 w' B A n c S1 ∧ Dg 4294967296 S1 ∧ val 4294967296 S1 = val 4294967296 S + σ * val 4294967296 X ∧ w.grownBy w' (blk A)
/-- In the midst of it. -/
def PutI (σ : Int) (w : World) (B : Nat) (A : Option Addr) (n c : Nat) (S X : List Int) (i : Nat) (cr : Int) (wr : World) : Prop :=
  ∃ S1, Own .u32 27 wr B A n c S1 ∧ Carry 4294967296 σ S X S1 i cr ∧ w.grownBy wr (blk A)

theorem PutI.set {σ : Int} {w : World} {B : Nat} {A : Option Addr} {n c : Nat} {S X : List Int} {i : Nat} {cr : Int} {wr : World} (h : PutI σ w B A n c S X i cr wr) (hi : i < n) :
    ∃ g s, A = some ⟨g, 0, none⟩ ∧ B ≤ g ∧ (0 ≤ s ∧ s < 4294967296) ∧ (0 ≤ cr ∧ cr ≤ 1) ∧ wr.cell? ⟨g, i, none⟩ = some (.int .u32 s) ∧ wr.frozen? ⟨g, i, none⟩ = false ∧
      ∀ d x cr', X[i]?.getD 0 = x → (0 ≤ d ∧ d < 4294967296) → (0 ≤ cr' ∧ cr' ≤ 1) → d + σ * (4294967296 * cr') = s + σ * (x + cr) →
        PutI σ w B A n c S X (i + 1) cr' (wr.setCell ⟨g, i, none⟩ (.int .u32 d)) := by
  obtain ⟨S1, ho, hc, hg⟩ := h
  obtain ⟨g, s, rfl, hB, hlt, hs, hcell, hfr, hput⟩ := ho.set hi
  refine ⟨g, s, rfl, hB, hc.dg.get hs, hc.c01, hcell, hfr, fun d x cr' hx hd hcr e => ?_⟩
  obtain ⟨h1, h2⟩ := hput d
  refine ⟨_, h1, hc.step hs hx hd hcr e, ?_⟩
  exact ⟨h2.os.trans hg.os, h2.tape.trans hg.tape, h2.output.trans hg.output, Nat.le_trans hg.size h2.size, fun k hk hne => (h2.block k (Nat.lt_of_lt_of_le hk hg.size) hne).trans (hg.block k hk hne)⟩

set_option maxHeartbeats 1000000 in
theorem addTo_any {w : World} {B : Nat} {A A2 : Option Addr} {n c m c2 : Nat} {S X : List Int} (ho : Own .u32 27 w B A n c S) (ht : Sl .u32 w B A2 m c2 X) (hB : B ≤ w.heap.size) (hS : Dg 4294967296 S) (hX : Dg 4294967296 X) (hmn : m ≤ n)
    (hfit : val 4294967296 S + val 4294967296 X < 4294967296 ^ n) :
    Calls Tryz.prog 85 #[.slice A n c, .slice A2 m c2] w (PutR 1 w B A n c S X) := by
  have hlen := ho.len
  have htl := ht.len
  have hn := ho.sl.lenMax
  have hm := ht.lenMax
  rw [← hlen] at hfit
  have HF := Lib.hid hfit
  clear hfit
  go_enter Tryz.func85, Tryz.ntmps85
  go_wp2_with fail
  go_loopw [4, 10] (fun cv iv wr => ∃ (i : Nat) (cr : Int), i ≤ m ∧ iv = .int .i64 i ∧ cv = .int .u32 cr ∧ PutI 1 w B A n c S X i cr wr) (fun _ iv _ => m - (intOf iv).toNat)
  case atStart => exact ⟨0, 0, Nat.zero_le _, rfl, rfl, S, ho, .start hS, World.grownBy.refl _ _⟩
  case round =>
    obtain ⟨i, cr, hi, rfl, rfl, hinv⟩ := hrel
    have hgr : w.grownBy wr (blk A) := hinv.choose_spec.2.2
    by_cases hlt : i < m
    · obtain ⟨g, s, rfl, hBg, hs, hcr, hcell, hfr, hput⟩ := hinv.set (i := i) (by omega)
      obtain ⟨b2, off2, x, rfl, _, ex, hc2⟩ := (ht.grown hgr hB (fun k hk => by have : g = k := by simpa [blk] using hk
                                                                                omega)).at_ hlt
      have hxx := hX.get ex
      have hin : i < n := by omega
      have hnext := Lib.hid (hput ((s + x + cr) % 4294967296) x ((s + x + cr) / 4294967296) (by simp [ex]) (add_digit (by decide) hs hxx hcr).1 (add_digit (by decide) hs hxx hcr).2.1 (add_digit (by decide) hs hxx hcr).2.2)
      clear hput hgr hinv ho ht
      go_wp2_with (go_at_call 65; refine (add32_any _ _ _ _ hs hxx hcr).mono ?_; rintro e w' ⟨rfl, rfl⟩)
      go_roundw
      case rel => exact ⟨i + 1, _, by omega, by go_num, rfl, hnext.out⟩
      case measure => simp [intOf] <;> omega
    · obtain rfl : m = i := by omega
      clear hgr
      go_wp2_with fail
      go_loopw [4, 7] (fun cv iv wr => ∃ (i : Nat) (cr : Int), m ≤ i ∧ i ≤ n ∧ iv = .int .i64 i ∧ cv = .int .u32 cr ∧ PutI 1 w B A n c S X i cr wr) (fun _ iv _ => n - (intOf iv).toNat)
      case atStart => exact ⟨m, cr, Nat.le_refl _, hmn, rfl, rfl, hinv⟩
      case round =>
        obtain ⟨i, cr, hi, hin, rfl, rfl, hinv⟩ := hrel
        by_cases h0 : cr = 0
        · subst h0
          obtain ⟨S1, h1, h2, h3⟩ := hinv
          go_wp2_with fail
          go_end0
          exact ⟨rfl, S1, h1, h2.dg, by rw [h2.stop (by omega) (by omega)], h3⟩
        · have hb : (cr != 0) = true := by rw [bne_iff_ne]; exact h0
          have hlt2 : i < n := by
            obtain ⟨S1, h1, h2, h3⟩ := hinv
            have := h2.room (by decide) (by omega) (by omega) h0 HF.out
            omega
          obtain ⟨g, s, rfl, hBg, hs, hcr, hcell, hfr, hput⟩ := hinv.set (i := i) hlt2
          have had := add_digit (β := 4294967296) (x := 0) (by decide) hs (by decide) hcr
          rw [Int.add_zero] at had
          have hnext := Lib.hid (hput ((s + cr) % 4294967296) 0 ((s + cr) / 4294967296) (by rw [List.getElem?_eq_none (by omega)]; rfl) had.1 had.2.1 had.2.2)
          clear hput hinv ho ht had
          go_wp2_with (go_at_call 65; refine (add32_zero _ _ _ hs hcr).mono ?_; rintro e w' ⟨rfl, rfl⟩)
          go_roundw
          case rel => exact ⟨i + 1, _, by omega, by omega, by go_num, rfl, hnext.out⟩
          case measure => simp [intOf] <;> omega
end Go.Proofs.YthicpakanhhipaaGreatDoor
