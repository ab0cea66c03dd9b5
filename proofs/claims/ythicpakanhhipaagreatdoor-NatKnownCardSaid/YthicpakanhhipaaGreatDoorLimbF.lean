/- limb: Bits: what it answers. -/
import Derived.Test.YthicpakanhhipaaGreatDoorLimbE
namespace Go.Proofs.YthicpakanhhipaaGreatDoor
open Go Go.RowKit

/-- The table of half a byte's digits, as the program's text lays it. -/
def HalfT (w : World) : Prop := ∀ h : Nat, h < 128 → w.cell? ⟨0, h, none⟩ = some (.int .u8 (halfL.getD h 0))
theorem HalfT.below {w w' : World} {B : Nat} (h : HalfT w) (hb : Below B w w') (hB : 0 < B) : HalfT w' := fun i hi => (hb.cell (p := ⟨_, i, none⟩) hB).trans (h i hi)
def BitsR (N : Int) (e : Ending) : Prop := ∃ b : Nat, IsBits N b ∧ e = .returned (.int .i64 b)

set_option maxHeartbeats 1000000 in
theorem Bits_any {w : World} {B : Nat} {A : Option Addr} {n c : Nat} {xs : List Int} (hs : Sl .u32 w B A n c xs) (hT : HalfT w) (hx : Dg 4294967296 xs) (hn : n ≤ 1000000000) :
    Calls Tryz.prog 46 #[.slice A n c] w fun e w' => BitsR (val 4294967296 xs) e ∧ w = w' := by
  have hv : Hid (val 4294967296 (tl xs) = val 4294967296 xs) := tl_val _ _
  have hX := tl_Dg hx
  have hTr := tl_idem xs
  have hll : (tl xs).length ≤ 1000000000 := by have := tl_len xs; have := hs.len; omega
  have HT := Lib.hid hT
  clear hT
  go_enter Tryz.func46, Tryz.ntmps46
  go_wp2_with fail
  refine (used_any hs).mono ?_
  rintro e w' ⟨⟨A', n', c', rfl, hs', _⟩, rfl⟩
  have hl' := hs'.len
  by_cases h0 : n' = 0
  · subst h0
    go_wp2
    go_ret
    refine ⟨⟨0, .inl ⟨?_, rfl⟩, rfl⟩, rfl⟩
    rw [← hv.out, List.eq_nil_of_length_eq_zero hl']; rfl
  · have hbn : ((n' : Int) == 0) = false := beq_eq_false_iff_ne.2 (by omega)
    have hne : tl xs ≠ [] := by intro h; rw [h] at hl'; exact h0 hl'.symm
    obtain ⟨zs, z, ez, hz0, ezl⟩ := hTr.last hne
    obtain ⟨b, off, z', rfl, _, ez', hcell⟩ := hs'.at_ (j := n' - 1) (by omega)
    rw [hl', ez'] at ezl
    obtain rfl : z' = z := by injection ezl
    have hzd := hX.get ez'
    obtain ⟨t, rfl⟩ : ∃ t : Nat, z' = (t : Int) := ⟨z'.toNat, by omega⟩
    have hzl : zs.length = n' - 1 := by have := congrArg List.length ez; simp at this; omega
    have hstart : BitsI (val 4294967296 xs) (32 * (n' - 1) + t) (32 * (n' - 1)) t := by
      refine ⟨by omega, Nat.le_refl _, fun b hb => ?_⟩
      have hd : Dg 4294967296 zs := by rw [ez] at hX; exact hX.left
      have := IsBits.row (k := 32) (by decide) hd (by omega) hb
      rw [← ez, hzl, tl_val] at this
      exact this
    obtain ⟨m, rfl⟩ : ∃ m, n' = m + 1 := ⟨n' - 1, by omega⟩
    rw [show m + 1 - 1 = m by omega] at hcell hstart
    have ht : t < 4294967296 := by omega
    clear ez ez' ezl hzl hz0 hne
    go_wp2_with fail
    go_loop [3, 4] (fun nv tv => ∃ i j : Nat, nv = .int .i64 i ∧ tv = .int .u32 j ∧ j ≤ t ∧ BitsI (val 4294967296 xs) (32 * m + t) i j) (fun _ tv => (intOf tv).toNat)
    case atStart => exact ⟨32 * m, t, by go_num, rfl, Nat.le_refl _, hstart⟩
    case round =>
      obtain ⟨i, j, rfl, rfl, hjt, hinv⟩ := hrel
      have hb1 := hinv.pos
      have hb2 := hinv.bound
      by_cases hj : 255 < j
      · have hstep := Lib.hid (hinv.step hj)
        clear hinv hstart
        go_wp2
        go_round
        case rel => exact ⟨i + 8, j / 256, by go_num, by go_num, by omega, hstep.out⟩
        case measure => simp [intOf] <;> omega
      · have hfin := Lib.hid (hinv.num _ (byte_bits (by omega) (by omega)))
        have hc2 := HT.out (j / 2) (by omega)
        obtain ⟨p1, p2, _, _⟩ := halfL_ok (j / 2) (by omega)
        generalize halfL.getD (j / 2) 0 = q at *
        obtain ⟨q, rfl⟩ : ∃ q' : Nat, q = (q' : Int) := ⟨q.toNat, by omega⟩
        clear hinv hstart
        go_wp2
        go_ret
        refine ⟨⟨_, hfin.out, ?_⟩, rfl⟩
        simp
        omega
end Go.Proofs.YthicpakanhhipaaGreatDoor
