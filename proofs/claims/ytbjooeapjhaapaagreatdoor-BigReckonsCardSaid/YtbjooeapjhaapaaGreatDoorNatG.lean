/- nat: lessened, gcdOfTwo, Gcd: what each call answers, and leaves. -/
import Derived.Test.YtbjooeapjhaapaaGreatDoorNatF
namespace Go.Proofs.YtbjooeapjhaapaaGreatDoor
open Go Go.RowKit

/-- What apart is asked for, twice. -/
structure AArg (C : Int) (uA uB a b : Int) : Prop where
  a0 : 0 ≤ uA ∧ uA < 4294967296
  b0 : 0 ≤ uB ∧ uB < 4294967296
  eq : uA * a - uB * b = C ∨ uB * b - uA * a = C
  c0 : 0 ≤ C
def GotO (w : World) (Bs : Nat) (A : Option Addr) (n c : Nat) (N : Int) : Prop := ∃ ys, Row 4294967296 N ys ∧ Own .u32 66 w Bs A n c ys
theorem GotO.below {w w' : World} {Bs : Nat} {A : Option Addr} {n c : Nat} {N : Int} (h : GotO w Bs A n c N) (hb : Below w.heap.size w w') : GotO w' Bs A n c N := by
  obtain ⟨ys, hr, ho⟩ := h
  exact ⟨ys, hr, ho.below hb⟩
theorem apart_arg {w W : World} {Bs : Nat} {A A2 : Option Addr} {n c m c2 : Nat} {a b uA uB C : Int} {z : Nat} {u1 u2 u3 u4 : Value} (h1 : GotO w Bs A n c a) (h2 : GotO w Bs A2 m c2 b) (hBs : Bs ≤ w.heap.size) (hn : n ≤ 2000) (hm : m ≤ 2000) (hz : z + 1 < w.heap.size)
    (hS : Below w.heap.size w W ∧ W.cell? ⟨z, 0, none⟩ = some (u1) ∧ W.cell? ⟨z, 1, none⟩ = some (u2) ∧ W.cell? ⟨z + 1, 0, none⟩ = some (u3) ∧ W.cell? ⟨z + 1, 1, none⟩ = some (u4)) (hA : AArg C uA uB a b) :
    Calls Tryz.prog 121 #[.slice A n c, .slice A2 m c2, .agg #[.int .u64 uA, .int .u64 uB]] W fun e W' => ∃ A' n' c', e = .returned (.slice A' n' c') ∧ GotO W' Bs A' n' c' C ∧ Below W.heap.size W W' ∧ (W'.cell? ⟨z, 0, none⟩ = some (u1) ∧ W'.cell? ⟨z, 1, none⟩ = some (u2) ∧ W'.cell? ⟨z + 1, 0, none⟩ = some (u3) ∧ W'.cell? ⟨z + 1, 1, none⟩ = some (u4)) := by
  obtain ⟨X, rX, oX⟩ := h1
  obtain ⟨Y, rY, oY⟩ := h2
  have sX := ((oX.below hS.1).sl)
  have sY := ((oY.below hS.1).sl)
  have hsz := hS.1.size
  refine (apart_any sX sY (Nat.le_refl _) rX rY hA.a0 hA.b0 (by omega) (by omega) hA.eq hA.c0).mono ?_
  rintro e W' ⟨ys, hr, A', n', c', rfl, ho, hb⟩
  exact ⟨A', n', c', rfl, ⟨ys, hr, ho.lower (Nat.le_trans hBs hsz)⟩, hb, (hb.cell (show z < _ by omega)).trans hS.2.1, (hb.cell (show z < _ by omega)).trans hS.2.2.1, (hb.cell (show z + 1 < _ by omega)).trans hS.2.2.2.1, (hb.cell (show z + 1 < _ by omega)).trans hS.2.2.2.2⟩

set_option maxHeartbeats 2000000 in
theorem lessened_any {w : World} {Bs : Nat} {A A2 : Option Addr} {n c m c2 : Nat} {X Y : List Int} {a b : Int} (hs : Own .u32 66 w Bs A n c X) (ht : Own .u32 66 w Bs A2 m c2 Y) (rX : Row 4294967296 a X) (rY : Row 4294967296 b Y)
    (hBs : Bs ≤ w.heap.size) (hb : 18446744073709551616 ≤ b) (hba : b ≤ a) (hT : HalfT w) (hT0 : 0 < w.heap.size) (hn : n ≤ 2000) (hm : m ≤ 2000) :
    Calls Tryz.prog 97 #[.slice A n c, .slice A2 m c2] w (LessR w Bs a b) := by
  have sX := hs.sl
  have sY := ht.sl
  have hnl := hs.len
  have HBit := Lib.hid (Bits_any sX hT rX.dg (by omega))
  have HT := Lib.hid hT
  clear hT
  go_enter Tryz.func97, Tryz.ntmps97
  go_wp2_with fail
  refine HBit.out.mono ?_
  rintro e w' ⟨⟨bb, hbb, rfl⟩, rfl⟩
  rw [rX.val] at hbb
  obtain ⟨k, hk, hk1⟩ : ∃ k : Nat, bb = k + 64 ∧ k ≤ 64000 := by
    rcases hbb with ⟨h1, _⟩ | ⟨h1, h2, h3⟩
    · omega
    · have hge : 64 < bb := by
        rcases Nat.lt_or_ge 64 bb with h | h
        · exact h
        · have := pow_mono (show (0 : Int) < 2 by decide) h
          rw [show (2 : Int) ^ 64 = 18446744073709551616 from rfl] at this
          omega
      have hle : bb ≤ 64000 := by
        rcases Nat.lt_or_ge 64000 bb with h | h
        · have q := pow_mono (show (0 : Int) < 2 by decide) (show 64000 ≤ bb - 1 by omega)
          have v := val_lt (β := 4294967296) (by decide) rX.dg
          rw [rX.val, hnl, show (4294967296 : Int) = 2 ^ 32 from rfl, ← Int.pow_mul] at v
          have := pow_mono (show (0 : Int) < 2 by decide) (show 32 * n ≤ 64000 by omega)
          omega
        · exact h
      exact ⟨bb - 64, by omega, by omega⟩
  subst hk
  have p := pow_pos' (show (0 : Int) < 2 by decide) k
  have ha0 : 0 ≤ a := by omega
  have hup : a < 2 ^ k * 18446744073709551616 := by
    rcases hbb with ⟨h1, _⟩ | ⟨h1, h2, h3⟩
    · omega
    · rw [Int.pow_add] at h3; exact h3
  have qa0 : 0 ≤ a / 2 ^ k := Int.ediv_nonneg ha0 (by omega)
  have qa : a / 2 ^ k < 18446744073709551616 := Int.ediv_lt_of_lt_mul p (by rw [Int.mul_comm]; exact hup)
  have qb0 : 0 ≤ b / 2 ^ k := Int.ediv_nonneg (by omega) (by omega)
  have qba : b / 2 ^ k ≤ a / 2 ^ k := Int.ediv_le_ediv p hba
  have ea := Int.mul_ediv_add_emod a (2 ^ k)
  have eb := Int.mul_ediv_add_emod b (2 ^ k)
  have ra0 := Int.emod_nonneg a (show (2 : Int) ^ k ≠ 0 by omega)
  have ra1 := Int.emod_lt_of_pos a p
  have rb0 := Int.emod_nonneg b (show (2 : Int) ^ k ≠ 0 by omega)
  have rb1 := Int.emod_lt_of_pos b p
  have HParts := Lib.hid (fun (uA uB vA vB : Int) (h : TurnsOk (a / 2 ^ k) (b / 2 ^ k) uA uB vA vB) (hu : uB ≠ 0) =>
    h.parts hu p (A := a) (B := b) (by rw [Int.mul_comm]; omega) (by rw [Int.mul_comm]; omega) (by rw [Int.mul_comm]; omega) (by rw [Int.mul_comm]; omega) ha0 (by omega))
  have HTu := Lib.hid (fun (W : World) => turns_any (w := W) qb0 qba qa)
  have hlen : ∀ (x : Int) (zs : List Int), Row 4294967296 x zs → x < 18446744073709551616 → zs.length ≤ 2 := fun x zs h hx => h.len_le (by decide) (by rw [show (4294967296 : Int) ^ 2 = 18446744073709551616 from rfl]; exact hx)
  have HLn := Lib.hid hlen
  have HSa := Lib.hid (Shift_down (m := k) sX (Nat.le_refl _) rX.dg (by omega) (by omega))
  have hwk : IntKind.i64.wrap (((k + 64 : Nat) : Int) - 64) = (k : Int) := by rw [IntKind.wrap_i64]; omega
  have hwn : IntKind.i64.wrap (-(k : Int)) = -(k : Int) := by rw [IntKind.wrap_i64]; omega
  clear hbb hup ea eb ra0 ra1 rb0 rb1 hlen p HBit
  have hck : ((k + 64 : Nat) : Int) - 64 = (k : Int) := by omega
  go_wp2_with fail
  refine HSa.out.mono ?_
  rintro e w1 ⟨Ha, A3, n3, c3, rA, rfl, oA, b1⟩
  rw [rX.val] at rA
  have HSb := Lib.hid (Shift_down (m := k) (sY.below b1 (Nat.le_refl _)) b1.size rY.dg (by omega) (by omega))
  have hs1 := hs.below b1
  have ht1 := ht.below b1
  have HT1 := Lib.hid (HT.out.below b1 hT0)
  have hz1 := Nat.lt_of_lt_of_le hT0 b1.size
  have B1 := Lib.hid b1
  clear hs ht sX sY HT HSa
  go_wp2_with fail
  refine HSb.out.mono ?_
  rintro e w2 ⟨Hb, A4, n4, c4, rB, rfl, oB, b2⟩
  rw [rY.val] at rB
  have B2 := Lib.hid (B1.out.trans (b2.mono B1.out.size))
  have hs2 := hs1.below b2
  have ht2 := ht1.below b2
  have HT2 := Lib.hid (HT1.out.below b2 hz1)
  have hz2 := Nat.lt_of_lt_of_le hz1 b2.size
  have sA := (oA.below b2).sl
  have sB := oB.sl
  have lA := HLn.out _ _ rA qa
  have lB := HLn.out _ _ rB (by omega)
  rw [sA.len] at lA
  rw [sB.len] at lB
  have HWa := Lib.hid (wordOf_any sA rA.dg lA)
  have HWb := Lib.hid (wordOf_any sB rB.dg lB)
  rw [rA.val] at HWa
  rw [rB.val] at HWb
  have TU := Lib.hid (HTu.out w2)
  clear rA rB oA oB b1 b2 hs1 ht1 HT1 hz1 B1 HSb HTu HLn sA sB
  go_wp2_with fail
  refine HWa.out.mono ?_
  rintro e w3 ⟨rfl, rfl⟩
  go_wp2_with fail
  refine HWb.out.mono ?_
  rintro e w3 ⟨rfl, rfl⟩
  go_wp2_with fail
  refine TU.out.mono ?_
  rintro e w3 ⟨uA, uB, vA, vB, rfl, hok, b3⟩
  by_cases h0 : uB = 0
  · subst h0
    clear hok HParts
    go_wp2_with fail
    have b4 : Below w3.heap.size w3 ((w3.alloc (.cells #[.int .u64 uA, .int .u64 0] 149)).alloc (.cells #[.int .u64 vA, .int .u64 vB] 149)) := ((Below.refl _ _).alloc (Nat.le_refl _) _).alloc (by rw [size_one]; omega) _
    generalize ((w3.alloc (.cells #[.int .u64 uA, .int .u64 0] 149)).alloc (.cells #[.int .u64 vA, .int .u64 vB] 149)) = w4 at *
    have b24 := b3.trans (b4.mono b3.size)
    have B4 := Lib.hid (B2.out.trans (b24.mono B2.out.size))
    have HT4 := Lib.hid (HT2.out.below b24 hz2)
    have hz4 := Nat.lt_of_lt_of_le hz2 b24.size
    have hs4 := hs2.below b24
    have ht4 := ht2.below b24
    clear b3 b4 b24 hs2 ht2 B2 HT2
    refine (divided_any hs4 ht4 rX rY (Nat.le_trans hBs B4.out.size) ha0 (by omega) HT4.out hz4 (by omega) (by omega)).mono ?_
    rintro e w5 ⟨C, D, cs, ds, A5, n5, c5, A6, n6, c6, rfl, rC, rD, oC, oD, d0, d1, d2, d3, b5⟩
    have RC := Lib.hid rC
    have RD := Lib.hid rD
    have G := Lib.hid d3
    have B5 := Lib.hid (B4.out.trans (b5.mono B4.out.size))
    clear rC rD d3 b5 hs4 ht4
    go_wp2_with fail
    go_ret2
    exact ⟨C, D, cs, ds, A5, n5, c5, A6, n6, c6, rfl, RC.out, RD.out, oC, oD, d0, d1, d2, G.out, B5.out⟩
  · have hub : (uB == 0) = false := beq_eq_false_iff_ne.2 h0
    obtain ⟨C, D, hC, hD, d0, d1, d2, d3⟩ := HParts.out uA uB vA vB hok h0
    have HC := Lib.hid hC
    have HD := Lib.hid hD
    have G := Lib.hid d3
    have hrng : (0 ≤ uA ∧ uA < 4294967296) ∧ (0 ≤ uB ∧ uB < 4294967296) ∧ (0 ≤ vA ∧ vA < 4294967296) ∧ (0 ≤ vB ∧ vB < 4294967296) := by
      rcases hok with h | ⟨s, _, _, h1, h2, h3, h4, _⟩
      · exact absurd h h0
      · exact ⟨h1, h2, h3, h4⟩
    clear HParts hok hC hD d3
    go_wp2_with fail
    have b4 : Below w3.heap.size w3 ((w3.alloc (.cells #[.int .u64 uA, .int .u64 uB] 149)).alloc (.cells #[.int .u64 vA, .int .u64 vB] 149)) := ((Below.refl _ _).alloc (Nat.le_refl _) _).alloc (by rw [size_one]; omega) _
    have hc0 : ((w3.alloc (.cells #[.int .u64 uA, .int .u64 uB] 149)).alloc (.cells #[.int .u64 vA, .int .u64 vB] 149)).cell? ⟨w3.heap.size, 0, none⟩ = some (.int .u64 uA) := by rw [World.cell?_alloc_lt _ _ _ (by rw [size_one]; show w3.heap.size < _; omega)]; simp [World.cell?_alloc_new]
    have hc1 : ((w3.alloc (.cells #[.int .u64 uA, .int .u64 uB] 149)).alloc (.cells #[.int .u64 vA, .int .u64 vB] 149)).cell? ⟨w3.heap.size, 1, none⟩ = some (.int .u64 uB) := by rw [World.cell?_alloc_lt _ _ _ (by rw [size_one]; show w3.heap.size < _; omega)]; simp [World.cell?_alloc_new]
    have hc2 : ((w3.alloc (.cells #[.int .u64 uA, .int .u64 uB] 149)).alloc (.cells #[.int .u64 vA, .int .u64 vB] 149)).cell? ⟨w3.heap.size + 1, 0, none⟩ = some (.int .u64 vA) := by rw [← size_one w3 (.cells #[.int .u64 uA, .int .u64 uB] 149)]; simp [World.cell?_alloc_new]
    have hc3 : ((w3.alloc (.cells #[.int .u64 uA, .int .u64 uB] 149)).alloc (.cells #[.int .u64 vA, .int .u64 vB] 149)).cell? ⟨w3.heap.size + 1, 1, none⟩ = some (.int .u64 vB) := by rw [← size_one w3 (.cells #[.int .u64 uA, .int .u64 uB] 149)]; simp [World.cell?_alloc_new]
    have hz : ((w3.alloc (.cells #[.int .u64 uA, .int .u64 uB] 149)).alloc (.cells #[.int .u64 vA, .int .u64 vB] 149)).heap.size = w3.heap.size + 2 := by rw [size_one, size_one]
    generalize ((w3.alloc (.cells #[.int .u64 uA, .int .u64 uB] 149)).alloc (.cells #[.int .u64 vA, .int .u64 vB] 149)) = w4 at *
    have b24 := b3.trans (b4.mono b3.size)
    have B4 := Lib.hid (B2.out.trans (b24.mono B2.out.size))
    have hs4 := hs2.below b24
    have ht4 := ht2.below b24
    have HZ := Lib.hid hz
    generalize hgz : w3.heap.size = z at *
    clear b3 b4 b24 hs2 ht2 B2 HT2 hz hgz
    have gX : GotO w4 Bs A n c a := ⟨X, rX, hs4⟩
    have gY : GotO w4 Bs A2 m c2 b := ⟨Y, rY, ht4⟩
    have hBs4 : Bs ≤ w4.heap.size := Nat.le_trans hBs B4.out.size
    have hz4 : z + 1 < w4.heap.size := by have := HZ.out; omega
    have aU : AArg C uA uB a b := ⟨hrng.1, hrng.2.1, HC.out, by omega⟩
    have aV : AArg D vA vB a b := ⟨hrng.2.2.1, hrng.2.2.2, HD.out, d0⟩
    clear hs4 ht4 HC HD rX rY
    have hS0 : Below w4.heap.size w4 w4 ∧ w4.cell? ⟨z, 0, none⟩ = some (.int .u64 uA) ∧ w4.cell? ⟨z, 1, none⟩ = some (.int .u64 uB) ∧ w4.cell? ⟨z + 1, 0, none⟩ = some (.int .u64 vA) ∧ w4.cell? ⟨z + 1, 1, none⟩ = some (.int .u64 vB) := ⟨Below.refl _ _, hc0, hc1, hc2, hc3⟩
    go_region_held3 (fun W => Below w4.heap.size w4 W ∧ W.cell? ⟨z, 0, none⟩ = some (.int .u64 uA) ∧ W.cell? ⟨z, 1, none⟩ = some (.int .u64 uB) ∧ W.cell? ⟨z + 1, 0, none⟩ = some (.int .u64 vA) ∧ W.cell? ⟨z + 1, 1, none⟩ = some (.int .u64 vB))
      (first | assumption | exact ⟨Below.drew (And.left (by assumption)), And.right (by assumption)⟩ | exact ⟨Below.trans (And.left (by assumption)) (Below.mono (by assumption) (Below.size (And.left (by assumption)))), by assumption⟩)
      (first
        | (go_at_call 121; go_must (refine (apart_arg (w := w4) (z := z) (u1 := .int .u64 uA) (u2 := .int .u64 uB) (u3 := .int .u64 vA) (u4 := .int .u64 vB) gX gY hBs4 hn hm hz4 (show Below w4.heap.size w4 _ ∧ _ ∧ _ ∧ _ ∧ _ by assumption) (by first | exact aU | exact aV)).mono ?_; rintro e wS ⟨Az, nz, cz, rfl, hG, hbz, hcz⟩)))
    all_goals
      have gC := (‹GotO _ Bs _ _ _ C›).below hbz
      obtain ⟨cs, rC, oC⟩ := gC
      obtain ⟨ds, rD, oD⟩ := hG
      have RC := Lib.hid rC
      have RD := Lib.hid rD
      have B5 := Lib.hid (B4.out.trans ((show Below w4.heap.size w4 wS ∧ _ by assumption).1.mono B4.out.size))
      clear rC rD hbz hcz hS0 gX gY aU aV
      go_wp2_with fail
      go_ret2
      exact ⟨C, D, cs, ds, _, _, _, _, _, _, rfl, RC.out, RD.out, oC, oD, d0, d1, d2, G.out, B5.out⟩

theorem gcdI_le {a b : Int} (ha : 0 < a) : gcdI a b ≤ a := by
  have := Nat.le_of_dvd (show 0 < a.toNat by omega) (Nat.gcd_dvd_left a.toNat b.toNat)
  unfold gcdI
  omega
/-- What a row counts, as memory has it: for a loop's measure. -/
def rdL (w : World) : Value → Nat
  | .slice (some ⟨b, off, _⟩) n _ => (val 4294967296 ((List.range n).map fun j => match w.cell? ⟨b, off + j, none⟩ with | some (.int _ x) => x | _ => 0)).toNat
  | _ => 0
theorem Sl.rdL {w : World} {B : Nat} {A : Option Addr} {n c : Nat} {xs : List Int} (h : Sl .u32 w B A n c xs) : rdL w (.slice A n c) = (val 4294967296 xs).toNat := by
  cases A with
  | none =>
    have h0 := h.2.2.2.1 rfl
    have : xs = [] := List.eq_nil_of_length_eq_zero (by have := h.len; have := h.le; omega)
    subst this
    rfl
  | some a =>
    by_cases hn : 0 < n
    · obtain ⟨b, off, hA, _, hc⟩ := h.2.2.2.2 hn
      injection hA with hA
      subst hA
      have e : ((List.range n).map fun j => match w.cell? ⟨b, off + j, none⟩ with | some (.int _ x) => x | _ => 0) = xs := by
        refine List.ext_getElem? fun i => ?_
        rcases Nat.lt_or_ge i n with hi | hi
        · obtain ⟨x, hx⟩ := get_of_lt (xs := xs) (by rw [h.len]; exact hi)
          rw [List.getElem?_map, List.getElem?_range hi, hx]
          simp [hc i x hx]
        · rw [List.getElem?_eq_none (by simp; exact hi), List.getElem?_eq_none (by rw [h.len]; exact hi)]
      show (val 4294967296 _).toNat = _
      rw [e]
    · obtain rfl : n = 0 := by omega
      have : xs = [] := List.eq_nil_of_length_eq_zero h.len
      subst this
      rfl

set_option maxHeartbeats 2000000 in
theorem gcdOfTwo_any {w : World} {B : Nat} {A A2 : Option Addr} {n c m c2 : Nat} {xs ys : List Int} (hs : Sl .u32 w B A n c xs) (ht : Sl .u32 w B A2 m c2 ys) (hB : B ≤ w.heap.size) (hT : HalfT w) (hT0 : 0 < w.heap.size)
    (hx : Dg 4294967296 xs) (hy : Dg 4294967296 ys) (hn : n ≤ 2000) (hm : m ≤ 2000) :
    Calls Tryz.prog 78 #[.slice A n c, .slice A2 m c2] w (NewN w (gcdI (val 4294967296 xs) (val 4294967296 ys))) := by
  have hxl := tl_len xs
  have hyl := tl_len ys
  have hl1 := hs.len
  have hl2 := ht.len
  have rX : Row 4294967296 (val 4294967296 xs) (tl xs) := ⟨tl_Dg hx, tl_idem _, tl_val _ _⟩
  have rY : Row 4294967296 (val 4294967296 ys) (tl ys) := ⟨tl_Dg hy, tl_idem _, tl_val _ _⟩
  have a0 := val_nonneg (β := 4294967296) (by decide) hx
  have b0 := val_nonneg (β := 4294967296) (by decide) hy
  generalize val 4294967296 xs = a at *
  generalize val 4294967296 ys = b at *
  have HT := Lib.hid hT
  clear hT
  go_enter Tryz.func78, Tryz.ntmps78
  go_wp2_with fail
  refine (Trim_any hs (by omega)).mono ?_
  rintro e w1 ⟨A1, n1, c1, rfl, ho1, hb1⟩
  have ht1 := ht.below hb1 hB
  go_wp2_with fail
  refine (Trim_any ht1 (by omega)).mono ?_
  rintro e w2 ⟨A3, n3, c3, rfl, ho2, hb2⟩
  have hbw := hb1.trans (hb2.mono hb1.size)
  have hX := ho1.below hb2
  have hY := ho2.lower hb1.size
  have e1 := hX.len
  have e2 := hY.len
  have l1 : n1 ≤ 2000 := by omega
  have l2 : n3 ≤ 2000 := by omega
  have HT2 := Lib.hid (HT.out.below hbw hT0)
  have hz2 := Nat.lt_of_lt_of_le hT0 hbw.size
  have HC := Lib.hid (Cmp_any hX.sl hY.sl rX.dg rY.dg)
  generalize tl xs = X at *
  generalize tl ys = Y at *
  clear hs ht ht1 ho1 ho2 hb1 hb2 HT hT0 hxl hyl hx hy e1 e2
  by_cases hlt : a < b
  case' pos =>
    have hc := cmpI_lt (a := val 4294967296 X) (b := val 4294967296 Y) (by rw [rX.val, rY.val]; exact hlt)
    have RX := Lib.hid rX
    have RY := Lib.hid rY
    have HG := Lib.hid (gcdI_comm b a)
    clear rX rY
    go_wp2_with fail
    refine HC.out.mono ?_
    rintro e w3 ⟨hr3, q, rfl⟩
    obtain rfl : e = .returned (.int .i64 (-1)) := by unfold CmpR at hr3; rw [hr3, hc]
    clear hr3 hc
    have hX3 := hX.drew q
    have hY3 := hY.drew q
    have hb3 : Below w.heap.size w (w2.drewN q) := Below.drewN' hbw q
    have HT3 : Hid (HalfT (w2.drewN q)) := HT2
    have hz3 : 0 < (w2.drewN q).heap.size := hz2
    clear hX hY hbw HT2 hz2 HC
    generalize w2.drewN q = w3 at *
    go_wp2_with fail
  case' neg =>
    have HC2 := Lib.hid (Cmp_ge hX.sl hY.sl rX.dg rY.dg (by rw [rX.val, rY.val]; omega))
    have RX := Lib.hid rX
    have RY := Lib.hid rY
    have HG := Lib.hid (gcdI_comm a b)
    clear rX rY
    go_wp2_with fail
    refine HC2.out.mono ?_
    rintro e w3 ⟨⟨v, hv0, rfl⟩, hb23⟩
    have hX3 := hX.below hb23
    have hY3 := hY.below hb23
    have hb3 : Below w.heap.size w w3 := hbw.trans (hb23.mono hbw.size)
    have HT3 := Lib.hid (HT2.out.below hb23 hz2)
    have hz3 := Nat.lt_of_lt_of_le hz2 hb23.size
    clear hX hY hbw hb23 HT2 hz2 HC HC2
    go_wp2_with fail
  all_goals
    have HB3 := Lib.hid hb3
    have hwz := hb3.size
    clear hb3
    go_loopw [0, 1] (fun av bv wr => ∃ (AL AS : Option Addr) (nl cl ns cs : Nat) (L S : List Int) (x y : Int), av = .slice AL nl cl ∧ bv = .slice AS ns cs ∧ Own .u32 66 wr w.heap.size AL nl cl L ∧ Own .u32 66 wr w.heap.size AS ns cs S ∧
        Hid (Row 4294967296 x L) ∧ Hid (Row 4294967296 y S) ∧ 0 ≤ y ∧ y ≤ x ∧ nl ≤ 2000 ∧ ns ≤ 2000 ∧ Hid (gcdI x y = gcdI a b) ∧ Below w3.heap.size w3 wr) (fun _ bv wr => rdL wr bv)
    case atStart => first
      | exact ⟨A1, A3, n1, c1, n3, c3, X, Y, a, b, rfl, rfl, hX3, hY3, RX, RY, b0, by omega, l1, l2, rfl, Below.refl _ _⟩
      | exact ⟨A3, A1, n3, c3, n1, c1, Y, X, b, a, rfl, rfl, hY3, hX3, RY, RX, a0, by omega, l2, l1, gcdI_comm b a, Below.refl _ _⟩
    case round =>
      clear hX3 hY3 RX RY HG hlt
      obtain ⟨AL, AS, nl, cl, ns, cs, L, S, x, y, rfl, rfl, oL, oS, RL, RS, y0, yx, ll, ls, HG, br⟩ := hrel
      have HTr := Lib.hid (HT3.out.below br hz3)
      have hzr := Nat.lt_of_lt_of_le hz3 br.size
      have hbz : w.heap.size ≤ wr.heap.size := Nat.le_trans hwz br.size
      have HBit := Lib.hid (Bits_any oS.sl HTr.out RS.out.dg (by omega))
      have HBr := Lib.hid br
      clear br
      go_wp2_with fail
      refine HBit.out.mono ?_
      rintro e w' ⟨⟨bb, hbb, rfl⟩, rfl⟩
      rw [RS.out.val] at hbb
      by_cases hbig : 64 < bb
      · have hyb : 18446744073709551616 ≤ y := by
          rcases hbb with ⟨_, h⟩ | ⟨_, h, _⟩
          · omega
          · have := pow_mono (show (0 : Int) < 2 by decide) (show 64 ≤ bb - 1 by omega)
            rw [show (2 : Int) ^ 64 = 18446744073709551616 from rfl] at this
            omega
        have HLe := Lib.hid (lessened_any oL oS RL.out RS.out hbz hyb yx HTr.out hzr ll ls)
        have hms := Lib.hid oS.sl.rdL
        have hsl := oS.len
        have hll := oL.len
        have HVs := Lib.hid RS.out.val
        have hyu : Hid (y < 4294967296 ^ ns) := by
          have := val_lt (β := 4294967296) (by decide) RS.out.dg
          rw [RS.out.val, hsl] at this
          exact this
        clear hbb HBit RL RS oL oS
        go_wp2_with fail
        refine HLe.out.mono ?_
        rintro e w5 ⟨C, D, cs', ds', A5, n5, c5, A6, n6, c6, rfl, rC, rD, oC, oD, d0, d1, d2, d3, b5⟩
        have hn5 : n5 ≤ ns := by rw [← oC.len]; exact rC.len_le (by decide) (by have := hyu.out; omega)
        have hn6 : n6 ≤ ns := by rw [← oD.len]; exact rD.len_le (by decide) (by have := hyu.out; omega)
        have G5 := Lib.hid (d3.trans HG.out)
        have B5 := Lib.hid (HBr.out.trans (b5.mono HBr.out.size))
        have HM := Lib.hid (show rdL w5 (.slice A6 n6 c6) < rdL wr (.slice AS ns cs) by
          rw [oD.sl.rdL, hms.out, rD.val, HVs.out]; omega)
        have RC := Lib.hid rC
        have RD := Lib.hid rD
        clear rC rD d3 b5 HLe hms HG HVs
        go_wp2_with fail
        go_roundw
        case rel => exact ⟨A5, A6, n5, c5, n6, c6, cs', ds', C, D, rfl, rfl, oC, oD, RC, RD, d0, by omega, by omega, by omega, G5, B5.out⟩
        case measure => exact HM.out
      · have hyu : y < 18446744073709551616 := by
          rcases hbb with ⟨h, _⟩ | ⟨_, _, h⟩
          · omega
          · have := pow_mono (show (0 : Int) < 2 by decide) (show bb ≤ 64 by omega)
            rw [show (2 : Int) ^ 64 = 18446744073709551616 from rfl] at this
            omega
        have HBit2 := Lib.hid (Bits_any oL.sl HTr.out RL.out.dg (by omega))
        clear hbb HBit
        go_wp2_with fail
        refine HBit2.out.mono ?_
        rintro e w' ⟨⟨ba, hba, rfl⟩, rfl⟩
        rw [RL.out.val] at hba
        have hba0 : (0 : Int) ≤ ba := by omega
        have B6 : Below w.heap.size w wr := HB3.out.trans (HBr.out.mono hwz)
        have hlen2 : ∀ (x : Int) (zs : List Int), Row 4294967296 x zs → x < 18446744073709551616 → zs.length ≤ 2 := fun x zs h hx => h.len_le (by decide) (by rw [show (4294967296 : Int) ^ 2 = 18446744073709551616 from rfl]; exact hx)
        have HL2 := Lib.hid hlen2
        clear hlen2 HBit2
        by_cases hns : ns = 0
        · subst hns
          have hy0 : y = 0 := by rw [← RS.out.val, List.eq_nil_of_length_eq_zero oS.len]; rfl
          have RZ := Lib.hid (show Row 4294967296 (gcdI a b) L by rw [← HG.out, hy0, gcdI_zero (by omega)]; exact RL.out)
          have B7 := Lib.hid B6
          clear hba RL RS HG B6 oS hy0
          by_cases hb64 : 64 < ba
          all_goals
            go_wp2_with fail
            go_ret
            exact ⟨L, RZ.out, AL, nl, cl, rfl, oL, B7.out⟩
        · have hns0 : ((ns : Int) == 0) = false := beq_eq_false_iff_ne.2 (by omega)
          have hypos : 0 < y := by
            rcases Int.lt_or_le 0 y with h | h
            · exact h
            · have := Tr.zero (β := 4294967296) (by decide) RS.out.dg RS.out.tr (by rw [RS.out.val]; omega)
              have hl := oS.len
              rw [this] at hl
              simp at hl
              omega
          have hs2 : ns ≤ 2 := by rw [← oS.len]; exact HL2.out _ _ RS.out hyu
          by_cases hb64 : 64 < ba
          · have HDv := Lib.hid (divided_any oL oS RL.out RS.out hbz (by omega) hypos HTr.out hzr (by omega) (by omega))
            clear hba RL RS oL oS
            go_wp2_with fail
            refine HDv.out.mono ?_
            rintro e w5 ⟨C, D, cs', ds', A5, n5, c5, A6, n6, c6, rfl, rC, rD, oC, oD, d0, d1, d2, d3, b5⟩
            have hn5 : n5 ≤ 2 := by rw [← oC.len]; exact HL2.out _ _ rC (by omega)
            have hn6 : n6 ≤ 2 := by rw [← oD.len]; exact HL2.out _ _ rD (by omega)
            have G5 := Lib.hid (d3.trans HG.out)
            have B5 : Below w.heap.size w w5 := B6.trans (b5.mono hbz)
            have RC := Lib.hid rC
            have RD := Lib.hid rD
            have hC64 : C < 18446744073709551616 := by omega
            have hD64 : D < 18446744073709551616 := by omega
            clear rC rD d3 b5 HDv HG
            by_cases hn6z : n6 = 0
            · subst hn6z
              have hy0 : D = 0 := by rw [← RD.out.val, List.eq_nil_of_length_eq_zero oD.len]; rfl
              have RZ := Lib.hid (show Row 4294967296 (gcdI a b) cs' by rw [← G5.out, hy0, gcdI_zero (by omega)]; exact RC.out)
              have B7 := Lib.hid B5
              clear RC RD G5 B5 oD hy0
              go_wp2_with fail
              go_ret
              exact ⟨cs', RZ.out, A5, n5, c5, rfl, oC, B7.out⟩
            · have hn60 : ((n6 : Int) == 0) = false := beq_eq_false_iff_ne.2 (by omega)
              have HW1 := Lib.hid (wordOf_any oC.sl RC.out.dg hn5)
              have HW2 := Lib.hid (wordOf_any oD.sl RD.out.dg hn6)
              rw [RC.out.val] at HW1
              rw [RD.out.val] at HW2
              have HGW := Lib.hid (gcdOfWords_any (w := w5) (a := C) (b := D) ⟨by omega, hC64⟩ ⟨d0, hD64⟩)
              have hg0 := gcdI_nonneg C D
              have hg1 := Lib.hid (gcdI_le (a := C) (b := D) (by omega))
              have B7 := Lib.hid B5
              clear oC oD RC RD
              go_wp2_with fail
              refine HW1.out.mono ?_
              rintro e w' ⟨rfl, rfl⟩
              go_wp2_with fail
              refine HW2.out.mono ?_
              rintro e w' ⟨rfl, rfl⟩
              go_wp2_with fail
              refine HGW.out.mono ?_
              rintro e w' ⟨rfl, q7, rfl⟩
              have HR7 := Lib.hid (rowOf_any (w := World.drewN w5 q7) (W := gcdI C D) ⟨hg0, by have := hg1.out; omega⟩)
              go_wp2_with fail
              refine HR7.out.mono ?_
              rintro e w8 ⟨zs, rZ, A8, n8, c8, rfl, o8, b8⟩
              rw [G5.out] at rZ
              have RZ := Lib.hid rZ
              have o8' := Lib.hid (o8.lower (B' := w.heap.size) (Nat.le_trans B7.out.size (Nat.le_refl _)))
              have B8 := Lib.hid (B7.out.trans ((Below.of_drewN b8).mono B7.out.size))
              clear rZ o8 b8
              go_wp2_with fail
              go_ret
              exact ⟨zs, RZ.out, A8, n8, c8, rfl, o8'.out, B8.out⟩
          · have hx64 : x < 18446744073709551616 := by
              rcases hba with ⟨h, _⟩ | ⟨_, _, h⟩
              · omega
              · have := pow_mono (show (0 : Int) < 2 by decide) (show ba ≤ 64 by omega)
                rw [show (2 : Int) ^ 64 = 18446744073709551616 from rfl] at this
                omega
            have hl2 : nl ≤ 2 := by rw [← oL.len]; exact HL2.out _ _ RL.out hx64
            clear hba
            have HW1 := Lib.hid (wordOf_any oL.sl RL.out.dg hl2)
            have HW2 := Lib.hid (wordOf_any oS.sl RS.out.dg hs2)
            rw [RL.out.val] at HW1
            rw [RS.out.val] at HW2
            have HGW := Lib.hid (gcdOfWords_any (w := wr) (a := x) (b := y) ⟨by omega, hx64⟩ ⟨y0, hyu⟩)
            have hg0 := gcdI_nonneg x y
            have hg1 := Lib.hid (gcdI_le (a := x) (b := y) (by omega))
            have B7 := Lib.hid B6
            clear oL oS RL RS
            go_wp2_with fail
            refine HW1.out.mono ?_
            rintro e w' ⟨rfl, rfl⟩
            go_wp2_with fail
            refine HW2.out.mono ?_
            rintro e w' ⟨rfl, rfl⟩
            go_wp2_with fail
            refine HGW.out.mono ?_
            rintro e w' ⟨rfl, q7, rfl⟩
            have HR7 := Lib.hid (rowOf_any (w := World.drewN wr q7) (W := gcdI x y) ⟨hg0, by have := hg1.out; omega⟩)
            go_wp2_with fail
            refine HR7.out.mono ?_
            rintro e w8 ⟨zs, rZ, A8, n8, c8, rfl, o8, b8⟩
            rw [HG.out] at rZ
            have RZ := Lib.hid rZ
            have o8' := Lib.hid (o8.lower (B' := w.heap.size) (Nat.le_trans B7.out.size (Nat.le_refl _)))
            have B8 := Lib.hid (B7.out.trans ((Below.of_drewN b8).mono B7.out.size))
            clear rZ o8 b8
            go_wp2_with fail
            go_ret
            exact ⟨zs, RZ.out, A8, n8, c8, rfl, o8'.out, B8.out⟩

/-- The greatest divisor of all, from g on. -/
def gcdL (g : Int) : List (List Int) → Int
  | [] => g
  | xs :: l => gcdL (gcdI g (val 4294967296 xs)) l
theorem gcdL_snoc (g : Int) (l : List (List Int)) (xs : List Int) : gcdL g (l ++ [xs]) = gcdI (gcdL g l) (val 4294967296 xs) := by
  induction l generalizing g with
  | nil => rfl
  | cons x l ih => simp only [List.cons_append, gcdL, ih]
theorem gcdL_bound {l : List (List Int)} {M : Nat} (hl : ∀ xs ∈ l, Dg 4294967296 xs ∧ xs.length ≤ M) : 0 ≤ gcdL 0 l ∧ gcdL 0 l < 4294967296 ^ M := by
  have p := pow_pos' (show (0 : Int) < 4294967296 by decide) M
  suffices ∀ (l : List (List Int)) (g : Int), (∀ xs ∈ l, Dg 4294967296 xs ∧ xs.length ≤ M) → 0 ≤ g → g < 4294967296 ^ M → 0 ≤ gcdL g l ∧ gcdL g l < 4294967296 ^ M from this l 0 hl (by omega) p
  intro l
  induction l with
  | nil => intro g _ h0 h1; exact ⟨h0, h1⟩
  | cons x l ih =>
    intro g h h0 h1
    obtain ⟨hd, hx⟩ := h x (by simp)
    have x0 := val_nonneg (β := 4294967296) (by decide) hd
    have x1 := val_lt (β := 4294967296) (by decide) hd
    have x2 := pow_mono (show (0 : Int) < 4294967296 by decide) hx
    refine ih _ (fun xs hxs => h xs (by simp [hxs])) (gcdI_nonneg _ _) ?_
    rcases (show g = 0 ∨ 0 < g by omega) with rfl | hg
    · rw [gcdI_comm, gcdI_zero x0]; omega
    · have := gcdI_le (a := g) (b := val 4294967296 x) hg
      omega

set_option maxHeartbeats 2000000 in
theorem Gcd_any {w : World} {B : Nat} {A : Option Addr} {n c M : Nat} {xss : List (List Int)} (hs : SlS w B A n c xss) (hB : B ≤ w.heap.size) (hT : HalfT w) (hT0 : 0 < w.heap.size) (hx : ∀ xs ∈ xss, Dg 4294967296 xs ∧ xs.length ≤ M) (hM : M ≤ 2000) :
    Calls Tryz.prog 54 #[.slice A n c] w (NewN w (gcdL 0 xss)) := by
  have hl := hs.1
  have hmx := hs.lenMax
  have HT := Lib.hid hT
  clear hT
  go_enter Tryz.func54, Tryz.ntmps54
  go_wp2_with fail
  go_loopw [3, 8] (fun gv iv wr => ∃ (k ng cg : Nat) (Ag : Option Addr) (G : List Int), k ≤ n ∧ iv = .int .i64 k ∧ gv = .slice Ag ng cg ∧ Own .u32 66 wr w.heap.size Ag ng cg G ∧ Hid (Row 4294967296 (gcdL 0 (xss.take k)) G) ∧ Below w.heap.size w wr) (fun _ iv _ => n - (intOf iv).toNat)
  case atStart => exact ⟨0, 0, 0, none, [], Nat.zero_le _, rfl, rfl, Own.nil, ⟨Dg.nil, Tr.nil, rfl⟩, Below.refl _ _⟩
  case round =>
    obtain ⟨k, ng, cg, Ag, G, hk, rfl, rfl, oG, RG, br⟩ := hrel
    by_cases hlt : k < n
    · obtain ⟨b, off, xs, A1, n1, c1, rfl, hbB, ex, hc, s1⟩ := (hs.below br hB).at_ hlt
      obtain ⟨hd, hx1⟩ := hx xs (List.mem_of_getElem? ex)
      have hlx := s1.len
      have HTr := Lib.hid (HT.out.below br hT0)
      have hzr := Nat.lt_of_lt_of_le hT0 br.size
      have bnd := gcdL_bound (l := xss.take k) (M := M) (fun xs h => hx xs (List.mem_of_mem_take h))
      have hng : ng ≤ 2000 := by
        have := RG.out.len_le (by decide) bnd.2
        have := oG.len
        omega
      have hbz := br.size
      have HB := Lib.hid br
      have HG2 := Lib.hid (gcdOfTwo_any oG.sl (s1.more (Nat.le_trans hB hbz)) (Nat.le_refl _) HTr.out hzr RG.out.dg hd hng (by omega))
      rw [RG.out.val] at HG2
      have HS := Lib.hid (show gcdL 0 (xss.take (k + 1)) = gcdI (gcdL 0 (xss.take k)) (val 4294967296 xs) by
        rw [List.take_add_one, ex]; exact gcdL_snoc _ _ _)
      clear br bnd hs oG s1 RG
      go_wp2_with fail
      refine HG2.out.mono ?_
      rintro e w1 ⟨G1, r1, A2, n2, c2, rfl, o1, b1⟩
      rw [← HS.out] at r1
      have R1 := Lib.hid r1
      have B1 := Lib.hid (HB.out.trans (b1.mono hbz))
      have o1' := o1.lower (B' := w.heap.size) hbz
      clear r1 b1 o1 HG2
      go_wp2_with fail
      go_roundw
      case rel => exact ⟨k + 1, n2, c2, A2, G1, by omega, by go_num, rfl, o1', R1, B1.out⟩
      case measure => simp [intOf] <;> omega
    · obtain rfl : n = k := by omega
      rw [List.take_of_length_le (by omega)] at RG
      have HB := Lib.hid br
      clear br
      go_wp2_with fail
      go_ret
      exact ⟨G, RG.out, Ag, ng, cg, rfl, oG, HB.out⟩
end Go.Proofs.YtbjooeapjhaapaaGreatDoor
