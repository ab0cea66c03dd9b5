/- tallageref02: Limbs, Pow, Parse, Put: what each call answers. -/
import Derived.Test.YthicpakanhhipaaGreatDoorNRefC
import Derived.StillTailTactics
namespace Go.Proofs.YthicpakanhhipaaGreatDoor
open Go Go.RowKit

theorem elemW : ElemT Tryz.prog 22 27 .u32 4 := ⟨Tryz.underlying22, info_parts (by kernel_rfl)⟩
theorem val_ge {xs : List Int} (h : Dg 2 xs) (ht : Tr xs) (hn : 0 < xs.length) : 2 ^ (xs.length - 1) ≤ val 2 xs := by
  rcases Int.lt_or_le (val 2 xs) (2 ^ (xs.length - 1)) with hl | hl
  · have := Row.len_le (β := 2) (by decide) ⟨h, ht, rfl⟩ hl
    omega
  · exact hl
/-- Limbs of binary digits, laid down up to digit 32 q + r: the last one is l. -/
structure LimI (X : List Int) (q r : Nat) (P : List Int) (l : Int) : Prop where
  dg : Dg 4294967296 P
  len : P.length = q
  r32 : r < 32
  l0 : 0 ≤ l
  l1 : l < 2 ^ r
  num : val 4294967296 P + 4294967296 ^ q * l = val 2 (X.take (32 * q + r))
theorem LimI.lt {X P : List Int} {q r : Nat} {l : Int} (h : LimI X q r P l) : l < 4294967296 :=
  Int.lt_of_lt_of_le h.l1 (show (2 : Int) ^ r ≤ 2 ^ 32 from pow_mono (by decide) (by have := h.r32; omega))
theorem LimI.put {X P : List Int} {q r : Nat} {l y : Int} (h : LimI X q r P l) (hy : 0 ≤ y ∧ y < 2) (ey : X[32 * q + r]? = some y) :
    0 ≤ l + y * 2 ^ r ∧ l + y * 2 ^ r < 2 ^ (r + 1) ∧ val 4294967296 P + 4294967296 ^ q * (l + y * 2 ^ r) = val 2 (X.take (32 * q + r + 1)) := by
  have hp : (0 : Int) < 2 ^ r := pow_pos' (by decide) r
  have h0 := h.l0
  have h1 := h.l1
  refine ⟨?_, ?_, ?_⟩
  · rcases (show y = 0 ∨ y = 1 by omega) with rfl | rfl <;> omega
  · rw [Int.pow_succ]
    rcases (show y = 0 ∨ y = 1 by omega) with rfl | rfl <;> omega
  · rw [val_take_next, ey, ← h.num, Int.mul_add, Int.pow_add, Int.pow_mul, show (2 : Int) ^ 32 = 4294967296 by decide]
    simp only [Option.getD_some]
    rw [Int.mul_comm y, Int.mul_assoc]
    omega
theorem LimI.next {X P : List Int} {q r : Nat} {l y : Int} (h : LimI X q r P l) (hr : r + 1 < 32) (hy : 0 ≤ y ∧ y < 2) (ey : X[32 * q + r]? = some y) : LimI X q (r + 1) P (l + y * 2 ^ r) := by
  obtain ⟨h1, h2, h3⟩ := h.put hy ey
  exact ⟨h.dg, h.len, hr, h1, h2, h3⟩
theorem LimI.full {X P : List Int} {q r : Nat} {l y : Int} (h : LimI X q r P l) (hr : r + 1 = 32) (hy : 0 ≤ y ∧ y < 2) (ey : X[32 * q + r]? = some y) : LimI X (q + 1) 0 (P ++ [l + y * 2 ^ r]) 0 := by
  obtain ⟨h1, h2, h3⟩ := h.put hy ey
  refine ⟨h.dg.append (Dg.cons ⟨h1, by rw [hr] at h2; exact h2⟩ Dg.nil), by simp [h.len], by omega, Int.le_refl _, by simp, ?_⟩
  rw [val_snoc, h.len, h3, Int.mul_zero, Int.add_zero, show 32 * (q + 1) + 0 = 32 * q + r + 1 by omega]
/-- What is laid down: without a last one where none was begun. -/
def limO (r : Nat) (P : List Int) (l : Int) : List Int := if r = 0 then P else P ++ [l]
theorem LimI.done {X P : List Int} {q r : Nat} {l : Int} (h : LimI X q r P l) (hd : Dg 2 X) (ht : Tr X) (hl : X.length = 32 * q + r) : Row 4294967296 (val 2 X) (limO r P l) := by
  have hn := h.num
  rw [List.take_of_length_le (by omega)] at hn
  by_cases hr : r = 0
  · subst hr
    have hl0 : l = 0 := by have := h.l0; have := h.l1; simp at this; omega
    subst hl0
    rw [Int.mul_zero, Int.add_zero] at hn
    refine ⟨h.dg, ?_, hn⟩
    show Tr P
    by_cases hq : q = 0
    · have : P = [] := List.eq_nil_of_length_eq_zero (by rw [h.len, hq])
      rw [this]; exact Tr.nil
    · have hge := val_ge hd ht (by omega)
      obtain ⟨Z, z, rfl⟩ : ∃ Z z, P = Z ++ [z] := ⟨P.dropLast, P.getLast (by intro e; have := h.len; simp [e] at this; omega), (List.dropLast_concat_getLast _).symm⟩
      have hz : z ≠ 0 := by
        rintro rfl
        rw [val_snoc, Int.mul_zero, Int.add_zero] at hn
        have h1 := val_lt (β := 4294967296) (by decide) h.dg.left
        have h2 := h.len
        simp at h2
        have h3 : (4294967296 : Int) ^ Z.length ≤ 2 ^ (X.length - 1) := by
          rw [show (4294967296 : Int) = 2 ^ 32 by decide, ← Int.pow_mul]; exact pow_mono (by decide) (by omega)
        omega
      exact tl_snoc_ne _ hz
  · have hO : limO r P l = P ++ [l] := if_neg hr
    rw [hO]
    refine ⟨h.dg.append (Dg.cons ⟨h.l0, h.lt⟩ Dg.nil), ?_, by rw [val_snoc, h.len]; exact hn⟩
    have hge := val_ge hd ht (by omega)
    refine tl_snoc_ne _ ?_
    rintro rfl
    rw [Int.mul_zero, Int.add_zero] at hn
    have h1 := val_lt (β := 4294967296) (by decide) h.dg
    have h3 : (4294967296 : Int) ^ P.length ≤ 2 ^ (X.length - 1) := by
      rw [show (4294967296 : Int) = 2 ^ 32 by decide, ← Int.pow_mul]; exact pow_mono (by decide) (by have := h.len; omega)
    omega

theorem LimI.go {X P : List Int} {q r : Nat} {l y : Int} (h : LimI X q r P l) (hy : 0 ≤ y ∧ y < 2) (ey : X[32 * q + r]? = some y) : ∃ q' r' P' l', 32 * q' + r' = 32 * q + r + 1 ∧ limO r' P' l' = P ++ [l + y * 2 ^ r] ∧ LimI X q' r' P' l' := by
  by_cases hr : r + 1 < 32
  · exact ⟨q, r + 1, P, _, by omega, if_neg (by omega), h.next hr hy ey⟩
  · exact ⟨q + 1, 0, P ++ [l + y * 2 ^ r], 0, by have := h.r32; omega, if_pos rfl, h.full (by have := h.r32; omega) hy ey⟩
theorem LimI.wraps {X P : List Int} {q r : Nat} {l y : Int} (h : LimI X q r P l) (hy : 0 ≤ y ∧ y < 2) : IntKind.u32.wrap (y * 2 ^ r) = y * 2 ^ r ∧ IntKind.u32.wrap (l + y * 2 ^ r) = l + y * 2 ^ r := by
  have hp : (0 : Int) < 2 ^ r := pow_pos' (by decide) r
  have hp1 : (2 : Int) ^ r * 2 ≤ 2 ^ 32 := by rw [← Int.pow_succ]; exact pow_mono (by decide) (by have := h.r32; omega)
  have h0 := h.l0
  have h1 := h.l1
  rw [IntKind.wrap_u32, IntKind.wrap_u32]
  rcases (show y = 0 ∨ y = 1 by omega) with rfl | rfl <;> constructor <;> omega

set_option maxRecDepth 20000 in
set_option maxHeartbeats 2000000 in
theorem blimbs_any {w : World} {B : Nat} {A : Option Addr} {n c : Nat} {xs : List Int} (hs : Sl .u8 w B A n c xs) (hB : B ≤ w.heap.size) (hx : Dg 2 xs) (hn : n ≤ 1000000000) :
    Calls Tryz.prog 33 #[.slice A n c] w (Seen .u32 4294967296 w (val 2 xs)) := by
  have hX := tl_Dg hx
  have hT := tl_idem xs
  have hll : (tl xs).length ≤ 1000000000 := by have := tl_len xs; have := hs.len; omega
  have XV := Lib.hid (tl_val 2 xs)
  go_enter Tryz.func33, Tryz.ntmps33
  go_wp2_with fail
  refine (btrim_any hs).mono ?_
  rintro e w' ⟨⟨n', rfl, hs'⟩, rfl⟩
  have hl' := hs'.len
  generalize tl xs = X at *
  clear hs
  go_wp2_with fail
  go_loopw [3, 4] (fun ov iv wr => ∃ (q r m c2 : Nat) (A2 : Option Addr) (P : List Int) (l : Int), 32 * q + r ≤ n' ∧ (∃ i : Nat, i = 32 * q + r ∧ iv = .int .i64 i) ∧ ov = .slice A2 m c2 ∧ Own .u32 27 wr w.heap.size A2 m c2 (limO r P l) ∧ Below w.heap.size w wr ∧ LimI X q r P l) (fun _ iv _ => n' - (intOf iv).toNat)
  case atStart => exact ⟨0, 0, 0, 0, none, [], 0, by omega, ⟨0, rfl, rfl⟩, rfl, Own.nil, Below.refl _ _, ⟨Dg.nil, rfl, by omega, by omega, by simp, by simp [val]⟩⟩
  case round =>
    obtain ⟨q, r, m, c2, A2, P, l, hi, ⟨i, hir, rfl⟩, rfl, ho, hb, hl⟩ := hrel
    have hr32 := hl.r32
    by_cases hend : n' ≤ 32 * q + r
    · have HR := Lib.hid (hl.done hX hT (by omega))
      rw [XV.out] at HR
      have hni : n' ≤ i := by omega
      clear hl hir
      go_wp2_with fail
      go_ret
      exact ⟨_, A2, m, c2, rfl, HR.out, ho.sl, hb⟩
    · have hmq : m ≤ q + 1 := by
        have h1 := ho.len
        have h2 := hl.len
        unfold limO at h1
        split at h1
        · omega
        · simp at h1; omega
      have hlt : (i : Int) < n' := by omega
      have HI := Lib.hid hir
      have HL := Lib.hid hl
      by_cases hr : ((i : Int) % 32 == 0) = true
      case' pos =>
        have hr0 : r = 0 := by have := beq_iff_eq.1 hr; omega
        have hl0 : l = 0 := by have h0 := hl.l0; have h1 := hl.l1; rw [hr0] at h1; simp at h1; omega
        have HO := Lib.hid (show Own .u32 27 wr w.heap.size A2 m c2 P by rw [show limO r P l = P from if_pos hr0] at ho; exact ho)
        clear ho hir hl
        go_wp2_with (at_builtin; refine wpList_app elemW rfl _ _ rfl (HO.out.alloc _) rfl (Sl.new1 .u32 _ _ _) rfl (by omega) (by unfold maxLen; omega) (by have := hb.size; simp; omega) ?_; intro A5 cz w5 h5 hg)
        have hb5 : Below w.heap.size w w5 := (hb.alloc hb.size _).grown hg (by have := hb.size; simp; omega) (fun k hk => (HO.out.blk_ k hk).1)
        clear hg hb HO
        rw [← hl0] at h5
        have hr1 : r = 0 ∨ r ≠ 0 := .inl hr0
        clear hr0 hl0 hr
        generalize m + 1 = mz at h5 ⊢
      case' neg =>
        have hr0 : r ≠ 0 := by intro h; apply hr; rw [beq_iff_eq]; omega
        have h5 : Own .u32 27 wr w.heap.size A2 m c2 (P ++ [l]) := by rw [show P ++ [l] = limO r P l from (if_neg hr0).symm]; exact ho
        have hb5 := hb
        have hrb : ((i : Int) % 32 == 0) = false := by simpa using hr
        clear ho hb hir hl
        go_wp2_with fail
        obtain ⟨mz, rfl⟩ : ∃ mz, mz = m := ⟨m, rfl⟩
        obtain ⟨w5, rfl⟩ : ∃ w5, w5 = wr := ⟨wr, rfl⟩
        obtain ⟨cz, rfl⟩ : ∃ cz, cz = c2 := ⟨c2, rfl⟩
        clear hr hrb hr0
      all_goals
        have h5l := h5.len
        have h5p := HL.out.len
        simp at h5l
        obtain ⟨g, x0, rfl, hgB, hgs, hx0, hcl, hfz, hput⟩ := h5.set (i := q) (by omega)
        obtain ⟨b, off, y, rfl, hbB, ey, hcy⟩ := (hs'.below hb5 hB).at_ (j := i) (by omega)
        have hd2 : (i : Int).tdiv 32 = (q : Int) := by rw [Int.tdiv_eq_ediv_of_nonneg (by omega)]; have := HI.out; omega
        have hm2 : (i : Int).tmod 32 = (r : Int) := by rw [Int.tmod_eq_emod_of_nonneg (by omega)]; have := HI.out; omega
        have hqm : (q : Int) < (mz : Int) := by omega
        have hw1 : IntKind.i64.wrap (q : Int) = q := by rw [IntKind.wrap_i64]; omega
        have hw2 : IntKind.i64.wrap (r : Int) = r := by rw [IntKind.wrap_i64]; omega
        have hyy := hX.get ey
        have hxl : x0 = l := by rw [List.getElem?_append_right (by omega), h5p, Nat.sub_self] at hx0; simpa using hx0.symm
        subst hxl
        have hgo := Lib.hid (HL.out.go hyy (by rw [← HI.out]; exact ey))
        have hw3 : IntKind.u32.wrap y = y := by rw [IntKind.wrap_u32]; omega
        have hw4 := (HL.out.wraps hyy).1
        have hw5 := (HL.out.wraps hyy).2
        have hnew := Lib.hid (hput (x0 + y * 2 ^ r)).1
        have hset := Lib.hid (show (P ++ [x0]).set q (x0 + y * 2 ^ r) = P ++ [x0 + y * 2 ^ r] by
          rw [List.set_append_right _ _ (by omega), h5p, Nat.sub_self]; rfl)
        have hbn := Lib.hid (hb5.drew.setCell (p := ⟨g, q, none⟩) hgB (.int .u32 (x0 + y * 2 ^ r)))
        clear hput h5 hb5 hx0 HL
        go_still_tail 18, (by kernel_rfl)
        change wpList _ _ _ _ _ w5.drew
        have hcl' : w5.drew.cell? ⟨g, q, none⟩ = some (.int .u32 x0) := hcl
        have hfz' : w5.drew.frozen? ⟨g, q, none⟩ = false := hfz
        have hnew' : Own .u32 27 (w5.drew.setCell ⟨g, q, none⟩ (.int .u32 (x0 + y * 2 ^ r))) w.heap.size (some ⟨g, 0, none⟩) mz cz (P ++ [x0 + y * 2 ^ r]) := by rw [← hset.out]; exact hnew.out
        have hbn' : Below w.heap.size w (w5.drew.setCell ⟨g, q, none⟩ (.int .u32 (x0 + y * 2 ^ r))) := hbn.out
        clear hcl hfz hcy hnew hbn hset
        go_wp2_with fail
        obtain ⟨q', r', P', l', e1, e2, e3⟩ := hgo.out
        go_roundw
        case rel => exact ⟨q', r', mz, cz, some ⟨g, 0, none⟩, P', l', by have := HI.out; omega, ⟨i + 1, by have := HI.out; omega, by go_num⟩, rfl, by rw [e2]; exact hnew', hbn', e3⟩
        case measure => simp [intOf] <;> omega
end Go.Proofs.YthicpakanhhipaaGreatDoor
