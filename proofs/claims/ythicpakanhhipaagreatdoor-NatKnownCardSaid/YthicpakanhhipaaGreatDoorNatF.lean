/- nat: turns, apart, lessened: what each call answers, and leaves. -/
import Derived.Test.YthicpakanhhipaaGreatDoorNatE
import Derived.BigRegion
import Derived.Laws.Rows
import Derived.Deep.RegionHeld3
namespace Go.Proofs.YthicpakanhhipaaGreatDoor
open Go Go.RowKit

theorem set2 (w : World) (a b a' b' : Value) (t : TypeId) : ((w.alloc (.cells #[a, b] t)).setCell ⟨w.heap.size, 0, none⟩ a').setCell ⟨w.heap.size, 1, none⟩ b' = w.alloc (.cells #[a', b'] t) := by
  simp [World.setCell_alloc_at]
theorem set_past (w : World) (o : Obj) (n i : Nat) (v : Value) (h : n < w.heap.size) : (w.alloc o).setCell ⟨n, i, none⟩ v = (w.setCell ⟨n, i, none⟩ v).alloc o := by
  simp [World.setCell_alloc_past, h]
theorem set2_past (w : World) (o : Obj) (n : Nat) (a b : Value) (h : n < w.heap.size) : ((w.alloc o).setCell ⟨n, 0, none⟩ a).setCell ⟨n, 1, none⟩ b = ((w.setCell ⟨n, 0, none⟩ a).setCell ⟨n, 1, none⟩ b).alloc o := by
  rw [set_past _ _ _ _ _ h, set_past _ _ _ _ _ (by rw [World.size_setCell]; exact h)]
theorem set_drewN (W : World) (k : Nat) (p : Addr) (v : Value) : (W.drewN k).setCell p v = (W.setCell p v).drewN k := rfl
theorem two_set (w : World) (a b c d e f a' b' c' d' : Value) (t : TypeId) (k : Nat) :
    ((((((((w.alloc (.cells #[a, b] t)).alloc (.cells #[c, d] t)).alloc (.cells #[e, f] t)).drewN k).setCell ⟨w.heap.size, 0, none⟩ a').setCell ⟨w.heap.size, 1, none⟩ b').setCell ⟨w.heap.size + 1, 0, none⟩ c').setCell ⟨w.heap.size + 1, 1, none⟩ d') =
      (((w.alloc (.cells #[a', b'] t)).alloc (.cells #[c', d'] t)).alloc (.cells #[e, f] t)).drewN k := by
  rw [set_drewN, set_drewN, set_drewN, set_drewN, set2_past _ _ _ _ _ (by rw [size_one, size_one]; omega), set2_past _ _ _ _ _ (by rw [World.size_setCell, World.size_setCell, size_one, size_one]; omega), set2_past _ _ _ _ _ (by rw [size_one]; omega), set2, ← size_one w (.cells #[a', b'] t), set2]
theorem three_set (w : World) (a b c d e f a' b' c' d' e' f' : Value) (t : TypeId) (k : Nat) :
    ((((((((((w.alloc (.cells #[a, b] t)).alloc (.cells #[c, d] t)).alloc (.cells #[e, f] t)).drewN k).setCell ⟨w.heap.size, 0, none⟩ a').setCell ⟨w.heap.size, 1, none⟩ b').setCell ⟨w.heap.size + 1, 0, none⟩ c').setCell ⟨w.heap.size + 1, 1, none⟩ d').setCell ⟨w.heap.size + 1 + 1, 0, none⟩ e').setCell ⟨w.heap.size + 1 + 1, 1, none⟩ f') =
      (((w.alloc (.cells #[a', b'] t)).alloc (.cells #[c', d'] t)).alloc (.cells #[e', f'] t)).drewN k := by
  rw [two_set, set_drewN, set_drewN, ← size_one w (.cells #[a', b'] t), ← size_one (w.alloc (.cells #[a', b'] t)) (.cells #[c', d'] t), set2]
theorem three_heap (w : World) (A B C : Obj) (k : Nat) : ((((w.alloc A).alloc B).alloc C).drewN k).heap[w.heap.size]? = some A ∧ ((((w.alloc A).alloc B).alloc C).drewN k).heap[w.heap.size + 1]? = some B := by
  refine ⟨?_, ?_⟩
  · show (((w.alloc A).alloc B).alloc C).heap[w.heap.size]? = some A
    rw [heap_alloc_old (h := by rw [size_one, size_one]; omega), heap_alloc_old (h := by rw [size_one]; omega), heap_alloc_new]
  · show (((w.alloc A).alloc B).alloc C).heap[w.heap.size + 1]? = some B
    rw [heap_alloc_old (h := by rw [size_one, size_one]; omega), ← size_one w A, heap_alloc_new]
theorem results_cell2 {P : Program} {fn : Func} {p q : Tmp} {ty : TypeId} (h : fn.results = #[.cell p ty, .cell q ty]) (tmps : Array Value) (w : World) (g1 g2 : Nat) (t1 t2 : TypeId) (cs1 cs2 : Array Value) (f1 f2 : Nat × Nat) (d : TypeDesc)
    (hp : tmps.getD p undef = .pointer (some ⟨g1, 0, none⟩)) (hq : tmps.getD q undef = .pointer (some ⟨g2, 0, none⟩)) (h1 : w.heap[g1]? = some (.cells cs1 t1 f1)) (h2 : w.heap[g2]? = some (.cells cs2 t2 f2))
    (hu : P.underlying ty = some d) (hd : (match d with | .struct _ | .array _ _ => true | _ => false) = true) (i1 : (P.info? ty).map (·.size) = some cs1.size) (i2 : (P.info? ty).map (·.size) = some cs2.size) :
    (results fn tmps).run P w = .ok (.tuple #[.agg cs1, .agg cs2]) w := by
  have hp' : tmps[p]?.getD undef = .pointer (some ⟨g1, 0, none⟩) := by simpa using hp
  have hq' : tmps[q]?.getD undef = .pointer (some ⟨g2, 0, none⟩) := by simpa using hq
  simp [results, h, hp', hq', asAddr, run_loadVar_row w g1 t1 ty cs1 f1 d h1 hu hd i1, run_loadVar_row w g2 t2 ty cs2 f2 d h2 hu hd i2]
theorem three_below (w : World) (A B C : Obj) (k : Nat) : Below w.heap.size w ((((w.alloc A).alloc B).alloc C).drewN k) :=
  Below.drewN' ((((Below.refl _ _).alloc (Nat.le_refl _) A).alloc (by rw [size_one]; omega) B).alloc (by rw [size_one, size_one]; omega) C) k

set_option maxHeartbeats 2000000 in
theorem turns_any {w : World} {a b : Int} (h0 : 0 ≤ b) (hba : b ≤ a) (ha : a < 18446744073709551616) :
    Calls Tryz.prog 81 #[.int .u64 a, .int .u64 b] w fun e w' => ∃ uA uB vA vB : Int, e = .returned (.tuple #[.agg #[.int .u64 uA, .int .u64 uB], .agg #[.int .u64 vA, .int .u64 vB]]) ∧ TurnsOk a b uA uB vA vB ∧ Below w.heap.size w w' := by
  go_enter Tryz.func81, Tryz.ntmps81
  go_wp2
  go_loopw [0, 1] (fun av bv wr => ∃ (x y uA uB vA vB nA nB s : Int) (k : Nat), av = .int .u64 x ∧ bv = .int .u64 y ∧ Hid (Turn a b x y vA vB nA nB s) ∧ Hid (TurnsOk a b uA uB vA vB) ∧
      wr = (((w.alloc (.cells #[.int .u64 uA, .int .u64 uB] 111)).alloc (.cells #[.int .u64 vA, .int .u64 vB] 111)).alloc (.cells #[.int .u64 nA, .int .u64 nB] 111)).drewN k) (fun _ bv _ => (intOf bv).toNat)
  case atStart => exact ⟨a, b, 0, 0, 1, 0, 0, 1, 1, 0, rfl, rfl, Turn.start h0 hba, .inl rfl, rfl⟩
  case round =>
    obtain ⟨x, y, uA, uB, vA, vB, nA, nB, s, k, rfl, rfl, hT, hO, rfl⟩ := hrel
    have ho := hT.out.ord
    have hv := hT.out.v0
    have hn := hT.out.n0
    by_cases g1 : nB ≤ y
    · have hbd := hT.out.bound g1 ha
      have hw1 : IntKind.u64.wrap (x - y) = x - y := by rw [IntKind.wrap_u64]; have := hT.out.le0; omega
      by_cases g2 : vB + nB ≤ x - y
      · obtain ⟨t1, t2, t3, t4⟩ := hT.out.step g1 g2 ha
        have T1 := Lib.hid t1
        have O1 := Lib.hid (hT.out.ok g1 g2 ha)
        have hyb : (y != 0) = true := by rw [bne_iff_ne]; omega
        have hr1 := Int.emod_lt_of_pos x (show 0 < y by omega)
        have hr0 := Int.emod_nonneg x (show y ≠ 0 by omega)
        have hw2 : IntKind.u64.wrap (x / y * nA) = x / y * nA := by rw [IntKind.wrap_u64]; omega
        have hw3 : IntKind.u64.wrap (x / y * nB) = x / y * nB := by rw [IntKind.wrap_u64]; omega
        have htd : x.tdiv y = x / y := Int.tdiv_eq_ediv_of_nonneg (by omega)
        have hwq : IntKind.u64.wrap (x / y) = x / y := by rw [IntKind.wrap_u64]; omega
        clear hT hO t1
        go_wp2
        go_quiet (fail)
        go_wp2
        go_region
        go_wp2
        refine ⟨⟨y, x % y, vA, vB, nA, nB, _, _, -s, _, rfl, rfl, T1, O1, three_set w _ _ _ _ _ _ _ _ _ _ _ _ _ _⟩, ?_⟩
        simp only [intOf]
        omega
      · clear hT
        go_wp2
        go_region
        go_wp2
        rw [two_set]
        refine bodyPost_ret_by (results_cell2 rfl _ _ w.heap.size (w.heap.size + 1) _ _ _ _ _ _ _ rfl rfl (three_heap w _ _ _ _).1 (three_heap w _ _ _ _).2 Tryz.underlying111 rfl (by kernel_rfl) (by kernel_rfl)) rfl ?_
        exact ⟨uA, uB, vA, vB, rfl, hO.out, three_below w _ _ _ _⟩
    · clear hT
      go_wp2
      go_region
      go_wp2
      rw [two_set]
      refine bodyPost_ret_by (results_cell2 rfl _ _ w.heap.size (w.heap.size + 1) _ _ _ _ _ _ _ rfl rfl (three_heap w _ _ _ _).1 (three_heap w _ _ _ _).2 Tryz.underlying111 rfl (by kernel_rfl) (by kernel_rfl)) rfl ?_
      exact ⟨uA, uB, vA, vB, rfl, hO.out, three_below w _ _ _ _⟩

/-- A row, and a limb, that may be multiplied. -/
structure MArg (w : World) (A : Option Addr) (n c : Nat) (x m : Int) : Prop where
  row : ∃ X, Row 4294967296 x X ∧ Sl .u32 w w.heap.size A n c X
  le : n ≤ 400000000
  m : 0 ≤ m ∧ m < 4294967296
def GotM (w : World) (A : Option Addr) (n c : Nat) (N : Int) : Prop := ∃ ys, Row 4294967296 N ys ∧ Sl .u32 w w.heap.size A n c ys ∧ n ≤ 400000001
theorem mul_arg {w W : World} {A : Option Addr} {n c : Nat} {x m : Int} {p q : Addr} {u v : Value} (hS : Below w.heap.size w W ∧ W.cell? p = some u ∧ W.cell? q = some v) (hp : p.block < w.heap.size) (hq : q.block < w.heap.size) (hA : MArg w A n c x m) :
    Calls Tryz.prog 43 #[.slice A n c, .int .u32 m] W fun e W' => ∃ A' n' c', e = .returned (.slice A' n' c') ∧ GotM W' A' n' c' (m * x) ∧ Below W.heap.size W W' ∧ (W'.cell? p = some u ∧ W'.cell? q = some v) := by
  obtain ⟨X, rX, sX⟩ := hA.row
  refine (MulSmall_any ((sX.below hS.1 (Nat.le_refl _)).more hS.1.size) (Nat.le_refl _) rX.dg hA.m (by have := hA.le; omega)).mono ?_
  rintro e W' ⟨ys, hr, A', n', c', rfl, ho, hb⟩
  rw [rX.val] at hr
  have hsz := hS.1.size
  refine ⟨A', n', c', rfl, ⟨ys, hr, ho.sl, ?_⟩, hb, (hb.cell (by omega)).trans hS.2.1, (hb.cell (by omega)).trans hS.2.2⟩
  have h1 := val_lt (β := 4294967296) (by decide) rX.dg
  have h0 := val_nonneg (β := 4294967296) (by decide) rX.dg
  rw [rX.val, sX.len] at h1
  rw [rX.val] at h0
  have hm := hA.m
  have h2 : m * x < 4294967296 ^ (n + 1) := by
    rw [Int.pow_succ, Int.mul_comm _ 4294967296]
    have p0 := pow_pos' (show (0 : Int) < 4294967296 by decide) n
    have a1 : m * x ≤ 4294967295 * x := Int.mul_le_mul_of_nonneg_right (by omega) h0
    omega
  have := hr.len_le (by decide) h2
  have := ho.len
  have := hA.le
  omega

set_option maxHeartbeats 2000000 in
theorem apart_any {w : World} {B : Nat} {A A2 : Option Addr} {n c m c2 : Nat} {X Y : List Int} {a b sA sB C : Int} (hs : Sl .u32 w B A n c X) (ht : Sl .u32 w B A2 m c2 Y) (hB : B ≤ w.heap.size) (rX : Row 4294967296 a X) (rY : Row 4294967296 b Y)
    (hA : 0 ≤ sA ∧ sA < 4294967296) (hB' : 0 ≤ sB ∧ sB < 4294967296) (hn : n ≤ 400000000) (hm : m ≤ 400000000) (hC : sA * a - sB * b = C ∨ sB * b - sA * a = C) (h0 : 0 ≤ C) :
    Calls Tryz.prog 82 #[.slice A n c, .slice A2 m c2, .agg #[.int .u64 sA, .int .u64 sB]] w (NewN w C) := by
  have hwA : IntKind.u32.wrap sA = sA := by rw [IntKind.wrap_u32]; omega
  have hwB : IntKind.u32.wrap sB = sB := by rw [IntKind.wrap_u32]; omega
  go_enter Tryz.func82, Tryz.ntmps82
  go_wp2_with fail
  have HA : MArg (w.alloc (.cells #[.int .u64 sA, .int .u64 sB] 111)) A n c a sA := ⟨⟨X, rX, (hs.alloc hB _).more (by rw [size_one]; omega)⟩, hn, hA⟩
  have HB : MArg (w.alloc (.cells #[.int .u64 sA, .int .u64 sB] 111)) A2 m c2 b sB := ⟨⟨Y, rY, (ht.alloc hB _).more (by rw [size_one]; omega)⟩, hm, hB'⟩
  have hb1 : Below w.heap.size w (w.alloc (.cells #[.int .u64 sA, .int .u64 sB] 111)) := (Below.refl _ _).alloc (Nat.le_refl _) _
  have hc0 : (w.alloc (.cells #[.int .u64 sA, .int .u64 sB] 111)).cell? ⟨w.heap.size, 0, none⟩ = some (.int .u64 sA) := by simp [World.cell?_alloc_new]
  have hc1 : (w.alloc (.cells #[.int .u64 sA, .int .u64 sB] 111)).cell? ⟨w.heap.size, 1, none⟩ = some (.int .u64 sB) := by simp [World.cell?_alloc_new]
  have hsz : w.heap.size < (w.alloc (.cells #[.int .u64 sA, .int .u64 sB] 111)).heap.size := by rw [size_one]; omega
  generalize w.alloc (.cells #[.int .u64 sA, .int .u64 sB] 111) = w1 at *
  clear hs ht
  have HB1 := Lib.hid hb1
  clear hb1
  have hS0 : Below w1.heap.size w1 w1 ∧ w1.cell? ⟨w.heap.size, 0, none⟩ = some (.int .u64 sA) ∧ w1.cell? ⟨w.heap.size, 1, none⟩ = some (.int .u64 sB) := ⟨Below.refl _ _, hc0, hc1⟩
  go_region_held3 (fun W => Below w1.heap.size w1 W ∧ W.cell? ⟨w.heap.size, 0, none⟩ = some (.int .u64 sA) ∧ W.cell? ⟨w.heap.size, 1, none⟩ = some (.int .u64 sB))
    (first | assumption | exact ⟨Below.drew (And.left (by assumption)), by assumption, by assumption⟩ | exact ⟨Below.trans (And.left (by assumption)) (Below.mono (by assumption) (Below.size (And.left (by assumption)))), by assumption⟩)
    (first
      | (go_at_call 43; go_must (refine (mul_arg (w := w1) (p := ⟨w.heap.size, 0, none⟩) (q := ⟨w.heap.size, 1, none⟩) (u := .int .u64 sA) (v := .int .u64 sB) (show Below w1.heap.size w1 _ ∧ World.cell? _ ⟨w.heap.size, 0, none⟩ = some (.int .u64 sA) ∧ World.cell? _ ⟨w.heap.size, 1, none⟩ = some (.int .u64 sB) by first | assumption | exact ⟨Below.drew (And.left (by assumption)), by assumption, by assumption⟩) hsz hsz (by first | exact HA | exact HB)).mono ?_; rintro e wS ⟨Az, nz, cz, rfl, hG, hbz, hcz⟩)))
  obtain ⟨xs, rx, sx0, lx⟩ := ‹GotM _ _ _ _ (sA * a)›
  obtain ⟨ys, ry, sy, ly⟩ := hG
  have sx := (sx0.below hbz (Nat.le_refl _)).more hbz.size
  have HBS := Lib.hid ((show Below w1.heap.size w1 wS ∧ _ by assumption).1)
  have HBw := Lib.hid (HB1.out.trans (HBS.out.mono HB1.out.size))
  have dx := rx.dg
  have dy := ry.dg
  have VX := Lib.hid rx.val
  have VY := Lib.hid ry.val
  have hwS := HBw.out.size
  clear sx0 hbz hcz rx ry hS0 hc0 hc1 HA HB HB1
  have HC := Lib.hid (Cmp_any sx sy dx dy)
  by_cases hlt : sA * a < sB * b
  case' pos =>
    have hval := Lib.hid (show sB * b - sA * a = C by omega)
    have hc := cmpI_lt (a := val 4294967296 xs) (b := val 4294967296 ys) (by rw [VX.out, VY.out]; exact hlt)
    go_wp2_with fail
    refine HC.out.mono ?_
    rintro e w3 ⟨hr3, q, rfl⟩
    obtain rfl : e = .returned (.int .i64 (-1)) := by unfold CmpR at hr3; rw [hr3, hc]
    have HS := Lib.hid (Sub_any (sy.drew q) (sx.drew q) (Nat.le_refl _) dy dx (by rw [VX.out, VY.out]; omega) (by omega))
    have hv2 := Lib.hid (show val 4294967296 ys - val 4294967296 xs = C by rw [VX.out, VY.out]; exact hval.out)
  case' neg =>
    have hval := Lib.hid (show sA * a - sB * b = C by omega)
    go_wp2_with fail
    refine (Cmp_ge sx sy dx dy (by rw [VX.out, VY.out]; omega)).mono ?_
    rintro e w3 ⟨⟨v, hv0, rfl⟩, hb3⟩
    have HS := Lib.hid (Sub_any ((sx.below hb3 (Nat.le_refl _)).more hb3.size) ((sy.below hb3 (Nat.le_refl _)).more hb3.size) (Nat.le_refl _) dx dy (by rw [VX.out, VY.out]; omega) (by omega))
    have hv2 := Lib.hid (show val 4294967296 xs - val 4294967296 ys = C by rw [VX.out, VY.out]; exact hval.out)
    have HB3 := Lib.hid hb3
    clear hb3
  all_goals
    clear hC hlt hval sx sy HC dx dy
    go_wp2_with fail
    refine HS.out.mono ?_
    rintro e w4 ⟨zs, A4, n4, c4, hr, rfl, ho4, hb4⟩
    rw [hv2.out] at hr
    have RR := Lib.hid hr
    clear hr
  · have HB4 := Lib.hid (HBw.out.trans ((HB3.out.trans (hb4.mono HB3.out.size)).mono hwS))
    have o4 := Lib.hid (ho4.lower (B' := w.heap.size) (Nat.le_trans hwS HB3.out.size))
    clear hb4 ho4
    go_wp2_with fail
    go_ret
    exact ⟨zs, RR.out, A4, n4, c4, rfl, o4.out, HB4.out⟩
  · have HB4 := Lib.hid (HBw.out.trans ((Below.of_drewN hb4).mono hwS))
    have o4 := Lib.hid (ho4.lower (B' := w.heap.size) hwS)
    clear hb4 ho4
    go_wp2_with fail
    go_ret
    exact ⟨zs, RR.out, A4, n4, c4, rfl, o4.out, HB4.out⟩
end Go.Proofs.YthicpakanhhipaaGreatDoor
