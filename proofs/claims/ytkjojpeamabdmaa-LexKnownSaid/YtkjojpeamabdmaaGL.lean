/- LexKnown: each byte alone, and among others; a text that is too long, or just as long as may be. -/
import Derived.Test.YtkjojpeamabdmaaGK
import Derived.Lib.BufferRead
import Derived.Lib.SlBytesRow
set_option linter.unusedSimpArgs false
set_option linter.unusedVariables false
namespace Go.Proofs.Ytkjojpeamabdmaa
open Go Go.RowKit
/-- THE TEXT OF 16384 LINES. -/
def pt (i : Nat) : UInt8 := [97, 98, 32, 10].getD (i % 4) 0
def lp (i : Nat) : List UInt8 := (List.range i).map pt
def rep : Nat → List UInt8
  | 0 => []
  | k + 1 => 97 :: 98 :: 32 :: 10 :: rep k
theorem pt_at (i : Nat) : [97, 98, 32, 10][((i % 4 : Nat) : Int).toNat]? = some (pt i) := by
  have h : i % 4 < 4 := Nat.mod_lt _ (by decide)
  rw [Int.toNat_natCast]
  unfold pt
  rw [List.getD_eq_getElem?_getD]
  generalize i % 4 = j at *
  match j, h with
  | 0, _ => rfl
  | 1, _ => rfl
  | 2, _ => rfl
  | 3, _ => rfl
theorem lp_len (i : Nat) : (lp i).length = i := by unfold lp; rw [List.length_map, List.length_range]
theorem lp_next (i : Nat) : lp (i + 1) = lp i ++ [pt i] := by unfold lp; rw [List.range_succ, List.map_append]; rfl
theorem rep_eq : ∀ k j, (List.range' (4 * j) (4 * k)).map pt = rep k
  | 0, j => rfl
  | k + 1, j => by
    have h0 : (4 * j) % 4 = 0 := by omega
    have h1 : (4 * j + 1) % 4 = 1 := by omega
    have h2 : (4 * j + 1 + 1) % 4 = 2 := by omega
    have h3 : (4 * j + 1 + 1 + 1) % 4 = 3 := by omega
    rw [show 4 * (k + 1) = 4 * k + 1 + 1 + 1 + 1 by omega, List.range'_succ, List.range'_succ, List.range'_succ, List.range'_succ, show 4 * j + 1 + 1 + 1 + 1 = 4 * (j + 1) by omega]
    simp only [List.map_cons]
    rw [rep_eq k (j + 1)]
    unfold pt
    rw [h0, h1, h2, h3]
    rfl
theorem lp_rep (k : Nat) : lp (4 * k) = rep k := by
  unfold lp
  rw [List.range_eq_range']
  exact rep_eq k 0
theorem lx_ab (r : List UInt8) (i : Int) (out : List Ln) : lx (97 :: 98 :: 32 :: 10 :: r) i out [] i false false = lx r (i + 1 + 1 + 1 + 1) (out ++ [([([97, 98], i)], i)]) [] (i + 1 + 1 + 1 + 1) false false := by
  rfl
theorem lx_rep : ∀ (k : Nat) (i : Int) (out : List Ln), (lx (rep k) i out [] i false false).2.2 = 0 ∧ (lx (rep k) i out [] i false false).1.length = out.length + k
  | 0, _, out => ⟨rfl, rfl⟩
  | k + 1, i, out => by
    have := lx_rep k (i + 1 + 1 + 1 + 1) (out ++ [([([97, 98], i)], i)])
    show (lx (97 :: 98 :: 32 :: 10 :: rep k) i out [] i false false).2.2 = 0 ∧ (lx (97 :: 98 :: 32 :: 10 :: rep k) i out [] i false false).1.length = out.length + (k + 1)
    rw [lx_ab]
    refine ⟨this.1, ?_⟩
    rw [this.2, List.length_append, List.length_singleton]
    omega
theorem lexR_k (k : Nat) (hk : 4 * k ≤ 65536) : ∃ ls n, lexR (lp (4 * k)) = (ls, n, 0) ∧ ls.length = k := by
  have h := lx_rep k 0 []
  unfold lexR
  rw [lp_len, decide_eq_false (by omega), lp_rep]
  simp only [cond_false]
  generalize lx (rep k) 0 [] [] 0 false false = R at *
  obtain ⟨ls, n, e⟩ := R
  simp only at h
  obtain ⟨rfl, h2⟩ := h
  exact ⟨ls, n, rfl, by rw [h2, List.length_nil, Nat.zero_add]⟩
theorem lexR_lp {m : Nat} (hm : m = 65536) : ∃ ls n, lexR (lp m) = (ls, n, 0) ∧ ls.length = m / 4 := by
  obtain ⟨ls, n, h1, h2⟩ := lexR_k (m / 4) (by omega)
  rw [show 4 * (m / 4) = m by omega] at h1
  exact ⟨ls, n, h1, h2⟩
/-- A ROW OF BYTES of the call's own. -/
def bcs (l : List UInt8) : List Value := l.map fun x => .int .u8 (x.toNat : Int)
def VTy.bz (e : TypeId) (B : Nat) (l : List UInt8) : VTy := ⟨fun X w v => ∃ (A : Option Addr) (c : Nat), v = .slice A l.length c ∧ OwnV 1 e w B A l.length c (bcs l) ∧ (∀ g, blk A = some g → Free X w g),
  fun ⟨A, c, h1, h4, h5⟩ hk hX => ⟨A, c, h1, h4.same fun g hg => hk.block g (h5 g hg).1 (h5 g hg).2, fun g hg => Free.mono hk hX g (h5 g hg)⟩⟩
instance {e : TypeId} {B : Nat} {l : List UInt8} : SizeV (.bz e B l) 1 false := ⟨fun {X w v} ⟨A, c, h1, _⟩ => by rw [h1]; exact ⟨rfl, by simp [Value.cells, Value.oneCell'], (fun h => by cases h), fun _ => rfl⟩⟩
theorem bz_new {e : TypeId} {B : Nat} {X : List Nat} {w : World} (l : List UInt8) (hB : B ≤ w.heap.size) (hX : ∀ b ∈ X, b < w.heap.size) (hl : l.length ≤ 1000) : (VTy.bz e B l).holds X (w.alloc (.cells (bcs l).toArray e)) (.slice (some ⟨w.heap.size, 0, none⟩) l.length l.length) :=
  ⟨_, _, rfl, OwnV.lit 1 e w hB (bcs l) l.length (by unfold bcs; rw [List.length_map, Nat.mul_one]) hl, fun g hg => by
    have hg : w.heap.size = g := by simpa [blk] using hg
    subst hg
    exact ⟨by rw [size_one]; exact Nat.lt_succ_self _, fun h => by have := hX _ h; omega⟩⟩
section
variable {w00 : World} {N : Nat} {L : List Loc} {E : List (Nat × VTy)} {d : Nat} {t0 : TypeId} {pos : String} {af : Array Edge} {gd : Option (Nat × Bool)}
set_option maxRecDepth 20000 in
theorem st_remI4 {o : Operand} {x z : Int} {t1 : TypeId} [h0 : OpC E o (.is (.int .i64 x))] (hx : x.tmod 4 = z) : StepT Try.prog w00 N L E ⟨some d, .binOp .rem 3 o (.const (.int .i64 4)) t1, t0, pos, af, gd⟩ (.is (.int .i64 z)) := by
  constructor
  intro X ρ w hc _ hN hm hsl
  have e0 : ρ o = .int .i64 x := h0.get (X := X) (w := w) hc fun p hp e => hsl p hp (by simp [Op.operands, e])
  have e1 : ρ (.const (.int .i64 4)) = .int .i64 4 := hc _
  subst hx
  clear hc hsl h0
  unfold Yields
  go_simp
  exact ⟨rfl, Below.refl _ _⟩
set_option maxRecDepth 20000 in
theorem st_bz0 : StepT Try.prog w00 N L E ⟨some d, .buildSlice 43 0 #[], t0, pos, af, gd⟩ (.bz 5 w00.heap.size []) := by
  constructor
  intro X ρ w hc _ hN hm hsl
  have HT := Lib.hid (bz_new (e := 5) [] hm.below.size hm.far (by decide))
  clear hsl hm hc
  unfold Yields
  go_simp
  exact ⟨HT.out, (Below.refl _ _).alloc (Nat.le_refl _) _⟩
set_option maxRecDepth 20000 in
theorem st_bz1 {o : Operand} {y : UInt8} [h0 : OpC E o (.is (.int .u8 (y.toNat : Int)))] : StepT Try.prog w00 N L E ⟨some d, .buildSlice 43 1 #[(0, o)], t0, pos, af, gd⟩ (.bz 5 w00.heap.size [y]) := by
  constructor
  intro X ρ w hc _ hN hm hsl
  have e0 : ρ o = .int .u8 (y.toNat : Int) := h0.get (X := X) (w := w) hc fun p hp e => hsl p hp (by simp [Op.operands, e])
  have HT := Lib.hid (bz_new (e := 5) [y] hm.below.size hm.far (by simp))
  clear hsl hm hc h0
  unfold Yields
  go_simp
  exact ⟨HT.out, (Below.refl _ _).alloc (Nat.le_refl _) _⟩
theorem bz_conv {X : List Nat} {w : World} {v : Value} {e src dst : TypeId} {P : Program} {B : Nat} {l : List UInt8} (h : (VTy.bz e B l).holds X w v) (hs : P.underlying src = some (.slice e)) (he : P.underlying e = some (.int .u8)) (hd : P.underlying dst = some .string) : (convert src dst v).run P w = .ok (Tx l) w := by
  obtain ⟨A, c, rfl, h2, _⟩ := h
  rcases h2.form with ⟨rfl, h0, rfl⟩ | ⟨g, rfl, _, _⟩
  · obtain rfl : l = [] := List.eq_nil_of_length_eq_zero h0
    exact Lib.run_convert_nil_bytes w src dst e 0 hs he hd
  · have hz : (⟨l.toArray⟩ : ByteArray).size = l.length := bs_size l
    have := Lib.run_convert_whole (P := P) w src e dst hs he hd g 0 ⟨l.toArray⟩ (fun i hi => by
      have hil : i < l.length := by omega
      have := World.ownsRow.cells h2 (g := g) rfl i (.int .u8 ((l[i]'hil).toNat : Int)) (by unfold bcs; rw [List.getElem?_map, List.getElem?_eq_getElem hil]; rfl)
      rw [Addr.add_lit] at this
      exact this) c
    rw [hz] at this
    exact this
set_option maxRecDepth 20000 in
theorem st_convB {o : Operand} {B : Nat} {l : List UInt8} [h0 : OpC E o (.bz 5 B l)] : StepT Try.prog w00 N L E ⟨some d, .convert 43 9 o, t0, pos, af, gd⟩ (.is (Tx l)) := by
  constructor
  intro X ρ w hc _ hN hm hsl
  have h1 := h0.get (X := X) (w := w) hc fun p hp e => hsl p hp (by simp [Op.operands, e])
  have hr := bz_conv h1 (P := Try.prog) Try.underlying43 Try.underlying5 Try.underlying9
  clear hsl hm hc h0 h1
  unfold Yields
  simp only [execOp, Sem.run_bind, hr, Result.andThen_ok, Sem.run_pure]
  exact ⟨rfl, Below.refl _ _⟩
end
instance : AsL (.is (.slice none 0 0)) [] := ⟨fun h => by
  rw [show _ = _ from h]
  exact ⟨(fun _ h => by cases h), none, 0, 0, rfl, rfl, Nat.le_refl _, Nat.zero_le _, fun _ => rfl, fun h => absurd h (by omega)⟩⟩
section
variable {w00 : World} {N : Nat} {L : List Loc} {E : List (Nat × VTy)} {d : Nat} {t0 : TypeId} {pos : String} {af : Array Edge} {gd : Option (Nat × Bool)}
set_option maxRecDepth 20000 in
theorem st_mkWx {o : Operand} {t : List UInt8} [ho : OpC E o (.is (Tx t))] : StepT Try.prog w00 N L E ⟨some d, .build 36 #[(0, o)], t0, pos, af, gd⟩ (.is (.agg #[Tx t, .int .i64 0])) := by
  constructor
  intro X ρ w hc _ hN hm hsl
  have e0 : ρ o = Tx t := ho.get (X := X) (w := w) hc fun p hp e => hsl p hp (by simp [Op.operands, e])
  clear hc hsl ho hm
  unfold Yields
  go_simp
  exact ⟨rfl, Below.refl _ _⟩
set_option maxRecDepth 20000 in
theorem st_rwWx {o0 : Operand} {t0' : List UInt8} {a0 : Int} [h0 : OpC E o0 (.is (.agg #[Tx t0', .int .i64 a0]))] {o1 : Operand} {t1' : List UInt8} {a1 : Int} [h1 : OpC E o1 (.is (.agg #[Tx t1', .int .i64 a1]))] : StepT Try.prog w00 N L E ⟨some d, .buildSlice 32 2 #[(0, o0), (1, o1)], t0, pos, af, gd⟩ (.rw Rp.wd tt [(t0', a0), (t1', a1)]) := by
  constructor
  intro X ρ w hc _ hN hm hsl
  have e0 : ρ o0 = .agg #[Tx t0', .int .i64 a0] := h0.get (X := X) (w := w) hc fun p hp e => hsl p hp (by simp [Op.operands, e])
  have e1 : ρ o1 = .agg #[Tx t1', .int .i64 a1] := h1.get (X := X) (w := w) hc fun p hp e => hsl p hp (by simp [Op.operands, e])
  have hT := rw_new (r := Rp.wd) (T := 36) (w := w) (X := X) hm.far [((t0', a0), [Tx t0', .int .i64 a0]), ((t1', a1), [Tx t1', .int .i64 a1])] (by
    intro p hp
    simp only [List.mem_cons, List.not_mem_nil, or_false] at hp
    rcases hp with rfl | rfl <;> exact wd_rd _ _) (by simp)
  have HT := Lib.hid hT
  clear hT hsl hm hc h0 h1
  unfold Yields
  go_simp
  exact ⟨HT.out, (Below.refl _ _).alloc (Nat.le_refl _) _⟩
set_option maxRecDepth 20000 in
theorem st_mkRx {o : Operand} {ws : List Wd} [ho : OpC E o (.rw Rp.wd tt ws)] : StepT Try.prog w00 N L E ⟨some d, .build 34 #[(0, o)], t0, pos, af, gd⟩ (.ra Rp.lr (ws, 0)) := by
  constructor
  intro X ρ w hc _ hN hm hsl
  have h0 := ho.get (X := X) (w := w) hc fun p hp e => hsl p hp (by simp [Op.operands, e])
  have HT := Lib.hid (show (VTy.ra Rp.lr (ws, 0)).holds X w (.agg #[ρ o, .int .i64 0]) from ⟨[ρ o, .int .i64 0], rfl, lr_rd h0 0⟩)
  obtain ⟨_, A, n, c, e, _⟩ := h0
  have e0 : ρ o = .slice A n c := by simpa using e
  rw [e0] at HT
  clear hc hsl ho hm e
  unfold Yields
  go_simp
  exact ⟨HT.out, Below.refl _ _⟩
set_option maxRecDepth 20000 in
theorem st_mkRz : StepT Try.prog w00 N L E ⟨some d, .build 34 #[], t0, pos, af, gd⟩ (.ra Rp.lr ([], 0)) := by
  constructor
  intro X ρ w hc _ hN hm hsl
  have HT := Lib.hid (show (VTy.ra Rp.lr (([] : List Wd), 0)).holds X w (.agg #[.slice none 0 0, .int .i64 0]) from ⟨[.slice none 0 0, .int .i64 0], rfl, [.slice none 0 0], [.int .i64 0], rfl, ⟨none, 0, 0, rfl, rfl, Nat.le_refl _, Nat.zero_le _, fun _ => rfl, fun h => absurd h (by omega)⟩, rfl⟩)
  clear hc hsl hm
  unfold Yields
  go_simp
  exact ⟨HT.out, Below.refl _ _⟩
set_option maxRecDepth 20000 in
theorem st_rwLx {o0 : Operand} {x : Ln} [h0 : OpC E o0 (.ra Rp.lr x)] : StepT Try.prog w00 N L E ⟨some d, .buildSlice 27 1 #[(0, o0)], t0, pos, af, gd⟩ (.rw Rp.lr tt [x]) := by
  constructor
  intro X ρ w hc _ hN hm hsl
  obtain ⟨cs, e0, g0⟩ := h0.get (X := X) (w := w) hc fun p hp e => hsl p hp (by simp [Op.operands, e])
  have hT := rw_new (r := Rp.lr) (T := 34) (w := w) (X := X) hm.far [(x, cs)] (by
    intro p hp
    simp only [List.mem_cons, List.not_mem_nil, or_false] at hp
    obtain rfl := hp
    exact g0) (by simp)
  obtain ⟨u, v, rfl⟩ : ∃ u v, cs = [u, v] := by
    match cs, Rp.lr.len g0 with
    | [u, v], _ => exact ⟨u, v, rfl⟩
  have e0' : ρ o0 = .agg #[u, v] := e0
  have HT := Lib.hid hT
  clear hT hsl hm hc h0 g0 e0
  unfold Yields
  go_simp
  exact ⟨HT.out, (Below.refl _ _).alloc (Nat.le_refl _) _⟩
end
theorem elemB : ElemV Try.prog 43 5 1 1 := ⟨Try.underlying43, by decide, by
  obtain ⟨i, h1, h2, h3, h4⟩ : ∃ i, Try.prog.info? 5 = some i ∧ i.zero = some (.int .u8 0) ∧ i.size = 1 ∧ i.bytes = 1 := info_parts (by kernel_rfl)
  exact ⟨i, _, h1, h2, h3, h4, rfl⟩⟩
section
variable {P : Program} {w00 : World} {X : List Nat} {L : List Loc} {E E0 : List (Nat × VTy)} {n : Nat} {ops : Array Oper} {rest : List Oper} {Q : Exit → Act → World → Prop} {cs : List Code} {t0 : TypeId} {pos : String} {af : Array Edge}
/-- APPEND OF ONE BYTE. -/
theorem g_appB {e t : TypeId} {B B2 s x d : Nat} {l : List UInt8} {y : UInt8} (ss : List Nat) (hB0 : w00.heap.size ≤ B) (hsz : ∀ a w, TS w00 X L E n a w → B ≤ w.heap.size) [hs : Look E s (.bz e B l)] [hx : Look E x (.bz e B2 [y])] [k : KeepC E ss E0] [kL : SurvUL B L] [kE : SurvUL B E0] (T : ElemV P t e 1 1)
    (hlen : l.length ≤ 1000000) (hd : (Nat.blt d n && !(E0.map Prod.fst).elem d) = true)
    (h : GR P w00 X L ((d, .bz e B (l ++ [y])) :: E0) n ops rest cs Q) : GR P w00 X L E n ops (⟨some d, .call { callee := .builtin .append, args := #[.tmp s, .tmp x], argTypes := #[t, t] }, t0, pos, af, none⟩ :: rest) cs Q := ⟨fun a w ht => by
  simp only [Bool.and_eq_true, Bool.not_eq_true'] at hd
  have hBw := hsz a w ht
  obtain ⟨A, c, es, hown, hfree⟩ := ht.slots _ hs.mem
  obtain ⟨A2, c2, ex, hown2, _⟩ := ht.slots _ hx.mem
  have hmx : l.length + 1 ≤ maxLen := by unfold maxLen; omega
  obtain ⟨A', c', w', hr, h2, h3, h4⟩ := run_appV (A := A) (A2 := A2) (m := 1) T t0 hown hown2.sl (fun u hu => by
    have hu : u = .int .u8 (y.toNat : Int) := by simpa [bcs] using hu
    rw [hu]; rfl) (by omega) hmx hBw
  have hch : Ch B X w w' := ⟨h3.os, h3.tape, h3.output, h3.size, fun g hg => by
    by_cases hA : blk A = some g
    · exact .inr ⟨(hown.blk_ g hA).1, (hfree g hA).2⟩
    · exact .inl (h3.block g hg (fun e => hA e.symm))⟩
  have hT : (VTy.bz e B (l ++ [y])).holds X w' (.slice A' (l.length + 1) c') := by
    refine ⟨A', c', by simp, ?_, fun g hg => ?_⟩
    · have e1 : bcs (l ++ [y]) = bcs l ++ bcs [y] := List.map_append
      rw [e1, List.length_append]
      exact h2
    · have hlt := (h2.blk_ g hg).2
      rcases h4 g hg with h5 | h5
      · exact ⟨hlt, (hfree g h5).2⟩
      · exact ⟨hlt, fun hx => by have := ht.mem.far g hx; omega⟩
  have h5 := (ht.keep (E' := E0) ss).ch hch hB0
  refine ⟨wpList_plain rfl fun K hK' => ?_⟩
  have e1 : a.eval (.tmp s) = .slice A l.length c := es
  have e2 : a.eval (.tmp x) = .slice A2 1 c2 := ex
  unfold Oper.wp execOp
  simp only [resolve, invoke, builtin, Sem.run_bind, Sem.run_pure, Result.andThen_ok, List.map_toArray, List.map_cons, List.map_nil, e1, e2, hr]
  exact hK' _ _ (h.run _ _ (h5.new hd.2 (by rw [← Nat.blt_eq]; exact hd.1) hT (Below.refl _ _))).out⟩
end
set_option maxRecDepth 20000 in
set_option maxHeartbeats 4000000 in
set_option synthInstance.maxSize 4000 in
set_option synthInstance.maxHeartbeats 400000 in
theorem l7_known : Ctr Try.prog S1 7 [] [] (fun _ => .is (.bool true)) := by
  refine ctr Try.func7 rfl Try.ntmps7 (by simp) (fun _ _ => by kernel_rfl) fun X w0 hE => ?_
  simp only [argE, Nat.zero_add, Nat.reduceAdd]
  repeat' first|kernel_rfl|apply g_seq|apply g_reg|apply g_nil|apply g_box|apply g_all|apply g_stf|apply g_stw|apply g_sto|apply g_asg|refine g_run rfl inferInstance (by first|exact sc trivial h1|exact sc trivial h2|exact sc trivial h3|exact sc trivial h4|exact sc trivial h5|exact sc trivial h6|exact sc trivial h7|exact sc trivial h8|exact sc trivial h9|exact sc trivial cl|exact sc trivial c7_works|exact st_conv2 Try.underlying3 Try.underlying5 (by assumption)|exact st_bz0|exact st_bz1|exact st_convB|exact st_mkWx|exact st_rwWx|exact st_mkRx|exact st_mkRz|exact st_rwLx|exact st_lenW|exact st_slen|exact st_seq (by first|assumption|rfl)|exact st_add' (by assumption)|exact st_sadd (by simp only [List.length_append, List.length_cons, List.length_nil]; omega)|exact st_move'|exact st_not' (b := true) (u := false) rfl|exact st_not' (b := false) (u := true) rfl|exact st_not' rfl|exact st_eq' (by first|assumption|rfl)|exact st_len') (by kernel_rfl) ?_|refine g_sk rfl inferInstance rfl (by kernel_rfl) ?_|refine g_un rfl inferInstance (by kernel_rfl) ?_|apply g_st|apply g_skip|apply g_ct|apply g_cf|apply g_ret|refine r_1 rfl ?_|apply g_blk|apply g_eb|apply g_ex|apply e_t|apply e_h|refine e_o rfl ?_|apply r_t|apply r_b|apply g_cl|exact sc trivial h1|exact sc trivial h2|exact sc trivial h3|exact sc trivial h4|exact sc trivial h5|exact sc trivial h6|exact sc trivial h7|exact sc trivial h8|exact sc trivial h9|exact sc trivial cl|exact sc trivial c7_works|exact st_conv2 Try.underlying3 Try.underlying5 (by assumption)|exact st_bz0|exact st_bz1|exact st_convB|exact st_remI4 (by assumption)|exact st_sidx (by assumption)|exact st_mkWx|exact st_rwWx|exact st_mkRx|exact st_mkRz|exact st_rwLx|exact st_lenW|exact st_slen|exact st_seq (by first|assumption|rfl)|exact st_sidx (by assumption)|exact st_add' (by assumption)|exact st_sadd (by simp only [List.length_append, List.length_cons, List.length_nil]; omega)|exact st_move'|exact st_assign'|exact st_extract'|exact st_and_t'|exact st_and_f'|exact st_or_f'|exact st_or_t'|exact st_not' (b := true) (u := false) rfl|exact st_not' (b := false) (u := true) rfl|exact st_not' rfl|exact st_eq' (by first|assumption|rfl)|exact st_lss' (by first|assumption|rfl)|exact st_len'|exact Cv.rfl'|intro _
  refine g_stop fun a w h => ?_
  refine cw_loop (fun k a u => ∃ c : Nat, c + k = 256 ∧ TS w0 X [] [(1, .is (.int .i64 (c : Int)))] 104 a u) 256 ⟨0, rfl, h.keep [1]⟩ ?_
  clear h
  rintro k a u ⟨c, hk, h⟩
  by_cases hlt : c < 256
  · have hc1 : decide ((c : Int) < 256) = true := decide_eq_true (by omega)
    have hw : IntKind.i64.wrap ((c : Int) + 1) = ((c + 1 : Nat) : Int) := i64_small (by omega) (by omega)
    obtain ⟨y, hy⟩ : ∃ y : UInt8, IntKind.u8.wrap (c : Int) = (y.toNat : Int) := ⟨UInt8.ofNat c, by
      rw [IntKind.wrap_u8, UInt8.toNat_ofNat']
      omega⟩
    have h1 := l7_lines (s := [y]) (by simp)
    have h2 := l7_lines (s := ((([97] ++ [y]) ++ [98, 10, 32]) ++ [y] ++ [y]) ++ [99]) (by simp)
    have h3 := l7_lines (s := (([35] ++ [y]) ++ [10]) ++ [y]) (by simp)
    have h4 := l7_back (l := [([([y], 0), ([120], 0)], 0)]) (s := [113, 32] ++ [y])
    have h5 := l7_joins (a := [97, 32] ++ [y]) (b := [y])
    refine g_of h ?_
    clear h
    repeat' first|kernel_rfl|exact g_done fun _ _ h=>⟨k - 1, by omega, c + 1, by omega, h.keep [1]⟩|apply g_seq|apply g_reg|apply g_nil|apply g_box|apply g_all|apply g_stf|apply g_stw|apply g_sto|apply g_asg|refine g_run rfl inferInstance (by first|exact sc trivial h1|exact sc trivial h2|exact sc trivial h3|exact sc trivial h4|exact sc trivial h5|exact sc trivial h6|exact sc trivial h7|exact sc trivial h8|exact sc trivial h9|exact sc trivial cl|exact sc trivial c7_works|exact st_conv2 Try.underlying3 Try.underlying5 (by assumption)|exact st_bz0|exact st_bz1|exact st_convB|exact st_mkWx|exact st_rwWx|exact st_mkRx|exact st_mkRz|exact st_rwLx|exact st_lenW|exact st_slen|exact st_seq (by first|assumption|rfl)|exact st_add' (by assumption)|exact st_sadd (by simp only [List.length_append, List.length_cons, List.length_nil]; omega)|exact st_move'|exact st_not' (b := true) (u := false) rfl|exact st_not' (b := false) (u := true) rfl|exact st_not' rfl|exact st_eq' (by first|assumption|rfl)|exact st_len') (by kernel_rfl) ?_|refine g_sk rfl inferInstance rfl (by kernel_rfl) ?_|refine g_un rfl inferInstance (by kernel_rfl) ?_|apply g_st|apply g_skip|apply g_ct|apply g_cf|apply g_ret|refine r_1 rfl ?_|apply g_blk|apply g_eb|apply g_ex|apply e_t|apply e_h|refine e_o rfl ?_|apply r_t|apply r_b|apply g_cl|exact sc trivial h1|exact sc trivial h2|exact sc trivial h3|exact sc trivial h4|exact sc trivial h5|exact sc trivial h6|exact sc trivial h7|exact sc trivial h8|exact sc trivial h9|exact sc trivial cl|exact sc trivial c7_works|exact st_conv2 Try.underlying3 Try.underlying5 (by assumption)|exact st_bz0|exact st_bz1|exact st_convB|exact st_remI4 (by assumption)|exact st_sidx (by assumption)|exact st_mkWx|exact st_rwWx|exact st_mkRx|exact st_mkRz|exact st_rwLx|exact st_lenW|exact st_slen|exact st_seq (by first|assumption|rfl)|exact st_sidx (by assumption)|exact st_add' (by assumption)|exact st_sadd (by simp only [List.length_append, List.length_cons, List.length_nil]; omega)|exact st_move'|exact st_assign'|exact st_extract'|exact st_and_t'|exact st_and_f'|exact st_or_f'|exact st_or_t'|exact st_not' (b := true) (u := false) rfl|exact st_not' (b := false) (u := true) rfl|exact st_not' rfl|exact st_eq' (by first|assumption|rfl)|exact st_lss' (by first|assumption|rfl)|exact st_len'|exact Cv.rfl'|intro _
  · obtain rfl : c = 256 := by omega
    have hc1 : decide (((256 : Nat) : Int) < 256) = false := rfl
    refine g_of h ?_
    clear h
    repeat' first|kernel_rfl|apply g_seq|apply g_reg|apply g_nil|apply g_box|apply g_all|apply g_stf|apply g_stw|apply g_sto|apply g_asg|refine g_run rfl inferInstance (by first|exact sc trivial h1|exact sc trivial h2|exact sc trivial h3|exact sc trivial h4|exact sc trivial h5|exact sc trivial h6|exact sc trivial h7|exact sc trivial h8|exact sc trivial h9|exact sc trivial cl|exact sc trivial c7_works|exact st_conv2 Try.underlying3 Try.underlying5 (by assumption)|exact st_bz0|exact st_bz1|exact st_convB|exact st_mkWx|exact st_rwWx|exact st_mkRx|exact st_mkRz|exact st_rwLx|exact st_lenW|exact st_slen|exact st_seq (by first|assumption|rfl)|exact st_add' (by assumption)|exact st_sadd (by simp only [List.length_append, List.length_cons, List.length_nil]; omega)|exact st_move'|exact st_not' (b := true) (u := false) rfl|exact st_not' (b := false) (u := true) rfl|exact st_not' rfl|exact st_eq' (by first|assumption|rfl)|exact st_len') (by kernel_rfl) ?_|refine g_sk rfl inferInstance rfl (by kernel_rfl) ?_|refine g_un rfl inferInstance (by kernel_rfl) ?_|apply g_st|apply g_skip|apply g_ct|apply g_cf|apply g_ret|refine r_1 rfl ?_|apply g_blk|apply g_eb|apply g_ex|apply e_t|apply e_h|refine e_o rfl ?_|apply r_t|apply r_b|apply g_cl|exact sc trivial h1|exact sc trivial h2|exact sc trivial h3|exact sc trivial h4|exact sc trivial h5|exact sc trivial h6|exact sc trivial h7|exact sc trivial h8|exact sc trivial h9|exact sc trivial cl|exact sc trivial c7_works|exact st_conv2 Try.underlying3 Try.underlying5 (by assumption)|exact st_bz0|exact st_bz1|exact st_convB|exact st_remI4 (by assumption)|exact st_sidx (by assumption)|exact st_mkWx|exact st_rwWx|exact st_mkRx|exact st_mkRz|exact st_rwLx|exact st_lenW|exact st_slen|exact st_seq (by first|assumption|rfl)|exact st_sidx (by assumption)|exact st_add' (by assumption)|exact st_sadd (by simp only [List.length_append, List.length_cons, List.length_nil]; omega)|exact st_move'|exact st_assign'|exact st_extract'|exact st_and_t'|exact st_and_f'|exact st_or_f'|exact st_or_t'|exact st_not' (b := true) (u := false) rfl|exact st_not' (b := false) (u := true) rfl|exact st_not' rfl|exact st_eq' (by first|assumption|rfl)|exact st_lss' (by first|assumption|rfl)|exact st_len'|exact Cv.rfl'|intro _
    refine g_stop fun a w h => ?_
    refine cw_loop (fun k a u => ∃ i : Nat, i + k = 65536 ∧ TS w0 X [] [(3, .bz 5 w0.heap.size (lp i)), (4, .is (.int .i64 (i : Int)))] 104 a u) 65536 ⟨0, Nat.zero_add _, h.keep [3, 4]⟩ ?_
    clear h
    rintro k' a u ⟨i, hi, h⟩
    by_cases hil : i < 65536
    · have hc2 := Lib.hid (show decide ((i : Int) < 65536) = true from decide_eq_true (by omega))
      have hw : IntKind.i64.wrap ((i : Int) + 1) = ((i + 1 : Nat) : Int) := i64_small (by omega) (by omega)
      have hrm : (i : Int).tmod 4 = ((i % 4 : Nat) : Int) := rfl
      have hpt : 0 ≤ ((i % 4 : Nat) : Int) ∧ [97, 98, 32, 10][((i % 4 : Nat) : Int).toNat]? = some (pt i) := ⟨by omega, pt_at i⟩
      have hn := lp_next i
      refine g_of h ?_
      clear h
      repeat' first|kernel_rfl|(refine g_appB (B := w0.heap.size) (B2 := w0.heap.size) [4] (Nat.le_refl _) (fun _ _ ht => ht.mem.below.size) elemB (by rw [lp_len]; omega) (by kernel_rfl) ?_)|exact g_done fun _ _ h=>⟨k' - 1, by omega, i + 1, by omega, by rw [hn]; exact h.keep [3, 4]⟩|apply g_seq|apply g_reg|apply g_nil|apply g_box|apply g_all|apply g_stf|apply g_stw|apply g_sto|apply g_asg|refine g_run rfl inferInstance (by first|exact st_bz1|exact st_add' (by assumption)|exact st_move'|exact st_not' (b := true) (u := false) rfl|exact st_not' (b := false) (u := true) rfl|exact st_not' rfl|exact st_eq' (by rfl)|exact st_len') (by kernel_rfl) ?_|refine g_sk rfl inferInstance rfl (by kernel_rfl) ?_|refine g_un rfl inferInstance (by kernel_rfl) ?_|apply g_st|apply g_skip|apply g_ct|apply g_cf|apply g_ret|refine r_1 rfl ?_|apply g_blk|apply g_eb|apply g_ex|apply e_t|apply e_h|refine e_o rfl ?_|apply r_t|apply r_b|apply g_cl|exact st_lss' hc2.out|exact st_bz1|exact st_remI4 (by assumption)|exact st_sidx (by assumption)|exact st_sidx (by assumption)|exact st_add' (by assumption)|exact st_move'|exact st_assign'|exact st_extract'|exact st_and_t'|exact st_and_f'|exact st_or_f'|exact st_or_t'|exact st_not' (b := true) (u := false) rfl|exact st_not' (b := false) (u := true) rfl|exact st_not' rfl|exact st_eq' (by rfl)|exact st_lss' (by rfl)|exact st_len'|exact Cv.rfl'|intro _
    · have hi0 : i = 65536 := by omega
      have hc2 := Lib.hid (show decide ((i : Int) < 65536) = false from decide_eq_false (by omega))
      have cl := c_lines (s := lp i)
      obtain ⟨ls, n, hq, hls⟩ := lexR_lp hi0
      rw [hq] at cl
      simp only at cl
      have hle := Lib.hid (show ((ls.length : Int) == 16384) = true from beq_iff_eq.2 (by omega))
      have hll := lp_len i
      have h6 := l7_lines (s := lp i ++ [97]) (by rw [List.length_append, hll, List.length_singleton]; omega)
      have hsa := Lib.hid (show (lp i).length + [(97 : UInt8)].length ≤ 9223372036854775807 by rw [hll, List.length_singleton]; omega)
      have h7 := l7_lines (s := []) (by simp)
      have h8 := l7_shows (l := [])
      have h9 := l7_shows (l := [([], 0)])
      clear hq
      generalize lp i = P at *
      refine g_of h ?_
      clear h
      repeat' first|kernel_rfl|apply g_seq|apply g_reg|apply g_nil|apply g_box|apply g_all|apply g_stf|apply g_stw|apply g_sto|apply g_asg|refine g_run rfl inferInstance (by first|exact st_eq' hle.out|exact st_sadd hsa.out|exact sc trivial h6|exact sc trivial h7|exact sc trivial h8|exact sc trivial h9|exact sc trivial cl|exact sc trivial c7_works|exact st_convB|exact st_mkRx|exact st_mkRz|exact st_rwLx|exact st_lenW|exact st_slen|exact st_seq (by rfl)|exact st_move'|exact st_not' (b := true) (u := false) rfl|exact st_not' (b := false) (u := true) rfl|exact st_not' rfl|exact st_eq' (by rfl)|exact st_len') (by kernel_rfl) ?_|refine g_sk rfl inferInstance rfl (by kernel_rfl) ?_|refine g_un rfl inferInstance (by kernel_rfl) ?_|apply g_st|apply g_skip|apply g_ct|apply g_cf|apply g_ret|refine r_1 rfl ?_|apply g_blk|apply g_eb|apply g_ex|apply e_t|apply e_h|refine e_o rfl ?_|apply r_t|apply r_b|apply g_cl|exact st_lss' hc2.out|exact st_eq' hle.out|exact st_sadd hsa.out|exact sc trivial h6|exact sc trivial h7|exact sc trivial h8|exact sc trivial h9|exact sc trivial cl|exact sc trivial c7_works|exact st_convB|exact st_mkRx|exact st_mkRz|exact st_rwLx|exact st_lenW|exact st_slen|exact st_seq (by rfl)|exact st_move'|exact st_assign'|exact st_extract'|exact st_and_t'|exact st_and_f'|exact st_or_f'|exact st_or_t'|exact st_not' (b := true) (u := false) rfl|exact st_not' (b := false) (u := true) rfl|exact st_not' rfl|exact st_eq' (by rfl)|exact st_lss' (by rfl)|exact st_len'|exact Cv.rfl'|intro _
end Go.Proofs.Ytkjojpeamabdmaa
