/- Package rat: rows: sums, products, the least and the greatest. -/
import Derived.Test.YtjedonnmhplffaaGreatDoorGI
import Derived.Test.YtjedonnmhplffaaGreatDoorGG
set_option linter.unusedSimpArgs false
set_option linter.unusedVariables false
namespace Go.Proofs.YtjedonnmhplffaaGreatDoor
open Go Go.RowKit
/-- Rows of fractions, from the front, from the back. -/
theorem SlR.front {α : Type} {r : Rp α} {w : World} {S : Nat → Prop} {A : Option Addr} {n c m : Nat} {l : List α} (h : SlR r w S A n c l) (hm : m ≤ n) : SlR r w S A m c (l.take m) := by
  obtain ⟨h1, h2, h3, h4, h5⟩ := h
  refine ⟨by rw [List.length_take]; omega, by omega, h3, h4, fun hn => ?_⟩
  obtain ⟨b, off, hA, hb, hc⟩ := h5 (by omega)
  refine ⟨b, off, hA, hb, fun j a ha => hc j a ?_⟩
  rw [List.getElem?_take] at ha
  split at ha
  · exact ha
  · cases ha
theorem SlR.back {α : Type} {r : Rp α} {w : World} {S : Nat → Prop} {A : Option Addr} {n c m : Nat} {l : List α} (h : SlR r w S A n c l) (hm : m ≤ n) : SlR r w S (if c = m then A else A.map (·.add (m * r.k))) (n - m) (c - m) (l.drop m) := by
  obtain ⟨h1, h2, h3, h4, h5⟩ := h
  refine ⟨by rw [List.length_drop]; omega, by omega, by omega, fun hA => ?_, fun hn => ?_⟩
  · split at hA
    · omega
    · have h0 := h4 (by cases A <;> simp_all)
      omega
  · obtain ⟨b, off, rfl, hb, hc⟩ := h5 (by omega)
    rw [if_neg (by omega)]
    refine ⟨b, off + m * r.k, by simp [Addr.add_lit], hb, fun j a ha => ?_⟩
    rw [Nat.add_assoc, ← Nat.add_mul]
    exact hc _ a (by rw [← ha, List.getElem?_drop])
theorem sumQ_app (a b : List RawQ) : sumQ (a ++ b) = sumQ a + sumQ b := by
  unfold sumQ
  rw [List.foldl_append]
  have : ∀ (l : List RawQ) (s : Rat), l.foldl (fun s x => s + qv x) s = s + l.foldl (fun s x => s + qv x) 0 := by
    intro l
    induction l with
    | nil => intro s; exact (Rat.add_zero s).symm
    | cons x t ih => intro s; rw [List.foldl_cons, List.foldl_cons, ih (s + qv x), ih (0 + qv x), Rat.zero_add, Rat.add_assoc]
  exact this _ _
theorem prodQ_app (a b : List RawQ) : prodQ (a ++ b) = prodQ a * prodQ b := by
  unfold prodQ
  rw [List.foldl_append]
  have : ∀ (l : List RawQ) (s : Rat), l.foldl (fun s x => s * qv x) s = s * l.foldl (fun s x => s * qv x) 1 := by
    intro l
    induction l with
    | nil => intro s; exact (Rat.mul_one s).symm
    | cons x t ih => intro s; rw [List.foldl_cons, List.foldl_cons, ih (s * qv x), ih (1 * qv x), Rat.one_mul, Rat.mul_assoc]
  exact this _ _
def bestF (c : Rat → Rat → Bool) (q : Rat) (l : List RawQ) : Rat := l.foldl (fun m y => bif c (qv y) m then qv y else m) q
theorem bestF_next {c : Rat → Rat → Bool} {q : Rat} {l : List RawQ} {i : Nat} {x : RawQ} (hx : l[i]? = some x) : bestF c q (l.take (i + 1)) = bif c (qv x) (bestF c q (l.take i)) then qv x else bestF c q (l.take i) := by
  rw [take_one hx]
  unfold bestF
  rw [List.foldl_append]
  rfl
theorem bestF_R (c : Rat → Rat → Bool) (q : Rat) (l : List RawQ) : bestR c (q :: l.map qv) = bestF c q l := by
  show (l.map qv).foldl (fun m y => bif c y m then y else m) q = _
  rw [List.foldl_map]
  rfl
theorem cmpQ_below (p q : Rat) : (cmpQ p q == -1) = decide (cmpQ p q < 0) := by
  unfold cmpQ
  split
  · rfl
  · split <;> rfl
theorem cmpQ_over (p q : Rat) : (cmpQ p q == 1) = decide (0 < cmpQ p q) := by
  unfold cmpQ
  split
  · rfl
  · split <;> rfl
theorem Keeps.rfl' (X : List Nat) (w : World) : Keeps X w w := ⟨Nat.le_refl _, fun _ _ _ => rfl⟩
theorem qa_mono {X : List Nat} {w : World} {v : Value} {q : Rat} {L M : Nat} (hl : L ≤ M) (h : (VTy.qa q L).holds X w v) : (VTy.qa q M).holds X w v := by
  obtain ⟨x, ⟨h1, h2, h3, h4⟩, g⟩ := h
  exact ⟨x, ⟨h1, by omega, by omega, by omega⟩, g⟩
theorem zero_qc {X : List Nat} {w : World} {v : Value} {B : Nat} (h : (VTy.qn ((0 : Int) : Rat) 2 B).holds X w v) : (VTy.qc 0 1).holds X w v := qc_qc (p := ((0 : Int) : Rat)) rfl Lq.zero v (nw_ex h)
theorem one_qc {X : List Nat} {w : World} {v : Value} {B : Nat} (h : (VTy.qn ((1 : Int) : Rat) 2 B).holds X w v) : (VTy.qc 1 2).holds X w v := qc_qc (p := ((1 : Int) : Rat)) rfl (Lq.whole (k := 1) (by decide)) v (nw_ex h)
theorem TS.less {w00 w : World} {X X' : List Nat} {L : List Loc} {E : List (Nat × VTy)} {n : Nat} {a : Act} (h : TS w00 X' L E n a w) (hX : ∀ b ∈ X, b ∈ X') (hL : ∀ p ∈ L, p.1 ∈ X) : TS w00 X L E n a w :=
  ⟨h.size, h.df, fun p hp => p.2.stable (h.slots p hp) (Keeps.rfl' _ _) (fun b hb _ => hX b hb), ⟨fun p hp => by
    obtain ⟨_, g2, v, ty, g3, g4⟩ := h.mem.loc p hp
    exact ⟨hL p hp, g2, v, ty, p.2.stable g3 (Keeps.rfl' _ _) (fun b hb _ => hX b hb), g4⟩, fun b hb => h.mem.far b (hX b hb), h.mem.nodup, h.mem.below⟩⟩
theorem TS.tail {w00 w : World} {X : List Nat} {L : List Loc} {E : List (Nat × VTy)} {n : Nat} {a : Act} {p : Loc} (h : TS w00 X (p :: L) E n a w) : TS w00 X L E n a w :=
  ⟨h.size, h.df, h.slots, ⟨fun p hp => h.mem.loc p (List.mem_cons_of_mem _ hp), h.mem.far, by have := h.mem.nodup; rw [List.map_cons, List.nodup_cons] at this; exact this.2, h.mem.below⟩⟩
instance {p : RawQ → Prop} {a : RawQ} : SizeV (.el Rp.frac p a) 4 true := inferInstanceAs (SizeV (.ex Rp.frac _) Rp.frac.k true)
instance {p : RawQ → Prop} {a : RawQ} : PartC (.el Rp.frac p a) 0 4 true (.el Rp.frac p a) := .whole inferInstance
instance : SliceC Tryz.prog 60 4 := ⟨⟨_, Tryz.underlying60, by kernel_rfl⟩⟩
section
variable {w00 : World} {N : Nat} {L : List Loc} {E : List (Nat × VTy)} {d : Nat} {t0 : TypeId} {pos : String} {af : Array Edge} {gd : Option (Nat × Bool)} {ats : Array TypeId}
set_option maxRecDepth 20000 in
theorem st_sliceTo {o o1 : Operand} {l : List RawQ} {K m : Nat} [ho : OpC E o (.rq K l)] [h1 : OpC E o1 (.is (.int .i64 (m : Int)))] (hm : m ≤ l.length) : StepT Tryz.prog w00 N L E ⟨some d, .slice 60 o none (some o1) none, t0, pos, af, gd⟩ (.rq K (l.take m)) := by
  constructor
  intro X ρ w hc _ hN hmm hsl
  obtain ⟨hp, A, n, c, e, hs⟩ := ho.get (X := X) (w := w) hc fun p hp e => hsl p hp (by simp [Op.operands, e])
  have e1 : ρ o = .slice A n c := by simpa using e
  have e2 : ρ o1 = .int .i64 m := h1.get (X := X) (w := w) hc fun p hp e => hsl p hp (by simp [Op.operands, e])
  have hn := hs.1
  have hcc := hs.2.1
  have hm1 : (m : Int) ≤ (c : Int) := by omega
  have hm0 : (0 : Int) ≤ (m : Int) := by omega
  have hmc : m ≤ c := by omega
  have hT : (VTy.rq K (l.take m)).holds X w (.slice A m c) := ⟨fun a ha => hp a (List.mem_of_mem_take ha), A, m, c, rfl, hs.front (by omega)⟩
  have HT := Lib.hid hT
  clear hT hc hsl ho h1 hs e hp
  unfold Yields
  go_simp
  exact ⟨HT.out, Below.refl _ _⟩
set_option maxRecDepth 20000 in
theorem st_sliceFrom {o o1 : Operand} {l : List RawQ} {K m : Nat} [ho : OpC E o (.rq K l)] [h1 : OpC E o1 (.is (.int .i64 (m : Int)))] (hm : m ≤ l.length) : StepT Tryz.prog w00 N L E ⟨some d, .slice 60 o (some o1) none none, t0, pos, af, gd⟩ (.rq K (l.drop m)) := by
  constructor
  intro X ρ w hc _ hN hmm hsl
  obtain ⟨hp, A, n, c, e, hs⟩ := ho.get (X := X) (w := w) hc fun p hp e => hsl p hp (by simp [Op.operands, e])
  have e1 : ρ o = .slice A n c := by simpa using e
  have e2 : ρ o1 = .int .i64 m := h1.get (X := X) (w := w) hc fun p hp e => hsl p hp (by simp [Op.operands, e])
  have hn := hs.1
  have hcc := hs.2.1
  have hm1 : (m : Int) ≤ (n : Int) := by omega
  have hnc : (n : Int) ≤ (c : Int) := by omega
  have hm0 : (0 : Int) ≤ (m : Int) := by omega
  have hT : (VTy.rq K (l.drop m)).holds X w (.slice (if c = m then A else A.map (·.add (m * 4))) (n - m) (c - m)) := ⟨fun a ha => hp a (List.mem_of_mem_drop ha), _, _, _, rfl, hs.back (by omega)⟩
  have HT := Lib.hid hT
  clear hT hc hsl ho h1 hs e hp
  unfold Yields
  go_simp
  exact ⟨HT.out, Below.refl _ _⟩
theorem st_half {o0 : Operand} {n m : Nat} {ty t1 : TypeId} [h0 : OpC E o0 (.is (.int .i64 (n : Int)))] (hn : n ≤ 9223372036854775807) (hm : m = n / 2) : StepT Tryz.prog w00 N L E ⟨some d, .binOp .quo ty o0 (.const (.int .i64 2)) t1, t0, pos, af, gd⟩ (.is (.int .i64 (m : Int))) := by
  constructor
  intro X ρ w hc _ hN _ hsl
  have e0 : ρ o0 = .int .i64 n := h0.get (X := X) (w := w) hc fun p hp e => hsl p hp (by simp [Op.operands, e])
  have e1 : ρ (.const (.int .i64 2)) = .int .i64 2 := hc _
  have ht : (n : Int).tdiv 2 = (m : Int) := by rw [Int.tdiv_eq_ediv_of_nonneg (by omega)]; omega
  have hw : IntKind.i64.wrap (m : Int) = (m : Int) := by rw [IntKind.wrap_i64]; omega
  clear hc hsl h0 hm
  unfold Yields
  go_simp
  refine ⟨?_, Below.refl _ _⟩
  show Value.int .i64 _ = Value.int .i64 _
  congr 1
theorem st_negK {o : Operand} {x z : Int} {k : IntKind} {ty : TypeId} [h0 : OpC E o (.is (.int k x))] (hz : k.wrap (-x) = z) : StepT Tryz.prog w00 N L E ⟨some d, .unOp .neg ty o, t0, pos, af, gd⟩ (.is (.int k z)) := by
  constructor
  intro X ρ w hc _ hN hm hsl
  have e0 : ρ o = .int k x := h0.get (X := X) (w := w) hc fun p hp e => hsl p hp (by simp [Op.operands, e])
  clear hc hsl h0
  unfold Yields
  go_simp
  exact ⟨rfl, Below.refl _ _⟩
/-- A function value that got nothing ahead is called with two. -/
theorem sf2_ {P : Program} {f : FuncId} {s : Nat} {o0 o1 : Operand} {T0 T1 R : VTy} [hs : Look E s (.fv f [] [])] [h0 : OpC E o0 T0] [h1 : OpC E o1 T1] (hcf : Enters P f) (hcall : ∀ X w v0 v1, (∀ b ∈ X, b < w.heap.size) → N ≤ w.heap.size → Below w00.heap.size w00 w → T0.holds X w v0 → T1.holds X w v1 → Calls P f #[v0, v1] w (Gives X w R)) :
    StepT P w00 N L E ⟨some d, .call { callee := .value (.tmp s), args := #[o0, o1], argTypes := ats }, t0, pos, af, gd⟩ R := by
  constructor
  intro X ρ w hc hf hN hm hsl
  obtain ⟨vs, us, e, g1, g2⟩ := hsl _ hs.mem (by simp [Op.operands, Call.operands])
  have e0 : T0.holds X w (ρ o0) := h0.get hc fun p hp e => hsl p hp (by simp [Op.operands, Call.operands, e])
  have e1 : T1.holds X w (ρ o1) := h1.get hc fun p hp e => hsl p hp (by simp [Op.operands, Call.operands, e])
  match vs, us, g1, g2 with
  | [], [], _, _ =>
    have e' : ρ (.tmp s) = .func (.func f) #[] #[] := e
    have hr : (execOp ρ ⟨some d, .call { callee := .value (.tmp s), args := #[o0, o1], argTypes := ats }, t0, pos, af, gd⟩).run P w = .ok (.enter f #[ρ o0, ρ o1]) w := by
      clear hsl hcall hm hN hc e0 e1 e hf
      go_simp
      exact hcf _ _
    unfold Yields
    rw [hr]
    refine (hcall X w _ _ hm.far hN hm.below e0 e1).mono ?_
    rintro e w' ⟨v, rfl, hT, hB⟩
    exact ⟨v, rfl, hT, hB⟩
/-- joined is called with a function's name, with a function value. -/
theorem ei_joined : Enters Tryz.prog 73 := fun _ _ => by kernel_rfl
theorem sj_name {f : FuncId} {o0 o2 : Operand} {T0 T2 R : VTy} [h0 : OpC E o0 T0] [h2 : OpC E o2 T2] (hcall : ∀ X w v0 v1 v2, (∀ b ∈ X, b < w.heap.size) → Below w00.heap.size w00 w → T0.holds X w v0 → (VTy.fv f [] []).holds X w v1 → T2.holds X w v2 → Calls Tryz.prog 73 #[v0, v1, v2] w (Gives X w R)) :
    StepT Tryz.prog w00 N L E ⟨some d, .call { callee := .value (.func 73), args := #[o0, .func f, o2], argTypes := ats }, t0, pos, af, gd⟩ R := by
  constructor
  intro X ρ w hc hf hN hm hsl
  have e0 : T0.holds X w (ρ o0) := h0.get hc fun p hp e => hsl p hp (by simp [Op.operands, Call.operands, e])
  have e2 : T2.holds X w (ρ o2) := h2.get hc fun p hp e => hsl p hp (by simp [Op.operands, Call.operands, e])
  have e1 : ρ (.func f) = .func (.func f) #[] #[] := hf f
  have hr : (execOp ρ ⟨some d, .call { callee := .value (.func 73), args := #[o0, .func f, o2], argTypes := ats }, t0, pos, af, gd⟩).run Tryz.prog w = .ok (.enter 73 #[ρ o0, .func (.func f) #[] #[], ρ o2]) w := by
    have hff := hf 73
    clear hsl hcall hm hN hc e0 e2 hf
    go_simp
  unfold Yields
  rw [hr]
  refine (hcall X w _ _ _ hm.far hm.below e0 ⟨[], [], by simp, trivial, trivial⟩ e2).mono ?_
  rintro e w' ⟨v, rfl, hT, hB⟩
  exact ⟨v, rfl, hT, hB⟩
theorem sj_call {o0 o1 o2 : Operand} {T0 T1 T2 R : VTy} [h0 : OpC E o0 T0] [h1 : OpC E o1 T1] [h2 : OpC E o2 T2] (hcall : ∀ X w v0 v1 v2, (∀ b ∈ X, b < w.heap.size) → Below w00.heap.size w00 w → T0.holds X w v0 → T1.holds X w v1 → T2.holds X w v2 → Calls Tryz.prog 73 #[v0, v1, v2] w (Gives X w R)) :
    StepT Tryz.prog w00 N L E ⟨some d, .call { callee := .value (.func 73), args := #[o0, o1, o2], argTypes := ats }, t0, pos, af, gd⟩ R :=
  sc3 ei_joined fun X w v0 v1 v2 hX _ hB g0 g1 g2 => hcall X w v0 v1 v2 hX hB g0 g1 g2
end
section
variable {w00 : World} {N : Nat} {L : List Loc} {E : List (Nat × VTy)} {d : Nat} {t0 : TypeId} {pos : String} {af : Array Edge} {gd : Option (Nat × Bool)} {ats : Array TypeId}
theorem sj_S {s : Nat} {o0 o1 : Operand} {T0 T1 : VTy} {p q : Rat} {L0 K0 : Nat} [hs : Look E s (.fv 51 [] [])] [OpC E o0 T0] [a0 : AsC T0 p L0] [OpC E o1 T1] [a1 : AsC T1 q K0] (hE : Tab w00) (hb : L0 ≤ 450 ∧ K0 ≤ 450) :
    StepT Tryz.prog w00 N L E ⟨some d, .call { callee := .value (.tmp s), args := #[o0, o1], argTypes := ats }, t0, pos, af, gd⟩ (.qn (p + q) (L0 + K0 + 1) w00.heap.size) :=
  sf2_ ei_sumoftwo fun X w v0 v1 hX _ hB h0 h1 => (crn_sumoftwo (hE.below hB) hX (a0.ok h0) (a1.ok h1) hb).mono fun e w' h => h.imp fun _ g => nw_le g hB.size
end
set_option maxRecDepth 20000 in
set_option maxHeartbeats 4000000 in
theorem crn_join0S {X : List Nat} {w : World} {v0 v1 v2 : Value} {K M : Nat} {l : List RawQ} (hE : Tab w) (hX : ∀ b ∈ X, b < w.heap.size) (h0 : (VTy.qc 0 1).holds X w v0) (h1 : (VTy.fv 51 [] []).holds X w v1) (h2 : (VTy.rq K l).holds X w v2) (hz : l = [] → 1 ≤ M) (hM : (K + 1) * l.length ≤ M + 1) (hM2 : M ≤ 450) (hl : l.length = 0) : Calls Tryz.prog 73 #[v0, v1, v2] w (Gives X w (.qc (sumQ l) M)) := by
  have hc0 : ((l.length : Int) == 0) = true := by rw [hl]; rfl
  have hl' : l = [] := List.eq_nil_of_length_eq_zero hl
  have hv : (0 : Rat) = sumQ l := by rw [hl']; rfl
  have hq : Lq (sumQ l) M := by rw [← hv]; exact (qc_Lq h0).mono (hz hl')
  clear hl hl' hz hM
  refine g_enter (Ts := [.qc 0 1, .fv 51 [] [], .rq K l]) (vs := [v0, v1, v2]) Tryz.func73 rfl Tryz.ntmps73 (by simp) hX ⟨h0, h1, h2, trivial⟩ ?_
  clear h0 h1 h2 hX
  simp only [argE, Nat.zero_add, Nat.reduceAdd]
  repeat' first|kernel_rfl|apply g_seq|apply g_reg|apply g_nil|apply o_all|apply o_go|exact OpsT.nil|exact GuardC.nil|exact UndefC.nil|apply g_box|apply g_all|apply g_sto|apply g_asg|apply g_st|apply g_skip|apply g_ct|apply g_cf|apply g_ret|refine r_1 rfl ?_|apply g_blk|apply g_eb|apply g_ex|apply e_t|apply e_h|refine e_o rfl ?_|apply r_t|apply r_b|apply g_cl|exact st_len'|exact st_eq' (by assumption)|exact st_move'|exact st_assign'|exact st_load'|exact st_eq' (by first|assumption|rfl)|exact st_len'|exact st_indexAddr' (by assumption)|exact st_loadE'|exact ⟨fun _ _=>fun v g => qc_qc hv hq v g⟩|exact Cv.rfl'|(intro _;simp only[newX,newL,ptrs,List.map,List.cons_append,List.nil_append])|intro _
set_option maxRecDepth 20000 in
set_option maxHeartbeats 4000000 in
theorem crn_join1S {X : List Nat} {w : World} {v0 v1 v2 : Value} {K M : Nat} {l : List RawQ} (hE : Tab w) (hX : ∀ b ∈ X, b < w.heap.size) (h0 : (VTy.qc 0 1).holds X w v0) (h1 : (VTy.fv 51 [] []).holds X w v1) (h2 : (VTy.rq K l).holds X w v2) (hz : l = [] → 1 ≤ M) (hM : (K + 1) * l.length ≤ M + 1) (hM2 : M ≤ 450) (hl : l.length = 1) : Calls Tryz.prog 73 #[v0, v1, v2] w (Gives X w (.qc (sumQ l) M)) := by
  obtain ⟨_, hf⟩ := rq_max h2
  obtain ⟨x, hx⟩ : ∃ x, l[0]? = some x := ⟨_, List.getElem?_eq_getElem (by omega)⟩
  have hl' : l = [x] := by
    match l, hl, hx with
    | [y], _, h => simp at h; rw [h]
  have hc0 : ((l.length : Int) == 0) = false := by rw [hl]; rfl
  have hc1 : ((l.length : Int) == 1) = true := by rw [hl]; rfl
  have hKM : K ≤ M := by rw [hl] at hM; omega
  have hq : Lq (qv x) M := (hf x (List.mem_of_getElem? hx)).mono hKM
  have hv : qv x = sumQ l := by rw [hl']; unfold sumQ; rw [List.foldl_cons, List.foldl_nil]; exact (Rat.zero_add _).symm
  have hq2 : Lq (sumQ l) M := by rw [← hv]; exact hq
  clear hl hl' hz hf hq hM
  refine g_enter (Ts := [.qc 0 1, .fv 51 [] [], .rq K l]) (vs := [v0, v1, v2]) Tryz.func73 rfl Tryz.ntmps73 (by simp) hX ⟨h0, h1, h2, trivial⟩ ?_
  clear h0 h1 h2 hX
  simp only [argE, Nat.zero_add, Nat.reduceAdd]
  repeat' first|kernel_rfl|apply g_seq|apply g_reg|apply g_nil|apply o_all|apply o_go|exact OpsT.nil|exact GuardC.nil|exact UndefC.nil|apply g_box|apply g_all|apply g_sto|apply g_asg|apply g_st|apply g_skip|apply g_ct|apply g_cf|apply g_ret|refine r_1 rfl ?_|apply g_blk|apply g_eb|apply g_ex|apply e_t|apply e_h|refine e_o rfl ?_|apply r_t|apply r_b|apply g_cl|exact st_len'|exact st_eq' (by assumption)|exact st_indexAddr0' hx|exact st_loadE'|exact si_counted hE (by omega)|exact st_move'|exact st_assign'|exact st_load'|exact st_eq' (by first|assumption|rfl)|exact st_len'|exact st_indexAddr' (by assumption)|exact st_loadE'|exact ⟨fun _ _=>fun v g => qc_qc hv hq2 v g⟩|exact Cv.rfl'|(intro _;simp only[newX,newL,ptrs,List.map,List.cons_append,List.nil_append])|intro _
set_option maxRecDepth 20000 in
set_option maxHeartbeats 4000000 in
theorem crn_joinS : ∀ (m : Nat) {X : List Nat} {w : World} {v0 v1 v2 : Value} {K M : Nat} {l : List RawQ} (hE : Tab w) (hX : ∀ b ∈ X, b < w.heap.size) (h0 : (VTy.qc 0 1).holds X w v0) (h1 : (VTy.fv 51 [] []).holds X w v1) (h2 : (VTy.rq K l).holds X w v2) (hz : l = [] → 1 ≤ M) (hM : (K + 1) * l.length ≤ M + 1) (hM2 : M ≤ 450) (hl : l.length ≤ m), Calls Tryz.prog 73 #[v0, v1, v2] w (Gives X w (.qc (sumQ l) M)) := by
  intro m
  induction m with
  | zero =>
    intro X w v0 v1 v2 K M l hE hX h0 h1 h2 hz hM hM2 hl
    exact crn_join0S hE hX h0 h1 h2 hz hM hM2 (by omega)
  | succ m ih =>
    intro X w v0 v1 v2 K M l hE hX h0 h1 h2 hz hM hM2 hl
    by_cases h00 : l.length = 0
    · exact crn_join0S hE hX h0 h1 h2 hz hM hM2 h00
    by_cases h01 : l.length = 1
    · exact crn_join1S hE hX h0 h1 h2 hz hM hM2 h01
    obtain ⟨hmx, hf⟩ := rq_max h2
    have hc0 : ((l.length : Int) == 0) = false := by rw [beq_eq_false_iff_ne]; omega
    have hc1 : ((l.length : Int) == 1) = false := by rw [beq_eq_false_iff_ne]; omega
    obtain ⟨k, hk⟩ : ∃ k, k = l.length / 2 := ⟨_, rfl⟩
    have hkl : k ≤ l.length := by omega
    have lt : (l.take k).length = k := by rw [List.length_take]; omega
    have ld : (l.drop k).length = l.length - k := by rw [List.length_drop]
    have em : (K + 1) * k + (K + 1) * (l.length - k) = (K + 1) * l.length := by rw [← Nat.mul_add]; congr 1; omega
    have k1 : K + 1 ≤ (K + 1) * k := Nat.le_mul_of_pos_right _ (by omega)
    have k2 : K + 1 ≤ (K + 1) * (l.length - k) := Nat.le_mul_of_pos_right _ (by omega)
    obtain ⟨M1, e1⟩ : ∃ M1, M1 + 1 = (K + 1) * k := ⟨(K + 1) * k - 1, by omega⟩
    obtain ⟨M2, e2⟩ : ∃ M2, M2 + 1 = (K + 1) * (l.length - k) := ⟨(K + 1) * (l.length - k) - 1, by omega⟩
    have i1 := fun X w v0 v1 v2 (hE : Tab w) (hX : ∀ b ∈ X, b < w.heap.size) g0 g1 g2 => ih (X := X) (w := w) (v0 := v0) (v1 := v1) (v2 := v2) (K := K) (M := M1) (l := l.take k) hE hX g0 g1 g2 (fun h => by rw [h] at lt; simp at lt; omega) (by rw [lt]; omega) (by omega) (by omega)
    have i2 := fun X w v0 v1 v2 (hE : Tab w) (hX : ∀ b ∈ X, b < w.heap.size) g0 g1 g2 => ih (X := X) (w := w) (v0 := v0) (v1 := v1) (v2 := v2) (K := K) (M := M2) (l := l.drop k) hE hX g0 g1 g2 (fun h => by rw [h] at ld; simp at ld; omega) (by rw [ld]; omega) (by omega) (by omega)
    have hv : sumQ (l.take k) + sumQ (l.drop k) = sumQ l := by rw [← sumQ_app, List.take_append_drop]
    have hM1 : M1 ≤ 450 ∧ M2 ≤ 450 := by omega
    have hMM : M1 + M2 + 1 ≤ M := by omega
    clear hz hM k1 k2 em ih lt ld
    refine g_enter (Ts := [.qc 0 1, .fv 51 [] [], .rq K l]) (vs := [v0, v1, v2]) Tryz.func73 rfl Tryz.ntmps73 (by simp) hX ⟨h0, h1, h2, trivial⟩ ?_
    clear h0 h1 h2 hX
    simp only [argE, Nat.zero_add, Nat.reduceAdd]
    repeat' first|kernel_rfl|apply g_seq|apply g_reg|apply g_nil|apply g_draw (id:=7) [] [] 14|apply o_all|apply o_go|exact OpsT.nil|exact GuardC.nil|exact UndefC.nil|apply g_box|apply g_all|apply g_sto|apply g_asg|apply g_st|apply g_skip|apply g_ct|apply g_cf|apply g_ret|refine r_1 rfl ?_|apply g_blk|apply g_eb|apply g_ex|apply e_t|apply e_h|refine e_o rfl ?_|apply r_t|apply r_b|apply g_cl|exact st_len'|exact st_eq' (by assumption)|exact sj_call fun X w v0 v1 v2 hX hB g0 g1 g2 => i1 X w v0 v1 v2 (hE.below hB) hX g0 g1 g2|exact sj_call fun X w v0 v1 v2 hX hB g0 g1 g2 => i2 X w v0 v1 v2 (hE.below hB) hX g0 g1 g2|exact sj_S hE hM1|exact st_sliceTo hkl|exact st_sliceFrom hkl|exact st_half hmx hk|exact st_move'|exact st_assign'|exact st_load'|exact st_eq' (by first|assumption|rfl)|exact st_len'|exact st_indexAddr' (by assumption)|exact st_loadE'|exact ⟨fun _ _=>fun v g => qc_qc hv ((hv ▸ qc_Lq (nw_ex g)).mono hMM) v (nw_ex g)⟩|exact Cv.rfl'|(intro _;simp only[newX,newL,ptrs,List.map,List.cons_append,List.nil_append])|intro _
section
variable {w00 : World} {N : Nat} {L : List Loc} {E : List (Nat × VTy)} {d : Nat} {t0 : TypeId} {pos : String} {af : Array Edge} {gd : Option (Nat × Bool)} {ats : Array TypeId}
theorem sj_P {s : Nat} {o0 o1 : Operand} {T0 T1 : VTy} {p q : Rat} {L0 K0 : Nat} [hs : Look E s (.fv 54 [] [])] [OpC E o0 T0] [a0 : AsC T0 p L0] [OpC E o1 T1] [a1 : AsC T1 q K0] (hE : Tab w00) (hb : L0 ≤ 450 ∧ K0 ≤ 450) :
    StepT Tryz.prog w00 N L E ⟨some d, .call { callee := .value (.tmp s), args := #[o0, o1], argTypes := ats }, t0, pos, af, gd⟩ (.qn (p * q) (L0 + K0) w00.heap.size) :=
  sf2_ ei_productoftwo fun X w v0 v1 hX _ hB h0 h1 => (crn_productoftwo (hE.below hB) hX (a0.ok h0) (a1.ok h1) hb).mono fun e w' h => h.imp fun _ g => nw_le g hB.size
end
set_option maxRecDepth 20000 in
set_option maxHeartbeats 4000000 in
theorem crn_join0P {X : List Nat} {w : World} {v0 v1 v2 : Value} {K M : Nat} {l : List RawQ} (hE : Tab w) (hX : ∀ b ∈ X, b < w.heap.size) (h0 : (VTy.qc 1 2).holds X w v0) (h1 : (VTy.fv 54 [] []).holds X w v1) (h2 : (VTy.rq K l).holds X w v2) (hz : l = [] → 2 ≤ M) (hM : (K + 1) * l.length ≤ M + 1) (hM2 : M ≤ 450) (hl : l.length = 0) : Calls Tryz.prog 73 #[v0, v1, v2] w (Gives X w (.qc (prodQ l) M)) := by
  have hc0 : ((l.length : Int) == 0) = true := by rw [hl]; rfl
  have hl' : l = [] := List.eq_nil_of_length_eq_zero hl
  have hv : (1 : Rat) = prodQ l := by rw [hl']; rfl
  have hq : Lq (prodQ l) M := by rw [← hv]; exact (qc_Lq h0).mono (hz hl')
  clear hl hl' hz hM
  refine g_enter (Ts := [.qc 1 2, .fv 54 [] [], .rq K l]) (vs := [v0, v1, v2]) Tryz.func73 rfl Tryz.ntmps73 (by simp) hX ⟨h0, h1, h2, trivial⟩ ?_
  clear h0 h1 h2 hX
  simp only [argE, Nat.zero_add, Nat.reduceAdd]
  repeat' first|kernel_rfl|apply g_seq|apply g_reg|apply g_nil|apply o_all|apply o_go|exact OpsT.nil|exact GuardC.nil|exact UndefC.nil|apply g_box|apply g_all|apply g_sto|apply g_asg|apply g_st|apply g_skip|apply g_ct|apply g_cf|apply g_ret|refine r_1 rfl ?_|apply g_blk|apply g_eb|apply g_ex|apply e_t|apply e_h|refine e_o rfl ?_|apply r_t|apply r_b|apply g_cl|exact st_len'|exact st_eq' (by assumption)|exact st_move'|exact st_assign'|exact st_load'|exact st_eq' (by first|assumption|rfl)|exact st_len'|exact st_indexAddr' (by assumption)|exact st_loadE'|exact ⟨fun _ _=>fun v g => qc_qc hv hq v g⟩|exact Cv.rfl'|(intro _;simp only[newX,newL,ptrs,List.map,List.cons_append,List.nil_append])|intro _
set_option maxRecDepth 20000 in
set_option maxHeartbeats 4000000 in
theorem crn_join1P {X : List Nat} {w : World} {v0 v1 v2 : Value} {K M : Nat} {l : List RawQ} (hE : Tab w) (hX : ∀ b ∈ X, b < w.heap.size) (h0 : (VTy.qc 1 2).holds X w v0) (h1 : (VTy.fv 54 [] []).holds X w v1) (h2 : (VTy.rq K l).holds X w v2) (hz : l = [] → 2 ≤ M) (hM : (K + 1) * l.length ≤ M + 1) (hM2 : M ≤ 450) (hl : l.length = 1) : Calls Tryz.prog 73 #[v0, v1, v2] w (Gives X w (.qc (prodQ l) M)) := by
  obtain ⟨_, hf⟩ := rq_max h2
  obtain ⟨x, hx⟩ : ∃ x, l[0]? = some x := ⟨_, List.getElem?_eq_getElem (by omega)⟩
  have hl' : l = [x] := by
    match l, hl, hx with
    | [y], _, h => simp at h; rw [h]
  have hc0 : ((l.length : Int) == 0) = false := by rw [hl]; rfl
  have hc1 : ((l.length : Int) == 1) = true := by rw [hl]; rfl
  have hKM : K ≤ M := by rw [hl] at hM; omega
  have hq : Lq (qv x) M := (hf x (List.mem_of_getElem? hx)).mono hKM
  have hv : qv x = prodQ l := by rw [hl']; unfold prodQ; rw [List.foldl_cons, List.foldl_nil]; exact (Rat.one_mul _).symm
  have hq2 : Lq (prodQ l) M := by rw [← hv]; exact hq
  clear hl hl' hz hf hq hM
  refine g_enter (Ts := [.qc 1 2, .fv 54 [] [], .rq K l]) (vs := [v0, v1, v2]) Tryz.func73 rfl Tryz.ntmps73 (by simp) hX ⟨h0, h1, h2, trivial⟩ ?_
  clear h0 h1 h2 hX
  simp only [argE, Nat.zero_add, Nat.reduceAdd]
  repeat' first|kernel_rfl|apply g_seq|apply g_reg|apply g_nil|apply o_all|apply o_go|exact OpsT.nil|exact GuardC.nil|exact UndefC.nil|apply g_box|apply g_all|apply g_sto|apply g_asg|apply g_st|apply g_skip|apply g_ct|apply g_cf|apply g_ret|refine r_1 rfl ?_|apply g_blk|apply g_eb|apply g_ex|apply e_t|apply e_h|refine e_o rfl ?_|apply r_t|apply r_b|apply g_cl|exact st_len'|exact st_eq' (by assumption)|exact st_indexAddr0' hx|exact st_loadE'|exact si_counted hE (by omega)|exact st_move'|exact st_assign'|exact st_load'|exact st_eq' (by first|assumption|rfl)|exact st_len'|exact st_indexAddr' (by assumption)|exact st_loadE'|exact ⟨fun _ _=>fun v g => qc_qc hv hq2 v g⟩|exact Cv.rfl'|(intro _;simp only[newX,newL,ptrs,List.map,List.cons_append,List.nil_append])|intro _
set_option maxRecDepth 20000 in
set_option maxHeartbeats 4000000 in
theorem crn_joinP : ∀ (m : Nat) {X : List Nat} {w : World} {v0 v1 v2 : Value} {K M : Nat} {l : List RawQ} (hE : Tab w) (hX : ∀ b ∈ X, b < w.heap.size) (h0 : (VTy.qc 1 2).holds X w v0) (h1 : (VTy.fv 54 [] []).holds X w v1) (h2 : (VTy.rq K l).holds X w v2) (hz : l = [] → 2 ≤ M) (hM : (K + 1) * l.length ≤ M + 1) (hM2 : M ≤ 450) (hl : l.length ≤ m), Calls Tryz.prog 73 #[v0, v1, v2] w (Gives X w (.qc (prodQ l) M)) := by
  intro m
  induction m with
  | zero =>
    intro X w v0 v1 v2 K M l hE hX h0 h1 h2 hz hM hM2 hl
    exact crn_join0P hE hX h0 h1 h2 hz hM hM2 (by omega)
  | succ m ih =>
    intro X w v0 v1 v2 K M l hE hX h0 h1 h2 hz hM hM2 hl
    by_cases h00 : l.length = 0
    · exact crn_join0P hE hX h0 h1 h2 hz hM hM2 h00
    by_cases h01 : l.length = 1
    · exact crn_join1P hE hX h0 h1 h2 hz hM hM2 h01
    obtain ⟨hmx, hf⟩ := rq_max h2
    have hc0 : ((l.length : Int) == 0) = false := by rw [beq_eq_false_iff_ne]; omega
    have hc1 : ((l.length : Int) == 1) = false := by rw [beq_eq_false_iff_ne]; omega
    obtain ⟨k, hk⟩ : ∃ k, k = l.length / 2 := ⟨_, rfl⟩
    have hkl : k ≤ l.length := by omega
    have lt : (l.take k).length = k := by rw [List.length_take]; omega
    have ld : (l.drop k).length = l.length - k := by rw [List.length_drop]
    have em : (K + 1) * k + (K + 1) * (l.length - k) = (K + 1) * l.length := by rw [← Nat.mul_add]; congr 1; omega
    have k1 : K + 1 ≤ (K + 1) * k := Nat.le_mul_of_pos_right _ (by omega)
    have k2 : K + 1 ≤ (K + 1) * (l.length - k) := Nat.le_mul_of_pos_right _ (by omega)
    obtain ⟨M1, e1⟩ : ∃ M1, M1 + 1 = (K + 1) * k := ⟨(K + 1) * k - 1, by omega⟩
    obtain ⟨M2, e2⟩ : ∃ M2, M2 + 1 = (K + 1) * (l.length - k) := ⟨(K + 1) * (l.length - k) - 1, by omega⟩
    have i1 := fun X w v0 v1 v2 (hE : Tab w) (hX : ∀ b ∈ X, b < w.heap.size) g0 g1 g2 => ih (X := X) (w := w) (v0 := v0) (v1 := v1) (v2 := v2) (K := K) (M := M1) (l := l.take k) hE hX g0 g1 g2 (fun h => by rw [h] at lt; simp at lt; omega) (by rw [lt]; omega) (by omega) (by omega)
    have i2 := fun X w v0 v1 v2 (hE : Tab w) (hX : ∀ b ∈ X, b < w.heap.size) g0 g1 g2 => ih (X := X) (w := w) (v0 := v0) (v1 := v1) (v2 := v2) (K := K) (M := M2) (l := l.drop k) hE hX g0 g1 g2 (fun h => by rw [h] at ld; simp at ld; omega) (by rw [ld]; omega) (by omega) (by omega)
    have hv : prodQ (l.take k) * prodQ (l.drop k) = prodQ l := by rw [← prodQ_app, List.take_append_drop]
    have hM1 : M1 ≤ 450 ∧ M2 ≤ 450 := by omega
    have hMM : M1 + M2 ≤ M := by omega
    clear hz hM k1 k2 em ih lt ld
    refine g_enter (Ts := [.qc 1 2, .fv 54 [] [], .rq K l]) (vs := [v0, v1, v2]) Tryz.func73 rfl Tryz.ntmps73 (by simp) hX ⟨h0, h1, h2, trivial⟩ ?_
    clear h0 h1 h2 hX
    simp only [argE, Nat.zero_add, Nat.reduceAdd]
    repeat' first|kernel_rfl|apply g_seq|apply g_reg|apply g_nil|apply g_draw (id:=7) [] [] 14|apply o_all|apply o_go|exact OpsT.nil|exact GuardC.nil|exact UndefC.nil|apply g_box|apply g_all|apply g_sto|apply g_asg|apply g_st|apply g_skip|apply g_ct|apply g_cf|apply g_ret|refine r_1 rfl ?_|apply g_blk|apply g_eb|apply g_ex|apply e_t|apply e_h|refine e_o rfl ?_|apply r_t|apply r_b|apply g_cl|exact st_len'|exact st_eq' (by assumption)|exact sj_call fun X w v0 v1 v2 hX hB g0 g1 g2 => i1 X w v0 v1 v2 (hE.below hB) hX g0 g1 g2|exact sj_call fun X w v0 v1 v2 hX hB g0 g1 g2 => i2 X w v0 v1 v2 (hE.below hB) hX g0 g1 g2|exact sj_P hE hM1|exact st_sliceTo hkl|exact st_sliceFrom hkl|exact st_half hmx hk|exact st_move'|exact st_assign'|exact st_load'|exact st_eq' (by first|assumption|rfl)|exact st_len'|exact st_indexAddr' (by assumption)|exact st_loadE'|exact ⟨fun _ _=>fun v g => qc_qc hv ((hv ▸ qc_Lq (nw_ex g)).mono hMM) v (nw_ex g)⟩|exact Cv.rfl'|(intro _;simp only[newX,newL,ptrs,List.map,List.cons_append,List.nil_append])|intro _
set_option maxRecDepth 20000 in
set_option maxHeartbeats 4000000 in
theorem crn_sum {X : List Nat} {w : World} (hE : Tab w) (hX : ∀ b ∈ X, b < w.heap.size) {v0 : Value} {J0 : Nat} {l : List RawQ} (h0 : (VTy.rq J0 l).holds X w v0) (hb : (J0 + 1) * l.length ≤ 180 ∧ J0 ≤ 90) :
    Calls Tryz.prog 38 #[v0] w (Gives X w (.qn (sumQ l) (1 + (J0 + 1) * l.length) w.heap.size)) := by
  refine g_enter (Ts := [.rq J0 l]) (vs := [v0]) Tryz.func38 rfl Tryz.ntmps38 (by simp) hX ⟨h0, trivial⟩ ?_
  clear h0 hX
  simp only [argE, Nat.zero_add, Nat.reduceAdd]
  repeat' first|kernel_rfl|apply g_seq|apply g_reg|apply g_nil|apply g_box|apply g_all|apply g_sto|apply g_asg|apply g_st|apply g_skip|apply g_ct|apply g_cf|apply g_ret|refine r_1 rfl ?_|apply g_cl|exact si_whole hE (by decide)|exact sj_name fun X w v0 v1 v2 hX hB g0 g1 g2 => crn_joinS _ (hE.below hB) hX (zero_qc g0) g1 g2 (M := 1 + (J0 + 1) * l.length) (fun _ => by omega) (by omega) (by omega) (Nat.le_refl _)|exact si_copied hE (by omega)|exact st_move'|exact Cv.rfl'|intro _
set_option maxRecDepth 20000 in
set_option maxHeartbeats 4000000 in
theorem crn_prod {X : List Nat} {w : World} (hE : Tab w) (hX : ∀ b ∈ X, b < w.heap.size) {v0 : Value} {J0 : Nat} {l : List RawQ} (h0 : (VTy.rq J0 l).holds X w v0) (hb : (J0 + 1) * l.length ≤ 180 ∧ J0 ≤ 90) :
    Calls Tryz.prog 40 #[v0] w (Gives X w (.qn (prodQ l) (2 + (J0 + 1) * l.length) w.heap.size)) := by
  refine g_enter (Ts := [.rq J0 l]) (vs := [v0]) Tryz.func40 rfl Tryz.ntmps40 (by simp) hX ⟨h0, trivial⟩ ?_
  clear h0 hX
  simp only [argE, Nat.zero_add, Nat.reduceAdd]
  repeat' first|kernel_rfl|apply g_seq|apply g_reg|apply g_nil|apply g_box|apply g_all|apply g_sto|apply g_asg|apply g_st|apply g_skip|apply g_ct|apply g_cf|apply g_ret|refine r_1 rfl ?_|apply g_cl|exact si_whole hE (by decide)|exact sj_name fun X w v0 v1 v2 hX hB g0 g1 g2 => crn_joinP _ (hE.below hB) hX (one_qc g0) g1 g2 (M := 2 + (J0 + 1) * l.length) (fun _ => by omega) (by omega) (by omega) (Nat.le_refl _)|exact si_copied hE (by omega)|exact st_move'|exact Cv.rfl'|intro _
set_option maxRecDepth 20000 in
set_option maxHeartbeats 4000000 in
theorem crn_ahead {X : List Nat} {w : World} (hE : Tab w) (hX : ∀ b ∈ X, b < w.heap.size) {v0 v1 v2 : Value} {k z : Int} {p q : Rat} {L0 K0 : Nat} (h0 : (VTy.is (.int .i64 k)).holds X w v0) (h1 : (VTy.qc p L0).holds X w v1) (h2 : (VTy.qc q K0).holds X w v2) (hb : L0 ≤ 450 ∧ K0 ≤ 450) (hz : IntKind.i64.wrap (-k) = z) :
    Calls Tryz.prog 75 #[v0, v1, v2] w (Gives X w (.is (.bool (cmpQ p q == z)))) := by
  refine g_enter (Ts := [.is (.int .i64 k), .qc p L0, .qc q K0]) (vs := [v0, v1, v2]) Tryz.func75 rfl Tryz.ntmps75 (by simp) hX ⟨h0, h1, h2, trivial⟩ ?_
  clear h0 h1 h2 hX
  simp only [argE, Nat.zero_add, Nat.reduceAdd]
  repeat' first|kernel_rfl|apply g_seq|apply g_reg|apply g_nil|apply g_box|apply g_all|apply g_sto|apply g_asg|apply g_st|apply g_skip|apply g_ct|apply g_cf|apply g_ret|refine r_1 rfl ?_|apply g_cl|exact si_compared hE (by omega)|exact st_negK hz|exact st_move'|exact st_assign'|exact st_load'|exact st_eq' (by first|assumption|rfl)|exact st_loadE'|exact Cv.rfl'|intro _
theorem ei_ahead : Enters Tryz.prog 75 := fun _ _ => by kernel_rfl
section
variable {w00 : World} {N : Nat} {L : List Loc} {E : List (Nat × VTy)} {d : Nat} {t0 : TypeId} {pos : String} {af : Array Edge} {gd : Option (Nat × Bool)} {ats : Array TypeId}
theorem si_ahead {s : Nat} {o0 o1 : Operand} {T0 T1 : VTy} {k z : Int} {p q : Rat} {L0 K0 : Nat} {u : Bool} [hs : Look E s (.fv 75 [.is (.int .i64 k)] [])] [OpC E o0 T0] [a0 : AsC T0 p L0] [OpC E o1 T1] [a1 : AsC T1 q K0] (hE : Tab w00) (hb : L0 ≤ 450 ∧ K0 ≤ 450) (hz : IntKind.i64.wrap (-k) = z) (hu : (cmpQ p q == z) = u) :
    StepT Tryz.prog w00 N L E ⟨some d, .call { callee := .value (.tmp s), args := #[o0, o1], argTypes := ats }, t0, pos, af, gd⟩ (.is (.bool u)) := by
  rw [← hu]
  exact sm2 ei_ahead fun X w v v0 v1 hX _ hB g h0 h1 => crn_ahead (hE.below hB) hX g (a0.ok h0) (a1.ok h1) hb hz
end
set_option maxRecDepth 20000 in
set_option maxHeartbeats 4000000 in
theorem crn_frontmin {X : List Nat} {w : World} (hE : Tab w) (hX : ∀ b ∈ X, b < w.heap.size) {v0 v1 v2 : Value} {q : Rat} {J0 M : Nat} {l : List RawQ} (h0 : (VTy.fv 75 [.is (.int .i64 1)] []).holds X w v0) (h1 : (VTy.qa q M).holds X w v1) (h2 : (VTy.rq J0 l).holds X w v2) (hJ : J0 ≤ M) (hM : M ≤ 450) :
    Calls Tryz.prog 74 #[v0, v1, v2] w (Gives X w (.qc (bestF (fun a b => cmpQ a b == -1) q l) M)) := by
  obtain ⟨hmx, hfw⟩ := rq_max h2
  have hq0 := (qa_Lq h1).1
  refine g_enter (Ts := [.fv 75 [.is (.int .i64 1)] [], .qa q M, .rq J0 l]) (vs := [v0, v1, v2]) Tryz.func74 rfl Tryz.ntmps74 (by simp) hX ⟨h0, h1, h2, trivial⟩ ?_
  clear h0 h1 h2 hX
  simp only [argE, Nat.zero_add, Nat.reduceAdd]
  repeat' first|kernel_rfl|apply g_seq|apply g_reg|apply g_nil|apply g_box|apply g_all|apply g_sto|apply g_asg|apply g_st|apply g_skip|apply g_ct|apply g_cf|apply g_ret|refine r_1 rfl ?_|apply g_cl|exact st_len'|exact si_counted hE (by omega)|exact st_indexAddr' hx|exact st_loadE'|exact st_add' hw|exact si_ahead hE (by omega) (by decide) hcc|exact st_lss' hc1|exact st_move'|exact st_load'|exact st_lss' (by first|assumption|rfl)|exact st_len'|exact st_indexAddr' (by assumption)|exact st_loadE'|exact Cv.rfl'|intro _
  refine g_stop fun a w h => ?_
  have e0 : bestF (fun a b => cmpQ a b == -1) q (l.take 0) = q := rfl
  refine cw_block ?_
  refine cw_loop (fun k a w => ∃ i : Nat, i + k = l.length ∧ Lq (bestF (fun a b => cmpQ a b == -1) q (l.take i)) M ∧ TS _ _ [(_, VTy.qc (bestF (fun a b => cmpQ a b == -1) q (l.take i)) M), (_, VTy.q0), (_, VTy.qa q M)] [(14, .is (.int .i64 (i : Int))), (13, .is (.int .i64 l.length)), (12, .rq J0 l), (7, VTy.is (.pointer (some ⟨_, 0, none⟩))), (6, VTy.is (.pointer (some ⟨_, 0, none⟩))), (0, VTy.fv 75 [.is (.int .i64 1)] [])] 27 a w) l.length ⟨0, by omega, hq0, h.keep [14, 13, 12, 7, 6, 0]⟩ ?_
  clear h
  rintro k a w ⟨i, hi, hq, h⟩
  by_cases hlt : i < l.length
  · obtain ⟨x, hx⟩ : ∃ x, l[i]? = some x := ⟨_, List.getElem?_eq_getElem hlt⟩
    have hc1 : decide ((i : Int) < (l.length : Int)) = true := decide_eq_true (by omega)
    have hw := i64_next hlt hmx
    have hlx := (hfw x (List.mem_of_getElem? hx)).mono hJ
    cases hcc : (cmpQ (qv x) (bestF (fun a b => cmpQ a b == -1) q (l.take i)) == -1) with
    | true =>
      have en : bestF (fun a b => cmpQ a b == -1) q (l.take (i + 1)) = qv x := by rw [bestF_next hx]; simp only [hcc, cond_true]
      refine g_of h ?_
      clear h
      repeat' first|kernel_rfl|exact g_done fun _ _ h=>⟨k - 1, by omega, i + 1, by omega, by rw [en]; exact hlx, (((h.keep [14, 13, 12, 7, 6, 0]).tail).less (fun b hb => List.mem_cons_of_mem _ hb) (by simp)).locs (.cons (fun _ _ => qc_qc en.symm (by rw [en]; exact hlx)) (.same (.same .nil)))⟩|apply g_seq|apply g_reg|apply g_nil|apply g_mv (s:=14)|apply g_box|apply g_all|apply g_sto|apply g_asg|apply g_st|apply g_skip|apply g_ct|apply g_cf|apply g_ret|refine r_1 rfl ?_|apply g_blk|apply g_eb|apply g_ex|apply e_t|apply e_h|refine e_o rfl ?_|apply r_t|apply r_b|apply g_cl|exact st_len'|exact si_counted hE (by omega)|exact st_indexAddr' hx|exact st_loadE'|exact st_add' hw|exact si_ahead hE (by omega) (by decide) hcc|exact st_lss' hc1|exact st_move'|exact st_load'|exact st_lss' (by first|assumption|rfl)|exact st_len'|exact st_indexAddr' (by assumption)|exact st_loadE'|exact Cv.rfl'|intro _
    | false =>
      have en : bestF (fun a b => cmpQ a b == -1) q (l.take (i + 1)) = bestF (fun a b => cmpQ a b == -1) q (l.take i) := by rw [bestF_next hx]; simp only [hcc, cond_false]
      refine g_of h ?_
      clear h
      repeat' first|kernel_rfl|exact g_done fun _ _ h=>⟨k - 1, by omega, i + 1, by omega, by rw [en]; exact hq, (((h.keep [14, 13, 12, 7, 6, 0]).tail).less (fun b hb => List.mem_cons_of_mem _ hb) (by simp)).locs (.cons (fun _ _ => qc_qc en.symm (by rw [en]; exact hq)) (.same (.same .nil)))⟩|apply g_seq|apply g_reg|apply g_nil|apply g_mv (s:=14)|apply g_box|apply g_all|apply g_sto|apply g_asg|apply g_st|apply g_skip|apply g_ct|apply g_cf|apply g_ret|refine r_1 rfl ?_|apply g_blk|apply g_eb|apply g_ex|apply e_t|apply e_h|refine e_o rfl ?_|apply r_t|apply r_b|apply g_cl|exact st_len'|exact si_counted hE (by omega)|exact st_indexAddr' hx|exact st_loadE'|exact st_add' hw|exact si_ahead hE (by omega) (by decide) hcc|exact st_lss' hc1|exact st_move'|exact st_load'|exact st_lss' (by first|assumption|rfl)|exact st_len'|exact st_indexAddr' (by assumption)|exact st_loadE'|exact Cv.rfl'|intro _
  · have hc1 : decide ((i : Int) < (l.length : Int)) = false := decide_eq_false (by omega)
    have ei : l.take i = l := List.take_of_length_le (by omega)
    rw [ei] at h
    refine g_of h ?_
    clear h
    repeat' first|kernel_rfl|apply g_seq|apply g_reg|apply g_nil|apply g_box|apply g_all|apply g_sto|apply g_asg|apply g_st|apply g_skip|apply g_ct|apply g_cf|apply g_ret|refine r_1 rfl ?_|apply g_blk|apply g_eb|apply g_ex|apply e_t|apply e_h|refine e_o rfl ?_|apply r_t|apply r_b|apply g_cl|exact st_len'|exact si_counted hE (by omega)|exact st_indexAddr' hx|exact st_loadE'|exact st_add' hw|exact si_ahead hE (by omega) (by decide) hcc|exact st_lss' hc1|exact st_move'|exact st_load'|exact st_lss' (by first|assumption|rfl)|exact st_len'|exact st_indexAddr' (by assumption)|exact st_loadE'|exact Cv.rfl'|intro _
set_option maxRecDepth 20000 in
set_option maxHeartbeats 4000000 in
theorem crn_frontmax {X : List Nat} {w : World} (hE : Tab w) (hX : ∀ b ∈ X, b < w.heap.size) {v0 v1 v2 : Value} {q : Rat} {J0 M : Nat} {l : List RawQ} (h0 : (VTy.fv 75 [.is (.int .i64 (-1))] []).holds X w v0) (h1 : (VTy.qa q M).holds X w v1) (h2 : (VTy.rq J0 l).holds X w v2) (hJ : J0 ≤ M) (hM : M ≤ 450) :
    Calls Tryz.prog 74 #[v0, v1, v2] w (Gives X w (.qc (bestF (fun a b => cmpQ a b == 1) q l) M)) := by
  obtain ⟨hmx, hfw⟩ := rq_max h2
  have hq0 := (qa_Lq h1).1
  refine g_enter (Ts := [.fv 75 [.is (.int .i64 (-1))] [], .qa q M, .rq J0 l]) (vs := [v0, v1, v2]) Tryz.func74 rfl Tryz.ntmps74 (by simp) hX ⟨h0, h1, h2, trivial⟩ ?_
  clear h0 h1 h2 hX
  simp only [argE, Nat.zero_add, Nat.reduceAdd]
  repeat' first|kernel_rfl|apply g_seq|apply g_reg|apply g_nil|apply g_box|apply g_all|apply g_sto|apply g_asg|apply g_st|apply g_skip|apply g_ct|apply g_cf|apply g_ret|refine r_1 rfl ?_|apply g_cl|exact st_len'|exact si_counted hE (by omega)|exact st_indexAddr' hx|exact st_loadE'|exact st_add' hw|exact si_ahead hE (by omega) (by decide) hcc|exact st_lss' hc1|exact st_move'|exact st_load'|exact st_lss' (by first|assumption|rfl)|exact st_len'|exact st_indexAddr' (by assumption)|exact st_loadE'|exact Cv.rfl'|intro _
  refine g_stop fun a w h => ?_
  have e0 : bestF (fun a b => cmpQ a b == 1) q (l.take 0) = q := rfl
  refine cw_block ?_
  refine cw_loop (fun k a w => ∃ i : Nat, i + k = l.length ∧ Lq (bestF (fun a b => cmpQ a b == 1) q (l.take i)) M ∧ TS _ _ [(_, VTy.qc (bestF (fun a b => cmpQ a b == 1) q (l.take i)) M), (_, VTy.q0), (_, VTy.qa q M)] [(14, .is (.int .i64 (i : Int))), (13, .is (.int .i64 l.length)), (12, .rq J0 l), (7, VTy.is (.pointer (some ⟨_, 0, none⟩))), (6, VTy.is (.pointer (some ⟨_, 0, none⟩))), (0, VTy.fv 75 [.is (.int .i64 (-1))] [])] 27 a w) l.length ⟨0, by omega, hq0, h.keep [14, 13, 12, 7, 6, 0]⟩ ?_
  clear h
  rintro k a w ⟨i, hi, hq, h⟩
  by_cases hlt : i < l.length
  · obtain ⟨x, hx⟩ : ∃ x, l[i]? = some x := ⟨_, List.getElem?_eq_getElem hlt⟩
    have hc1 : decide ((i : Int) < (l.length : Int)) = true := decide_eq_true (by omega)
    have hw := i64_next hlt hmx
    have hlx := (hfw x (List.mem_of_getElem? hx)).mono hJ
    cases hcc : (cmpQ (qv x) (bestF (fun a b => cmpQ a b == 1) q (l.take i)) == 1) with
    | true =>
      have en : bestF (fun a b => cmpQ a b == 1) q (l.take (i + 1)) = qv x := by rw [bestF_next hx]; simp only [hcc, cond_true]
      refine g_of h ?_
      clear h
      repeat' first|kernel_rfl|exact g_done fun _ _ h=>⟨k - 1, by omega, i + 1, by omega, by rw [en]; exact hlx, (((h.keep [14, 13, 12, 7, 6, 0]).tail).less (fun b hb => List.mem_cons_of_mem _ hb) (by simp)).locs (.cons (fun _ _ => qc_qc en.symm (by rw [en]; exact hlx)) (.same (.same .nil)))⟩|apply g_seq|apply g_reg|apply g_nil|apply g_mv (s:=14)|apply g_box|apply g_all|apply g_sto|apply g_asg|apply g_st|apply g_skip|apply g_ct|apply g_cf|apply g_ret|refine r_1 rfl ?_|apply g_blk|apply g_eb|apply g_ex|apply e_t|apply e_h|refine e_o rfl ?_|apply r_t|apply r_b|apply g_cl|exact st_len'|exact si_counted hE (by omega)|exact st_indexAddr' hx|exact st_loadE'|exact st_add' hw|exact si_ahead hE (by omega) (by decide) hcc|exact st_lss' hc1|exact st_move'|exact st_load'|exact st_lss' (by first|assumption|rfl)|exact st_len'|exact st_indexAddr' (by assumption)|exact st_loadE'|exact Cv.rfl'|intro _
    | false =>
      have en : bestF (fun a b => cmpQ a b == 1) q (l.take (i + 1)) = bestF (fun a b => cmpQ a b == 1) q (l.take i) := by rw [bestF_next hx]; simp only [hcc, cond_false]
      refine g_of h ?_
      clear h
      repeat' first|kernel_rfl|exact g_done fun _ _ h=>⟨k - 1, by omega, i + 1, by omega, by rw [en]; exact hq, (((h.keep [14, 13, 12, 7, 6, 0]).tail).less (fun b hb => List.mem_cons_of_mem _ hb) (by simp)).locs (.cons (fun _ _ => qc_qc en.symm (by rw [en]; exact hq)) (.same (.same .nil)))⟩|apply g_seq|apply g_reg|apply g_nil|apply g_mv (s:=14)|apply g_box|apply g_all|apply g_sto|apply g_asg|apply g_st|apply g_skip|apply g_ct|apply g_cf|apply g_ret|refine r_1 rfl ?_|apply g_blk|apply g_eb|apply g_ex|apply e_t|apply e_h|refine e_o rfl ?_|apply r_t|apply r_b|apply g_cl|exact st_len'|exact si_counted hE (by omega)|exact st_indexAddr' hx|exact st_loadE'|exact st_add' hw|exact si_ahead hE (by omega) (by decide) hcc|exact st_lss' hc1|exact st_move'|exact st_load'|exact st_lss' (by first|assumption|rfl)|exact st_len'|exact st_indexAddr' (by assumption)|exact st_loadE'|exact Cv.rfl'|intro _
  · have hc1 : decide ((i : Int) < (l.length : Int)) = false := decide_eq_false (by omega)
    have ei : l.take i = l := List.take_of_length_le (by omega)
    rw [ei] at h
    refine g_of h ?_
    clear h
    repeat' first|kernel_rfl|apply g_seq|apply g_reg|apply g_nil|apply g_box|apply g_all|apply g_sto|apply g_asg|apply g_st|apply g_skip|apply g_ct|apply g_cf|apply g_ret|refine r_1 rfl ?_|apply g_blk|apply g_eb|apply g_ex|apply e_t|apply e_h|refine e_o rfl ?_|apply r_t|apply r_b|apply g_cl|exact st_len'|exact si_counted hE (by omega)|exact st_indexAddr' hx|exact st_loadE'|exact st_add' hw|exact si_ahead hE (by omega) (by decide) hcc|exact st_lss' hc1|exact st_move'|exact st_load'|exact st_lss' (by first|assumption|rfl)|exact st_len'|exact st_indexAddr' (by assumption)|exact st_loadE'|exact Cv.rfl'|intro _
theorem ei_foremost : Enters Tryz.prog 74 := fun _ _ => by kernel_rfl
section
variable {w00 : World} {N : Nat} {L : List Loc} {E : List (Nat × VTy)} {d : Nat} {t0 : TypeId} {pos : String} {af : Array Edge} {gd : Option (Nat × Bool)} {ats : Array TypeId}
theorem si_frontmin {o0 o1 o2 : Operand} {T1 : VTy} {q : Rat} {L0 J0 M : Nat} {l : List RawQ} [OpC E o0 (.fv 75 [.is (.int .i64 1)] [])] [OpC E o1 T1] [a1 : AsQ T1 q L0] [OpC E o2 (.rq J0 l)] (hE : Tab w00) (hL : L0 ≤ M) (hJ : J0 ≤ M) (hM : M ≤ 450) :
    StepT Tryz.prog w00 N L E ⟨some d, .call { callee := .value (.func 74), args := #[o0, o1, o2], argTypes := ats }, t0, pos, af, gd⟩ (.qc (bestF (fun a b => cmpQ a b == -1) q l) M) :=
  sc3 ei_foremost fun X w v0 v1 v2 hX _ hB h0 h1 h2 => crn_frontmin (hE.below hB) hX h0 (qa_mono hL (a1.ok h1)) h2 hJ hM
end
set_option maxRecDepth 20000 in
set_option maxHeartbeats 4000000 in
theorem crn_min {X : List Nat} {w : World} (hE : Tab w) (hX : ∀ b ∈ X, b < w.heap.size) {v0 v1 : Value} {q : Rat} {L0 J0 : Nat} {l : List RawQ} (h0 : (VTy.qa q L0).holds X w v0) (h1 : (VTy.rq J0 l).holds X w v1) (hb : L0 ≤ 60 ∧ J0 ≤ 60) :
    Calls Tryz.prog 42 #[v0, v1] w (Gives X w (.qn (minR (q :: l.map qv)) (max L0 J0) w.heap.size)) := by
  have ev : bestF (fun a b => cmpQ a b == -1) q l = minR (q :: l.map qv) := by
    unfold minR
    rw [bestF_R]
    congr 1
    funext a b
    exact cmpQ_below a b
  refine g_enter (Ts := [.qa q L0, .rq J0 l]) (vs := [v0, v1]) Tryz.func42 rfl Tryz.ntmps42 (by simp) hX ⟨h0, h1, trivial⟩ ?_
  clear h0 h1 hX
  simp only [argE, Nat.zero_add, Nat.reduceAdd]
  repeat' first|kernel_rfl|apply g_seq|apply g_reg|apply g_nil|apply g_box|apply g_all|apply g_sto|apply g_asg|apply g_st|apply g_skip|apply g_ct|apply g_cf|apply g_ret|refine r_1 rfl ?_|apply g_cl|exact st_fn1|exact si_frontmin (M := max L0 J0) hE (by omega) (by omega) (by omega)|exact si_copied hE (by omega)|exact st_move'|exact st_load'|exact st_loadE'|exact ⟨fun _ _=>(qn_eq ev)⟩|exact Cv.rfl'|intro _
section
variable {w00 : World} {N : Nat} {L : List Loc} {E : List (Nat × VTy)} {d : Nat} {t0 : TypeId} {pos : String} {af : Array Edge} {gd : Option (Nat × Bool)} {ats : Array TypeId}
theorem si_frontmax {o0 o1 o2 : Operand} {T1 : VTy} {q : Rat} {L0 J0 M : Nat} {l : List RawQ} [OpC E o0 (.fv 75 [.is (.int .i64 (-1))] [])] [OpC E o1 T1] [a1 : AsQ T1 q L0] [OpC E o2 (.rq J0 l)] (hE : Tab w00) (hL : L0 ≤ M) (hJ : J0 ≤ M) (hM : M ≤ 450) :
    StepT Tryz.prog w00 N L E ⟨some d, .call { callee := .value (.func 74), args := #[o0, o1, o2], argTypes := ats }, t0, pos, af, gd⟩ (.qc (bestF (fun a b => cmpQ a b == 1) q l) M) :=
  sc3 ei_foremost fun X w v0 v1 v2 hX _ hB h0 h1 h2 => crn_frontmax (hE.below hB) hX h0 (qa_mono hL (a1.ok h1)) h2 hJ hM
end
set_option maxRecDepth 20000 in
set_option maxHeartbeats 4000000 in
theorem crn_max {X : List Nat} {w : World} (hE : Tab w) (hX : ∀ b ∈ X, b < w.heap.size) {v0 v1 : Value} {q : Rat} {L0 J0 : Nat} {l : List RawQ} (h0 : (VTy.qa q L0).holds X w v0) (h1 : (VTy.rq J0 l).holds X w v1) (hb : L0 ≤ 60 ∧ J0 ≤ 60) :
    Calls Tryz.prog 44 #[v0, v1] w (Gives X w (.qn (maxR (q :: l.map qv)) (max L0 J0) w.heap.size)) := by
  have ev : bestF (fun a b => cmpQ a b == 1) q l = maxR (q :: l.map qv) := by
    unfold maxR
    rw [bestF_R]
    congr 1
    funext a b
    exact cmpQ_over a b
  refine g_enter (Ts := [.qa q L0, .rq J0 l]) (vs := [v0, v1]) Tryz.func44 rfl Tryz.ntmps44 (by simp) hX ⟨h0, h1, trivial⟩ ?_
  clear h0 h1 hX
  simp only [argE, Nat.zero_add, Nat.reduceAdd]
  repeat' first|kernel_rfl|apply g_seq|apply g_reg|apply g_nil|apply g_box|apply g_all|apply g_sto|apply g_asg|apply g_st|apply g_skip|apply g_ct|apply g_cf|apply g_ret|refine r_1 rfl ?_|apply g_cl|exact st_fn1|exact si_frontmax (M := max L0 J0) hE (by omega) (by omega) (by omega)|exact si_copied hE (by omega)|exact st_move'|exact st_load'|exact st_loadE'|exact ⟨fun _ _=>(qn_eq ev)⟩|exact Cv.rfl'|intro _
section
variable {w00 : World} {N : Nat} {L : List Loc} {E : List (Nat × VTy)} {d : Nat} {t0 : TypeId} {pos : String} {af : Array Edge} {gd : Option (Nat × Bool)} {ats : Array TypeId}
theorem er_new : Enters Tryz.prog 31 := fun _ _ => by kernel_rfl
theorem cr_new {X : List Nat} {w : World} {v0 v1 : Value} {N0 : Int} {L0 : Nat} {M0 : Int} {K0 : Nat} (hE : Tab w) (hX : ∀ b ∈ X, b < w.heap.size) (h0 : (VTy.na N0 L0).holds X w v0) (h1 : (VTy.na M0 K0).holds X w v1) (hb : L0 ≤ 90 ∧ K0 ≤ 90) (hD : M0 ≠ 0) : Calls Tryz.prog 31 #[v0, v1] w (Gives X w (.tup [.qc (Rat.divInt N0 M0) (max L0 K0), .is (.int .i64 0)])) := by
  exact (crn_new hE hX h0 h1 (by omega) hD).mono fun e w' h => h.imp (tup_imp (fun _ g => nw_ex g) fun _ h => h)
theorem sr_new {o0 : Operand} {T0 : VTy} {N0 : Int} {L0 : Nat} {o1 : Operand} {T1 : VTy} {M0 : Int} {K0 : Nat} [OpC E o0 T0] [a0 : AsN T0 N0 L0] [OpC E o1 T1] [a1 : AsN T1 M0 K0] (hE : Tab w00) (hb : L0 ≤ 90 ∧ K0 ≤ 90) (hD : M0 ≠ 0) :
    StepT Tryz.prog w00 N L E ⟨some d, .call { callee := .value (.func 31), args := #[o0, o1], argTypes := ats }, t0, pos, af, gd⟩ (.tup [.qc (Rat.divInt N0 M0) (max L0 K0), .is (.int .i64 0)]) :=
  sc2 er_new fun X w v0 v1 hX _ hB h0 h1 => cr_new (hE.below hB) hX (a0.ok h0) (a1.ok h1) hb hD
theorem cr_new0 {X : List Nat} {w : World} {v0 v1 : Value} {N0 : Int} {L0 : Nat} {M0 : Int} {K0 : Nat} (hE : Tab w) (hX : ∀ b ∈ X, b < w.heap.size) (h0 : (VTy.na N0 L0).holds X w v0) (h1 : (VTy.na M0 K0).holds X w v1) (hb : L0 ≤ 90 ∧ K0 ≤ 90) (hD : M0 = 0) : Calls Tryz.prog 31 #[v0, v1] w (Gives X w (.tup [.qa 0 2, .is (.int .i64 20)])) := by
  exact (crn_new0 hE hX h0 h1 (by omega) hD).mono fun e w' h => h.imp (tup_imp (fun _ g => nw_ex g) fun _ h => h)
theorem sr_new0 {o0 : Operand} {T0 : VTy} {N0 : Int} {L0 : Nat} {o1 : Operand} {T1 : VTy} {M0 : Int} {K0 : Nat} [OpC E o0 T0] [a0 : AsN T0 N0 L0] [OpC E o1 T1] [a1 : AsN T1 M0 K0] (hE : Tab w00) (hb : L0 ≤ 90 ∧ K0 ≤ 90) (hD : M0 = 0) :
    StepT Tryz.prog w00 N L E ⟨some d, .call { callee := .value (.func 31), args := #[o0, o1], argTypes := ats }, t0, pos, af, gd⟩ (.tup [.qa 0 2, .is (.int .i64 20)]) :=
  sc2 er_new fun X w v0 v1 hX _ hB h0 h1 => cr_new0 (hE.below hB) hX (a0.ok h0) (a1.ok h1) hb hD
theorem er_of : Enters Tryz.prog 32 := fun _ _ => by kernel_rfl
theorem cr_of {X : List Nat} {w : World} {v0 v1 : Value} {k0 : Int} {k1 : Int} (hE : Tab w) (hX : ∀ b ∈ X, b < w.heap.size) (h0 : (VTy.is (.int .i64 k0)).holds X w v0) (h1 : (VTy.is (.int .i64 k1)).holds X w v1) (hk : -9223372036854775808 ≤ k0 ∧ k0 ≤ 9223372036854775807) (hm : -9223372036854775808 ≤ k1 ∧ k1 ≤ 9223372036854775807) (hD : k1 ≠ 0) : Calls Tryz.prog 32 #[v0, v1] w (Gives X w (.tup [.qc (Rat.divInt k0 k1) 2, .is (.int .i64 0)])) := by
  exact (crn_of hE hX h0 h1 hk hm hD).mono fun e w' h => h.imp (tup_imp (fun _ g => nw_ex g) fun _ h => h)
theorem sr_of {o0 : Operand} {k0 : Int} {o1 : Operand} {k1 : Int} [OpC E o0 (.is (.int .i64 k0))] [OpC E o1 (.is (.int .i64 k1))] (hE : Tab w00) (hk : -9223372036854775808 ≤ k0 ∧ k0 ≤ 9223372036854775807) (hm : -9223372036854775808 ≤ k1 ∧ k1 ≤ 9223372036854775807) (hD : k1 ≠ 0) :
    StepT Tryz.prog w00 N L E ⟨some d, .call { callee := .value (.func 32), args := #[o0, o1], argTypes := ats }, t0, pos, af, gd⟩ (.tup [.qc (Rat.divInt k0 k1) 2, .is (.int .i64 0)]) :=
  sc2 er_of fun X w v0 v1 hX _ hB h0 h1 => cr_of (hE.below hB) hX h0 h1 hk hm hD
theorem cr_of0 {X : List Nat} {w : World} {v0 v1 : Value} {k0 : Int} {k1 : Int} (hE : Tab w) (hX : ∀ b ∈ X, b < w.heap.size) (h0 : (VTy.is (.int .i64 k0)).holds X w v0) (h1 : (VTy.is (.int .i64 k1)).holds X w v1) (hk : -9223372036854775808 ≤ k0 ∧ k0 ≤ 9223372036854775807) (hm : -9223372036854775808 ≤ k1 ∧ k1 ≤ 9223372036854775807) (hD : k1 = 0) : Calls Tryz.prog 32 #[v0, v1] w (Gives X w (.tup [.qa 0 2, .is (.int .i64 20)])) := by
  exact (crn_of0 hE hX h0 h1 hk hm hD).mono fun e w' h => h.imp (tup_imp (fun _ g => nw_ex g) fun _ h => h)
theorem sr_of0 {o0 : Operand} {k0 : Int} {o1 : Operand} {k1 : Int} [OpC E o0 (.is (.int .i64 k0))] [OpC E o1 (.is (.int .i64 k1))] (hE : Tab w00) (hk : -9223372036854775808 ≤ k0 ∧ k0 ≤ 9223372036854775807) (hm : -9223372036854775808 ≤ k1 ∧ k1 ≤ 9223372036854775807) (hD : k1 = 0) :
    StepT Tryz.prog w00 N L E ⟨some d, .call { callee := .value (.func 32), args := #[o0, o1], argTypes := ats }, t0, pos, af, gd⟩ (.tup [.qa 0 2, .is (.int .i64 20)]) :=
  sc2 er_of fun X w v0 v1 hX _ hB h0 h1 => cr_of0 (hE.below hB) hX h0 h1 hk hm hD
theorem er_whole : Enters Tryz.prog 37 := fun _ _ => by kernel_rfl
theorem cr_whole {X : List Nat} {w : World} {v0 : Value} {k0 : Int} (hE : Tab w) (hX : ∀ b ∈ X, b < w.heap.size) (h0 : (VTy.is (.int .i64 k0)).holds X w v0) (hk : -9223372036854775808 ≤ k0 ∧ k0 ≤ 9223372036854775807) : Calls Tryz.prog 37 #[v0] w (Gives X w (.qc (k0 : Rat) 2)) := by
  exact (crn_whole hE hX h0 hk).mono fun e w' h => h.imp fun _ g => nw_ex g
theorem sr_whole {o0 : Operand} {k0 : Int} [OpC E o0 (.is (.int .i64 k0))] (hE : Tab w00) (hk : -9223372036854775808 ≤ k0 ∧ k0 ≤ 9223372036854775807) :
    StepT Tryz.prog w00 N L E ⟨some d, .call { callee := .value (.func 37), args := #[o0], argTypes := ats }, t0, pos, af, gd⟩ (.qc (k0 : Rat) 2) :=
  sc1 er_whole fun X w v0 hX _ hB h0 => cr_whole (hE.below hB) hX h0 hk
theorem er_add : Enters Tryz.prog 12 := fun _ _ => by kernel_rfl
theorem cr_add {X : List Nat} {w : World} {v0 v1 : Value} {p : Rat} {L0 : Nat} {q : Rat} {K0 : Nat} (hE : Tab w) (hX : ∀ b ∈ X, b < w.heap.size) (h0 : (VTy.qa p L0).holds X w v0) (h1 : (VTy.qa q K0).holds X w v1) (hb : L0 ≤ 90 ∧ K0 ≤ 90) : Calls Tryz.prog 12 #[v0, v1] w (Gives X w (.qc (p + q) (L0 + K0 + 1))) := by
  exact (crn_add hE hX h0 h1 hb).mono fun e w' h => h.imp fun _ g => nw_ex g
theorem sr_add {o0 : Operand} {T0 : VTy} {p : Rat} {L0 : Nat} {o1 : Operand} {T1 : VTy} {q : Rat} {K0 : Nat} [OpC E o0 T0] [a0 : AsQ T0 p L0] [OpC E o1 T1] [a1 : AsQ T1 q K0] (hE : Tab w00) (hb : L0 ≤ 90 ∧ K0 ≤ 90) :
    StepT Tryz.prog w00 N L E ⟨some d, .call { callee := .value (.func 12), args := #[o0, o1], argTypes := ats }, t0, pos, af, gd⟩ (.qc (p + q) (L0 + K0 + 1)) :=
  sc2 er_add fun X w v0 v1 hX _ hB h0 h1 => cr_add (hE.below hB) hX (a0.ok h0) (a1.ok h1) hb
theorem er_sub : Enters Tryz.prog 13 := fun _ _ => by kernel_rfl
theorem cr_sub {X : List Nat} {w : World} {v0 v1 : Value} {p : Rat} {L0 : Nat} {q : Rat} {K0 : Nat} (hE : Tab w) (hX : ∀ b ∈ X, b < w.heap.size) (h0 : (VTy.qa p L0).holds X w v0) (h1 : (VTy.qa q K0).holds X w v1) (hb : L0 ≤ 90 ∧ K0 ≤ 90) : Calls Tryz.prog 13 #[v0, v1] w (Gives X w (.qc (p - q) (L0 + K0 + 1))) := by
  exact (crn_sub hE hX h0 h1 hb).mono fun e w' h => h.imp fun _ g => nw_ex g
theorem sr_sub {o0 : Operand} {T0 : VTy} {p : Rat} {L0 : Nat} {o1 : Operand} {T1 : VTy} {q : Rat} {K0 : Nat} [OpC E o0 T0] [a0 : AsQ T0 p L0] [OpC E o1 T1] [a1 : AsQ T1 q K0] (hE : Tab w00) (hb : L0 ≤ 90 ∧ K0 ≤ 90) :
    StepT Tryz.prog w00 N L E ⟨some d, .call { callee := .value (.func 13), args := #[o0, o1], argTypes := ats }, t0, pos, af, gd⟩ (.qc (p - q) (L0 + K0 + 1)) :=
  sc2 er_sub fun X w v0 v1 hX _ hB h0 h1 => cr_sub (hE.below hB) hX (a0.ok h0) (a1.ok h1) hb
theorem er_mul : Enters Tryz.prog 14 := fun _ _ => by kernel_rfl
theorem cr_mul {X : List Nat} {w : World} {v0 v1 : Value} {p : Rat} {L0 : Nat} {q : Rat} {K0 : Nat} (hE : Tab w) (hX : ∀ b ∈ X, b < w.heap.size) (h0 : (VTy.qa p L0).holds X w v0) (h1 : (VTy.qa q K0).holds X w v1) (hb : L0 ≤ 90 ∧ K0 ≤ 90) : Calls Tryz.prog 14 #[v0, v1] w (Gives X w (.qc (p * q) (L0 + K0))) := by
  exact (crn_mul hE hX h0 h1 hb).mono fun e w' h => h.imp fun _ g => nw_ex g
theorem sr_mul {o0 : Operand} {T0 : VTy} {p : Rat} {L0 : Nat} {o1 : Operand} {T1 : VTy} {q : Rat} {K0 : Nat} [OpC E o0 T0] [a0 : AsQ T0 p L0] [OpC E o1 T1] [a1 : AsQ T1 q K0] (hE : Tab w00) (hb : L0 ≤ 90 ∧ K0 ≤ 90) :
    StepT Tryz.prog w00 N L E ⟨some d, .call { callee := .value (.func 14), args := #[o0, o1], argTypes := ats }, t0, pos, af, gd⟩ (.qc (p * q) (L0 + K0)) :=
  sc2 er_mul fun X w v0 v1 hX _ hB h0 h1 => cr_mul (hE.below hB) hX (a0.ok h0) (a1.ok h1) hb
theorem er_div : Enters Tryz.prog 15 := fun _ _ => by kernel_rfl
theorem cr_div {X : List Nat} {w : World} {v0 v1 : Value} {p : Rat} {L0 : Nat} {q : Rat} {K0 : Nat} (hE : Tab w) (hX : ∀ b ∈ X, b < w.heap.size) (h0 : (VTy.qa p L0).holds X w v0) (h1 : (VTy.qa q K0).holds X w v1) (hb : L0 ≤ 90 ∧ K0 ≤ 90) (hq : q ≠ 0) : Calls Tryz.prog 15 #[v0, v1] w (Gives X w (.tup [.qc (p / q) (L0 + K0), .is (.int .i64 0)])) := by
  exact (crn_div hE hX h0 h1 hb hq).mono fun e w' h => h.imp (tup_imp (fun _ g => nw_ex g) fun _ h => h)
theorem sr_div {o0 : Operand} {T0 : VTy} {p : Rat} {L0 : Nat} {o1 : Operand} {T1 : VTy} {q : Rat} {K0 : Nat} [OpC E o0 T0] [a0 : AsQ T0 p L0] [OpC E o1 T1] [a1 : AsQ T1 q K0] (hE : Tab w00) (hb : L0 ≤ 90 ∧ K0 ≤ 90) (hq : q ≠ 0) :
    StepT Tryz.prog w00 N L E ⟨some d, .call { callee := .value (.func 15), args := #[o0, o1], argTypes := ats }, t0, pos, af, gd⟩ (.tup [.qc (p / q) (L0 + K0), .is (.int .i64 0)]) :=
  sc2 er_div fun X w v0 v1 hX _ hB h0 h1 => cr_div (hE.below hB) hX (a0.ok h0) (a1.ok h1) hb hq
theorem cr_div0 {X : List Nat} {w : World} {v0 v1 : Value} {p : Rat} {L0 : Nat} {q : Rat} {K0 : Nat} (hE : Tab w) (hX : ∀ b ∈ X, b < w.heap.size) (h0 : (VTy.qa p L0).holds X w v0) (h1 : (VTy.qa q K0).holds X w v1) (hb : L0 ≤ 90 ∧ K0 ≤ 90) (hq : q = 0) : Calls Tryz.prog 15 #[v0, v1] w (Gives X w (.tup [.qa 0 2, .is (.int .i64 20)])) := by
  exact (crn_div0 hE hX h0 h1 hb hq).mono fun e w' h => h.imp (tup_imp (fun _ g => nw_ex g) fun _ h => h)
theorem sr_div0 {o0 : Operand} {T0 : VTy} {p : Rat} {L0 : Nat} {o1 : Operand} {T1 : VTy} {q : Rat} {K0 : Nat} [OpC E o0 T0] [a0 : AsQ T0 p L0] [OpC E o1 T1] [a1 : AsQ T1 q K0] (hE : Tab w00) (hb : L0 ≤ 90 ∧ K0 ≤ 90) (hq : q = 0) :
    StepT Tryz.prog w00 N L E ⟨some d, .call { callee := .value (.func 15), args := #[o0, o1], argTypes := ats }, t0, pos, af, gd⟩ (.tup [.qa 0 2, .is (.int .i64 20)]) :=
  sc2 er_div fun X w v0 v1 hX _ hB h0 h1 => cr_div0 (hE.below hB) hX (a0.ok h0) (a1.ok h1) hb hq
theorem er_neg : Enters Tryz.prog 16 := fun _ _ => by kernel_rfl
theorem cr_neg {X : List Nat} {w : World} {v0 : Value} {p : Rat} {L0 : Nat} (hE : Tab w) (hX : ∀ b ∈ X, b < w.heap.size) (h0 : (VTy.qa p L0).holds X w v0) (hb : L0 ≤ 90) : Calls Tryz.prog 16 #[v0] w (Gives X w (.qc (-p) L0)) := by
  exact (crn_neg hE hX h0 hb).mono fun e w' h => h.imp fun _ g => nw_ex g
theorem sr_neg {o0 : Operand} {T0 : VTy} {p : Rat} {L0 : Nat} [OpC E o0 T0] [a0 : AsQ T0 p L0] (hE : Tab w00) (hb : L0 ≤ 90) :
    StepT Tryz.prog w00 N L E ⟨some d, .call { callee := .value (.func 16), args := #[o0], argTypes := ats }, t0, pos, af, gd⟩ (.qc (-p) L0) :=
  sc1 er_neg fun X w v0 hX _ hB h0 => cr_neg (hE.below hB) hX (a0.ok h0) hb
theorem er_cmp : Enters Tryz.prog 25 := fun _ _ => by kernel_rfl
theorem cr_cmp {X : List Nat} {w : World} {v0 v1 : Value} {p : Rat} {L0 : Nat} {q : Rat} {K0 : Nat} (hE : Tab w) (hX : ∀ b ∈ X, b < w.heap.size) (h0 : (VTy.qa p L0).holds X w v0) (h1 : (VTy.qa q K0).holds X w v1) (hb : L0 ≤ 90 ∧ K0 ≤ 90) : Calls Tryz.prog 25 #[v0, v1] w (Gives X w (.is (.int .i64 (cmpQ p q)))) := by
  exact crn_cmp hE hX h0 h1 hb
theorem sr_cmp {o0 : Operand} {T0 : VTy} {p : Rat} {L0 : Nat} {o1 : Operand} {T1 : VTy} {q : Rat} {K0 : Nat} [OpC E o0 T0] [a0 : AsQ T0 p L0] [OpC E o1 T1] [a1 : AsQ T1 q K0] (hE : Tab w00) (hb : L0 ≤ 90 ∧ K0 ≤ 90) :
    StepT Tryz.prog w00 N L E ⟨some d, .call { callee := .value (.func 25), args := #[o0, o1], argTypes := ats }, t0, pos, af, gd⟩ (.is (.int .i64 (cmpQ p q))) :=
  sc2 er_cmp fun X w v0 v1 hX _ hB h0 h1 => cr_cmp (hE.below hB) hX (a0.ok h0) (a1.ok h1) hb
theorem er_sign : Enters Tryz.prog 22 := fun _ _ => by kernel_rfl
theorem cr_sign {X : List Nat} {w : World} {v0 : Value} {p : Rat} {L0 : Nat} (hE : Tab w) (hX : ∀ b ∈ X, b < w.heap.size) (h0 : (VTy.qa p L0).holds X w v0) (hb : L0 ≤ 90) : Calls Tryz.prog 22 #[v0] w (Gives X w (.is (.int .i64 (cmpQ p 0)))) := by
  exact crn_sign hE hX h0 hb
theorem sr_sign {o0 : Operand} {T0 : VTy} {p : Rat} {L0 : Nat} [OpC E o0 T0] [a0 : AsQ T0 p L0] (hE : Tab w00) (hb : L0 ≤ 90) :
    StepT Tryz.prog w00 N L E ⟨some d, .call { callee := .value (.func 22), args := #[o0], argTypes := ats }, t0, pos, af, gd⟩ (.is (.int .i64 (cmpQ p 0))) :=
  sc1 er_sign fun X w v0 hX _ hB h0 => cr_sign (hE.below hB) hX (a0.ok h0) hb
theorem er_same : Enters Tryz.prog 28 := fun _ _ => by kernel_rfl
theorem cr_same {X : List Nat} {w : World} {v0 v1 : Value} {p : Rat} {L0 : Nat} {q : Rat} {K0 : Nat} (hE : Tab w) (hX : ∀ b ∈ X, b < w.heap.size) (h0 : (VTy.qa p L0).holds X w v0) (h1 : (VTy.qa q K0).holds X w v1) (hb : L0 ≤ 90 ∧ K0 ≤ 90) : Calls Tryz.prog 28 #[v0, v1] w (Gives X w (.is (.bool (cmpQ p q == 0)))) := by
  exact crn_same hE hX h0 h1 hb
theorem sr_same {o0 : Operand} {T0 : VTy} {p : Rat} {L0 : Nat} {o1 : Operand} {T1 : VTy} {q : Rat} {K0 : Nat} [OpC E o0 T0] [a0 : AsQ T0 p L0] [OpC E o1 T1] [a1 : AsQ T1 q K0] (hE : Tab w00) (hb : L0 ≤ 90 ∧ K0 ≤ 90) :
    StepT Tryz.prog w00 N L E ⟨some d, .call { callee := .value (.func 28), args := #[o0, o1], argTypes := ats }, t0, pos, af, gd⟩ (.is (.bool (cmpQ p q == 0))) :=
  sc2 er_same fun X w v0 v1 hX _ hB h0 h1 => cr_same (hE.below hB) hX (a0.ok h0) (a1.ok h1) hb
theorem er_right : Enters Tryz.prog 23 := fun _ _ => by kernel_rfl
theorem cr_right {X : List Nat} {w : World} {v0 : Value} {x : RawQ} {L0 : Nat} (hE : Tab w) (hX : ∀ b ∈ X, b < w.heap.size) (h0 : (VTy.qx x L0).holds X w v0) (hb : L0 ≤ 90) : Calls Tryz.prog 23 #[v0] w (Gives X w (.is (.bool (qrt x)))) := by
  exact crn_right hE hX h0 (by omega)
theorem er_sum : Enters Tryz.prog 38 := fun _ _ => by kernel_rfl
theorem cr_sum {X : List Nat} {w : World} {v0 : Value} {l : List Rat} {K0 : Nat} (hE : Tab w) (hX : ∀ b ∈ X, b < w.heap.size) (h0 : (VTy.rv l K0).holds X w v0) (hb : (K0 + 1) * l.length ≤ 180 ∧ K0 ≤ 90) : Calls Tryz.prog 38 #[v0] w (Gives X w (.qc (sumR l) (1 + (K0 + 1) * l.length))) := by
  obtain ⟨l, rfl, h0⟩ := h0
  rw [← sumQ_V, List.length_map]
  rw [List.length_map] at hb
  exact (crn_sum hE hX h0 hb).mono fun e w' h => h.imp fun _ g => nw_ex g
theorem sr_sum {o0 : Operand} {T0 : VTy} {l : List Rat} {K0 : Nat} [OpC E o0 T0] [a0 : AsR T0 l K0] (hE : Tab w00) (hb : (K0 + 1) * l.length ≤ 180 ∧ K0 ≤ 90) :
    StepT Tryz.prog w00 N L E ⟨some d, .call { callee := .value (.func 38), args := #[o0], argTypes := ats }, t0, pos, af, gd⟩ (.qc (sumR l) (1 + (K0 + 1) * l.length)) :=
  sc1 er_sum fun X w v0 hX _ hB h0 => cr_sum (hE.below hB) hX (a0.ok h0) hb
theorem er_product : Enters Tryz.prog 40 := fun _ _ => by kernel_rfl
theorem cr_prod {X : List Nat} {w : World} {v0 : Value} {l : List Rat} {K0 : Nat} (hE : Tab w) (hX : ∀ b ∈ X, b < w.heap.size) (h0 : (VTy.rv l K0).holds X w v0) (hb : (K0 + 1) * l.length ≤ 180 ∧ K0 ≤ 90) : Calls Tryz.prog 40 #[v0] w (Gives X w (.qc (prodR l) (2 + (K0 + 1) * l.length))) := by
  obtain ⟨l, rfl, h0⟩ := h0
  rw [← prodQ_V, List.length_map]
  rw [List.length_map] at hb
  exact (crn_prod hE hX h0 hb).mono fun e w' h => h.imp fun _ g => nw_ex g
theorem sr_prod {o0 : Operand} {T0 : VTy} {l : List Rat} {K0 : Nat} [OpC E o0 T0] [a0 : AsR T0 l K0] (hE : Tab w00) (hb : (K0 + 1) * l.length ≤ 180 ∧ K0 ≤ 90) :
    StepT Tryz.prog w00 N L E ⟨some d, .call { callee := .value (.func 40), args := #[o0], argTypes := ats }, t0, pos, af, gd⟩ (.qc (prodR l) (2 + (K0 + 1) * l.length)) :=
  sc1 er_product fun X w v0 hX _ hB h0 => cr_prod (hE.below hB) hX (a0.ok h0) hb
theorem er_min : Enters Tryz.prog 42 := fun _ _ => by kernel_rfl
theorem cr_min {X : List Nat} {w : World} {v0 v1 : Value} {p : Rat} {L0 : Nat} {l : List Rat} {K0 : Nat} (hE : Tab w) (hX : ∀ b ∈ X, b < w.heap.size) (h0 : (VTy.qa p L0).holds X w v0) (h1 : (VTy.rv l K0).holds X w v1) (hb : L0 ≤ 60 ∧ K0 ≤ 60) : Calls Tryz.prog 42 #[v0, v1] w (Gives X w (.qc (minR (p :: l)) (max L0 K0))) := by
  obtain ⟨l, rfl, h1⟩ := h1
  exact (crn_min hE hX h0 h1 hb).mono fun e w' h => h.imp fun _ g => nw_ex g
theorem sr_min {o0 : Operand} {T0 : VTy} {p : Rat} {L0 : Nat} {o1 : Operand} {T1 : VTy} {l : List Rat} {K0 : Nat} [OpC E o0 T0] [a0 : AsQ T0 p L0] [OpC E o1 T1] [a1 : AsR T1 l K0] (hE : Tab w00) (hb : L0 ≤ 60 ∧ K0 ≤ 60) :
    StepT Tryz.prog w00 N L E ⟨some d, .call { callee := .value (.func 42), args := #[o0, o1], argTypes := ats }, t0, pos, af, gd⟩ (.qc (minR (p :: l)) (max L0 K0)) :=
  sc2 er_min fun X w v0 v1 hX _ hB h0 h1 => cr_min (hE.below hB) hX (a0.ok h0) (a1.ok h1) hb
theorem er_max : Enters Tryz.prog 44 := fun _ _ => by kernel_rfl
theorem cr_max {X : List Nat} {w : World} {v0 v1 : Value} {p : Rat} {L0 : Nat} {l : List Rat} {K0 : Nat} (hE : Tab w) (hX : ∀ b ∈ X, b < w.heap.size) (h0 : (VTy.qa p L0).holds X w v0) (h1 : (VTy.rv l K0).holds X w v1) (hb : L0 ≤ 60 ∧ K0 ≤ 60) : Calls Tryz.prog 44 #[v0, v1] w (Gives X w (.qc (maxR (p :: l)) (max L0 K0))) := by
  obtain ⟨l, rfl, h1⟩ := h1
  exact (crn_max hE hX h0 h1 hb).mono fun e w' h => h.imp fun _ g => nw_ex g
theorem sr_max {o0 : Operand} {T0 : VTy} {p : Rat} {L0 : Nat} {o1 : Operand} {T1 : VTy} {l : List Rat} {K0 : Nat} [OpC E o0 T0] [a0 : AsQ T0 p L0] [OpC E o1 T1] [a1 : AsR T1 l K0] (hE : Tab w00) (hb : L0 ≤ 60 ∧ K0 ≤ 60) :
    StepT Tryz.prog w00 N L E ⟨some d, .call { callee := .value (.func 44), args := #[o0, o1], argTypes := ats }, t0, pos, af, gd⟩ (.qc (maxR (p :: l)) (max L0 K0)) :=
  sc2 er_max fun X w v0 v1 hX _ hB h0 h1 => cr_max (hE.below hB) hX (a0.ok h0) (a1.ok h1) hb
end
section
variable {w00 : World} {N : Nat} {L : List Loc} {E : List (Nat × VTy)} {d : Nat} {t0 : TypeId} {pos : String} {af : Array Edge} {gd : Option (Nat × Bool)} {ats : Array TypeId}
theorem sr_sameU {o0 o1 : Operand} {T0 T1 : VTy} {p q : Rat} {L0 K0 : Nat} {u : Bool} [OpC E o0 T0] [a0 : AsQ T0 p L0] [OpC E o1 T1] [a1 : AsQ T1 q K0] (hE : Tab w00) (hb : L0 ≤ 90 ∧ K0 ≤ 90) (hu : (cmpQ p q == 0) = u) :
    StepT Tryz.prog w00 N L E ⟨some d, .call { callee := .value (.func 28), args := #[o0, o1], argTypes := ats }, t0, pos, af, gd⟩ (.is (.bool u)) := by
  rw [← hu]
  exact sr_same hE hb
end
theorem cmpQ_self (q : Rat) : (cmpQ q q == 0) = true := by unfold cmpQ; rw [if_neg Rat.lt_irrefl, if_pos rfl]; rfl
theorem cmpQ_eq {p q : Rat} (h : p = q) : (cmpQ p q == 0) = true := by rw [h]; exact cmpQ_self q
theorem cmpQ_le {p q : Rat} : cmpQ p q ≤ 0 ↔ p ≤ q := by
  unfold cmpQ
  split
  · rename_i h; exact ⟨fun _ => Rat.le_of_lt h, fun _ => by decide⟩
  · rename_i h
    split
    · rename_i e; exact ⟨fun _ => e ▸ Rat.le_refl, fun _ => by decide⟩
    · rename_i e
      refine ⟨fun h => absurd h (by decide), fun hle => ?_⟩
      exact absurd (Rat.lt_of_le_of_ne hle e) h
theorem cmpQ_zero {p q : Rat} : cmpQ p q = 0 ↔ p = q := by
  unfold cmpQ
  split
  · rename_i h; exact ⟨fun h => absurd h (by decide), fun e => absurd h (e ▸ Rat.lt_irrefl)⟩
  · split
    · rename_i e; exact ⟨fun _ => e, fun _ => rfl⟩
    · rename_i e; exact ⟨fun h => absurd h (by decide), fun h => absurd h e⟩
theorem cmpQ_anti (p q : Rat) : -(cmpQ q p) = cmpQ p q := by
  unfold cmpQ
  by_cases h : p < q
  · have h1 : ¬ q < p := fun h' => Rat.not_le.2 h (Rat.le_of_lt h')
    have h2 : ¬ q = p := fun e => Rat.lt_irrefl (e ▸ h)
    rw [if_pos h, if_neg h1, if_neg h2]
  · rw [if_neg h]
    by_cases e : p = q
    · subst e; simp [h]
    · have h1 : q < p := Rat.lt_of_le_of_ne (Rat.not_lt.1 h) (fun h => e h.symm)
      rw [if_pos h1, if_neg e]; rfl
theorem cmpQ_range (p q : Rat) : -1 ≤ cmpQ p q ∧ cmpQ p q ≤ 1 := by
  unfold cmpQ
  split
  · decide
  · split <;> decide
theorem cmpQ_ge {p q : Rat} : 0 ≤ cmpQ p q ↔ q ≤ p := by
  have := cmpQ_anti p q
  rw [← cmpQ_le]
  omega
theorem cmpQ_lt {p q : Rat} : cmpQ p q < 0 ↔ p < q := by
  have h1 := @cmpQ_ge p q
  rw [← Rat.not_le, ← h1]
  omega
theorem cmpQ_gt {p q : Rat} : 0 < cmpQ p q ↔ q < p := by
  have h1 := @cmpQ_le p q
  rw [← Rat.not_le, ← h1]
  omega
theorem cmpQ_neg (p q : Rat) : IntKind.i64.wrap (-(cmpQ q p)) = cmpQ p q := by
  have := cmpQ_range p q
  rw [cmpQ_anti, IntKind.wrap_i64]
  omega
theorem bestR_le {qs : List Rat} : ∀ {x : Rat}, qs.foldl (fun m y => bif decide (cmpQ y m < 0) then y else m) x ≤ x ∧ ∀ y ∈ qs, qs.foldl (fun m y => bif decide (cmpQ y m < 0) then y else m) x ≤ y := by
  induction qs with
  | nil => exact fun {x} => ⟨Rat.le_refl, fun _ h => by cases h⟩
  | cons z qs ih =>
    intro x
    rw [List.foldl_cons]
    by_cases h : z < x
    · rw [decide_eq_true (cmpQ_lt.2 h), cond_true]
      refine ⟨Rat.le_trans (ih (x := z)).1 (Rat.le_of_lt h), fun y hy => ?_⟩
      rcases List.mem_cons.1 hy with rfl | hy
      · exact ih.1
      · exact ih.2 y hy
    · rw [decide_eq_false (fun h' => h (cmpQ_lt.1 h')), cond_false]
      refine ⟨ih.1, fun y hy => ?_⟩
      rcases List.mem_cons.1 hy with rfl | hy
      · exact Rat.le_trans ih.1 (Rat.not_lt.1 h)
      · exact ih.2 y hy
theorem bestR_ge {qs : List Rat} : ∀ {x : Rat}, x ≤ qs.foldl (fun m y => bif decide (0 < cmpQ y m) then y else m) x ∧ ∀ y ∈ qs, y ≤ qs.foldl (fun m y => bif decide (0 < cmpQ y m) then y else m) x := by
  induction qs with
  | nil => exact fun {x} => ⟨Rat.le_refl, fun _ h => by cases h⟩
  | cons z qs ih =>
    intro x
    rw [List.foldl_cons]
    by_cases h : x < z
    · rw [decide_eq_true (cmpQ_gt.2 h), cond_true]
      refine ⟨Rat.le_trans (Rat.le_of_lt h) (ih (x := z)).1, fun y hy => ?_⟩
      rcases List.mem_cons.1 hy with rfl | hy
      · exact ih.1
      · exact ih.2 y hy
    · rw [decide_eq_false (fun h' => h (cmpQ_gt.1 h')), cond_false]
      refine ⟨ih.1, fun y hy => ?_⟩
      rcases List.mem_cons.1 hy with rfl | hy
      · exact Rat.le_trans (Rat.not_lt.1 h) ih.1
      · exact ih.2 y hy
theorem minR_le {qs : List Rat} {q : Rat} (h : q ∈ qs) : minR qs ≤ q := by
  cases qs with
  | nil => cases h
  | cons x t =>
    rcases List.mem_cons.1 h with rfl | h
    · exact bestR_le.1
    · exact bestR_le.2 q h
theorem maxR_ge {qs : List Rat} {q : Rat} (h : q ∈ qs) : q ≤ maxR qs := by
  cases qs with
  | nil => cases h
  | cons x t =>
    rcases List.mem_cons.1 h with rfl | h
    · exact bestR_ge.1
    · exact bestR_ge.2 q h
/-- Just this fraction, however long. -/
class AsZ (T : VTy) (x : outParam RawQ) : Prop where
  ok : ∀ {X w v}, T.holds X w v → (VTy.qz x).holds X w v
instance {x : RawQ} : AsZ (.qz x) x := ⟨fun h => h⟩
instance {x : RawQ} {L : Nat} : AsZ (.qx x L) x := ⟨fun ⟨y, h, g⟩ => ⟨y, h.1, g⟩⟩
instance {L : Nat} {x : RawQ} : AsZ (.el Rp.frac (fewQ L) x) x := ⟨fun ⟨y, h, g⟩ => ⟨y, h.1, g⟩⟩
section
variable {w00 : World} {N : Nat} {L : List Loc} {E : List (Nat × VTy)} {d : Nat} {t0 : TypeId} {pos : String} {af : Array Edge} {gd : Option (Nat × Bool)} {ats : Array TypeId}
theorem st_neg' {o : Operand} {x z : Int} {k : IntKind} {ty : TypeId} [h0 : OpC E o (.is (.int k x))] (hz : k.wrap (-x) = z) : StepT Tryz.prog w00 N L E ⟨some d, .unOp .neg ty o, t0, pos, af, gd⟩ (.is (.int k z)) := by
  constructor
  intro X ρ w hc _ hN hm hsl
  have e0 : ρ o = .int k x := h0.get (X := X) (w := w) hc fun p hp e => hsl p hp (by simp [Op.operands, e])
  clear hc hsl h0
  unfold Yields
  go_simp
  exact ⟨rfl, Below.refl _ _⟩
theorem sL_fewU {o0 o1 : Operand} {T0 : VTy} {x : RawQ} {m : Int} {u : Bool} [OpC E o0 T0] [a0 : AsZ T0 x] [OpC E o1 (.is (.int .i64 m))] (hu : (decide ((x.1.2.length : Int) ≤ m) && decide ((x.2.2.length : Int) ≤ m)) = u) : StepT Tryz.prog w00 N L E ⟨some d, .call { callee := .value (.func 8), args := #[o0, o1], argTypes := ats }, t0, pos, af, gd⟩ (.is (.bool u)) :=
  sc2 eL_few fun X w v0 v1 hX _ _ h0 h1 => by rw [← hu]; exact cL_few hX (a0.ok h0) h1
theorem sL_fewA {o0 o1 : Operand} {q : Rat} {m : Int} {K : Nat} [OpC E o0 (.qa q K)] [OpC E o1 (.is (.int .i64 m))] (hu : (K : Int) ≤ m) : StepT Tryz.prog w00 N L E ⟨some d, .call { callee := .value (.func 8), args := #[o0, o1], argTypes := ats }, t0, pos, af, gd⟩ (.is (.bool true)) :=
  sc2 eL_few fun X w v0 v1 hX _ _ h0 h1 => by
    obtain ⟨x, ⟨_, a1, a2, _⟩, g⟩ := h0
    have e : (decide ((x.1.2.length : Int) ≤ m) && decide ((x.2.2.length : Int) ≤ m)) = true := by
      rw [decide_eq_true (by omega), decide_eq_true (by omega)]; rfl
    rw [← e]
    exact cL_few hX ⟨x, rfl, g⟩ h1
theorem sr_rightc {o0 : Operand} {q : Rat} {L0 : Nat} [OpC E o0 (.qc q L0)] (hE : Tab w00) (hb : L0 ≤ 90) : StepT Tryz.prog w00 N L E ⟨some d, .call { callee := .value (.func 23), args := #[o0], argTypes := ats }, t0, pos, af, gd⟩ (.is (.bool true)) :=
  sc1 er_right fun X w v0 hX _ hB h0 => by
    obtain ⟨x, ⟨hf, hl⟩, g⟩ := h0
    have := cr_right (L0 := L0) (hE.below hB) hX (x := x) ⟨x, ⟨rfl, (hf.len hl).1, (hf.len hl).2, hl.pos⟩, g⟩ hb
    rwa [hf.right] at this
theorem sr_sum3 {o0 : Operand} {T0 : VTy} {p q r : Rat} {K0 : Nat} [OpC E o0 T0] [a0 : AsR T0 [p, q, r] K0] (hE : Tab w00) (hb : K0 ≤ 50) : StepT Tryz.prog w00 N L E ⟨some d, .call { callee := .value (.func 38), args := #[o0], argTypes := ats }, t0, pos, af, gd⟩ (.qc (sumR [p, q, r]) (1 + (K0 + 1) * 3)) :=
  sr_sum (l := [p, q, r]) hE (by simp only [List.length]; omega)
theorem sr_prod3 {o0 : Operand} {T0 : VTy} {p q r : Rat} {K0 : Nat} [OpC E o0 T0] [a0 : AsR T0 [p, q, r] K0] (hE : Tab w00) (hb : K0 ≤ 50) : StepT Tryz.prog w00 N L E ⟨some d, .call { callee := .value (.func 40), args := #[o0], argTypes := ats }, t0, pos, af, gd⟩ (.qc (prodR [p, q, r]) (2 + (K0 + 1) * 3)) :=
  sr_prod (l := [p, q, r]) hE (by simp only [List.length]; omega)
end
theorem few_qa {X : List Nat} {w : World} {v : Value} {x : RawQ} {k : Nat} (hk : 0 < k) (h : (VTy.qz x).holds X w v) (e : (decide ((x.1.2.length : Int) ≤ (k : Int)) && decide ((x.2.2.length : Int) ≤ (k : Int))) = true) : (VTy.qx x k).holds X w v := by
  obtain ⟨y, rfl, g⟩ := h
  rw [Bool.and_eq_true, decide_eq_true_eq, decide_eq_true_eq] at e
  exact ⟨y, ⟨rfl, by omega, by omega, hk⟩, g⟩
theorem ne_of_eq0 {z : Int} (h : z = 0) : (z != 0) = false := by rw [h]; rfl
theorem bne_self' (z : Int) : (z != z) = false := by simp
set_option maxRecDepth 20000 in
set_option maxHeartbeats 4000000 in
theorem cL_by {X : List Nat} {w : World} (hE : Tab w) (hX : ∀ b ∈ X, b < w.heap.size) {v0 v1 : Value} {k m : Int} (h0 : (VTy.is (.int .i64 k)).holds X w v0) (h1 : (VTy.is (.int .i64 m)).holds X w v1) (hk : -9223372036854775808 ≤ k ∧ k ≤ 9223372036854775807) (hm : -9223372036854775808 ≤ m ∧ m ≤ 9223372036854775807) (hD : m ≠ 0) :
    Calls Tryz.prog 47 #[v0, v1] w (Gives X w (.qc (Rat.divInt k m) 2)) := by
  refine ts_enter (Ts := [.is (.int .i64 k), .is (.int .i64 m)]) (vs := [v0, v1]) Tryz.func47 rfl Tryz.ntmps47 (by simp) hX ⟨h0, h1, trivial⟩ fun a h => ?_
  clear h0 h1 hX
  simp only [argE, Nat.zero_add, Nat.reduceAdd] at h
  refine g_of h ?_
  clear h
  repeat' first|kernel_rfl|apply g_seq|apply g_reg|apply g_nil|apply g_box|apply g_all|apply g_sto|apply g_asg|apply g_st|apply g_skip|apply g_ct|apply g_cf|apply g_ret|refine r_1 rfl ?_|apply g_cl|exact sr_of hE hk hm hD|exact st_move'|exact st_assign'|exact st_load'|exact st_extract'|exact st_loadE'|exact Cv.rfl'|intro _
section
variable {w00 : World} {N : Nat} {L : List Loc} {E : List (Nat × VTy)} {d : Nat} {t0 : TypeId} {pos : String} {af : Array Edge} {gd : Option (Nat × Bool)} {ats : Array TypeId}
theorem eL_by : Enters Tryz.prog 47 := fun _ _ => by kernel_rfl
theorem sL_by {o0 o1 : Operand} {k m : Int} [OpC E o0 (.is (.int .i64 k))] [OpC E o1 (.is (.int .i64 m))] (hE : Tab w00) (hk : -9223372036854775808 ≤ k ∧ k ≤ 9223372036854775807) (hm : -9223372036854775808 ≤ m ∧ m ≤ 9223372036854775807) (hD : m ≠ 0) : StepT Tryz.prog w00 N L E ⟨some d, .call { callee := .value (.func 47), args := #[o0, o1], argTypes := ats }, t0, pos, af, gd⟩ (.qc (Rat.divInt k m) 2) :=
  sc2 eL_by fun X w v0 v1 hX _ hB h0 h1 => cL_by (hE.below hB) hX h0 h1 hk hm hD
end
theorem rat_eq {a b c d : Int} (hb : b ≠ 0) (hd : d ≠ 0) (h : a * d = c * b) : Rat.divInt a b = Rat.divInt c d := (Rat.divInt_eq_divInt_iff hb hd).2 h
set_option maxRecDepth 20000 in
set_option maxHeartbeats 4000000 in
theorem cL_works {X : List Nat} {w : World} (hE : Tab w) (hX : ∀ b ∈ X, b < w.heap.size) : Calls Tryz.prog 9 #[] w (Gives X w (.is (.bool true))) := by
  have f1 : Rat.divInt 6 (-4) = Rat.divInt (-3) 2 := rat_eq (by decide) (by decide) (by decide)
  have f2 : Rat.divInt 0 5 = 0 := Rat.zero_divInt _
  have f3 : Rat.divInt 1 2 + Rat.divInt 1 3 = Rat.divInt 5 6 := by rw [Rat.divInt_add_divInt _ _ (by decide) (by decide)]; exact rat_eq (by decide) (by decide) (by decide)
  have f4 : Rat.divInt (-2) 3 * Rat.divInt 9 4 = Rat.divInt (-3) 2 := by rw [Rat.divInt_mul_divInt _ _]; exact rat_eq (by decide) (by decide) (by decide)
  have f5 : Rat.divInt (-1) 4 ≠ 0 := by decide +kernel
  have f6 : Rat.divInt 1 2 / Rat.divInt (-1) 4 = Rat.divInt (-2) 1 := by rw [Rat.div_def, Rat.inv_divInt, Rat.divInt_mul_divInt]; exact rat_eq (by decide) (by decide) (by decide)
  have f7 : (cmpQ (Rat.divInt 1 3) (Rat.divInt 33 100) == 1) = true := by decide +kernel
  have f8 : maxR (Rat.divInt 1 2 :: [Rat.divInt 2 3, Rat.divInt 3 5]) = Rat.divInt 2 3 := by decide +kernel
  refine ts_enter (Ts := []) (vs := []) Tryz.func9 rfl Tryz.ntmps9 (by simp) hX trivial fun a h => ?_
  clear hX
  simp only [argE] at h
  refine g_of h ?_
  clear h
  repeat' first|kernel_rfl|apply g_seq|apply g_reg|apply g_nil|apply g_draw (id:=9) [(55, true), (60, true), (64, true), (69, true), (76, true), (83, true), (87, true), (92, true), (98, true), (107, true)] [] 58|apply o_all|apply o_go|exact OpsT.nil|exact GuardC.nil|exact UndefC.nil|refine @GuardC.cons _ _ _ _ inferInstance ?_|refine @UndefC.cons _ _ _ inferInstance ?_|apply g_box|apply g_all|apply g_sto|apply g_asg|refine g_run rfl inferInstance (by first|fail) (by kernel_rfl) ?_|refine g_sk rfl inferInstance rfl (by kernel_rfl) ?_|refine g_un rfl inferInstance (by kernel_rfl) ?_|apply g_st|apply g_skip|apply g_ct|apply g_cf|apply g_ret|refine r_1 rfl ?_|apply g_cl|exact sr_add hE (by omega)|exact sr_mul hE (by omega)|exact sr_cmp hE (by omega)|exact sr_max hE (by omega)|exact s4_zero|exact sb_of (by omega)|exact sr_new hE (by omega) (by decide)|exact sr_of hE (by omega) (by omega) (by decide)|exact sr_of0 hE (by omega) (by omega) rfl|exact sL_by hE (by omega) (by omega) (by decide)|exact sr_div hE (by omega) f5|exact s4_of (by omega) (by omega) (by decide)|exact sL_is (by assumption)|exact sR_two|exact st_move'|exact st_assign'|exact st_load'|exact st_extract'|exact st_and_t'|exact st_and_f'|exact st_eq' (by first|assumption|rfl)|exact st_loadE'|exact Cv.rfl'|(intro _;simp only[newX,newL,ptrs,List.map,List.cons_append,List.nil_append])|intro _
section
variable {w00 : World} {N : Nat} {L : List Loc} {E : List (Nat × VTy)} {d : Nat} {t0 : TypeId} {pos : String} {af : Array Edge} {gd : Option (Nat × Bool)} {ats : Array TypeId}
theorem eL_works : Enters Tryz.prog 9 := fun _ _ => by kernel_rfl
theorem sL_works (hE : Tab w00) : StepT Tryz.prog w00 N L E ⟨some d, .call { callee := .value (.func 9), args := #[], argTypes := ats }, t0, pos, af, gd⟩ (.is (.bool true)) := sc0 eL_works fun X w hX _ hB => cL_works (hE.below hB) hX
end
/-- Just this number, however long. -/
def VTy.nz (x : RawI) : VTy := VTy.ex Rp.num fun y => y = x
instance {x : RawI} : SizeV (.nz x) 2 true := inferInstanceAs (SizeV (.ex Rp.num _) Rp.num.k true)
instance {x : RawI} : PartC (.nz x) 0 2 true (.nz x) := .whole inferInstance
theorem PartC.limbsI {p : RawI → Prop} {xs : List Int} (h : ∀ x, p x → x.2 = xs) : PartC (.ex Rp.num p) 1 1 false (.rc Rp.limbs xs) := ⟨fun _ => rfl, fun {X w v} hv => by
  obtain ⟨x, hp, cs, rfl, h1⟩ := hv
  obtain ⟨A, n, c, rfl, hs, hd⟩ := num_rd.1 h1
  refine ⟨[.slice A n c], rfl, fun j u hj => ?_, fun u _ hu => ?_⟩
  · have hj0 : j = 0 := by have := (List.getElem?_eq_some_iff.1 hj).1; simpa using this
    subst hj0
    simpa [Value.cells] using hj
  · have := hu rfl
    simp at this
    subst this
    exact ⟨A, n, c, rfl, by rw [← h x hp]; exact hs, by rw [← h x hp]; exact hd⟩⟩
instance {x : RawI} : PartC (.nz x) 1 1 false (.rc Rp.limbs x.2) := .limbsI fun _ h => by rw [h]
instance {x : RawI} {L : Nat} : PartC (.nx x L) 1 1 false (.rc Rp.limbs x.2) := .limbsI fun _ h => by rw [h.1]
theorem nz_nx {X : List Nat} {w : World} {v : Value} {x : RawI} {k : Nat} (h : (VTy.nz x).holds X w v) (e : decide ((k : Int) < (x.2.length : Int)) = false) : (VTy.nx x k).holds X w v := by
  obtain ⟨y, rfl, g⟩ := h
  have := of_decide_eq_false e
  exact ⟨y, ⟨rfl, by omega⟩, g⟩
section
variable {w00 : World} {N : Nat} {L : List Loc} {E : List (Nat × VTy)} {d : Nat} {t0 : TypeId} {pos : String} {af : Array Edge} {gd : Option (Nat × Bool)} {ats : Array TypeId}
theorem s4_of0 {o0 : Operand} {k0 : Int} {o1 : Operand} {k1 : Int} [OpC E o0 (.is (.int .i64 k0))] [OpC E o1 (.is (.int .i64 k1))] (hk : -9223372036854775808 ≤ k0 ∧ k0 ≤ 9223372036854775807) (hm : -9223372036854775808 ≤ k1 ∧ k1 ≤ 9223372036854775807) (hD : k1 = 0) :
    StepT Tryz.prog w00 N L E ⟨some d, .call { callee := .value (.func 33), args := #[o0, o1], argTypes := ats }, t0, pos, af, gd⟩ (.tup [.qc 0 1, .is (.int .i64 20)]) :=
  sc2 e4_of fun X w v0 v1 hX _ _ h0 h1 => c4_of0 hX h0 h1 hk hm hD
end
set_option synthInstance.maxSize 4000 in
set_option synthInstance.maxHeartbeats 400000 in
set_option maxRecDepth 20000 in
set_option maxHeartbeats 8000000 in
theorem cL_fieldA {X : List Nat} {w : World} (hE : Tab w) (hX : ∀ b ∈ X, b < w.heap.size) {v0 v1 v2 : Value} {x y z : Rat} (h0 : (VTy.qa x 8).holds X w v0) (h1 : (VTy.qa y 8).holds X w v1) (h2 : (VTy.qa z 8).holds X w v2) :
    Calls Tryz.prog 6 #[v0, v1, v2] w (Gives X w (.is (.bool true))) := by
  have g1 : (cmpQ (x + y + z) (z + (y + x)) == 0) = true := cmpQ_eq (by rw [Rat.add_comm z, Rat.add_comm y])
  have g2 : (cmpQ (x * y * z) (z * (y * x)) == 0) = true := cmpQ_eq (by rw [Rat.mul_comm z, Rat.mul_comm y])
  have g3 : (cmpQ (x + y + z) (sumR [y, z, x]) == 0) = true := cmpQ_eq (by simp only [sumR, List.foldl_cons, List.foldl_nil]; rw [Rat.zero_add, Rat.add_comm (y + z), Rat.add_assoc])
  have g4 : (cmpQ (x * y * z) (prodR [z, x, y]) == 0) = true := cmpQ_eq (by simp only [prodR, List.foldl_cons, List.foldl_nil]; rw [Rat.one_mul, Rat.mul_assoc z, Rat.mul_comm z])
  have g5 : (cmpQ (x * (y + z)) (x * y + x * z) == 0) = true := cmpQ_eq (Rat.mul_add _ _ _)
  have g6 : (cmpQ (x + y - y) x != 0) = false := ne_of_eq0 (cmpQ_zero.2 (by rw [Rat.sub_eq_add_neg, Rat.add_assoc, Rat.add_neg_cancel, Rat.add_zero]))
  have g7 : (cmpQ (x + -x) 0 != 0) = false := ne_of_eq0 (cmpQ_zero.2 (Rat.add_neg_cancel _))
  have n2 := bne_self' (cmpQ x y)
  have m1 : decide (cmpQ (minR (x :: [y, z])) x ≤ 0) = true := decide_eq_true (cmpQ_le.2 (minR_le (by simp)))
  have m2 : decide (cmpQ (minR (x :: [y, z])) y ≤ 0) = true := decide_eq_true (cmpQ_le.2 (minR_le (by simp)))
  have m3 : decide (cmpQ (minR (x :: [y, z])) z ≤ 0) = true := decide_eq_true (cmpQ_le.2 (minR_le (by simp)))
  have m4 : decide (0 ≤ cmpQ (maxR (x :: [y, z])) x) = true := decide_eq_true (cmpQ_ge.2 (maxR_ge (by simp)))
  have m5 : decide (0 ≤ cmpQ (maxR (x :: [y, z])) y) = true := decide_eq_true (cmpQ_ge.2 (maxR_ge (by simp)))
  have m6 : decide (0 ≤ cmpQ (maxR (x :: [y, z])) z) = true := decide_eq_true (cmpQ_ge.2 (maxR_ge (by simp)))
  refine ts_enter (Ts := [.qa x 8, .qa y 8, .qa z 8]) (vs := [v0, v1, v2]) Tryz.func6 rfl Tryz.ntmps6 (by simp) hX ⟨h0, h1, h2, trivial⟩ fun a h => ?_
  clear h0 h1 h2 hX
  simp only [argE, Nat.zero_add, Nat.reduceAdd] at h
  refine g_of h ?_
  clear h
  repeat' first|kernel_rfl|apply g_seq|apply g_reg|apply g_nil|apply g_draw (id:=3) [] [] 6|apply g_draw (id:=4) [] [] 6|apply g_draw (id:=5) [(40, false), (45, false), (55, false), (65, false), (75, false)] [] 47|apply g_draw (id:=7) [(99, false), (109, false)] [] 31|apply o_all|apply o_go|exact OpsT.nil|exact GuardC.nil|exact UndefC.nil|refine @GuardC.cons _ _ _ _ inferInstance ?_|refine @UndefC.cons _ _ _ inferInstance ?_|apply g_box|apply g_all|apply g_sto|apply g_asg|refine g_run rfl inferInstance (by first|exact sL_fewA (by decide)|exact sL_works hE|exact sr_rightc hE (by omega)|exact sr_cmp hE (by omega)|exact sr_sign hE (by omega)|exact st_move'|exact st_load'|exact st_and_t'|exact st_and_f'|exact st_or_f'|exact st_or_t'|exact st_not' (b := true) (u := false) rfl|exact st_not' (b := false) (u := true) rfl|exact st_not' rfl|exact st_neq' (by first|assumption|rfl)|exact st_leq' (by first|assumption|rfl)|exact st_geq' (by first|assumption|rfl)|exact st_loadE') (by kernel_rfl) ?_|refine g_sk rfl inferInstance rfl (by kernel_rfl) ?_|refine g_un rfl inferInstance (by kernel_rfl) ?_|apply g_st|apply g_skip|apply g_ct|apply g_cf|apply g_ret|refine r_1 rfl ?_|apply g_cl|exact sL_fewA (by decide)|exact sL_works hE|exact sr_rightc hE (by omega)|exact sr_sum3 hE (by omega)|exact sr_prod3 hE (by omega)|exact st_neg' (cmpQ_neg _ _)|exact sR_two|exact sR_three|exact sr_div hE (by omega) (by assumption)|exact sr_div0 hE (by omega) (by assumption)|exact sr_add hE (by omega)|exact sr_sub hE (by omega)|exact sr_mul hE (by omega)|exact sr_neg hE (by omega)|exact sr_cmp hE (by omega)|exact sr_sign hE (by omega)|exact sr_min hE (by omega)|exact sr_max hE (by omega)|exact sr_sameU hE (by omega) (by assumption)|exact st_move'|exact st_assign'|exact st_load'|exact st_extract'|exact st_and_t'|exact st_and_f'|exact st_or_f'|exact st_or_t'|exact st_not' (b := true) (u := false) rfl|exact st_not' (b := false) (u := true) rfl|exact st_not' rfl|exact st_eq' (by first|assumption|rfl)|exact st_neq' (by first|assumption|rfl)|exact st_leq' (by first|assumption|rfl)|exact st_gtr' (by first|assumption|rfl)|exact st_geq' (by first|assumption|rfl)|exact st_loadE'|exact Cv.rfl'|(intro _;simp only[newX,newL,ptrs,List.map,List.cons_append,List.nil_append])|intro _
  refine g_stop fun a w h => ?_
  replace h := h.keep [3, 4, 5]
  by_cases hb0 : y = 0
  · have k1 : (cmpQ y 0 == 0) = true := cmpQ_eq hb0
    have k2 : (cmpQ y 0 != 0) = false := ne_of_eq0 (cmpQ_zero.2 hb0)
    refine g_of h ?_
    clear h
    repeat' first|kernel_rfl|apply g_seq|apply g_reg|apply g_nil|refine' g_drawL (id:=9) [] [] 9 7 124 117 1 26 _ _ 9 (.tmp 123) rfl rfl (by kernel_rfl) ?_ ?_ ?_ ?_ ?_ ?_|apply g_dst|apply o_all|apply o_go|exact OpsT.nil|exact GuardC.nil|exact UndefC.nil|refine @GuardC.cons _ _ _ _ inferInstance ?_|refine @UndefC.cons _ _ _ inferInstance ?_|apply g_box|apply g_all|apply g_sto|apply g_asg|refine g_run rfl inferInstance (by first|exact sL_fewA (by decide)|exact sL_works hE|exact sr_rightc hE (by omega)|exact sr_cmp hE (by omega)|exact sr_sign hE (by omega)|exact st_move'|exact st_load'|exact st_and_t'|exact st_and_f'|exact st_or_f'|exact st_or_t'|exact st_not' (b := true) (u := false) rfl|exact st_not' (b := false) (u := true) rfl|exact st_not' rfl|exact st_neq' (by first|assumption|rfl)|exact st_leq' (by first|assumption|rfl)|exact st_geq' (by first|assumption|rfl)|exact st_loadE') (by kernel_rfl) ?_|refine g_sk rfl inferInstance rfl (by kernel_rfl) ?_|refine g_un rfl inferInstance (by kernel_rfl) ?_|apply g_st|apply g_skip|apply g_ct|apply g_cf|apply g_ret|refine r_1 rfl ?_|apply g_cl|exact sL_fewA (by decide)|exact sL_works hE|exact sr_rightc hE (by omega)|exact sr_sum3 hE (by omega)|exact sr_prod3 hE (by omega)|exact st_neg' (cmpQ_neg _ _)|exact sR_two|exact sR_three|exact sr_div hE (by omega) (by assumption)|exact sr_div0 hE (by omega) (by assumption)|exact sr_add hE (by omega)|exact sr_sub hE (by omega)|exact sr_mul hE (by omega)|exact sr_neg hE (by omega)|exact sr_cmp hE (by omega)|exact sr_sign hE (by omega)|exact sr_min hE (by omega)|exact sr_max hE (by omega)|exact sr_sameU hE (by omega) (by assumption)|exact st_move'|exact st_assign'|exact st_load'|exact st_extract'|exact st_and_t'|exact st_and_f'|exact st_or_f'|exact st_or_t'|exact st_not' (b := true) (u := false) rfl|exact st_not' (b := false) (u := true) rfl|exact st_not' rfl|exact st_eq' (by first|assumption|rfl)|exact st_neq' (by first|assumption|rfl)|exact st_leq' (by first|assumption|rfl)|exact st_gtr' (by first|assumption|rfl)|exact st_geq' (by first|assumption|rfl)|exact st_loadE'|exact Cv.rfl'|(intro _;simp only[newX,newL,ptrs,List.map,List.cons_append,List.nil_append])|intro _
    refine g_stop fun a w h => ?_
    replace h := h.keep [3, 4, 5]
    have d1 : decide (cmpQ x y ≤ 0) = true ∨ decide (cmpQ x y ≤ 0) = false := by cases decide (cmpQ x y ≤ 0) <;> simp
    have d2 : decide (cmpQ y z ≤ 0) = true ∨ decide (cmpQ y z ≤ 0) = false := by cases decide (cmpQ y z ≤ 0) <;> simp
    rcases d1 with d1 | d1
    · have d4 : decide (0 < cmpQ (x + z) (y + z)) = false := decide_eq_false (fun h => Rat.not_le.2 (cmpQ_gt.1 h) (Rat.add_le_add_right.2 (cmpQ_le.1 (of_decide_eq_true d1))))
      rcases d2 with d2 | d2
      · have d3 : decide (0 < cmpQ x z) = false := decide_eq_false (fun h => Rat.not_le.2 (cmpQ_gt.1 h) (Rat.le_trans (cmpQ_le.1 (of_decide_eq_true d1)) (cmpQ_le.1 (of_decide_eq_true d2))))
        refine g_of h ?_
        clear h
        repeat' first|kernel_rfl|apply g_seq|apply g_reg|apply g_nil|apply g_draw (id:=12) [(160, false), (165, true), (171, true), (178, false), (183, true)] [] 41|apply g_draw (id:=14) [] [] 12|apply o_all|apply o_go|exact OpsT.nil|exact GuardC.nil|exact UndefC.nil|refine @GuardC.cons _ _ _ _ inferInstance ?_|refine @UndefC.cons _ _ _ inferInstance ?_|apply g_box|apply g_all|apply g_sto|apply g_asg|refine g_run rfl inferInstance (by first|exact sL_fewA (by decide)|exact sL_works hE|exact sr_rightc hE (by omega)|exact sr_cmp hE (by omega)|exact sr_sign hE (by omega)|exact st_move'|exact st_load'|exact st_and_t'|exact st_and_f'|exact st_or_f'|exact st_or_t'|exact st_not' (b := true) (u := false) rfl|exact st_not' (b := false) (u := true) rfl|exact st_not' rfl|exact st_neq' (by first|assumption|rfl)|exact st_leq' (by first|assumption|rfl)|exact st_geq' (by first|assumption|rfl)|exact st_loadE') (by kernel_rfl) ?_|refine g_sk rfl inferInstance rfl (by kernel_rfl) ?_|refine g_un rfl inferInstance (by kernel_rfl) ?_|apply g_st|apply g_skip|apply g_ct|apply g_cf|apply g_ret|refine r_1 rfl ?_|apply g_cl|exact sL_fewA (by decide)|exact sL_works hE|exact sr_rightc hE (by omega)|exact sr_sum3 hE (by omega)|exact sr_prod3 hE (by omega)|exact st_neg' (cmpQ_neg _ _)|exact sR_two|exact sR_three|exact sr_div hE (by omega) (by assumption)|exact sr_div0 hE (by omega) (by assumption)|exact sr_add hE (by omega)|exact sr_sub hE (by omega)|exact sr_mul hE (by omega)|exact sr_neg hE (by omega)|exact sr_cmp hE (by omega)|exact sr_sign hE (by omega)|exact sr_min hE (by omega)|exact sr_max hE (by omega)|exact sr_sameU hE (by omega) (by assumption)|exact st_move'|exact st_assign'|exact st_load'|exact st_extract'|exact st_and_t'|exact st_and_f'|exact st_or_f'|exact st_or_t'|exact st_not' (b := true) (u := false) rfl|exact st_not' (b := false) (u := true) rfl|exact st_not' rfl|exact st_eq' (by first|assumption|rfl)|exact st_neq' (by first|assumption|rfl)|exact st_leq' (by first|assumption|rfl)|exact st_gtr' (by first|assumption|rfl)|exact st_geq' (by first|assumption|rfl)|exact st_loadE'|exact Cv.rfl'|(intro _;simp only[newX,newL,ptrs,List.map,List.cons_append,List.nil_append])|intro _
      · skip
        refine g_of h ?_
        clear h
        repeat' first|kernel_rfl|apply g_seq|apply g_reg|apply g_nil|apply g_draw (id:=12) [(160, false), (165, true), (171, false), (178, false), (183, true)] [] 41|apply g_draw (id:=14) [] [] 12|(apply o_sk;(focus rfl);(focus kernel_rfl))|apply o_all|apply o_go|exact OpsT.nil|exact GuardC.nil|exact UndefC.nil|refine @GuardC.cons _ _ _ _ inferInstance ?_|refine @UndefC.cons _ _ _ inferInstance ?_|apply g_box|apply g_all|apply g_sto|apply g_asg|refine g_run rfl inferInstance (by first|exact sL_fewA (by decide)|exact sL_works hE|exact sr_rightc hE (by omega)|exact sr_cmp hE (by omega)|exact sr_sign hE (by omega)|exact st_move'|exact st_load'|exact st_and_t'|exact st_and_f'|exact st_or_f'|exact st_or_t'|exact st_not' (b := true) (u := false) rfl|exact st_not' (b := false) (u := true) rfl|exact st_not' rfl|exact st_neq' (by first|assumption|rfl)|exact st_leq' (by first|assumption|rfl)|exact st_geq' (by first|assumption|rfl)|exact st_loadE') (by kernel_rfl) ?_|refine g_sk rfl inferInstance rfl (by kernel_rfl) ?_|refine g_un rfl inferInstance (by kernel_rfl) ?_|apply g_st|apply g_skip|apply g_ct|apply g_cf|apply g_ret|refine r_1 rfl ?_|apply g_cl|exact sL_fewA (by decide)|exact sL_works hE|exact sr_rightc hE (by omega)|exact sr_sum3 hE (by omega)|exact sr_prod3 hE (by omega)|exact st_neg' (cmpQ_neg _ _)|exact sR_two|exact sR_three|exact sr_div hE (by omega) (by assumption)|exact sr_div0 hE (by omega) (by assumption)|exact sr_add hE (by omega)|exact sr_sub hE (by omega)|exact sr_mul hE (by omega)|exact sr_neg hE (by omega)|exact sr_cmp hE (by omega)|exact sr_sign hE (by omega)|exact sr_min hE (by omega)|exact sr_max hE (by omega)|exact sr_sameU hE (by omega) (by assumption)|exact st_move'|exact st_assign'|exact st_load'|exact st_extract'|exact st_and_t'|exact st_and_f'|exact st_or_f'|exact st_or_t'|exact st_not' (b := true) (u := false) rfl|exact st_not' (b := false) (u := true) rfl|exact st_not' rfl|exact st_eq' (by first|assumption|rfl)|exact st_neq' (by first|assumption|rfl)|exact st_leq' (by first|assumption|rfl)|exact st_gtr' (by first|assumption|rfl)|exact st_geq' (by first|assumption|rfl)|exact st_loadE'|exact Cv.rfl'|(intro _;simp only[newX,newL,ptrs,List.map,List.cons_append,List.nil_append])|intro _
    · clear d2
      refine g_of h ?_
      clear h
      repeat' first|kernel_rfl|apply g_seq|apply g_reg|apply g_nil|apply g_draw (id:=12) [(160, false), (165, false), (171, false), (178, false), (183, false)] [] 41|apply g_draw (id:=14) [] [] 12|(apply o_sk;(focus rfl);(focus kernel_rfl))|apply o_all|apply o_go|exact OpsT.nil|exact GuardC.nil|exact UndefC.nil|refine @GuardC.cons _ _ _ _ inferInstance ?_|refine @UndefC.cons _ _ _ inferInstance ?_|apply g_box|apply g_all|apply g_sto|apply g_asg|refine g_run rfl inferInstance (by first|exact sL_fewA (by decide)|exact sL_works hE|exact sr_rightc hE (by omega)|exact sr_cmp hE (by omega)|exact sr_sign hE (by omega)|exact st_move'|exact st_load'|exact st_and_t'|exact st_and_f'|exact st_or_f'|exact st_or_t'|exact st_not' (b := true) (u := false) rfl|exact st_not' (b := false) (u := true) rfl|exact st_not' rfl|exact st_neq' (by first|assumption|rfl)|exact st_leq' (by first|assumption|rfl)|exact st_geq' (by first|assumption|rfl)|exact st_loadE') (by kernel_rfl) ?_|refine g_sk rfl inferInstance rfl (by kernel_rfl) ?_|refine g_un rfl inferInstance (by kernel_rfl) ?_|apply g_st|apply g_skip|apply g_ct|apply g_cf|apply g_ret|refine r_1 rfl ?_|apply g_cl|exact sL_fewA (by decide)|exact sL_works hE|exact sr_rightc hE (by omega)|exact sr_sum3 hE (by omega)|exact sr_prod3 hE (by omega)|exact st_neg' (cmpQ_neg _ _)|exact sR_two|exact sR_three|exact sr_div hE (by omega) (by assumption)|exact sr_div0 hE (by omega) (by assumption)|exact sr_add hE (by omega)|exact sr_sub hE (by omega)|exact sr_mul hE (by omega)|exact sr_neg hE (by omega)|exact sr_cmp hE (by omega)|exact sr_sign hE (by omega)|exact sr_min hE (by omega)|exact sr_max hE (by omega)|exact sr_sameU hE (by omega) (by assumption)|exact st_move'|exact st_assign'|exact st_load'|exact st_extract'|exact st_and_t'|exact st_and_f'|exact st_or_f'|exact st_or_t'|exact st_not' (b := true) (u := false) rfl|exact st_not' (b := false) (u := true) rfl|exact st_not' rfl|exact st_eq' (by first|assumption|rfl)|exact st_neq' (by first|assumption|rfl)|exact st_leq' (by first|assumption|rfl)|exact st_gtr' (by first|assumption|rfl)|exact st_geq' (by first|assumption|rfl)|exact st_loadE'|exact Cv.rfl'|(intro _;simp only[newX,newL,ptrs,List.map,List.cons_append,List.nil_append])|intro _
  · have k1 : (cmpQ y 0 == 0) = false := by simpa using fun h => hb0 (cmpQ_zero.1 h)
    have k2 : (cmpQ y 0 != 0) = true := by simpa using fun h => hb0 (cmpQ_zero.1 h)
    have k3 : (cmpQ (x * y / y) x != 0) = false := ne_of_eq0 (cmpQ_zero.2 (by rw [Rat.div_def, Rat.mul_assoc, Rat.mul_inv_cancel _ hb0, Rat.mul_one]))
    refine g_of h ?_
    clear h
    repeat' first|kernel_rfl|apply g_seq|apply g_reg|apply g_nil|refine' g_drawL (id:=9) [] [] 9 7 124 117 1 26 _ _ 9 (.tmp 123) rfl rfl (by kernel_rfl) ?_ ?_ ?_ ?_ ?_ ?_|apply g_dst|apply o_all|apply o_go|exact OpsT.nil|exact GuardC.nil|exact UndefC.nil|refine @GuardC.cons _ _ _ _ inferInstance ?_|refine @UndefC.cons _ _ _ inferInstance ?_|apply g_box|apply g_all|apply g_sto|apply g_asg|refine g_run rfl inferInstance (by first|exact sL_fewA (by decide)|exact sL_works hE|exact sr_rightc hE (by omega)|exact sr_cmp hE (by omega)|exact sr_sign hE (by omega)|exact st_move'|exact st_load'|exact st_and_t'|exact st_and_f'|exact st_or_f'|exact st_or_t'|exact st_not' (b := true) (u := false) rfl|exact st_not' (b := false) (u := true) rfl|exact st_not' rfl|exact st_neq' (by first|assumption|rfl)|exact st_leq' (by first|assumption|rfl)|exact st_geq' (by first|assumption|rfl)|exact st_loadE') (by kernel_rfl) ?_|refine g_sk rfl inferInstance rfl (by kernel_rfl) ?_|refine g_un rfl inferInstance (by kernel_rfl) ?_|apply g_st|apply g_skip|apply g_ct|apply g_cf|apply g_ret|refine r_1 rfl ?_|apply g_cl|exact sL_fewA (by decide)|exact sL_works hE|exact sr_rightc hE (by omega)|exact sr_sum3 hE (by omega)|exact sr_prod3 hE (by omega)|exact st_neg' (cmpQ_neg _ _)|exact sR_two|exact sR_three|exact sr_div hE (by omega) (by assumption)|exact sr_div0 hE (by omega) (by assumption)|exact sr_add hE (by omega)|exact sr_sub hE (by omega)|exact sr_mul hE (by omega)|exact sr_neg hE (by omega)|exact sr_cmp hE (by omega)|exact sr_sign hE (by omega)|exact sr_min hE (by omega)|exact sr_max hE (by omega)|exact sr_sameU hE (by omega) (by assumption)|exact st_move'|exact st_assign'|exact st_load'|exact st_extract'|exact st_and_t'|exact st_and_f'|exact st_or_f'|exact st_or_t'|exact st_not' (b := true) (u := false) rfl|exact st_not' (b := false) (u := true) rfl|exact st_not' rfl|exact st_eq' (by first|assumption|rfl)|exact st_neq' (by first|assumption|rfl)|exact st_leq' (by first|assumption|rfl)|exact st_gtr' (by first|assumption|rfl)|exact st_geq' (by first|assumption|rfl)|exact st_loadE'|exact Cv.rfl'|(intro _;simp only[newX,newL,ptrs,List.map,List.cons_append,List.nil_append])|intro _
    refine g_stop fun a w h => ?_
    replace h := h.keep [3, 4, 5]
    have d1 : decide (cmpQ x y ≤ 0) = true ∨ decide (cmpQ x y ≤ 0) = false := by cases decide (cmpQ x y ≤ 0) <;> simp
    have d2 : decide (cmpQ y z ≤ 0) = true ∨ decide (cmpQ y z ≤ 0) = false := by cases decide (cmpQ y z ≤ 0) <;> simp
    rcases d1 with d1 | d1
    · have d4 : decide (0 < cmpQ (x + z) (y + z)) = false := decide_eq_false (fun h => Rat.not_le.2 (cmpQ_gt.1 h) (Rat.add_le_add_right.2 (cmpQ_le.1 (of_decide_eq_true d1))))
      rcases d2 with d2 | d2
      · have d3 : decide (0 < cmpQ x z) = false := decide_eq_false (fun h => Rat.not_le.2 (cmpQ_gt.1 h) (Rat.le_trans (cmpQ_le.1 (of_decide_eq_true d1)) (cmpQ_le.1 (of_decide_eq_true d2))))
        refine g_of h ?_
        clear h
        repeat' first|kernel_rfl|apply g_seq|apply g_reg|apply g_nil|apply g_draw (id:=12) [(160, false), (165, true), (171, true), (178, false), (183, true)] [] 41|apply g_draw (id:=14) [] [] 12|apply o_all|apply o_go|exact OpsT.nil|exact GuardC.nil|exact UndefC.nil|refine @GuardC.cons _ _ _ _ inferInstance ?_|refine @UndefC.cons _ _ _ inferInstance ?_|apply g_box|apply g_all|apply g_sto|apply g_asg|refine g_run rfl inferInstance (by first|exact sL_fewA (by decide)|exact sL_works hE|exact sr_rightc hE (by omega)|exact sr_cmp hE (by omega)|exact sr_sign hE (by omega)|exact st_move'|exact st_load'|exact st_and_t'|exact st_and_f'|exact st_or_f'|exact st_or_t'|exact st_not' (b := true) (u := false) rfl|exact st_not' (b := false) (u := true) rfl|exact st_not' rfl|exact st_neq' (by first|assumption|rfl)|exact st_leq' (by first|assumption|rfl)|exact st_geq' (by first|assumption|rfl)|exact st_loadE') (by kernel_rfl) ?_|refine g_sk rfl inferInstance rfl (by kernel_rfl) ?_|refine g_un rfl inferInstance (by kernel_rfl) ?_|apply g_st|apply g_skip|apply g_ct|apply g_cf|apply g_ret|refine r_1 rfl ?_|apply g_cl|exact sL_fewA (by decide)|exact sL_works hE|exact sr_rightc hE (by omega)|exact sr_sum3 hE (by omega)|exact sr_prod3 hE (by omega)|exact st_neg' (cmpQ_neg _ _)|exact sR_two|exact sR_three|exact sr_div hE (by omega) (by assumption)|exact sr_div0 hE (by omega) (by assumption)|exact sr_add hE (by omega)|exact sr_sub hE (by omega)|exact sr_mul hE (by omega)|exact sr_neg hE (by omega)|exact sr_cmp hE (by omega)|exact sr_sign hE (by omega)|exact sr_min hE (by omega)|exact sr_max hE (by omega)|exact sr_sameU hE (by omega) (by assumption)|exact st_move'|exact st_assign'|exact st_load'|exact st_extract'|exact st_and_t'|exact st_and_f'|exact st_or_f'|exact st_or_t'|exact st_not' (b := true) (u := false) rfl|exact st_not' (b := false) (u := true) rfl|exact st_not' rfl|exact st_eq' (by first|assumption|rfl)|exact st_neq' (by first|assumption|rfl)|exact st_leq' (by first|assumption|rfl)|exact st_gtr' (by first|assumption|rfl)|exact st_geq' (by first|assumption|rfl)|exact st_loadE'|exact Cv.rfl'|(intro _;simp only[newX,newL,ptrs,List.map,List.cons_append,List.nil_append])|intro _
      · skip
        refine g_of h ?_
        clear h
        repeat' first|kernel_rfl|apply g_seq|apply g_reg|apply g_nil|apply g_draw (id:=12) [(160, false), (165, true), (171, false), (178, false), (183, true)] [] 41|apply g_draw (id:=14) [] [] 12|(apply o_sk;(focus rfl);(focus kernel_rfl))|apply o_all|apply o_go|exact OpsT.nil|exact GuardC.nil|exact UndefC.nil|refine @GuardC.cons _ _ _ _ inferInstance ?_|refine @UndefC.cons _ _ _ inferInstance ?_|apply g_box|apply g_all|apply g_sto|apply g_asg|refine g_run rfl inferInstance (by first|exact sL_fewA (by decide)|exact sL_works hE|exact sr_rightc hE (by omega)|exact sr_cmp hE (by omega)|exact sr_sign hE (by omega)|exact st_move'|exact st_load'|exact st_and_t'|exact st_and_f'|exact st_or_f'|exact st_or_t'|exact st_not' (b := true) (u := false) rfl|exact st_not' (b := false) (u := true) rfl|exact st_not' rfl|exact st_neq' (by first|assumption|rfl)|exact st_leq' (by first|assumption|rfl)|exact st_geq' (by first|assumption|rfl)|exact st_loadE') (by kernel_rfl) ?_|refine g_sk rfl inferInstance rfl (by kernel_rfl) ?_|refine g_un rfl inferInstance (by kernel_rfl) ?_|apply g_st|apply g_skip|apply g_ct|apply g_cf|apply g_ret|refine r_1 rfl ?_|apply g_cl|exact sL_fewA (by decide)|exact sL_works hE|exact sr_rightc hE (by omega)|exact sr_sum3 hE (by omega)|exact sr_prod3 hE (by omega)|exact st_neg' (cmpQ_neg _ _)|exact sR_two|exact sR_three|exact sr_div hE (by omega) (by assumption)|exact sr_div0 hE (by omega) (by assumption)|exact sr_add hE (by omega)|exact sr_sub hE (by omega)|exact sr_mul hE (by omega)|exact sr_neg hE (by omega)|exact sr_cmp hE (by omega)|exact sr_sign hE (by omega)|exact sr_min hE (by omega)|exact sr_max hE (by omega)|exact sr_sameU hE (by omega) (by assumption)|exact st_move'|exact st_assign'|exact st_load'|exact st_extract'|exact st_and_t'|exact st_and_f'|exact st_or_f'|exact st_or_t'|exact st_not' (b := true) (u := false) rfl|exact st_not' (b := false) (u := true) rfl|exact st_not' rfl|exact st_eq' (by first|assumption|rfl)|exact st_neq' (by first|assumption|rfl)|exact st_leq' (by first|assumption|rfl)|exact st_gtr' (by first|assumption|rfl)|exact st_geq' (by first|assumption|rfl)|exact st_loadE'|exact Cv.rfl'|(intro _;simp only[newX,newL,ptrs,List.map,List.cons_append,List.nil_append])|intro _
    · clear d2
      refine g_of h ?_
      clear h
      repeat' first|kernel_rfl|apply g_seq|apply g_reg|apply g_nil|apply g_draw (id:=12) [(160, false), (165, false), (171, false), (178, false), (183, false)] [] 41|apply g_draw (id:=14) [] [] 12|(apply o_sk;(focus rfl);(focus kernel_rfl))|apply o_all|apply o_go|exact OpsT.nil|exact GuardC.nil|exact UndefC.nil|refine @GuardC.cons _ _ _ _ inferInstance ?_|refine @UndefC.cons _ _ _ inferInstance ?_|apply g_box|apply g_all|apply g_sto|apply g_asg|refine g_run rfl inferInstance (by first|exact sL_fewA (by decide)|exact sL_works hE|exact sr_rightc hE (by omega)|exact sr_cmp hE (by omega)|exact sr_sign hE (by omega)|exact st_move'|exact st_load'|exact st_and_t'|exact st_and_f'|exact st_or_f'|exact st_or_t'|exact st_not' (b := true) (u := false) rfl|exact st_not' (b := false) (u := true) rfl|exact st_not' rfl|exact st_neq' (by first|assumption|rfl)|exact st_leq' (by first|assumption|rfl)|exact st_geq' (by first|assumption|rfl)|exact st_loadE') (by kernel_rfl) ?_|refine g_sk rfl inferInstance rfl (by kernel_rfl) ?_|refine g_un rfl inferInstance (by kernel_rfl) ?_|apply g_st|apply g_skip|apply g_ct|apply g_cf|apply g_ret|refine r_1 rfl ?_|apply g_cl|exact sL_fewA (by decide)|exact sL_works hE|exact sr_rightc hE (by omega)|exact sr_sum3 hE (by omega)|exact sr_prod3 hE (by omega)|exact st_neg' (cmpQ_neg _ _)|exact sR_two|exact sR_three|exact sr_div hE (by omega) (by assumption)|exact sr_div0 hE (by omega) (by assumption)|exact sr_add hE (by omega)|exact sr_sub hE (by omega)|exact sr_mul hE (by omega)|exact sr_neg hE (by omega)|exact sr_cmp hE (by omega)|exact sr_sign hE (by omega)|exact sr_min hE (by omega)|exact sr_max hE (by omega)|exact sr_sameU hE (by omega) (by assumption)|exact st_move'|exact st_assign'|exact st_load'|exact st_extract'|exact st_and_t'|exact st_and_f'|exact st_or_f'|exact st_or_t'|exact st_not' (b := true) (u := false) rfl|exact st_not' (b := false) (u := true) rfl|exact st_not' rfl|exact st_eq' (by first|assumption|rfl)|exact st_neq' (by first|assumption|rfl)|exact st_leq' (by first|assumption|rfl)|exact st_gtr' (by first|assumption|rfl)|exact st_geq' (by first|assumption|rfl)|exact st_loadE'|exact Cv.rfl'|(intro _;simp only[newX,newL,ptrs,List.map,List.cons_append,List.nil_append])|intro _
set_option synthInstance.maxSize 4000 in
set_option synthInstance.maxHeartbeats 400000 in
set_option maxRecDepth 20000 in
set_option maxHeartbeats 8000000 in
theorem cL_makes {X : List Nat} {w : World} (hE : Tab w) (hX : ∀ b ∈ X, b < w.heap.size) {v0 v1 v2 v3 : Value} {x y : RawI} {k m : Int} (h0 : (VTy.nz x).holds X w v0) (h1 : (VTy.nz y).holds X w v1) (h2 : (VTy.is (.int .i64 k)).holds X w v2) (h3 : (VTy.is (.int .i64 m)).holds X w v3) (hk : -9223372036854775808 ≤ k ∧ k ≤ 9223372036854775807) (hm : -9223372036854775808 ≤ m ∧ m ≤ 9223372036854775807) :
    Calls Tryz.prog 4 #[v0, v1, v2, v3] w (Gives X w (.is (.bool true))) := by
  cases e0 : decide ((4 : Int) < (x.2.length : Int)) with
  | true =>
    refine ts_enter (Ts := [.nz x, .nz y, .is (.int .i64 k), .is (.int .i64 m)]) (vs := [v0, v1, v2, v3]) Tryz.func4 rfl Tryz.ntmps4 (by simp) hX ⟨h0, h1, h2, h3, trivial⟩ fun a h => ?_
    clear h0 h1 h2 h3 hX
    simp only [argE, Nat.zero_add, Nat.reduceAdd] at h
    refine g_of h ?_
    clear h
    repeat' first|kernel_rfl|apply g_seq|apply g_reg|apply g_nil|apply o_all|apply o_go|exact OpsT.nil|exact GuardC.nil|exact UndefC.nil|refine @GuardC.cons _ _ _ _ inferInstance ?_|refine @UndefC.cons _ _ _ inferInstance ?_|apply g_box|apply g_all|apply g_sto|apply g_asg|refine g_run rfl inferInstance (by first|exact st_lenL|exact st_load'|exact st_fieldAddr'|exact st_gtr' (by first|assumption|rfl)|exact st_len'|exact st_loadE') (by kernel_rfl) ?_|refine g_sk rfl inferInstance rfl (by kernel_rfl) ?_|refine g_un rfl inferInstance (by kernel_rfl) ?_|apply g_st|apply g_skip|apply g_ct|apply g_cf|apply g_ret|refine r_1 rfl ?_|apply g_cl|exact st_lenL|exact sL_works hE|exact sr_new hE (by omega) (by assumption)|exact sr_new0 hE (by omega) (by assumption)|exact sr_of hE (by assumption) (by assumption) (by assumption)|exact sr_of0 hE (by assumption) (by assumption) (by assumption)|exact s4_of (by assumption) (by assumption) (by assumption)|exact s4_of0 (by assumption) (by assumption) (by assumption)|exact s4_new (by omega) (by assumption)|exact s4_new0 (by omega) (by assumption)|exact sL_plain (by decide)|exact sr_whole hE (by assumption)|exact s4_whole (by assumption)|exact sL_is rfl|exact st_move'|exact st_assign'|exact st_load'|exact st_fieldAddr'|exact st_extract'|exact st_and_t'|exact st_and_f'|exact st_or_f'|exact st_or_t'|exact st_eq' (by first|assumption|rfl)|exact st_neq' (by first|assumption|rfl)|exact st_gtr' (by first|assumption|rfl)|exact st_len'|exact st_loadE'|exact Cv.rfl'|(intro _;simp only[newX,newL,ptrs,List.map,List.cons_append,List.nil_append])|intro _
  | false =>
    cases e1 : decide ((4 : Int) < (y.2.length : Int)) with
    | true =>
      refine ts_enter (Ts := [.nz x, .nz y, .is (.int .i64 k), .is (.int .i64 m)]) (vs := [v0, v1, v2, v3]) Tryz.func4 rfl Tryz.ntmps4 (by simp) hX ⟨h0, h1, h2, h3, trivial⟩ fun a h => ?_
      clear h0 h1 h2 h3 hX
      simp only [argE, Nat.zero_add, Nat.reduceAdd] at h
      refine g_of h ?_
      clear h
      repeat' first|kernel_rfl|apply g_seq|apply g_reg|apply g_nil|apply o_all|apply o_go|exact OpsT.nil|exact GuardC.nil|exact UndefC.nil|refine @GuardC.cons _ _ _ _ inferInstance ?_|refine @UndefC.cons _ _ _ inferInstance ?_|apply g_box|apply g_all|apply g_sto|apply g_asg|refine g_run rfl inferInstance (by first|exact st_lenL|exact st_load'|exact st_fieldAddr'|exact st_gtr' (by first|assumption|rfl)|exact st_len'|exact st_loadE') (by kernel_rfl) ?_|refine g_sk rfl inferInstance rfl (by kernel_rfl) ?_|refine g_un rfl inferInstance (by kernel_rfl) ?_|apply g_st|apply g_skip|apply g_ct|apply g_cf|apply g_ret|refine r_1 rfl ?_|apply g_cl|exact st_lenL|exact sL_works hE|exact sr_new hE (by omega) (by assumption)|exact sr_new0 hE (by omega) (by assumption)|exact sr_of hE (by assumption) (by assumption) (by assumption)|exact sr_of0 hE (by assumption) (by assumption) (by assumption)|exact s4_of (by assumption) (by assumption) (by assumption)|exact s4_of0 (by assumption) (by assumption) (by assumption)|exact s4_new (by omega) (by assumption)|exact s4_new0 (by omega) (by assumption)|exact sL_plain (by decide)|exact sr_whole hE (by assumption)|exact s4_whole (by assumption)|exact sL_is rfl|exact st_move'|exact st_assign'|exact st_load'|exact st_fieldAddr'|exact st_extract'|exact st_and_t'|exact st_and_f'|exact st_or_f'|exact st_or_t'|exact st_eq' (by first|assumption|rfl)|exact st_neq' (by first|assumption|rfl)|exact st_gtr' (by first|assumption|rfl)|exact st_len'|exact st_loadE'|exact Cv.rfl'|(intro _;simp only[newX,newL,ptrs,List.map,List.cons_append,List.nil_append])|intro _
    | false =>
      replace h0 := nz_nx (k := 4) h0 e0
      replace h1 := nz_nx (k := 4) h1 e1
      refine ts_enter (Ts := [.nx x 4, .nx y 4, .is (.int .i64 k), .is (.int .i64 m)]) (vs := [v0, v1, v2, v3]) Tryz.func4 rfl Tryz.ntmps4 (by simp) hX ⟨h0, h1, h2, h3, trivial⟩ fun a h => ?_
      clear h0 h1 h2 h3 hX
      simp only [argE, Nat.zero_add, Nat.reduceAdd] at h
      by_cases hy : iv y = 0
      · by_cases hz : m = 0
        · skip
          refine g_of h ?_
          clear h
          repeat' first|kernel_rfl|apply g_seq|apply g_reg|apply g_nil|refine' g_drawL (id:=6) [] [] 9 7 54 47 1 31 _ _ 15 (.tmp 53) rfl rfl (by kernel_rfl) ?_ ?_ ?_ ?_ ?_ ?_|apply g_dst|apply g_draw (id:=8) [(60, true), (63, true), (69, true), (74, true), (77, true), (83, true), (89, true)] [] 35|(apply o_sk;(focus rfl);(focus kernel_rfl))|apply o_all|apply o_go|exact OpsT.nil|exact GuardC.nil|exact UndefC.nil|refine @GuardC.cons _ _ _ _ inferInstance ?_|refine @UndefC.cons _ _ _ inferInstance ?_|apply g_box|apply g_all|apply g_sto|apply g_asg|refine g_run rfl inferInstance (by first|exact st_lenL|exact st_load'|exact st_fieldAddr'|exact st_gtr' (by first|assumption|rfl)|exact st_len'|exact st_loadE') (by kernel_rfl) ?_|refine g_sk rfl inferInstance rfl (by kernel_rfl) ?_|refine g_un rfl inferInstance (by kernel_rfl) ?_|apply g_st|apply g_skip|apply g_ct|apply g_cf|apply g_ret|refine r_1 rfl ?_|apply g_cl|exact st_lenL|exact sL_works hE|exact sr_new hE (by omega) (by assumption)|exact sr_new0 hE (by omega) (by assumption)|exact sr_of hE (by assumption) (by assumption) (by assumption)|exact sr_of0 hE (by assumption) (by assumption) (by assumption)|exact s4_of (by assumption) (by assumption) (by assumption)|exact s4_of0 (by assumption) (by assumption) (by assumption)|exact s4_new (by omega) (by assumption)|exact s4_new0 (by omega) (by assumption)|exact sL_plain (by decide)|exact sr_whole hE (by assumption)|exact s4_whole (by assumption)|exact sL_is rfl|exact st_move'|exact st_assign'|exact st_load'|exact st_fieldAddr'|exact st_extract'|exact st_and_t'|exact st_and_f'|exact st_or_f'|exact st_or_t'|exact st_eq' (by first|assumption|rfl)|exact st_neq' (by first|assumption|rfl)|exact st_gtr' (by first|assumption|rfl)|exact st_len'|exact st_loadE'|exact Cv.rfl'|(intro _;simp only[newX,newL,ptrs,List.map,List.cons_append,List.nil_append])|intro _
        · skip
          refine g_of h ?_
          clear h
          repeat' first|kernel_rfl|apply g_seq|apply g_reg|apply g_nil|refine' g_drawL (id:=6) [] [] 9 7 54 47 1 31 _ _ 15 (.tmp 53) rfl rfl (by kernel_rfl) ?_ ?_ ?_ ?_ ?_ ?_|apply g_dst|apply g_draw (id:=8) [(60, true), (63, true), (69, true), (74, true), (77, false), (83, true), (89, true)] [] 35|(apply o_sk;(focus rfl);(focus kernel_rfl))|apply o_all|apply o_go|exact OpsT.nil|exact GuardC.nil|exact UndefC.nil|refine @GuardC.cons _ _ _ _ inferInstance ?_|refine @UndefC.cons _ _ _ inferInstance ?_|apply g_box|apply g_all|apply g_sto|apply g_asg|refine g_run rfl inferInstance (by first|exact st_lenL|exact st_load'|exact st_fieldAddr'|exact st_gtr' (by first|assumption|rfl)|exact st_len'|exact st_loadE') (by kernel_rfl) ?_|refine g_sk rfl inferInstance rfl (by kernel_rfl) ?_|refine g_un rfl inferInstance (by kernel_rfl) ?_|apply g_st|apply g_skip|apply g_ct|apply g_cf|apply g_ret|refine r_1 rfl ?_|apply g_cl|exact st_lenL|exact sL_works hE|exact sr_new hE (by omega) (by assumption)|exact sr_new0 hE (by omega) (by assumption)|exact sr_of hE (by assumption) (by assumption) (by assumption)|exact sr_of0 hE (by assumption) (by assumption) (by assumption)|exact s4_of (by assumption) (by assumption) (by assumption)|exact s4_of0 (by assumption) (by assumption) (by assumption)|exact s4_new (by omega) (by assumption)|exact s4_new0 (by omega) (by assumption)|exact sL_plain (by decide)|exact sr_whole hE (by assumption)|exact s4_whole (by assumption)|exact sL_is rfl|exact st_move'|exact st_assign'|exact st_load'|exact st_fieldAddr'|exact st_extract'|exact st_and_t'|exact st_and_f'|exact st_or_f'|exact st_or_t'|exact st_eq' (by first|assumption|rfl)|exact st_neq' (by first|assumption|rfl)|exact st_gtr' (by first|assumption|rfl)|exact st_len'|exact st_loadE'|exact Cv.rfl'|(intro _;simp only[newX,newL,ptrs,List.map,List.cons_append,List.nil_append])|intro _
      · by_cases hz : m = 0
        · skip
          refine g_of h ?_
          clear h
          repeat' first|kernel_rfl|apply g_seq|apply g_reg|apply g_nil|refine' g_drawL (id:=6) [] [] 9 7 54 47 1 31 _ _ 15 (.tmp 53) rfl rfl (by kernel_rfl) ?_ ?_ ?_ ?_ ?_ ?_|apply g_dst|apply g_draw (id:=8) [(60, true), (63, false), (69, true), (74, true), (77, true), (83, true), (89, true)] [] 35|(apply o_sk;(focus rfl);(focus kernel_rfl))|apply o_all|apply o_go|exact OpsT.nil|exact GuardC.nil|exact UndefC.nil|refine @GuardC.cons _ _ _ _ inferInstance ?_|refine @UndefC.cons _ _ _ inferInstance ?_|apply g_box|apply g_all|apply g_sto|apply g_asg|refine g_run rfl inferInstance (by first|exact st_lenL|exact st_load'|exact st_fieldAddr'|exact st_gtr' (by first|assumption|rfl)|exact st_len'|exact st_loadE') (by kernel_rfl) ?_|refine g_sk rfl inferInstance rfl (by kernel_rfl) ?_|refine g_un rfl inferInstance (by kernel_rfl) ?_|apply g_st|apply g_skip|apply g_ct|apply g_cf|apply g_ret|refine r_1 rfl ?_|apply g_cl|exact st_lenL|exact sL_works hE|exact sr_new hE (by omega) (by assumption)|exact sr_new0 hE (by omega) (by assumption)|exact sr_of hE (by assumption) (by assumption) (by assumption)|exact sr_of0 hE (by assumption) (by assumption) (by assumption)|exact s4_of (by assumption) (by assumption) (by assumption)|exact s4_of0 (by assumption) (by assumption) (by assumption)|exact s4_new (by omega) (by assumption)|exact s4_new0 (by omega) (by assumption)|exact sL_plain (by decide)|exact sr_whole hE (by assumption)|exact s4_whole (by assumption)|exact sL_is rfl|exact st_move'|exact st_assign'|exact st_load'|exact st_fieldAddr'|exact st_extract'|exact st_and_t'|exact st_and_f'|exact st_or_f'|exact st_or_t'|exact st_eq' (by first|assumption|rfl)|exact st_neq' (by first|assumption|rfl)|exact st_gtr' (by first|assumption|rfl)|exact st_len'|exact st_loadE'|exact Cv.rfl'|(intro _;simp only[newX,newL,ptrs,List.map,List.cons_append,List.nil_append])|intro _
        · skip
          refine g_of h ?_
          clear h
          repeat' first|kernel_rfl|apply g_seq|apply g_reg|apply g_nil|refine' g_drawL (id:=6) [] [] 9 7 54 47 1 31 _ _ 15 (.tmp 53) rfl rfl (by kernel_rfl) ?_ ?_ ?_ ?_ ?_ ?_|apply g_dst|apply g_draw (id:=8) [(60, true), (63, false), (69, true), (74, true), (77, false), (83, true), (89, true)] [] 35|apply o_all|apply o_go|exact OpsT.nil|exact GuardC.nil|exact UndefC.nil|refine @GuardC.cons _ _ _ _ inferInstance ?_|refine @UndefC.cons _ _ _ inferInstance ?_|apply g_box|apply g_all|apply g_sto|apply g_asg|refine g_run rfl inferInstance (by first|exact st_lenL|exact st_load'|exact st_fieldAddr'|exact st_gtr' (by first|assumption|rfl)|exact st_len'|exact st_loadE') (by kernel_rfl) ?_|refine g_sk rfl inferInstance rfl (by kernel_rfl) ?_|refine g_un rfl inferInstance (by kernel_rfl) ?_|apply g_st|apply g_skip|apply g_ct|apply g_cf|apply g_ret|refine r_1 rfl ?_|apply g_cl|exact st_lenL|exact sL_works hE|exact sr_new hE (by omega) (by assumption)|exact sr_new0 hE (by omega) (by assumption)|exact sr_of hE (by assumption) (by assumption) (by assumption)|exact sr_of0 hE (by assumption) (by assumption) (by assumption)|exact s4_of (by assumption) (by assumption) (by assumption)|exact s4_of0 (by assumption) (by assumption) (by assumption)|exact s4_new (by omega) (by assumption)|exact s4_new0 (by omega) (by assumption)|exact sL_plain (by decide)|exact sr_whole hE (by assumption)|exact s4_whole (by assumption)|exact sL_is rfl|exact st_move'|exact st_assign'|exact st_load'|exact st_fieldAddr'|exact st_extract'|exact st_and_t'|exact st_and_f'|exact st_or_f'|exact st_or_t'|exact st_eq' (by first|assumption|rfl)|exact st_neq' (by first|assumption|rfl)|exact st_gtr' (by first|assumption|rfl)|exact st_len'|exact st_loadE'|exact Cv.rfl'|(intro _;simp only[newX,newL,ptrs,List.map,List.cons_append,List.nil_append])|intro _
set_option synthInstance.maxSize 4000 in
set_option synthInstance.maxHeartbeats 400000 in
set_option maxRecDepth 20000 in
set_option maxHeartbeats 8000000 in
theorem cL_field {X : List Nat} {w : World} (hE : Tab w) (hX : ∀ b ∈ X, b < w.heap.size) {v0 v1 v2 : Value} {x y z : RawQ} (h0 : (VTy.qz x).holds X w v0) (h1 : (VTy.qz y).holds X w v1) (h2 : (VTy.qz z).holds X w v2) :
    Calls Tryz.prog 6 #[v0, v1, v2] w (Gives X w (.is (.bool true))) := by
  cases e0 : (decide ((x.1.2.length : Int) ≤ 8) && decide ((x.2.2.length : Int) ≤ 8)) with
  | false =>
    refine ts_enter (Ts := [.qz x, .qz y, .qz z]) (vs := [v0, v1, v2]) Tryz.func6 rfl Tryz.ntmps6 (by simp) hX ⟨h0, h1, h2, trivial⟩ fun a h => ?_
    clear h0 h1 h2 hX
    simp only [argE, Nat.zero_add, Nat.reduceAdd] at h
    refine g_of h ?_
    clear h
    repeat' first|kernel_rfl|apply g_seq|apply g_reg|apply g_nil|apply o_all|apply o_go|exact OpsT.nil|exact GuardC.nil|exact UndefC.nil|refine @GuardC.cons _ _ _ _ inferInstance ?_|refine @UndefC.cons _ _ _ inferInstance ?_|apply g_box|apply g_all|apply g_sto|apply g_asg|refine g_run rfl inferInstance (by first|exact sL_fewU (by assumption)|exact sL_works hE|exact st_move'|exact st_load'|exact st_and_t'|exact st_and_f'|exact st_or_f'|exact st_or_t'|exact st_not' (b := true) (u := false) rfl|exact st_not' (b := false) (u := true) rfl|exact st_not' rfl|exact st_neq' (by first|assumption|rfl)|exact st_leq' (by first|assumption|rfl)|exact st_geq' (by first|assumption|rfl)|exact st_loadE') (by kernel_rfl) ?_|refine g_sk rfl inferInstance rfl (by kernel_rfl) ?_|refine g_un rfl inferInstance (by kernel_rfl) ?_|apply g_st|apply g_skip|apply g_ct|apply g_cf|apply g_ret|refine r_1 rfl ?_|apply g_cl|exact sL_fewU (by assumption)|exact sL_works hE|exact st_move'|exact st_assign'|exact st_load'|exact st_extract'|exact st_and_t'|exact st_and_f'|exact st_or_f'|exact st_or_t'|exact st_not' (b := true) (u := false) rfl|exact st_not' (b := false) (u := true) rfl|exact st_not' rfl|exact st_eq' (by first|assumption|rfl)|exact st_neq' (by first|assumption|rfl)|exact st_leq' (by first|assumption|rfl)|exact st_gtr' (by first|assumption|rfl)|exact st_geq' (by first|assumption|rfl)|exact st_loadE'|exact Cv.rfl'|(intro _;simp only[newX,newL,ptrs,List.map,List.cons_append,List.nil_append])|intro _
  | true =>
    cases e1 : (decide ((y.1.2.length : Int) ≤ 8) && decide ((y.2.2.length : Int) ≤ 8)) with
    | false =>
      refine ts_enter (Ts := [.qz x, .qz y, .qz z]) (vs := [v0, v1, v2]) Tryz.func6 rfl Tryz.ntmps6 (by simp) hX ⟨h0, h1, h2, trivial⟩ fun a h => ?_
      clear h0 h1 h2 hX
      simp only [argE, Nat.zero_add, Nat.reduceAdd] at h
      refine g_of h ?_
      clear h
      repeat' first|kernel_rfl|apply g_seq|apply g_reg|apply g_nil|apply o_all|apply o_go|exact OpsT.nil|exact GuardC.nil|exact UndefC.nil|refine @GuardC.cons _ _ _ _ inferInstance ?_|refine @UndefC.cons _ _ _ inferInstance ?_|apply g_box|apply g_all|apply g_sto|apply g_asg|refine g_run rfl inferInstance (by first|exact sL_fewU (by assumption)|exact sL_works hE|exact st_move'|exact st_load'|exact st_and_t'|exact st_and_f'|exact st_or_f'|exact st_or_t'|exact st_not' (b := true) (u := false) rfl|exact st_not' (b := false) (u := true) rfl|exact st_not' rfl|exact st_neq' (by first|assumption|rfl)|exact st_leq' (by first|assumption|rfl)|exact st_geq' (by first|assumption|rfl)|exact st_loadE') (by kernel_rfl) ?_|refine g_sk rfl inferInstance rfl (by kernel_rfl) ?_|refine g_un rfl inferInstance (by kernel_rfl) ?_|apply g_st|apply g_skip|apply g_ct|apply g_cf|apply g_ret|refine r_1 rfl ?_|apply g_cl|exact sL_fewU (by assumption)|exact sL_works hE|exact st_move'|exact st_assign'|exact st_load'|exact st_extract'|exact st_and_t'|exact st_and_f'|exact st_or_f'|exact st_or_t'|exact st_not' (b := true) (u := false) rfl|exact st_not' (b := false) (u := true) rfl|exact st_not' rfl|exact st_eq' (by first|assumption|rfl)|exact st_neq' (by first|assumption|rfl)|exact st_leq' (by first|assumption|rfl)|exact st_gtr' (by first|assumption|rfl)|exact st_geq' (by first|assumption|rfl)|exact st_loadE'|exact Cv.rfl'|(intro _;simp only[newX,newL,ptrs,List.map,List.cons_append,List.nil_append])|intro _
    | true =>
      cases e2 : (decide ((z.1.2.length : Int) ≤ 8) && decide ((z.2.2.length : Int) ≤ 8)) with
      | false =>
        refine ts_enter (Ts := [.qz x, .qz y, .qz z]) (vs := [v0, v1, v2]) Tryz.func6 rfl Tryz.ntmps6 (by simp) hX ⟨h0, h1, h2, trivial⟩ fun a h => ?_
        clear h0 h1 h2 hX
        simp only [argE, Nat.zero_add, Nat.reduceAdd] at h
        refine g_of h ?_
        clear h
        repeat' first|kernel_rfl|apply g_seq|apply g_reg|apply g_nil|apply o_all|apply o_go|exact OpsT.nil|exact GuardC.nil|exact UndefC.nil|refine @GuardC.cons _ _ _ _ inferInstance ?_|refine @UndefC.cons _ _ _ inferInstance ?_|apply g_box|apply g_all|apply g_sto|apply g_asg|refine g_run rfl inferInstance (by first|exact sL_fewU (by assumption)|exact sL_works hE|exact st_move'|exact st_load'|exact st_and_t'|exact st_and_f'|exact st_or_f'|exact st_or_t'|exact st_not' (b := true) (u := false) rfl|exact st_not' (b := false) (u := true) rfl|exact st_not' rfl|exact st_neq' (by first|assumption|rfl)|exact st_leq' (by first|assumption|rfl)|exact st_geq' (by first|assumption|rfl)|exact st_loadE') (by kernel_rfl) ?_|refine g_sk rfl inferInstance rfl (by kernel_rfl) ?_|refine g_un rfl inferInstance (by kernel_rfl) ?_|apply g_st|apply g_skip|apply g_ct|apply g_cf|apply g_ret|refine r_1 rfl ?_|apply g_cl|exact sL_fewU (by assumption)|exact sL_works hE|exact st_move'|exact st_assign'|exact st_load'|exact st_extract'|exact st_and_t'|exact st_and_f'|exact st_or_f'|exact st_or_t'|exact st_not' (b := true) (u := false) rfl|exact st_not' (b := false) (u := true) rfl|exact st_not' rfl|exact st_eq' (by first|assumption|rfl)|exact st_neq' (by first|assumption|rfl)|exact st_leq' (by first|assumption|rfl)|exact st_gtr' (by first|assumption|rfl)|exact st_geq' (by first|assumption|rfl)|exact st_loadE'|exact Cv.rfl'|(intro _;simp only[newX,newL,ptrs,List.map,List.cons_append,List.nil_append])|intro _
      | true => exact cL_fieldA hE hX ((inferInstance : AsQ (.qx x 8) (qv x) 8).ok (few_qa (k := 8) (by decide) h0 e0)) ((inferInstance : AsQ (.qx y 8) (qv y) 8).ok (few_qa (k := 8) (by decide) h1 e1)) ((inferInstance : AsQ (.qx z 8) (qv z) 8).ok (few_qa (k := 8) (by decide) h2 e2))
end Go.Proofs.YtjedonnmhplffaaGreatDoor
