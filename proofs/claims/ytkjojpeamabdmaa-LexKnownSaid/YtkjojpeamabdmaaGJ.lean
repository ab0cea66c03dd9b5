/- LexJoins: a text with a byte 10 behind, and another one behind that, has both's lines, or an error of one of them. -/
import Derived.Test.YtkjojpeamabdmaaGI
set_option linter.unusedSimpArgs false
set_option linter.unusedVariables false
namespace Go.Proofs.Ytkjojpeamabdmaa
open Go Go.RowKit
theorem lx_pos : ∀ (l : List UInt8) (i : Int) (out : List Ln) (ws : List Wd) (la : Int) (rem op : Bool), (lx l i out ws la rem op).2.2 = 70 → i ≤ (lx l i out ws la rem op).2.1 ∧ (lx l i out ws la rem op).2.1 < i + l.length
  | [], _, _, _, _, _, _, h => absurd (show (0 : Int) = 70 from h) (by decide)
  | c :: r, i, out, ws, la, rem, op, h => by
    have ih := fun out ws la rem op => lx_pos r (i + 1) out ws la rem op
    rw [List.length_cons]
    unfold lx at h ⊢
    cases h1 : ((c.toNat : Int) == 10) <;> cases h2 : (rem || (c.toNat : Int) == 35) <;> cases h3 : isB c <;> cases h4 : isW c <;> cases op <;> simp only [h1, h2, h3, h4, cond_true, cond_false, Bool.not_true, Bool.not_false] at h ⊢ <;> first | (have := ih _ _ _ _ _ h; omega) | omega
/-- What is said of both texts, and of the joined one. -/
theorem lexR_join {a b : List UInt8} (ha : a.length ≤ 1000) (hb : b.length ≤ 1000) :
    (∃ m, lexR a = ([], m, 70) ∧ lexR ((a ++ [10]) ++ b) = ([], m, 70)) ∨
    (∃ la n, lexR a = (la, 0, 0) ∧ lexR b = ([], n, 70) ∧ 0 ≤ n ∧ n ≤ 1000 ∧ lexR ((a ++ [10]) ++ b) = ([], (a.length : Int) + 1 + n, 70)) ∨
    ∃ la lb lz, lexR a = (la, 0, 0) ∧ lexR b = (lb, 0, 0) ∧ lexR ((a ++ [10]) ++ b) = (lz, 0, 0) ∧ txs lz = txs (la ++ lb) := by
  have e : (a ++ [10]) ++ b = a ++ 10 :: b := by rw [List.append_assoc]; rfl
  have e1 : lexR a = lx a 0 [] [] 0 false false := by unfold lexR; rw [decide_eq_false (by omega)]; rfl
  have e2 : lexR b = lx b 0 [] [] 0 false false := by unfold lexR; rw [decide_eq_false (by omega)]; rfl
  have e3 : lexR (a ++ 10 :: b) = lx (a ++ 10 :: b) 0 [] [] 0 false false := by unfold lexR; rw [decide_eq_false (by rw [List.length_append, List.length_cons]; omega)]; rfl
  rw [e, e1, e2, e3, lx_join]
  have hA := lx_e a 0 [] [] 0 false false
  have hs := lx_shift b 0 ((a.length : Int) + 1) [] (lx a 0 [] [] 0 false false).1 [] [] 0 ((a.length : Int) + 1) false false rfl
  have hB := lx_e b 0 [] [] 0 false false
  have hp := lx_pos b 0 [] [] 0 false false
  have ez : (0 : Int) + (a.length : Int) + 1 = 0 + ((a.length : Int) + 1) := by omega
  rw [ez]
  have hZ := lx_e b (0 + ((a.length : Int) + 1)) (lx a 0 [] [] 0 false false).1 [] ((a.length : Int) + 1) false false
  have ez2 : lx b (0 + ((a.length : Int) + 1)) (lx a 0 [] [] 0 false false).1 [] (0 + ((a.length : Int) + 1)) false false = lx b (0 + ((a.length : Int) + 1)) (lx a 0 [] [] 0 false false).1 [] ((a.length : Int) + 1) false false := by rw [Int.zero_add]
  rw [ez2]
  generalize lx b (0 + ((a.length : Int) + 1)) (lx a 0 [] [] 0 false false).1 [] ((a.length : Int) + 1) false false = Z at *
  generalize lx a 0 [] [] 0 false false = A at *
  generalize lx b 0 [] [] 0 false false = B at *
  obtain ⟨la, m, ea⟩ := A
  obtain ⟨lb, n, eb⟩ := B
  obtain ⟨lz, k, ek⟩ := Z
  simp only at hA hB hs hp hZ ⊢
  rcases hA with ⟨rfl, rfl⟩ | ⟨rfl, rfl⟩
  · rcases hB with ⟨rfl, rfl⟩ | ⟨rfl, rfl⟩
    · obtain ⟨h1, _, h3⟩ := hs
      subst h1
      obtain ⟨x, g1, g2⟩ := h3 rfl
      rcases hZ with ⟨_, rfl⟩ | ⟨h, _⟩
      · refine .inr (.inr ⟨la, lb, lz, rfl, rfl, rfl, ?_⟩)
        have g1' : txs lb = x := g1
        rw [g2, txs_app, ← g1']
      · cases h
    · obtain ⟨h1, h2, _⟩ := hs
      subst h1
      have h2 := h2 rfl
      have := hp rfl
      rcases hZ with ⟨h, _⟩ | ⟨_, rfl⟩
      · cases h
      · refine .inr (.inl ⟨la, n, rfl, rfl, by omega, by omega, ?_⟩)
        rw [h2]
        show ([], _, _) = _
        congr 2
        omega
  · exact .inl ⟨m, rfl, rfl⟩
theorem eqA_map {α β : Type} [BEq β] [LawfulBEq β] {f : α → α → Bool} {g : α → β} (h : ∀ x y, g x = g y → f x y = true) : ∀ {a b : List α}, a.map g = b.map g → eqA f a b = true
  | [], [], _ => rfl
  | x :: a, y :: b, e => by
    rw [List.map_cons, List.map_cons] at e
    injection e with e1 e2
    show (f x y && eqA f a b) = true
    rw [h x y e1, eqA_map h e2]; rfl
  | [], _ :: _, e => by cases e
  | _ :: _, [], e => by cases e
theorem sameB_txs {a b : List Ln} (h : txs a = txs b) : sameB false a b = true := eqA_map (fun x y e => by
  show (true && eqA (sameW false) x.1 y.1) = true
  rw [Bool.true_and]
  exact eqA_map (g := Prod.fst) (fun u v e => by show ((u.1 == v.1) && true) = true; rw [e, beq_self_eq_true]; rfl) e) h
section
variable {P : Program} {w00 : World} {X : List Nat} {L : List Loc} {E E0 : List (Nat × VTy)} {n : Nat} {ops : Array Oper} {rest : List Oper} {Q : Exit → Act → World → Prop} {cs : List Code} {t0 : TypeId} {pos : String} {af : Array Edge}
/-- Ahead of a region a row is let be. -/
theorem g_ageR {id : Nat} {l : List Oper} {s : Nat} {T : VTy} (ss : List Nat) [k : KeepC E (s :: ss) ((s, T) :: E0)] (h : ∀ B, w00.heap.size ≤ B → GR P w00 X L ((s, .und B T) :: E0) n l.toArray l cs Q) : GC P w00 X L E n (Code.region id l.toArray false :: cs) Q := ⟨fun a w ht => by
  have h1 := (ht.keep (s :: ss)).ageE
  exact wp_region_lit ((h w.heap.size ht.mem.below.size).run a w h1).out⟩
/-- Append of a row to a row of the call's own. -/
theorem g_app2 {α : Type} {r : Rp α} {e t : TypeId} {p : α → Prop} {B B2 s x d bytes : Nat} {l m : List α} {Ts Tx' : VTy} (ss : List Nat) (hB0 : w00.heap.size ≤ B) (hsz : ∀ a w, TS w00 X L E n a w → B ≤ w.heap.size) [hs : Look E s Ts] [ao : AsOw Ts r e p B l] [hx : Look E x Tx'] [ax : AsOw Tx' r e p B2 m] [k : KeepC E ss E0] [kL : SurvUL B L] [kE : SurvUL B E0] (T : ElemV P t e r.k bytes)
    (hlen : l.length + m.length ≤ 1000000) (hby : bytes ≤ 1000) (hd : (Nat.blt d n && !(E0.map Prod.fst).elem d) = true)
    (h : GR P w00 X L ((d, .ow r e p B (l ++ m)) :: E0) n ops rest cs Q) : GR P w00 X L E n ops (⟨some d, .call { callee := .builtin .append, args := #[.tmp s, .tmp x], argTypes := #[t, t] }, t0, pos, af, none⟩ :: rest) cs Q := ⟨fun a w ht => by
  simp only [Bool.and_eq_true, Bool.not_eq_true'] at hd
  have hBw := hsz a w ht
  obtain ⟨A, c, ps, es, hps, hrd, hown, hfree, hnil⟩ := ao.ok (ht.slots _ hs.mem)
  obtain ⟨A2, c2, ps2, ex, hps2, hrd2, hown2, hfree2, hnil2⟩ := ax.ok (ht.slots _ hx.mem)
  have hpos := T.pos
  have hmx : l.length + m.length ≤ maxLen := by unfold maxLen; omega
  have h1c : ∀ u ∈ ps2.flatMap Prod.snd, u.oneCell' = true := fun u hu => by
    obtain ⟨q, hq, hu⟩ := List.mem_flatMap.1 hu
    exact r.one (hrd2 q hq).2 u hu
  obtain ⟨A', c', w', hr, h2, h3, h4⟩ := run_appV (A := A) (A2 := A2) T t0 hown hown2.sl h1c (by have := Nat.mul_le_mul (show l.length + m.length ≤ 1000000 by omega) hby; omega) hmx hBw
  have hch : Ch B X w w' := ⟨h3.os, h3.tape, h3.output, h3.size, fun g hg => by
    by_cases hA : blk A = some g
    · exact .inr ⟨(hown.blk_ g hA).1, (hfree g hA).2⟩
    · exact .inl (h3.block g hg (fun e => hA e.symm))⟩
  have hkK : ∀ g, FreeK e X w g → w'.heap[g]? = w.heap[g]? := fun g hg => h3.block g hg.1.1 (fun e' => by
    obtain ⟨cur, hcur⟩ := hown.type e'.symm
    obtain ⟨_, cs', t', f', h5, h6⟩ := hg
    rw [hcur] at h5
    injection h5 with h5
    injection h5 with _ h5 _
    exact h6 h5.symm)
  have hmoreK : ∀ g, FreeK e X w g → FreeK e X w' g := fun g hg => by
    obtain ⟨h1, cs', t', f', h5, h6⟩ := hg
    exact ⟨⟨Nat.lt_of_lt_of_le h1.1 h3.size, h1.2⟩, cs', t', f', (hkK g ⟨h1, cs', t', f', h5, h6⟩).trans h5, h6⟩
  have hT : (VTy.ow r e p B (l ++ m)).holds X w' (.slice A' (l.length + m.length) c') := by
    refine ⟨A', c', ps ++ ps2, by simp, by simp [hps, hps2], fun q hq => ?_, by simpa using h2, fun g hg => ?_, fun h => ?_⟩
    · rcases List.mem_append.1 hq with hq | hq
      · exact ⟨(hrd q hq).1, r.more (r.keep (hrd q hq).2 hkK) hmoreK⟩
      · exact ⟨(hrd2 q hq).1, r.more (r.keep (hrd2 q hq).2 hkK) hmoreK⟩
    · have hlt := (h2.blk_ g hg).2
      rcases h4 g hg with h5 | h5
      · exact ⟨hlt, (hfree g h5).2⟩
      · exact ⟨hlt, fun hx => by have := ht.mem.far g hx; omega⟩
    · have h' : l = [] ∧ m = [] := by simpa using h
      have hA := hnil h'.1
      have hA2 := hnil2 h'.2
      subst hA; subst hA2
      have hm0 : m.length = 0 := by rw [h'.2]; rfl
      have hl0 : l.length = 0 := by rw [h'.1]; rfl
      cases A' with
      | none => rfl
      | some ad =>
        exfalso
        have hc0 : c = 0 := by rcases hown.form with ⟨_, _, hc⟩ | ⟨g, hg, _⟩; exact hc; cases hg
        have hc20 : c2 = 0 := by rcases hown2.form with ⟨_, _, hc⟩ | ⟨g, hg, _⟩; exact hc; cases hg
        subst hc0; subst hc20
        have hr0 := run_append_owned_none (P := P) w B t t0 e _ r.k T.slice (T.info.choose_spec.choose_spec.1) _ l.length _ hown
        rw [hm0, hl0] at hr
        rw [hl0] at hr0
        rw [hr0] at hr
        injection hr with hr _
        cases hr
  have h5 := (ht.keep (E' := E0) ss).ch hch hB0
  refine ⟨wpList_plain rfl fun K hK' => ?_⟩
  have e1 : a.eval (.tmp s) = .slice A l.length c := es
  have e2 : a.eval (.tmp x) = .slice A2 m.length c2 := ex
  unfold Oper.wp execOp
  simp only [resolve, invoke, builtin, Sem.run_bind, Sem.run_pure, Result.andThen_ok, List.map_toArray, List.map_cons, List.map_nil, e1, e2, hr]
  exact hK' _ _ (h.run _ _ (h5.new hd.2 (by rw [← Nat.blt_eq]; exact hd.1) hT (Below.refl _ _))).out⟩
end
set_option maxRecDepth 20000 in
set_option maxHeartbeats 4000000 in
set_option synthInstance.maxSize 4000 in
set_option synthInstance.maxHeartbeats 400000 in
theorem l7_joins0 {a b : List UInt8} (h1 : decide ((1000 : Int) < (a.length : Int)) = true) : Ctr Try.prog S1 6 [0, 0] [.is (Tx a), .is (Tx b)] (fun _ => .is (.bool true)) := by
  refine ctr Try.func6 rfl Try.ntmps6 (by simp) (fun _ _ => by kernel_rfl) fun X w hE => ?_
  simp only [argE, Nat.zero_add, Nat.reduceAdd]
  repeat' first|kernel_rfl|apply g_seq|apply g_reg|apply g_nil|apply g_box|apply g_all|apply g_stf|apply g_stw|apply g_sto|apply g_asg|refine g_run rfl inferInstance (by first|exact sc trivial c7_works|exact st_sadd (by assumption)|exact st_slen|exact st_seq (by first|assumption|rfl)|exact st_add' (by assumption)|exact st_move'|exact st_eq' (by first|assumption|rfl)|exact st_gtr' (by first|assumption|rfl)|exact st_len') (by kernel_rfl) ?_|refine g_sk rfl inferInstance rfl (by kernel_rfl) ?_|refine g_un rfl inferInstance (by kernel_rfl) ?_|apply g_st|apply g_skip|apply g_ct|apply g_cf|apply g_ret|refine r_1 rfl ?_|apply g_blk|apply g_eb|apply g_ex|apply e_t|apply e_h|refine e_o rfl ?_|apply r_t|apply r_b|apply g_cl|exact sc trivial c7_works|exact st_sadd (by assumption)|exact st_slen|exact st_seq (by first|assumption|rfl)|exact st_sne (by first|assumption|rfl)|exact st_add' (by assumption)|exact st_move'|exact st_assign'|exact st_extract'|exact st_and_t'|exact st_and_f'|exact st_or_f'|exact st_or_t'|exact st_eq' (by first|assumption|rfl)|exact st_neq' (by first|assumption|rfl)|exact st_gtr' (by first|assumption|rfl)|exact st_len'|exact Cv.rfl'|intro _
set_option maxRecDepth 20000 in
set_option maxHeartbeats 4000000 in
set_option synthInstance.maxSize 4000 in
set_option synthInstance.maxHeartbeats 400000 in
theorem l7_joins1 {a b : List UInt8} (h1 : decide ((1000 : Int) < (a.length : Int)) = false) (h2 : decide ((1000 : Int) < (b.length : Int)) = true) : Ctr Try.prog S1 6 [0, 0] [.is (Tx a), .is (Tx b)] (fun _ => .is (.bool true)) := by
  refine ctr Try.func6 rfl Try.ntmps6 (by simp) (fun _ _ => by kernel_rfl) fun X w hE => ?_
  simp only [argE, Nat.zero_add, Nat.reduceAdd]
  repeat' first|kernel_rfl|apply g_seq|apply g_reg|apply g_nil|apply g_box|apply g_all|apply g_stf|apply g_stw|apply g_sto|apply g_asg|refine g_run rfl inferInstance (by first|exact sc trivial c7_works|exact st_sadd (by assumption)|exact st_slen|exact st_seq (by first|assumption|rfl)|exact st_add' (by assumption)|exact st_move'|exact st_eq' (by first|assumption|rfl)|exact st_gtr' (by first|assumption|rfl)|exact st_len') (by kernel_rfl) ?_|refine g_sk rfl inferInstance rfl (by kernel_rfl) ?_|refine g_un rfl inferInstance (by kernel_rfl) ?_|apply g_st|apply g_skip|apply g_ct|apply g_cf|apply g_ret|refine r_1 rfl ?_|apply g_blk|apply g_eb|apply g_ex|apply e_t|apply e_h|refine e_o rfl ?_|apply r_t|apply r_b|apply g_cl|exact sc trivial c7_works|exact st_sadd (by assumption)|exact st_slen|exact st_seq (by first|assumption|rfl)|exact st_sne (by first|assumption|rfl)|exact st_add' (by assumption)|exact st_move'|exact st_assign'|exact st_extract'|exact st_and_t'|exact st_and_f'|exact st_or_f'|exact st_or_t'|exact st_eq' (by first|assumption|rfl)|exact st_neq' (by first|assumption|rfl)|exact st_gtr' (by first|assumption|rfl)|exact st_len'|exact Cv.rfl'|intro _
set_option maxRecDepth 20000 in
set_option maxHeartbeats 4000000 in
set_option synthInstance.maxSize 4000 in
set_option synthInstance.maxHeartbeats 400000 in
theorem l7_joins2 {a b : List UInt8} (h1 : decide ((1000 : Int) < (a.length : Int)) = false) (h2 : decide ((1000 : Int) < (b.length : Int)) = false) : Ctr Try.prog S1 6 [0, 0] [.is (Tx a), .is (Tx b)] (fun _ => .is (.bool true)) := by
  have ha : a.length ≤ 1000 := by have := of_decide_eq_false h1; omega
  have hb : b.length ≤ 1000 := by have := of_decide_eq_false h2; omega
  have hl1 : a.length + [(10 : UInt8)].length ≤ 9223372036854775807 := by rw [List.length_singleton]; omega
  have hl2 : (a ++ [10]).length + b.length ≤ 9223372036854775807 := by rw [List.length_append, List.length_singleton]; omega
  have hj := lexR_join ha hb
  have ca := c_lines (s := a)
  have cb := c_lines (s := b)
  have cz := c_lines (s := (a ++ [10]) ++ b)
  have oa := lexR_ok a
  have ob := lexR_ok b
  have oz := lexR_ok ((a ++ [10]) ++ b)
  generalize lexR a = Ra at *
  generalize lexR b = Rb at *
  generalize lexR ((a ++ [10]) ++ b) = Rz at *
  rcases hj with ⟨m, rfl, rfl⟩ | ⟨la, n, rfl, rfl, hn0, hn1, rfl⟩ | ⟨la, lb, lz, rfl, rfl, rfl, htx⟩
  · have hm : (m == m) = true := beq_self_eq_true m
    obtain ⟨lb, n, eb⟩ := Rb
    simp only at ca cb cz
    refine ctr Try.func6 rfl Try.ntmps6 (by simp) (fun _ _ => by kernel_rfl) fun X w hE => ?_
    simp only [argE, Nat.zero_add, Nat.reduceAdd]
    repeat' first|kernel_rfl|apply g_seq|apply g_reg|apply g_nil|apply g_box|apply g_all|apply g_stf|apply g_stw|apply g_sto|apply g_asg|refine g_run rfl inferInstance (by first|exact st_lenW|exact sc trivial ca|exact sc trivial cb|exact sc trivial cz|exact sc trivial c7_works|exact sc trivial hrz|exact sc trivial hsm|exact st_slen|exact st_seq (by first|assumption|rfl)|exact st_add' (by assumption)|exact st_sadd (by assumption)|exact st_move'|exact st_eq' (by first|assumption|rfl)|exact st_gtr' (by first|assumption|rfl)|exact st_len') (by kernel_rfl) ?_|refine g_sk rfl inferInstance rfl (by kernel_rfl) ?_|refine g_un rfl inferInstance (by kernel_rfl) ?_|apply g_st|apply g_skip|apply g_ct|apply g_cf|apply g_ret|refine r_1 rfl ?_|apply g_blk|apply g_eb|apply g_ex|apply e_t|apply e_h|refine e_o rfl ?_|apply r_t|apply r_b|apply g_cl|exact st_lenW|exact sc trivial ca|exact sc trivial cb|exact sc trivial cz|exact sc trivial c7_works|exact sc trivial hrz|exact sc trivial hsm|exact st_slen|exact st_seq (by first|assumption|rfl)|exact st_sne (by first|assumption|rfl)|exact st_add' (by assumption)|exact st_sadd (by assumption)|exact st_move'|exact st_assign'|exact st_extract'|exact st_and_t'|exact st_and_f'|exact st_or_f'|exact st_or_t'|exact st_eq' (by first|assumption|rfl)|exact st_neq' (by first|assumption|rfl)|exact st_gtr' (by first|assumption|rfl)|exact st_len'|exact Cv.rfl'|intro _
  · have hw1 : IntKind.i64.wrap ((a.length : Int) + 1) = (a.length : Int) + 1 := i64_small (by omega) (by omega)
    have hw2 : IntKind.i64.wrap ((a.length : Int) + 1 + n) = (a.length : Int) + 1 + n := i64_small (by omega) (by omega)
    have hk : ((a.length : Int) + 1 + n == (a.length : Int) + 1 + n) = true := beq_self_eq_true _
    simp only at ca cb cz
    refine ctr Try.func6 rfl Try.ntmps6 (by simp) (fun _ _ => by kernel_rfl) fun X w hE => ?_
    simp only [argE, Nat.zero_add, Nat.reduceAdd]
    repeat' first|kernel_rfl|apply g_seq|apply g_reg|apply g_nil|apply g_box|apply g_all|apply g_stf|apply g_stw|apply g_sto|apply g_asg|refine g_run rfl inferInstance (by first|exact st_lenW|exact sc trivial ca|exact sc trivial cb|exact sc trivial cz|exact sc trivial c7_works|exact sc trivial hrz|exact sc trivial hsm|exact st_slen|exact st_seq (by first|assumption|rfl)|exact st_add' (by assumption)|exact st_sadd (by assumption)|exact st_move'|exact st_eq' (by first|assumption|rfl)|exact st_gtr' (by first|assumption|rfl)|exact st_len') (by kernel_rfl) ?_|refine g_sk rfl inferInstance rfl (by kernel_rfl) ?_|refine g_un rfl inferInstance (by kernel_rfl) ?_|apply g_st|apply g_skip|apply g_ct|apply g_cf|apply g_ret|refine r_1 rfl ?_|apply g_blk|apply g_eb|apply g_ex|apply e_t|apply e_h|refine e_o rfl ?_|apply r_t|apply r_b|apply g_cl|exact st_lenW|exact sc trivial ca|exact sc trivial cb|exact sc trivial cz|exact sc trivial c7_works|exact sc trivial hrz|exact sc trivial hsm|exact st_slen|exact st_seq (by first|assumption|rfl)|exact st_sne (by first|assumption|rfl)|exact st_add' (by assumption)|exact st_sadd (by assumption)|exact st_move'|exact st_assign'|exact st_extract'|exact st_and_t'|exact st_and_f'|exact st_or_f'|exact st_or_t'|exact st_eq' (by first|assumption|rfl)|exact st_neq' (by first|assumption|rfl)|exact st_gtr' (by first|assumption|rfl)|exact st_len'|exact Cv.rfl'|intro _
  · simp only at ca cb cz oa ob oz
    have ba := ls_bound oa.1 oa.2.2
    have bb := ls_bound ob.1 ob.2.2
    have bz := ls_bound oz.1 oz.2.2
    have hra := c7_ref (l := la) ⟨by omega, fun x hx => by have := ba.2.2 x hx; omega⟩
    have hrb := c7_ref (l := lb) ⟨by omega, fun x hx => by have := bb.2.2 x hx; omega⟩
    have hrz := c7_ref (l := lz) ⟨by omega, fun x hx => by have := bz.2.2 x hx; omega⟩
    have hsm := cL_same (l := lz) (m := la ++ lb) (p := false)
    rw [sameB_txs htx] at hsm
    refine ctr Try.func6 rfl Try.ntmps6 (by simp) (fun _ _ => by kernel_rfl) fun X w hE => ?_
    simp only [argE, Nat.zero_add, Nat.reduceAdd]
    repeat' first|kernel_rfl|(refine g_ageR (id := 10) (s := 11) [5, 8, 13, 12] fun B hB0 => ?_)|(refine g_cu (B := B) trivial hra (fun _ _ ht => und_size ht (Look.mem (s := 11))) (by kernel_rfl) ?_)|(refine g_cu (B := B) trivial hrb (fun _ _ ht => und_size ht (Look.mem (s := 11))) (by kernel_rfl) ?_)|(refine g_app2 (B := B) [11, 13, 12] hB0 (fun _ _ ht => und_size ht (Look.mem (s := 11))) elem7L (by omega) (by decide) (by kernel_rfl) ?_)|apply g_seq|apply g_reg|apply g_nil|apply g_box|apply g_all|apply g_stf|apply g_stw|apply g_sto|apply g_asg|refine g_run rfl inferInstance (by first|exact st_lenW|exact sc trivial ca|exact sc trivial cb|exact sc trivial cz|exact sc trivial c7_works|exact sc trivial hrz|exact sc trivial hsm|exact st_slen|exact st_seq (by first|assumption|rfl)|exact st_add' (by assumption)|exact st_sadd (by assumption)|exact st_move'|exact st_eq' (by first|assumption|rfl)|exact st_gtr' (by first|assumption|rfl)|exact st_len') (by kernel_rfl) ?_|refine g_sk rfl inferInstance rfl (by kernel_rfl) ?_|refine g_un rfl inferInstance (by kernel_rfl) ?_|apply g_st|apply g_skip|apply g_ct|apply g_cf|apply g_ret|refine r_1 rfl ?_|apply g_blk|apply g_eb|apply g_ex|apply e_t|apply e_h|refine e_o rfl ?_|apply r_t|apply r_b|apply g_cl|exact st_lenW|exact sc trivial ca|exact sc trivial cb|exact sc trivial cz|exact sc trivial c7_works|exact sc trivial hrz|exact sc trivial hsm|exact st_slen|exact st_seq (by first|assumption|rfl)|exact st_sne (by first|assumption|rfl)|exact st_add' (by assumption)|exact st_sadd (by assumption)|exact st_move'|exact st_assign'|exact st_extract'|exact st_and_t'|exact st_and_f'|exact st_or_f'|exact st_or_t'|exact st_eq' (by first|assumption|rfl)|exact st_neq' (by first|assumption|rfl)|exact st_gtr' (by first|assumption|rfl)|exact st_len'|exact Cv.rfl'|intro _
theorem l7_joins {a b : List UInt8} : Ctr Try.prog S1 6 [0, 0] [.is (Tx a), .is (Tx b)] (fun _ => .is (.bool true)) := by
  cases h1 : decide ((1000 : Int) < (a.length : Int)) with
  | true => exact l7_joins0 h1
  | false => cases h2 : decide ((1000 : Int) < (b.length : Int)) with
    | true => exact l7_joins1 h1 h2
    | false => exact l7_joins2 h1 h2
end Go.Proofs.Ytkjojpeamabdmaa
