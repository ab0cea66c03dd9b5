/- Package lex: a text is cut into lines. -/
import Derived.Test.YtkjojpeamabdmaaGF
set_option linter.unusedSimpArgs false
set_option linter.unusedVariables false
namespace Go.Proofs.Ytkjojpeamabdmaa
open Go Go.RowKit
theorem dropW_suf (p : UInt8 → Bool) (l : List UInt8) : ∃ q, l = q ++ l.dropWhile p := ⟨l.takeWhile p, (List.takeWhile_append_dropWhile).symm⟩
theorem lnF_suf : ∀ (n : Nat) (l : List UInt8) (a : Int), ∃ q, l = q ++ (lnF n l a).2
  | 0, l, _ => ⟨[], rfl⟩
  | n + 1, l, a => by
    unfold lnF
    obtain ⟨q1, h1⟩ := dropW_suf isB l
    cases ((l.dropWhile isB).takeWhile isW == [])
    · obtain ⟨q2, h2⟩ := dropW_suf isW (l.dropWhile isB)
      obtain ⟨q3, h3⟩ := lnF_suf n ((l.dropWhile isB).dropWhile isW) (a + ((l.takeWhile isB).length : Int) + (((l.dropWhile isB).takeWhile isW).length : Int))
      refine ⟨q1 ++ (q2 ++ q3), ?_⟩
      simp only [cond_false]
      rw [List.append_assoc, List.append_assoc, ← h3, ← h2, ← h1]
    · exact ⟨q1, h1⟩
theorem lnR_suf (l : List UInt8) (a : Int) : ∃ q, l = q ++ lnR l a := by
  obtain ⟨q1, h1⟩ := lnF_suf (l.length + 1) l a
  unfold lnR rmk
  cases h35 (lnF (l.length + 1) l a).2
  · exact ⟨q1, h1⟩
  · obtain ⟨q2, h2⟩ := dropW_suf n10 (lnF (l.length + 1) l a).2
    refine ⟨q1 ++ q2, ?_⟩
    simp only [cond_true]
    rw [List.append_assoc, ← h2, ← h1]
theorem suf_drop {s q t : List UInt8} {j : Nat} (hj : j ≤ s.length) (h : s.drop j = q ++ t) : s.drop (s.length - t.length) = t ∧ t.length ≤ s.length - j := by
  have hl := congrArg List.length h
  rw [List.length_append, List.length_drop] at hl
  have e : s.length - t.length = j + q.length := by omega
  rw [e, ← List.drop_drop, h, List.drop_left']
  · exact ⟨rfl, by omega⟩
  · rfl
/-- A variable is given back. -/
theorem TS.drop {w00 w : World} {X : List Nat} {L : List Loc} {E : List (Nat × VTy)} {n b : Nat} {T : VTy} {a : Act} (h : TS w00 (b :: X) ((b, T) :: L) E n a w) : TS w00 X L E n a w := by
  have hs : ∀ {T : VTy} {u : Value}, T.holds (b :: X) w u → T.holds X w u := fun {T u} h => T.stable h ⟨Nat.le_refl _, fun _ _ _ => rfl⟩ fun c hc _ => List.mem_cons_of_mem _ hc
  have hn := h.mem.nodup
  rw [List.map_cons, List.nodup_cons] at hn
  refine ⟨h.size, h.df, fun p hp => hs (h.slots p hp), ⟨fun p hp => ?_, fun c hc => h.mem.far c (List.mem_cons_of_mem _ hc), hn.2, h.mem.below⟩⟩
  obtain ⟨g1, g2, v, ty, g3, g4⟩ := h.mem.loc p (List.mem_cons_of_mem _ hp)
  refine ⟨?_, g2, v, ty, hs g3, g4⟩
  rcases List.mem_cons.1 g1 with e | g
  · exact absurd (by show b ∈ L.map Prod.fst; rw [← show p.1 = b from e]; exact List.mem_map_of_mem hp) hn.1
  · exact g
theorem cv_ow0 {r : Rp Ln} {e : TypeId} {B : Nat} {T U : VTy} : Cv (.tup [.is (.slice none 0 0), T, U]) (.tup [.ow r e tt B [], T, U]) := ⟨fun X w v h => by
  obtain ⟨vs, e, h⟩ := h
  refine ⟨vs, e, ?_⟩
  match vs, h with
  | [_, _, _], ⟨h1, h2⟩ => exact ⟨ow_nil h1, h2⟩⟩
/-- Between two lines: how far the text is cut, and what it will be. -/
def LinesI (s : List UInt8) (R : List Ln × Int × Int) (k j : Nat) (out : List Ln) : Prop := out.length ≤ j ∧ ((j ≤ s.length ∧ k = s.length - j + 1 ∧ lx (s.drop j) (j : Int) out [] (j : Int) false false = R) ∨ (j = s.length + 1 ∧ k = 0 ∧ R = (out, 0, 0)))
theorem LinesI.over {s : List UInt8} {R : List Ln × Int × Int} {k j : Nat} {out : List Ln} (h : LinesI s R k j out) (hj : decide ((j : Int) < (s.length : Int)) = false) : R = (out, 0, 0) := by
  have := of_decide_eq_false hj
  rcases h.2 with ⟨h1, h2, h3⟩ | ⟨_, _, h3⟩
  · rw [← h3, List.drop_eq_nil_of_le (by omega)]; rfl
  · exact h3
theorem psh_len (out : List Ln) (ws : List Wd) (la : Int) : (psh out ws la).length ≤ out.length + 1 := by
  unfold psh
  cases ws.isEmpty
  · simp
  · simp
/-- The last line. -/
theorem LinesI.last {s : List UInt8} {R : List Ln × Int × Int} {k j : Nat} {out : List Ln} (h : LinesI s R k j out) (hj : decide ((j : Int) < (s.length : Int)) = true) (hr : lnR (s.drop j) (j : Int) = []) : ∃ k', k' < k ∧ LinesI s R k' (s.length + 1) (psh out (lnW (s.drop j) (j : Int)) (j : Int)) := by
  have := of_decide_eq_true hj
  rcases h.2 with ⟨h1, h2, h3⟩ | ⟨h1, _⟩
  · refine ⟨0, by omega, ?_, .inr ⟨rfl, rfl, ?_⟩⟩
    · have := psh_len out (lnW (s.drop j) (j : Int)) (j : Int)
      have := h.1
      omega
    · rw [← h3, lx_afterL]
      unfold afterL
      rw [hr]
  · omega
theorem LinesI.step {s : List UInt8} {R : List Ln × Int × Int} {k j : Nat} {out : List Ln} (h : LinesI s R k j out) (hj : decide ((j : Int) < (s.length : Int)) = true) {c : UInt8} {r : List UInt8} (hr : lnR (s.drop j) (j : Int) = c :: r) : ∃ j1, s.length - (lnR (s.drop j) (j : Int)).length = j1 ∧ j ≤ j1 ∧ decide ((j1 : Int) < (s.length : Int)) = true ∧ (0 ≤ (j1 : Int) ∧ s[(j1 : Int).toNat]? = some c) ∧
    (((c.toNat : Int) == 10) = true → ∃ k', k' < k ∧ LinesI s R k' (j1 + 1) (psh out (lnW (s.drop j) (j : Int)) (j : Int))) ∧ (((c.toNat : Int) == 10) = false → R = ([], (j1 : Int), 70)) := by
  have := of_decide_eq_true hj
  obtain ⟨q, hq⟩ := lnR_suf (s.drop j) (j : Int)
  obtain ⟨h4, h5⟩ := suf_drop (by omega) hq
  rw [hr] at h4 h5 ⊢
  rw [List.length_cons] at h4 h5 ⊢
  have hlt : s.length - (r.length + 1) < s.length := by omega
  have hd := List.drop_eq_getElem_cons hlt
  rw [h4] at hd
  injection hd with hd1 hd2
  have hcast : (j : Int) + ((s.drop j).length : Int) - ((r.length + 1 : Nat) : Int) = ((s.length - (r.length + 1) : Nat) : Int) := by rw [List.length_drop]; omega
  rcases h.2 with ⟨h1, h2, h3⟩ | ⟨h1, _⟩
  · rw [lx_afterL] at h3
    unfold afterL at h3
    rw [hr] at h3
    simp only [List.length_cons] at h3
    rw [hcast] at h3
    refine ⟨_, rfl, by omega, decide_eq_true (by omega), ⟨by omega, by rw [Int.toNat_natCast, List.getElem?_eq_getElem hlt, ← hd1]⟩, fun h10 => ?_, fun h10 => ?_⟩
    · rw [h10] at h3
      refine ⟨s.length - (s.length - (r.length + 1) + 1) + 1, by omega, ?_, .inl ⟨by omega, rfl, ?_⟩⟩
      · have := psh_len out (lnW (s.drop j) (j : Int)) (j : Int)
        have := h.1
        omega
      · rw [← h3, cond_true, ← hd2, Int.natCast_add]
        rfl
    · rw [h10] at h3
      exact h3.symm
  · omega
instance : ZeroC Try.prog 50 (.cs [Tx [], .int .i64 0]) := ⟨⟨.agg #[Tx [], .int .i64 0], fun X w => rfl, fun o ρ w e => by
  cases o with
  | mk dst op ty pos af gd =>
    have e' : op = _ := e
    subst e'
    go_simp⟩⟩
set_option maxRecDepth 20000 in
theorem st_mkC {w00 : World} {N : Nat} {L : List Loc} {E : List (Nat × VTy)} {d : Nat} {t0 : TypeId} {pos : String} {af : Array Edge} {gd : Option (Nat × Bool)} {o : Operand} {t : List UInt8} [ho : OpC E o (.is (Tx t))] : StepT Try.prog w00 N L E ⟨some d, .build 50 #[(0, o)], t0, pos, af, gd⟩ (.is (.agg #[Tx t, .int .i64 0])) := by
  constructor
  intro X ρ w hc _ hN hm hsl
  have e0 : ρ o = Tx t := ho.get (X := X) (w := w) hc fun p hp e => hsl p hp (by simp [Op.operands, e])
  clear hc hsl ho hm
  unfold Yields
  go_simp
  exact ⟨rfl, Below.refl _ _⟩
instance {a b : Value} : LenC [a, b] 2 := ⟨rfl⟩
set_option maxRecDepth 20000 in
set_option maxHeartbeats 4000000 in
set_option synthInstance.maxSize 4000 in
set_option synthInstance.maxHeartbeats 400000 in
theorem c_lines {s : List UInt8} : Ctr Try.prog S1 10 [0] [.is (Tx s)] (fun B => .tup [.ow (Rp.lo 36 B) 34 tt B (lexR s).1, .is (.int .i64 (lexR s).2.1), .is (.int .i64 (lexR s).2.2)]) := by
  have hl : decide ((65536 : Int) < (s.length : Int)) = decide (65536 < s.length) := decide_eq_decide.2 (by omega)
  unfold lexR
  rw [← hl]
  clear hl
  cases hl : decide ((65536 : Int) < (s.length : Int))
  rotate_left
  · simp only [cond_true]
    refine ctr Try.func10 rfl Try.ntmps10 (by simp) (fun _ _ => by kernel_rfl) fun X w hE => ?_
    simp only [argE, Nat.zero_add, Nat.reduceAdd]
    repeat' first|kernel_rfl|apply g_seq|apply g_reg|apply g_nil|(refine g_keep [5, 0] ?_;apply g_draw (id:=7) [] [] 3)|apply o_all|apply o_go|exact OpsT.nil|exact GuardC.nil|exact UndefC.nil|refine @GuardC.cons _ _ _ _ inferInstance ?_|refine @UndefC.cons _ _ _ inferInstance ?_|apply g_box|apply g_all|apply g_stf|apply g_stw|apply g_sto|apply g_asg|refine g_run rfl inferInstance (by first|exact scown trivial (c_more (by assumption))|exact scown trivial (c_stands1 (by assumption) (by assumption) (by assumption))|exact st_not' (b := true) (u := false) rfl|exact st_not' (b := false) (u := true) rfl|exact st_not' rfl) (by kernel_rfl) ?_|refine g_sk rfl inferInstance rfl (by kernel_rfl) ?_|refine g_un rfl inferInstance (by kernel_rfl) ?_|apply g_st|apply g_skip|apply g_ct|apply g_cf|apply g_ret|refine r_3 rfl ?_|apply g_blk|apply g_eb|apply g_ex|apply e_t|apply e_h|refine e_o rfl ?_|apply r_t|apply r_b|apply g_cl|exact st_lenW|exact scown trivial (c_more (by assumption))|exact scown trivial (c_stands1 (by assumption) (by assumption) (by assumption))|exact st_mkC|exact st_rowL rfl|exact st_sadd (by assumption)|exact st_slen|exact st_add' (by assumption)|exact st_move'|exact st_assign'|exact st_load'|exact st_fieldAddr'|exact st_and_t'|exact st_and_f'|exact st_not' (b := true) (u := false) rfl|exact st_not' (b := false) (u := true) rfl|exact st_not' rfl|exact st_gtr' (by first|assumption|rfl)|exact st_len'|exact st_loadE'|exact cv_ow0|exact Cv.rfl'|(intro _;simp only[newX,newL,ptrs,List.map,List.cons_append,List.nil_append])|intro _
  · have hs : s.length ≤ 100000 := by have := of_decide_eq_false hl; omega
    simp only [cond_false]
    generalize hR : lx s 0 [] [] 0 false false = R
    refine ctr Try.func10 rfl Try.ntmps10 (by simp) (fun _ _ => by kernel_rfl) fun X w0 hE => ?_
    simp only [argE, Nat.zero_add, Nat.reduceAdd]
    repeat' first|kernel_rfl|apply g_seq|apply g_reg|apply g_nil|(refine g_keep [5, 0] ?_;apply g_draw (id:=7) [] [] 3)|apply o_all|apply o_go|exact OpsT.nil|exact GuardC.nil|exact UndefC.nil|refine @GuardC.cons _ _ _ _ inferInstance ?_|refine @UndefC.cons _ _ _ inferInstance ?_|apply g_box|apply g_all|apply g_stf|apply g_stw|apply g_sto|apply g_asg|refine g_run rfl inferInstance (by first|exact scown trivial (c_more (by assumption))|exact scown trivial (c_stands1 (by assumption) (by assumption) (by assumption))|exact st_not' (b := true) (u := false) rfl|exact st_not' (b := false) (u := true) rfl|exact st_not' rfl) (by kernel_rfl) ?_|refine g_sk rfl inferInstance rfl (by kernel_rfl) ?_|refine g_un rfl inferInstance (by kernel_rfl) ?_|apply g_st|apply g_skip|apply g_ct|apply g_cf|apply g_ret|refine r_3 rfl ?_|apply g_blk|apply g_eb|apply g_ex|apply e_t|apply e_h|refine e_o rfl ?_|apply r_t|apply r_b|apply g_cl|exact st_lenW|exact scown trivial (c_more (by assumption))|exact scown trivial (c_stands1 (by assumption) (by assumption) (by assumption))|exact st_mkC|exact st_rowL rfl|exact st_sadd (by assumption)|exact st_slen|exact st_add' (by assumption)|exact st_move'|exact st_assign'|exact st_load'|exact st_fieldAddr'|exact st_and_t'|exact st_and_f'|exact st_not' (b := true) (u := false) rfl|exact st_not' (b := false) (u := true) rfl|exact st_not' rfl|exact st_gtr' (by first|assumption|rfl)|exact st_len'|exact st_loadE'|exact Cv.rfl'|(intro _;simp only[newX,newL,ptrs,List.map,List.cons_append,List.nil_append])|intro _
    refine g_stop fun a w h => ?_
    rename_i rc
    refine cw_loop (fun k a u => ∃ (j : Nat) (out : List Ln), LinesI s R k j out ∧ TS w0 (rc :: X) [(rc, .cs [Tx s, .int .i64 (j : Int)])] [(2, .ow (Rp.lo 36 w0.heap.size) 34 tt w0.heap.size out), (5, .is (.pointer (some ⟨rc, 0, none⟩))), (0, .is (Tx s))] 34 a u) (s.length + 1) ⟨0, [], ⟨Nat.le_refl _, .inl ⟨Nat.zero_le _, rfl, hR⟩⟩, (h.keep [2, 5, 0]).cast fun _ _ _ h => ow_nil h⟩ ?_
    clear h
    rintro k a u ⟨j, out, hI, h⟩
    cases hc : decide ((j : Int) < (s.length : Int))
    · rw [hI.over hc]
      refine g_of h ?_
      clear h
      repeat' first|kernel_rfl|apply g_seq|apply g_reg|apply g_nil|(refine g_keep [5, 0] ?_;apply g_draw (id:=7) [] [] 3)|apply o_all|apply o_go|exact OpsT.nil|exact GuardC.nil|exact UndefC.nil|refine @GuardC.cons _ _ _ _ inferInstance ?_|refine @UndefC.cons _ _ _ inferInstance ?_|apply g_box|apply g_all|apply g_stf|apply g_stw|apply g_sto|apply g_asg|refine g_run rfl inferInstance (by first|exact scown trivial (c_more (by assumption))|exact scown trivial (c_stands1 (by assumption) (by assumption) (by assumption))|exact st_not' (b := true) (u := false) rfl|exact st_not' (b := false) (u := true) rfl|exact st_not' rfl) (by kernel_rfl) ?_|refine g_sk rfl inferInstance rfl (by kernel_rfl) ?_|refine g_un rfl inferInstance (by kernel_rfl) ?_|apply g_st|apply g_skip|apply g_ct|apply g_cf|apply g_ret|refine r_3 rfl ?_|apply g_blk|apply g_eb|apply g_ex|apply e_t|apply e_h|refine e_o rfl ?_|apply r_t|apply r_b|apply g_cl|exact st_lenW|exact scown trivial (c_more (by assumption))|exact scown trivial (c_stands1 (by assumption) (by assumption) (by assumption))|exact st_mkC|exact st_rowL rfl|exact st_sadd (by assumption)|exact st_slen|exact st_add' (by assumption)|exact st_move'|exact st_assign'|exact st_load'|exact st_fieldAddr'|exact st_and_t'|exact st_and_f'|exact st_not' (b := true) (u := false) rfl|exact st_not' (b := false) (u := true) rfl|exact st_not' rfl|exact st_gtr' (by first|assumption|rfl)|exact st_len'|exact st_loadE'|exact Cv.rfl'|(intro _;simp only[newX,newL,ptrs,List.map,List.cons_append,List.nil_append])|intro _
    · have hlt := of_decide_eq_true hc
      have hcl := c_line hs (show j ≤ s.length by omega)
      have hol : out.length ≤ 1000000 := by have := hI.1; omega
      cases hr : lnR (s.drop j) (j : Int) with
      | nil =>
        obtain ⟨k', hk', hI'⟩ := hI.last hc hr
        rw [hr, List.length_nil, Nat.sub_zero] at hcl
        have hc2 : decide ((s.length : Int) < (s.length : Int)) = false := decide_eq_false (by omega)
        have hw : IntKind.i64.wrap ((s.length : Int) + 1) = ((s.length + 1 : Nat) : Int) := i64_small (by omega) (by omega)
        generalize lnW (s.drop j) (j : Int) = ws at *
        cases ws with
        | nil =>
          have hp : decide ((0 : Int) < ((([] : List Wd).length : Nat) : Int)) = false := rfl
          refine g_of h ?_
          clear h
          repeat' first|kernel_rfl|(refine g_po trivial hcl (by kernel_rfl) ?_)|(refine g_locR (L' := [(_, .lnj _), (_, .cs _)]) (.cons (fun _ _ _ h => lnb_lnj h) (.same .nil)) (g_app [5, 0] (Nat.le_refl _) (fun _ _ ht => ht.mem.below.size) elemL hol (by decide) (by kernel_rfl) ?_))|exact g_done fun _ _ h=>⟨k', hk', _, _, hI', h.drop.keep [2, 5, 0]⟩|apply g_seq|apply g_reg|apply g_nil|(refine g_keep [5, 0] ?_;apply g_draw (id:=7) [] [] 3)|apply o_all|apply o_go|exact OpsT.nil|exact GuardC.nil|exact UndefC.nil|refine @GuardC.cons _ _ _ _ inferInstance ?_|refine @UndefC.cons _ _ _ inferInstance ?_|apply g_box|apply g_all|apply g_stf|apply g_stw|apply g_stf|apply g_stw|apply g_sto|apply g_asg|refine g_run rfl inferInstance (by first|exact scown trivial (c_more (by assumption))|exact scown trivial (c_stands1 (by assumption) (by assumption) (by assumption))|exact st_not' (b := true) (u := false) rfl|exact st_not' (b := false) (u := true) rfl|exact st_not' rfl) (by kernel_rfl) ?_|refine g_sk rfl inferInstance rfl (by kernel_rfl) ?_|refine g_un rfl inferInstance (by kernel_rfl) ?_|apply g_st|apply g_skip|apply g_ct|apply g_cf|apply g_ret|refine r_3 rfl ?_|apply g_blk|apply g_eb|apply g_ex|apply e_t|apply e_h|refine e_o rfl ?_|apply r_t|apply r_b|apply g_cl|exact st_lenW|exact scown trivial (c_more (by assumption))|exact scown trivial (c_stands1 (by assumption) (by assumption) (by assumption))|exact st_mkC|exact st_rowL rfl|exact st_sadd (by assumption)|exact st_slen|exact st_add' (by assumption)|exact st_move'|exact st_assign'|exact st_load'|exact st_fieldAddr'|exact st_and_t'|exact st_and_f'|exact st_not' (b := true) (u := false) rfl|exact st_not' (b := false) (u := true) rfl|exact st_not' rfl|exact st_gtr' (by first|assumption|rfl)|exact st_len'|exact st_loadE'|exact Cv.rfl'|(intro _;simp only[newX,newL,ptrs,List.map,List.cons_append,List.nil_append])|intro _
        | cons x ws =>
          have hp : decide ((0 : Int) < (((x :: ws).length : Nat) : Int)) = true := decide_eq_true (by rw [List.length_cons]; omega)
          refine g_of h ?_
          clear h
          repeat' first|kernel_rfl|(refine g_po trivial hcl (by kernel_rfl) ?_)|(refine g_locR (L' := [(_, .lnj _), (_, .cs _)]) (.cons (fun _ _ _ h => lnb_lnj h) (.same .nil)) (g_app [5, 0] (Nat.le_refl _) (fun _ _ ht => ht.mem.below.size) elemL hol (by decide) (by kernel_rfl) ?_))|exact g_done fun _ _ h=>⟨k', hk', _, _, hI', h.drop.keep [2, 5, 0]⟩|apply g_seq|apply g_reg|apply g_nil|(refine g_keep [5, 0] ?_;apply g_draw (id:=7) [] [] 3)|apply o_all|apply o_go|exact OpsT.nil|exact GuardC.nil|exact UndefC.nil|refine @GuardC.cons _ _ _ _ inferInstance ?_|refine @UndefC.cons _ _ _ inferInstance ?_|apply g_box|apply g_all|apply g_stf|apply g_stw|apply g_sto|apply g_asg|refine g_run rfl inferInstance (by first|exact scown trivial (c_more (by assumption))|exact scown trivial (c_stands1 (by assumption) (by assumption) (by assumption))|exact st_not' (b := true) (u := false) rfl|exact st_not' (b := false) (u := true) rfl|exact st_not' rfl) (by kernel_rfl) ?_|refine g_sk rfl inferInstance rfl (by kernel_rfl) ?_|refine g_un rfl inferInstance (by kernel_rfl) ?_|apply g_st|apply g_skip|apply g_ct|apply g_cf|apply g_ret|refine r_3 rfl ?_|apply g_blk|apply g_eb|apply g_ex|apply e_t|apply e_h|refine e_o rfl ?_|apply r_t|apply r_b|apply g_cl|exact st_lenW|exact scown trivial (c_more (by assumption))|exact scown trivial (c_stands1 (by assumption) (by assumption) (by assumption))|exact st_mkC|exact st_rowL rfl|exact st_sadd (by assumption)|exact st_slen|exact st_add' (by assumption)|exact st_move'|exact st_assign'|exact st_load'|exact st_fieldAddr'|exact st_and_t'|exact st_and_f'|exact st_not' (b := true) (u := false) rfl|exact st_not' (b := false) (u := true) rfl|exact st_not' rfl|exact st_gtr' (by first|assumption|rfl)|exact st_len'|exact st_loadE'|exact Cv.rfl'|(intro _;simp only[newX,newL,ptrs,List.map,List.cons_append,List.nil_append])|intro _
      | cons c r =>
        obtain ⟨j1, he, hjj, hc2, hix, hy, hn⟩ := hI.step hc hr
        rw [he] at hcl
        have hlt2 := of_decide_eq_true hc2
        have hw : IntKind.i64.wrap ((j1 : Int) + 1) = ((j1 + 1 : Nat) : Int) := i64_small (by omega) (by omega)
        cases h10 : ((c.toNat : Int) == 10)
        · rw [hn h10]
          generalize lnW (s.drop j) (j : Int) = ws at *
          refine g_of h ?_
          clear h
          repeat' first|kernel_rfl|(refine g_po trivial hcl (by kernel_rfl) ?_)|apply g_seq|apply g_reg|apply g_nil|(refine g_keep [5, 0] ?_;apply g_draw (id:=7) [] [] 3)|apply o_all|apply o_go|exact OpsT.nil|exact GuardC.nil|exact UndefC.nil|refine @GuardC.cons _ _ _ _ inferInstance ?_|refine @UndefC.cons _ _ _ inferInstance ?_|apply g_box|apply g_all|apply g_stf|apply g_stw|apply g_sto|apply g_asg|refine g_run rfl inferInstance (by first|exact scown trivial (c_more (by assumption))|exact scown trivial (c_stands1 (by assumption) (by assumption) (by assumption))|exact st_not' (b := true) (u := false) rfl|exact st_not' (b := false) (u := true) rfl|exact st_not' rfl) (by kernel_rfl) ?_|refine g_sk rfl inferInstance rfl (by kernel_rfl) ?_|refine g_un rfl inferInstance (by kernel_rfl) ?_|apply g_st|apply g_skip|apply g_ct|apply g_cf|apply g_ret|refine r_3 rfl ?_|apply g_blk|apply g_eb|apply g_ex|apply e_t|apply e_h|refine e_o rfl ?_|apply r_t|apply r_b|apply g_cl|exact st_lenW|exact scown trivial (c_more (by assumption))|exact scown trivial (c_stands1 (by assumption) (by assumption) (by assumption))|exact st_mkC|exact st_rowL rfl|exact st_sadd (by assumption)|exact st_slen|exact st_add' (by assumption)|exact st_move'|exact st_assign'|exact st_load'|exact st_fieldAddr'|exact st_and_t'|exact st_and_f'|exact st_not' (b := true) (u := false) rfl|exact st_not' (b := false) (u := true) rfl|exact st_not' rfl|exact st_gtr' (by first|assumption|rfl)|exact st_len'|exact st_loadE'|exact cv_ow0|exact Cv.rfl'|(intro _;simp only[newX,newL,ptrs,List.map,List.cons_append,List.nil_append])|intro _
        · obtain ⟨k', hk', hI'⟩ := hy h10
          generalize lnW (s.drop j) (j : Int) = ws at *
          cases ws with
          | nil =>
            have hp : decide ((0 : Int) < ((([] : List Wd).length : Nat) : Int)) = false := rfl
            refine g_of h ?_
            clear h
            repeat' first|kernel_rfl|(refine g_po trivial hcl (by kernel_rfl) ?_)|(refine g_locR (L' := [(_, .lnj _), (_, .cs _)]) (.cons (fun _ _ _ h => lnb_lnj h) (.same .nil)) (g_app [5, 0] (Nat.le_refl _) (fun _ _ ht => ht.mem.below.size) elemL hol (by decide) (by kernel_rfl) ?_))|exact g_done fun _ _ h=>⟨k', hk', _, _, hI', h.drop.keep [2, 5, 0]⟩|apply g_seq|apply g_reg|apply g_nil|(refine g_keep [5, 0] ?_;apply g_draw (id:=7) [] [] 3)|apply o_all|apply o_go|exact OpsT.nil|exact GuardC.nil|exact UndefC.nil|refine @GuardC.cons _ _ _ _ inferInstance ?_|refine @UndefC.cons _ _ _ inferInstance ?_|apply g_box|apply g_all|apply g_stf|apply g_stw|apply g_sto|apply g_asg|refine g_run rfl inferInstance (by first|exact scown trivial (c_more (by assumption))|exact scown trivial (c_stands1 (by assumption) (by assumption) (by assumption))|exact st_not' (b := true) (u := false) rfl|exact st_not' (b := false) (u := true) rfl|exact st_not' rfl) (by kernel_rfl) ?_|refine g_sk rfl inferInstance rfl (by kernel_rfl) ?_|refine g_un rfl inferInstance (by kernel_rfl) ?_|apply g_st|apply g_skip|apply g_ct|apply g_cf|apply g_ret|refine r_3 rfl ?_|apply g_blk|apply g_eb|apply g_ex|apply e_t|apply e_h|refine e_o rfl ?_|apply r_t|apply r_b|apply g_cl|exact st_lenW|exact scown trivial (c_more (by assumption))|exact scown trivial (c_stands1 (by assumption) (by assumption) (by assumption))|exact st_mkC|exact st_rowL rfl|exact st_sadd (by assumption)|exact st_slen|exact st_add' (by assumption)|exact st_move'|exact st_assign'|exact st_load'|exact st_fieldAddr'|exact st_and_t'|exact st_and_f'|exact st_not' (b := true) (u := false) rfl|exact st_not' (b := false) (u := true) rfl|exact st_not' rfl|exact st_gtr' (by first|assumption|rfl)|exact st_len'|exact st_loadE'|exact Cv.rfl'|(intro _;simp only[newX,newL,ptrs,List.map,List.cons_append,List.nil_append])|intro _
          | cons x ws =>
            have hp : decide ((0 : Int) < (((x :: ws).length : Nat) : Int)) = true := decide_eq_true (by rw [List.length_cons]; omega)
            refine g_of h ?_
            clear h
            repeat' first|kernel_rfl|(refine g_po trivial hcl (by kernel_rfl) ?_)|(refine g_locR (L' := [(_, .lnj _), (_, .cs _)]) (.cons (fun _ _ _ h => lnb_lnj h) (.same .nil)) (g_app [5, 0] (Nat.le_refl _) (fun _ _ ht => ht.mem.below.size) elemL hol (by decide) (by kernel_rfl) ?_))|exact g_done fun _ _ h=>⟨k', hk', _, _, hI', h.drop.keep [2, 5, 0]⟩|apply g_seq|apply g_reg|apply g_nil|(refine g_keep [5, 0] ?_;apply g_draw (id:=7) [] [] 3)|apply o_all|apply o_go|exact OpsT.nil|exact GuardC.nil|exact UndefC.nil|refine @GuardC.cons _ _ _ _ inferInstance ?_|refine @UndefC.cons _ _ _ inferInstance ?_|apply g_box|apply g_all|apply g_stf|apply g_stw|apply g_sto|apply g_asg|refine g_run rfl inferInstance (by first|exact scown trivial (c_more (by assumption))|exact scown trivial (c_stands1 (by assumption) (by assumption) (by assumption))|exact st_not' (b := true) (u := false) rfl|exact st_not' (b := false) (u := true) rfl|exact st_not' rfl) (by kernel_rfl) ?_|refine g_sk rfl inferInstance rfl (by kernel_rfl) ?_|refine g_un rfl inferInstance (by kernel_rfl) ?_|apply g_st|apply g_skip|apply g_ct|apply g_cf|apply g_ret|refine r_3 rfl ?_|apply g_blk|apply g_eb|apply g_ex|apply e_t|apply e_h|refine e_o rfl ?_|apply r_t|apply r_b|apply g_cl|exact st_lenW|exact scown trivial (c_more (by assumption))|exact scown trivial (c_stands1 (by assumption) (by assumption) (by assumption))|exact st_mkC|exact st_rowL rfl|exact st_sadd (by assumption)|exact st_slen|exact st_add' (by assumption)|exact st_move'|exact st_assign'|exact st_load'|exact st_fieldAddr'|exact st_and_t'|exact st_and_f'|exact st_not' (b := true) (u := false) rfl|exact st_not' (b := false) (u := true) rfl|exact st_not' rfl|exact st_gtr' (by first|assumption|rfl)|exact st_len'|exact st_loadE'|exact Cv.rfl'|(intro _;simp only[newX,newL,ptrs,List.map,List.cons_append,List.nil_append])|intro _
set_option maxRecDepth 20000 in
set_option maxHeartbeats 4000000 in
set_option synthInstance.maxSize 4000 in
set_option synthInstance.maxHeartbeats 400000 in
theorem c7_is {s : List UInt8} (hs : s.length ≤ 9223372036854775807) : Ctr Try.prog S1 14 [0] [.is (Tx s)] (fun _ => .is (.bool (isWd s))) := by
  refine ctr Try.func14 rfl Try.ntmps14 (by simp) (fun _ _ => by kernel_rfl) fun X w0 hE => ?_
  simp only [argE, Nat.zero_add, Nat.reduceAdd]
  repeat' first|kernel_rfl|apply g_seq|apply g_reg|apply g_nil|apply g_box|apply g_all|apply g_stf|apply g_stw|apply g_sto|apply g_asg|apply g_st|apply g_skip|apply g_ct|apply g_cf|apply g_ret|refine r_1 rfl ?_|apply g_blk|apply g_eb|apply g_ex|apply e_t|apply e_h|refine e_o rfl ?_|apply r_t|apply r_b|apply g_cl|exact sc trivial c7_word|exact st_sadd (by assumption)|exact st_slen|exact st_sidx (by assumption)|exact st_add' (by assumption)|exact st_move'|exact st_assign'|exact st_not' (b := true) (u := false) rfl|exact st_not' (b := false) (u := true) rfl|exact st_not' rfl|exact st_lss' (by first|assumption|rfl)|exact st_gtr' (by first|assumption|rfl)|exact st_len'|exact Cv.rfl'|intro _
  refine g_stop fun a w h => ?_
  refine cw_loop (fun k a u => ∃ i : Nat, i + k = s.length ∧ (s.take i).all isW = true ∧ TS w0 X [] [(3, .is (.int .i64 (i : Int))), (0, .is (Tx s))] 18 a u) s.length ⟨0, by omega, rfl, h.keep [3, 0]⟩ ?_
  clear h
  rintro k a u ⟨i, hi, ha, h⟩
  by_cases hlt : i < s.length
  · obtain ⟨c, hx⟩ : ∃ c, s[i]? = some c := ⟨_, List.getElem?_eq_getElem hlt⟩
    have hc : decide ((i : Int) < (s.length : Int)) = true := decide_eq_true (by omega)
    have hix : 0 ≤ (i : Int) ∧ s[(i : Int).toNat]? = some c := ⟨by omega, hx⟩
    have hw : IntKind.i64.wrap ((i : Int) + 1) = ((i + 1 : Nat) : Int) := i64_small (by omega) (by omega)
    have ht : (s.take (i + 1)).all isW = isW c := by rw [List.take_add_one, hx, List.all_append, ha]; simp
    cases hd : isW c
    · have e : isWd s = false := by
        unfold isWd
        rw [← List.take_append_drop (i + 1) s, List.all_append, ht, hd]
        simp
      rw [e]
      have c7w := c7_word (c := c)
      rw [hd] at c7w
      refine g_of h ?_
      clear h
      repeat' first|kernel_rfl|apply g_seq|apply g_reg|apply g_nil|apply g_box|apply g_all|apply g_stf|apply g_stw|apply g_sto|apply g_asg|apply g_st|apply g_skip|apply g_ct|apply g_cf|apply g_ret|refine r_1 rfl ?_|apply g_blk|apply g_eb|apply g_ex|apply e_t|apply e_h|refine e_o rfl ?_|apply r_t|apply r_b|apply g_cl|exact sc trivial c7w|exact st_sadd (by assumption)|exact st_slen|exact st_sidx (by assumption)|exact st_add' (by assumption)|exact st_move'|exact st_assign'|exact st_not' (b := true) (u := false) rfl|exact st_not' (b := false) (u := true) rfl|exact st_not' rfl|exact st_lss' (by first|assumption|rfl)|exact st_gtr' (by first|assumption|rfl)|exact st_len'|exact Cv.rfl'|intro _
    · have c7w := c7_word (c := c)
      rw [hd] at c7w
      refine g_of h ?_
      clear h
      repeat' first|kernel_rfl|exact g_done fun _ _ h=>⟨k - 1, by omega, i + 1, by omega, ht.trans hd, h.keep [3, 0]⟩|apply g_seq|apply g_reg|apply g_nil|apply g_box|apply g_all|apply g_stf|apply g_stw|apply g_sto|apply g_asg|apply g_st|apply g_skip|apply g_ct|apply g_cf|apply g_ret|refine r_1 rfl ?_|apply g_blk|apply g_eb|apply g_ex|apply e_t|apply e_h|refine e_o rfl ?_|apply r_t|apply r_b|apply g_cl|exact sc trivial c7w|exact st_sadd (by assumption)|exact st_slen|exact st_sidx (by assumption)|exact st_add' (by assumption)|exact st_move'|exact st_assign'|exact st_not' (b := true) (u := false) rfl|exact st_not' (b := false) (u := true) rfl|exact st_not' rfl|exact st_lss' (by first|assumption|rfl)|exact st_gtr' (by first|assumption|rfl)|exact st_len'|exact Cv.rfl'|intro _
  · obtain rfl : i = s.length := by omega
    have hc : decide ((s.length : Int) < (s.length : Int)) = false := decide_eq_false (by omega)
    have e : isWd s = decide ((0 : Int) < (s.length : Int)) := by
      unfold isWd
      rw [List.take_length] at ha
      rw [ha, Bool.and_true]
      cases s with
      | nil => rfl
      | cons c s => exact (decide_eq_true (by rw [List.length_cons]; omega)).symm
    rw [e]
    generalize hq : decide ((0 : Int) < (s.length : Int)) = b
    refine g_of h ?_
    clear h
    repeat' first|kernel_rfl|apply g_seq|apply g_reg|apply g_nil|apply g_box|apply g_all|apply g_stf|apply g_stw|apply g_sto|apply g_asg|apply g_st|apply g_skip|apply g_ct|apply g_cf|apply g_ret|refine r_1 rfl ?_|apply g_blk|apply g_eb|apply g_ex|apply e_t|apply e_h|refine e_o rfl ?_|apply r_t|apply r_b|apply g_cl|exact st_sadd (by assumption)|exact st_slen|exact st_sidx (by assumption)|exact st_add' (by assumption)|exact st_move'|exact st_assign'|exact st_not' (b := true) (u := false) rfl|exact st_not' (b := false) (u := true) rfl|exact st_not' rfl|exact st_lss' (by first|assumption|rfl)|exact st_gtr' (by first|assumption|rfl)|exact st_len'|exact Cv.rfl'|intro _
section
variable {P : Program} {w00 : World} {X : List Nat} {L : List Loc} {E : List (Nat × VTy)} {n : Nat} {ops : Array Oper} {rest : List Oper} {Q : Exit → Act → World → Prop} {cs : List Code}
/-- What was reckoned last is seen otherwise. -/
theorem g_top {s : Nat} {T T' : VTy} (hT : ∀ X w v, T.holds X w v → T'.holds X w v) (h : GR P w00 X L ((s, T') :: E) n ops rest cs Q) : GR P w00 X L ((s, T) :: E) n ops rest cs Q := ⟨fun a w ht => h.run a w (ht.cast hT)⟩
end
theorem r1_lo {e e2 : TypeId} {B B0 : Nat} {y : Ln} (hB : B0 ≤ B) {X : List Nat} {w : World} {v : Value} (h : (VTy.r1 (Rp.lo e B) e2 tt y).holds X w v) : (VTy.r1 (Rp.lo e B0) e2 tt y).holds X w v := by
  obtain ⟨hp, b, o, cs, e, hb, h1, h2⟩ := h
  exact ⟨hp, b, o, cs, e, hb, h1, ((Rp.own Rp.wd _).pair (Rp.int .i64)).more h2 fun b hb => ⟨hb.1, Nat.le_trans hB hb.2⟩⟩
/-- Between two bytes of the reference. -/
structure RefI (s : List UInt8) (R : List Ln × Int × Int) (k i : Nat) (out : List Ln) (ws : List Wd) (la : Int) (rem op : Bool) : Prop where
  o : out.length ≤ i
  w : ws.length ≤ i
  p : op = true → ws ≠ []
  t : ∀ x ∈ ws, x.1.length ≤ i
  l : (i ≤ s.length ∧ k = s.length - i + 1 ∧ lx (s.drop i) (i : Int) out ws la rem op = R) ∨ (i = s.length + 1 ∧ k = 0 ∧ R = (out, 0, 0))
theorem RefI.over {s : List UInt8} {R : List Ln × Int × Int} {k i : Nat} {out : List Ln} {ws : List Wd} {la : Int} {rem op : Bool} (h : RefI s R k i out ws la rem op) (hi : decide ((i : Int) ≤ (s.length : Int)) = false) : R = (out, 0, 0) := by
  have := of_decide_eq_false hi
  rcases h.l with ⟨h1, _⟩ | ⟨_, _, h3⟩
  · omega
  · exact h3
theorem RefI.fin {s : List UInt8} {R : List Ln × Int × Int} {k : Nat} {out : List Ln} {ws : List Wd} {la : Int} {rem op : Bool} (h : RefI s R k s.length out ws la rem op) : ∃ k', k' < k ∧ RefI s R k' (s.length + 1) (psh out ws la) [] ((s.length + 1 : Nat) : Int) false false := by
  rcases h.l with ⟨h1, h2, h3⟩ | ⟨h1, _⟩
  · refine ⟨0, by omega, ?_, Nat.zero_le _, (fun h => by cases h), (fun _ h => by cases h), .inr ⟨rfl, rfl, ?_⟩⟩
    · have := psh_len out ws la
      have := h.o
      omega
    · rw [← h3, List.drop_length]; rfl
  · omega
theorem RefI.at {s : List UInt8} {R : List Ln × Int × Int} {k i : Nat} {out : List Ln} {ws : List Wd} {la : Int} {rem op : Bool} (h : RefI s R k i out ws la rem op) {c : UInt8} (hi : i < s.length) (hx : s[i]? = some c) : (bif (c.toNat : Int) == 10 then lx (s.drop (i + 1)) (i + 1) (psh out ws la) [] (i + 1) false false
    else bif rem || (c.toNat : Int) == 35 then lx (s.drop (i + 1)) (i + 1) out ws la true false
    else bif isB c then lx (s.drop (i + 1)) (i + 1) out ws la false false
    else bif !isW c then ([], (i : Int), 70)
    else bif op then lx (s.drop (i + 1)) (i + 1) out (apl ws c) la false true
    else lx (s.drop (i + 1)) (i + 1) out (ws ++ [([c], (i : Int))]) la false true) = R := by
  rcases h.l with ⟨h1, h2, h3⟩ | ⟨h1, _⟩
  · obtain ⟨hl, hc⟩ := List.getElem?_eq_some_iff.1 hx
    rw [List.drop_eq_getElem_cons hl, hc] at h3
    exact h3
  · omega
theorem RefI.next {s : List UInt8} {R : List Ln × Int × Int} {k i : Nat} {out out' : List Ln} {ws ws' : List Wd} {la la' : Int} {rem op rem' op' : Bool} (h : RefI s R k i out ws la rem op) (hi : i < s.length) (ho : out'.length ≤ out.length + 1) (hw : ws'.length ≤ ws.length + 1) (hp : op' = true → ws' ≠ []) (ht : (∀ x ∈ ws, x.1.length ≤ i) → ∀ x ∈ ws', x.1.length ≤ i + 1) (he : lx (s.drop (i + 1)) ((i : Int) + 1) out' ws' la' rem' op' = R) : ∃ k', k' < k ∧ RefI s R k' (i + 1) out' ws' la' rem' op' := by
  rcases h.l with ⟨h1, h2, h3⟩ | ⟨h1, _⟩
  · exact ⟨s.length - (i + 1) + 1, by omega, by have := h.o; omega, by have := h.w; omega, hp, ht h.t, .inl ⟨by omega, rfl, by rw [← he]; rfl⟩⟩
  · omega
theorem apl_len : ∀ (ws : List Wd) (c : UInt8), (apl ws c).length = ws.length
  | [], _ => rfl
  | [_], _ => rfl
  | w :: v :: ws, c => by
    show (apl (v :: ws) c).length + 1 = _
    rw [apl_len (v :: ws) c]; rfl
theorem apl_mem : ∀ (ws : List Wd) (c : UInt8) (x : Wd), x ∈ apl ws c → ∃ y ∈ ws, x.1.length ≤ y.1.length + 1
  | [], _, _, h => by cases h
  | [w], c, x, h => ⟨w, List.mem_cons_self, by rw [List.mem_singleton.1 h, List.length_append]; exact Nat.le_refl _⟩
  | w :: v :: ws, c, x, h => by
    rcases List.mem_cons.1 h with rfl | h
    · exact ⟨_, List.mem_cons_self, Nat.le_succ _⟩
    · obtain ⟨y, hy, hl⟩ := apl_mem (v :: ws) c x h
      exact ⟨y, List.mem_cons_of_mem _ hy, hl⟩
theorem apl_set {ws : List Wd} (h : ws ≠ []) (c : UInt8) : ∃ (j : Nat) (t : List UInt8) (a : Int), ws.length = j + 1 ∧ ws[j]? = some (t, a) ∧ ws.set j (t ++ [c], a) = apl ws c := by
  obtain ⟨x, hx⟩ : ∃ x, ws.getLast? = some x := ⟨_, List.getLast?_eq_some_getLast h⟩
  have e := List.dropLast_concat_getLast h
  have hx' : ws.getLast h = x := by rw [List.getLast?_eq_some_getLast h] at hx; injection hx
  rw [hx'] at e
  have hl : ws.length = ws.dropLast.length + 1 := by rw [← e]; simp
  refine ⟨ws.dropLast.length, x.1, x.2, hl, ?_, ?_⟩
  · conv => lhs; rw [← e]
    simp
  · conv => rhs; rw [← e]
    rw [apl_last]
    conv => lhs; rw [← e]
    simp
theorem lnb_nil {e : TypeId} {B B' : Nat} {a : Int} {X : List Nat} {w : World} {v : Value} (h : (VTy.lnb e B [] a).holds X w v) : (VTy.lnb e B' [] a).holds X w v := by
  obtain ⟨sv, rfl, A, c, ps, rfl, _, _, h4, _, h6⟩ := h
  obtain rfl : A = none := h6 rfl
  rcases h4.form with ⟨_, _, hc⟩ | ⟨g, hg, _⟩
  · subst hc
    exact ⟨_, rfl, ow_nil rfl⟩
  · cases hg
theorem und_size {w00 w : World} {X : List Nat} {L : List Loc} {E : List (Nat × VTy)} {n s B : Nat} {T : VTy} {a : Act} (h : TS w00 X L E n a w) (hs : (s, .und B T) ∈ E) : B ≤ w.heap.size := (h.slots _ hs).1
/-- The row so far is let be: what comes is laid behind. -/
theorem TS.again {w00 w : World} {X : List Nat} {r s B : Nat} {e e2 : TypeId} {la : Int} {T : VTy} {q : Rp Ln} {B0 : Nat} {out : List Ln} {E : List (Nat × VTy)} {n : Nat} {a : Act} (h : TS w00 X [(r, .lnb e B [] la)] ((s, T) :: E) n a w) [ao : AsOw T q e2 tt B0 out] : TS w00 X [(r, .lnb e w.heap.size [] la)] ((s, .und w.heap.size (.ow q e2 tt B0 out)) :: E) n a w :=
  (TS.ageE (h.cast fun _ _ _ h => ao.ok h)).locs (.cons (fun _ _ _ h => lnb_nil h) .nil)
theorem cv_owU {r : Rp Ln} {e : TypeId} {B B' : Nat} {l : List Ln} {T U : VTy} : Cv (.tup [.und B' (.ow r e tt B l), T, U]) (.tup [.ow r e tt B l, T, U]) := ⟨fun X w v h => by
  obtain ⟨vs, e, h⟩ := h
  refine ⟨vs, e, ?_⟩
  match vs, h with
  | [_, _, _], ⟨h1, h2⟩ => exact ⟨und_weak h1, h2⟩⟩
section
variable {P : Program} {w00 : World} {N : Nat} {L : List Loc} {E : List (Nat × VTy)} {d : Nat} {t0 : TypeId} {pos : String} {af : Array Edge} {gd : Option (Nat × Bool)} {ats : Array TypeId}
theorem st_sone {o o1 o2 : Operand} {l : List UInt8} {i : Nat} {c : UInt8} {ty : TypeId} [ho : OpC E o (.is (Tx l))] [h1 : OpC E o1 (.is (.int .i64 (i : Int)))] [h2 : OpC E o2 (.is (.int .i64 ((i + 1 : Nat) : Int)))] [ht : StrC P ty] (hc : l[i]? = some c) : StepT P w00 N L E ⟨some d, .slice ty o (some o1) (some o2) none, t0, pos, af, gd⟩ (.is (Tx [c])) := by
  have hlt := (List.getElem?_eq_some_iff.1 hc).1
  have h := st_ssub (P := P) (w00 := w00) (N := N) (L := L) (E := E) (d := d) (t0 := t0) (pos := pos) (af := af) (gd := gd) (ty := ty) (o := o) (o1 := o1) (o2 := o2) (l := l) (x := (i : Int)) (y := ((i + 1 : Nat) : Int)) ⟨by omega, by omega, by omega⟩
  rw [Int.toNat_natCast, Int.toNat_natCast] at h
  have e : (l.take (i + 1)).drop i = [c] := by
    rw [List.take_add_one, hc, List.drop_append, List.drop_take_self]
    simp [Nat.min_eq_left (Nat.le_of_lt hlt)]
  rw [e] at h
  exact h
end
set_option maxRecDepth 20000 in
set_option maxHeartbeats 4000000 in
set_option synthInstance.maxSize 4000 in
set_option synthInstance.maxHeartbeats 400000 in
theorem c7_lines {s : List UInt8} : Ctr Try.prog S1 9 [0] [.is (Tx s)] (fun B => .tup [.ow (Rp.lo 44 B) 47 tt B (lexR s).1, .is (.int .i64 (lexR s).2.1), .is (.int .i64 (lexR s).2.2)]) := by
  have hl : decide ((65536 : Int) < (s.length : Int)) = decide (65536 < s.length) := decide_eq_decide.2 (by omega)
  unfold lexR
  rw [← hl]
  clear hl
  cases hl : decide ((65536 : Int) < (s.length : Int))
  rotate_left
  · simp only [cond_true]
    refine ctr Try.func9 rfl Try.ntmps9 (by simp) (fun _ _ => by kernel_rfl) fun X w0 hE => ?_
    simp only [argE, Nat.zero_add, Nat.reduceAdd]
    repeat' first|kernel_rfl|apply g_seq|apply g_reg|apply g_nil|apply o_all|apply o_go|exact OpsT.nil|exact GuardC.nil|exact UndefC.nil|refine @GuardC.cons _ _ _ _ inferInstance ?_|refine @UndefC.cons _ _ _ inferInstance ?_|apply g_box|apply g_all|apply g_stf|apply g_stw|apply g_sto|apply g_asg|refine g_run rfl inferInstance (by first|exact sc trivial c7w|exact st_seq (by first|assumption|rfl)|exact st_sidx (by assumption)|exact st_move'|exact st_eq' (by first|assumption|rfl)) (by kernel_rfl) ?_|refine g_sk rfl inferInstance rfl (by kernel_rfl) ?_|refine g_un rfl inferInstance (by kernel_rfl) ?_|apply g_st|apply g_skip|apply g_ct|apply g_cf|apply g_ret|refine r_3 rfl ?_|apply g_blk|apply g_eb|apply g_ex|apply e_t|apply e_h|refine e_o rfl ?_|apply r_t|apply r_b|apply g_cl|exact st_lenW|exact st_lenO|exact st_sone (by assumption)|exact st_mk0L7 (B := w0.heap.size)|exact st_mkL7 (B := w0.heap.size)|exact st_mkW7|exact st_rowW7 rfl|exact st_rowL7 rfl|exact sc trivial c7w|exact st_idxO (by assumption)|exact st_fldO|exact st_ldO (by assumption)|exact st_slen|exact st_seq (by first|assumption|rfl)|exact st_sidx (by assumption)|exact st_sto (by assumption)|exact st_sfrom (by assumption)|exact st_add' (by assumption)|exact st_sub2 (by assumption)|exact st_sadd (by assumption)|exact st_move'|exact st_assign'|exact st_load'|exact st_fieldAddr'|exact st_or_f'|exact st_or_t'|exact st_not' (b := true) (u := false) rfl|exact st_not' (b := false) (u := true) rfl|exact st_not' rfl|exact st_eq' (by first|assumption|rfl)|exact st_leq' (by first|assumption|rfl)|exact st_gtr' (by first|assumption|rfl)|exact st_len'|exact st_indexAddr' (by assumption)|exact st_loadE'|exact cv_ow0|exact cv_owU|exact Cv.rfl'|(intro _;simp only[newX,newL,ptrs,List.map,List.cons_append,List.nil_append])|intro _
  · have hs : s.length ≤ 65536 := by have := of_decide_eq_false hl; omega
    simp only [cond_false]
    generalize hR : lx s 0 [] [] 0 false false = R
    refine ctr Try.func9 rfl Try.ntmps9 (by simp) (fun _ _ => by kernel_rfl) fun X w0 hE => ?_
    simp only [argE, Nat.zero_add, Nat.reduceAdd]
    repeat' first|kernel_rfl|apply g_seq|apply g_reg|apply g_nil|apply o_all|apply o_go|exact OpsT.nil|exact GuardC.nil|exact UndefC.nil|refine @GuardC.cons _ _ _ _ inferInstance ?_|refine @UndefC.cons _ _ _ inferInstance ?_|apply g_box|apply g_all|apply g_stf|apply g_stw|apply g_sto|apply g_asg|refine g_run rfl inferInstance (by first|exact sc trivial c7w|exact st_seq (by first|assumption|rfl)|exact st_sidx (by assumption)|exact st_move'|exact st_eq' (by first|assumption|rfl)) (by kernel_rfl) ?_|refine g_sk rfl inferInstance rfl (by kernel_rfl) ?_|refine g_un rfl inferInstance (by kernel_rfl) ?_|apply g_st|apply g_skip|apply g_ct|apply g_cf|apply g_ret|refine r_3 rfl ?_|apply g_blk|apply g_eb|apply g_ex|apply e_t|apply e_h|refine e_o rfl ?_|apply r_t|apply r_b|apply g_cl|exact st_lenW|exact st_lenO|exact st_sone (by assumption)|exact st_mk0L7 (B := w0.heap.size)|exact st_mkL7 (B := w0.heap.size)|exact st_mkW7|exact st_rowW7 rfl|exact st_rowL7 rfl|exact sc trivial c7w|exact st_idxO (by assumption)|exact st_fldO|exact st_ldO (by assumption)|exact st_slen|exact st_seq (by first|assumption|rfl)|exact st_sidx (by assumption)|exact st_sto (by assumption)|exact st_sfrom (by assumption)|exact st_add' (by assumption)|exact st_sub2 (by assumption)|exact st_sadd (by assumption)|exact st_move'|exact st_assign'|exact st_load'|exact st_fieldAddr'|exact st_or_f'|exact st_or_t'|exact st_not' (b := true) (u := false) rfl|exact st_not' (b := false) (u := true) rfl|exact st_not' rfl|exact st_eq' (by first|assumption|rfl)|exact st_leq' (by first|assumption|rfl)|exact st_gtr' (by first|assumption|rfl)|exact st_len'|exact st_indexAddr' (by assumption)|exact st_loadE'|exact Cv.rfl'|(intro _;simp only[newX,newL,ptrs,List.map,List.cons_append,List.nil_append])|intro _
    refine g_stop fun a w h => ?_
    rename_i rl
    replace h := ((h.keep [5, 6, 7, 8, 9, 0]).cast (T' := .ow (Rp.lo 44 w0.heap.size) 47 tt w0.heap.size []) fun _ _ _ h => ow_nil h).again
    refine cw_loop (fun k a u => ∃ (i : Nat) (out : List Ln) (ws : List Wd) (la : Int) (rem op : Bool) (B : Nat), RefI s R k i out ws la rem op ∧ w0.heap.size ≤ B ∧ TS w0 (rl :: X) [(rl, .lnb 44 B ws la)] [(5, .und B (.ow (Rp.lo 44 w0.heap.size) 47 tt w0.heap.size out)), (6, .is (.pointer (some ⟨rl, 0, none⟩))), (7, .is (.bool rem)), (8, .is (.bool op)), (9, .is (.int .i64 (i : Int))), (0, .is (Tx s))] 103 a u) (s.length + 1) ⟨0, [], [], 0, false, false, _, ⟨Nat.le_refl _, Nat.le_refl _, (fun h => by cases h), (fun _ h => by cases h), .inl ⟨Nat.zero_le _, rfl, hR⟩⟩, h.mem.below.size, h⟩ ?_
    clear h
    rintro k a u ⟨i, out, ws, la, rem, op, B, hI, hB0, h⟩
    have hol : out.length ≤ i := hI.o
    have hwl : ws.length ≤ i := hI.w
    cases hc : decide ((i : Int) ≤ (s.length : Int))
    · rw [hI.over hc]
      refine g_of h ?_
      clear h
      repeat' first|kernel_rfl|apply g_seq|apply g_reg|apply g_nil|apply o_all|apply o_go|exact OpsT.nil|exact GuardC.nil|exact UndefC.nil|refine @GuardC.cons _ _ _ _ inferInstance ?_|refine @UndefC.cons _ _ _ inferInstance ?_|apply g_box|apply g_all|apply g_stf|apply g_stw|apply g_sto|apply g_asg|refine g_run rfl inferInstance (by first|exact sc trivial c7w|exact st_seq (by first|assumption|rfl)|exact st_sidx (by assumption)|exact st_move'|exact st_eq' (by first|assumption|rfl)) (by kernel_rfl) ?_|refine g_sk rfl inferInstance rfl (by kernel_rfl) ?_|refine g_un rfl inferInstance (by kernel_rfl) ?_|apply g_st|apply g_skip|apply g_ct|apply g_cf|apply g_ret|refine r_3 rfl ?_|apply g_blk|apply g_eb|apply g_ex|apply e_t|apply e_h|refine e_o rfl ?_|apply r_t|apply r_b|apply g_cl|exact st_lenW|exact st_lenO|exact st_sone (by assumption)|exact st_mk0L7 (B := w0.heap.size)|exact st_mkL7 (B := w0.heap.size)|exact st_mkW7|exact st_rowW7 rfl|exact st_rowL7 rfl|exact sc trivial c7w|exact st_idxO (by assumption)|exact st_fldO|exact st_ldO (by assumption)|exact st_slen|exact st_seq (by first|assumption|rfl)|exact st_sidx (by assumption)|exact st_sto (by assumption)|exact st_sfrom (by assumption)|exact st_add' (by assumption)|exact st_sub2 (by assumption)|exact st_sadd (by assumption)|exact st_move'|exact st_assign'|exact st_load'|exact st_fieldAddr'|exact st_or_f'|exact st_or_t'|exact st_not' (b := true) (u := false) rfl|exact st_not' (b := false) (u := true) rfl|exact st_not' rfl|exact st_eq' (by first|assumption|rfl)|exact st_leq' (by first|assumption|rfl)|exact st_gtr' (by first|assumption|rfl)|exact st_len'|exact st_indexAddr' (by assumption)|exact st_loadE'|exact cv_ow0|exact cv_owU|exact Cv.rfl'|(intro _;simp only[newX,newL,ptrs,List.map,List.cons_append,List.nil_append])|intro _
    · have hle := of_decide_eq_true hc
      have hw : IntKind.i64.wrap ((i : Int) + 1) = ((i + 1 : Nat) : Int) := i64_small (by omega) (by omega)
      cases hq : ((i : Int) == (s.length : Int))
      rotate_left
      · have hil : i = s.length := by have := beq_iff_eq.1 hq; omega
        obtain ⟨k', hk', hI'⟩ : ∃ k', k' < k ∧ RefI s R k' (i + 1) (psh out ws la) [] ((i + 1 : Nat) : Int) false false := by rw [hil] at hI ⊢; exact hI.fin
        cases ws with
        | nil =>
          have hp : decide ((0 : Int) < ((([] : List Wd).length : Nat) : Int)) = false := rfl
          refine g_of h ?_
          clear h
          repeat' first|kernel_rfl|(refine g_top (fun _ _ _ h => r1_lo hB0 h) (g_locR (L' := [(_, .lnj _)]) (.cons (fun _ _ _ h => lnb_lnj h) .nil) (g_app [6, 7, 8, 9, 0] (Nat.le_refl _) (fun _ _ ht => ht.mem.below.size) elem7L (by omega) (by decide) (by kernel_rfl) ?_)))|exact g_done fun _ _ h=>⟨k', hk', i + 1, _, [], ((i + 1 : Nat) : Int), false, false, _, hI', h.mem.below.size, (h.keep [5, 6, 7, 8, 9, 0]).again⟩|apply g_seq|apply g_reg|apply g_nil|apply o_all|apply o_go|exact OpsT.nil|exact GuardC.nil|exact UndefC.nil|refine @GuardC.cons _ _ _ _ inferInstance ?_|refine @UndefC.cons _ _ _ inferInstance ?_|apply g_box|apply g_all|apply g_stf|apply g_stw|apply g_sto|apply g_asg|refine g_run rfl inferInstance (by first|exact sc trivial c7w|exact st_seq (by first|assumption|rfl)|exact st_sidx (by assumption)|exact st_move'|exact st_eq' (by first|assumption|rfl)) (by kernel_rfl) ?_|refine g_sk rfl inferInstance rfl (by kernel_rfl) ?_|refine g_un rfl inferInstance (by kernel_rfl) ?_|apply g_st|apply g_skip|apply g_ct|apply g_cf|apply g_ret|refine r_3 rfl ?_|apply g_blk|apply g_eb|apply g_ex|apply e_t|apply e_h|refine e_o rfl ?_|apply r_t|apply r_b|apply g_cl|exact st_lenW|exact st_lenO|exact st_sone (by assumption)|exact st_mk0L7 (B := w0.heap.size)|exact st_mkL7 (B := w0.heap.size)|exact st_mkW7|exact st_rowW7 rfl|exact st_rowL7 rfl|exact sc trivial c7w|exact st_idxO (by assumption)|exact st_fldO|exact st_ldO (by assumption)|exact st_slen|exact st_seq (by first|assumption|rfl)|exact st_sidx (by assumption)|exact st_sto (by assumption)|exact st_sfrom (by assumption)|exact st_add' (by assumption)|exact st_sub2 (by assumption)|exact st_sadd (by assumption)|exact st_move'|exact st_assign'|exact st_load'|exact st_fieldAddr'|exact st_or_f'|exact st_or_t'|exact st_not' (b := true) (u := false) rfl|exact st_not' (b := false) (u := true) rfl|exact st_not' rfl|exact st_eq' (by first|assumption|rfl)|exact st_leq' (by first|assumption|rfl)|exact st_gtr' (by first|assumption|rfl)|exact st_len'|exact st_indexAddr' (by assumption)|exact st_loadE'|exact Cv.rfl'|(intro _;simp only[newX,newL,ptrs,List.map,List.cons_append,List.nil_append])|intro _
        | cons x ws =>
          have hp : decide ((0 : Int) < (((x :: ws).length : Nat) : Int)) = true := decide_eq_true (by rw [List.length_cons]; omega)
          refine g_of h ?_
          clear h
          repeat' first|kernel_rfl|(refine g_top (fun _ _ _ h => r1_lo hB0 h) (g_locR (L' := [(_, .lnj _)]) (.cons (fun _ _ _ h => lnb_lnj h) .nil) (g_app [6, 7, 8, 9, 0] (Nat.le_refl _) (fun _ _ ht => ht.mem.below.size) elem7L (by omega) (by decide) (by kernel_rfl) ?_)))|exact g_done fun _ _ h=>⟨k', hk', i + 1, _, [], ((i + 1 : Nat) : Int), false, false, _, hI', h.mem.below.size, (h.keep [5, 6, 7, 8, 9, 0]).again⟩|apply g_seq|apply g_reg|apply g_nil|apply o_all|apply o_go|exact OpsT.nil|exact GuardC.nil|exact UndefC.nil|refine @GuardC.cons _ _ _ _ inferInstance ?_|refine @UndefC.cons _ _ _ inferInstance ?_|apply g_box|apply g_all|apply g_stf|apply g_stw|apply g_sto|apply g_asg|refine g_run rfl inferInstance (by first|exact sc trivial c7w|exact st_seq (by first|assumption|rfl)|exact st_sidx (by assumption)|exact st_move'|exact st_eq' (by first|assumption|rfl)) (by kernel_rfl) ?_|refine g_sk rfl inferInstance rfl (by kernel_rfl) ?_|refine g_un rfl inferInstance (by kernel_rfl) ?_|apply g_st|apply g_skip|apply g_ct|apply g_cf|apply g_ret|refine r_3 rfl ?_|apply g_blk|apply g_eb|apply g_ex|apply e_t|apply e_h|refine e_o rfl ?_|apply r_t|apply r_b|apply g_cl|exact st_lenW|exact st_lenO|exact st_sone (by assumption)|exact st_mk0L7 (B := w0.heap.size)|exact st_mkL7 (B := w0.heap.size)|exact st_mkW7|exact st_rowW7 rfl|exact st_rowL7 rfl|exact sc trivial c7w|exact st_idxO (by assumption)|exact st_fldO|exact st_ldO (by assumption)|exact st_slen|exact st_seq (by first|assumption|rfl)|exact st_sidx (by assumption)|exact st_sto (by assumption)|exact st_sfrom (by assumption)|exact st_add' (by assumption)|exact st_sub2 (by assumption)|exact st_sadd (by assumption)|exact st_move'|exact st_assign'|exact st_load'|exact st_fieldAddr'|exact st_or_f'|exact st_or_t'|exact st_not' (b := true) (u := false) rfl|exact st_not' (b := false) (u := true) rfl|exact st_not' rfl|exact st_eq' (by first|assumption|rfl)|exact st_leq' (by first|assumption|rfl)|exact st_gtr' (by first|assumption|rfl)|exact st_len'|exact st_indexAddr' (by assumption)|exact st_loadE'|exact Cv.rfl'|(intro _;simp only[newX,newL,ptrs,List.map,List.cons_append,List.nil_append])|intro _
      · have hlt : i < s.length := by have := beq_eq_false_iff_ne.1 hq; omega
        obtain ⟨c, hx⟩ : ∃ c, s[i]? = some c := ⟨_, List.getElem?_eq_getElem hlt⟩
        have hix : 0 ≤ (i : Int) ∧ s[(i : Int).toNat]? = some c := ⟨by omega, hx⟩
        have hat := hI.at hlt hx
        have c7w := c7_word (c := c)
        cases h10 : ((c.toNat : Int) == 10)
        rotate_left
        · rw [h10, cond_true] at hat
          obtain ⟨k', hk', hI'⟩ := hI.next (la' := ((i + 1 : Nat) : Int)) hlt (psh_len _ _ _) (Nat.zero_le _) (fun h => by cases h) (fun _ _ h => by cases h) hat
          cases ws with
          | nil =>
            have hp : decide ((0 : Int) < ((([] : List Wd).length : Nat) : Int)) = false := rfl
            refine g_of h ?_
            clear h
            repeat' first|kernel_rfl|(refine g_top (fun _ _ _ h => r1_lo hB0 h) (g_locR (L' := [(_, .lnj _)]) (.cons (fun _ _ _ h => lnb_lnj h) .nil) (g_app [6, 7, 8, 9, 0] (Nat.le_refl _) (fun _ _ ht => ht.mem.below.size) elem7L (by omega) (by decide) (by kernel_rfl) ?_)))|exact g_done fun _ _ h=>⟨k', hk', i + 1, _, [], ((i + 1 : Nat) : Int), false, false, _, hI', h.mem.below.size, (h.keep [5, 6, 7, 8, 9, 0]).again⟩|apply g_seq|apply g_reg|apply g_nil|apply o_all|apply o_go|exact OpsT.nil|exact GuardC.nil|exact UndefC.nil|refine @GuardC.cons _ _ _ _ inferInstance ?_|refine @UndefC.cons _ _ _ inferInstance ?_|apply g_box|apply g_all|apply g_stf|apply g_stw|apply g_sto|apply g_asg|refine g_run rfl inferInstance (by first|exact sc trivial c7w|exact st_seq (by first|assumption|rfl)|exact st_sidx (by assumption)|exact st_move'|exact st_eq' (by first|assumption|rfl)) (by kernel_rfl) ?_|refine g_sk rfl inferInstance rfl (by kernel_rfl) ?_|refine g_un rfl inferInstance (by kernel_rfl) ?_|apply g_st|apply g_skip|apply g_ct|apply g_cf|apply g_ret|refine r_3 rfl ?_|apply g_blk|apply g_eb|apply g_ex|apply e_t|apply e_h|refine e_o rfl ?_|apply r_t|apply r_b|apply g_cl|exact st_lenW|exact st_lenO|exact st_sone (by assumption)|exact st_mk0L7 (B := w0.heap.size)|exact st_mkL7 (B := w0.heap.size)|exact st_mkW7|exact st_rowW7 rfl|exact st_rowL7 rfl|exact sc trivial c7w|exact st_idxO (by assumption)|exact st_fldO|exact st_ldO (by assumption)|exact st_slen|exact st_seq (by first|assumption|rfl)|exact st_sidx (by assumption)|exact st_sto (by assumption)|exact st_sfrom (by assumption)|exact st_add' (by assumption)|exact st_sub2 (by assumption)|exact st_sadd (by assumption)|exact st_move'|exact st_assign'|exact st_load'|exact st_fieldAddr'|exact st_or_f'|exact st_or_t'|exact st_not' (b := true) (u := false) rfl|exact st_not' (b := false) (u := true) rfl|exact st_not' rfl|exact st_eq' (by first|assumption|rfl)|exact st_leq' (by first|assumption|rfl)|exact st_gtr' (by first|assumption|rfl)|exact st_len'|exact st_indexAddr' (by assumption)|exact st_loadE'|exact Cv.rfl'|(intro _;simp only[newX,newL,ptrs,List.map,List.cons_append,List.nil_append])|intro _
          | cons x ws =>
            have hp : decide ((0 : Int) < (((x :: ws).length : Nat) : Int)) = true := decide_eq_true (by rw [List.length_cons]; omega)
            refine g_of h ?_
            clear h
            repeat' first|kernel_rfl|(refine g_top (fun _ _ _ h => r1_lo hB0 h) (g_locR (L' := [(_, .lnj _)]) (.cons (fun _ _ _ h => lnb_lnj h) .nil) (g_app [6, 7, 8, 9, 0] (Nat.le_refl _) (fun _ _ ht => ht.mem.below.size) elem7L (by omega) (by decide) (by kernel_rfl) ?_)))|exact g_done fun _ _ h=>⟨k', hk', i + 1, _, [], ((i + 1 : Nat) : Int), false, false, _, hI', h.mem.below.size, (h.keep [5, 6, 7, 8, 9, 0]).again⟩|apply g_seq|apply g_reg|apply g_nil|apply o_all|apply o_go|exact OpsT.nil|exact GuardC.nil|exact UndefC.nil|refine @GuardC.cons _ _ _ _ inferInstance ?_|refine @UndefC.cons _ _ _ inferInstance ?_|apply g_box|apply g_all|apply g_stf|apply g_stw|apply g_sto|apply g_asg|refine g_run rfl inferInstance (by first|exact sc trivial c7w|exact st_seq (by first|assumption|rfl)|exact st_sidx (by assumption)|exact st_move'|exact st_eq' (by first|assumption|rfl)) (by kernel_rfl) ?_|refine g_sk rfl inferInstance rfl (by kernel_rfl) ?_|refine g_un rfl inferInstance (by kernel_rfl) ?_|apply g_st|apply g_skip|apply g_ct|apply g_cf|apply g_ret|refine r_3 rfl ?_|apply g_blk|apply g_eb|apply g_ex|apply e_t|apply e_h|refine e_o rfl ?_|apply r_t|apply r_b|apply g_cl|exact st_lenW|exact st_lenO|exact st_sone (by assumption)|exact st_mk0L7 (B := w0.heap.size)|exact st_mkL7 (B := w0.heap.size)|exact st_mkW7|exact st_rowW7 rfl|exact st_rowL7 rfl|exact sc trivial c7w|exact st_idxO (by assumption)|exact st_fldO|exact st_ldO (by assumption)|exact st_slen|exact st_seq (by first|assumption|rfl)|exact st_sidx (by assumption)|exact st_sto (by assumption)|exact st_sfrom (by assumption)|exact st_add' (by assumption)|exact st_sub2 (by assumption)|exact st_sadd (by assumption)|exact st_move'|exact st_assign'|exact st_load'|exact st_fieldAddr'|exact st_or_f'|exact st_or_t'|exact st_not' (b := true) (u := false) rfl|exact st_not' (b := false) (u := true) rfl|exact st_not' rfl|exact st_eq' (by first|assumption|rfl)|exact st_leq' (by first|assumption|rfl)|exact st_gtr' (by first|assumption|rfl)|exact st_len'|exact st_indexAddr' (by assumption)|exact st_loadE'|exact Cv.rfl'|(intro _;simp only[newX,newL,ptrs,List.map,List.cons_append,List.nil_append])|intro _
        · rw [h10, cond_false] at hat
          cases rem
          rotate_left
          · rw [Bool.true_or, cond_true] at hat
            obtain ⟨k', hk', hI'⟩ := hI.next hlt (Nat.le_succ _) (Nat.le_succ _) (fun h => by cases h) (fun h x hx => Nat.le_succ_of_le (h x hx)) hat
            refine g_of h ?_
            clear h
            repeat' first|kernel_rfl|exact g_done fun _ _ h=>⟨k', hk', i + 1, out, ws, la, true, false, B, hI', hB0, h.keep [5, 6, 7, 8, 9, 0]⟩|apply g_seq|apply g_reg|apply g_nil|apply o_all|apply o_go|exact OpsT.nil|exact GuardC.nil|exact UndefC.nil|refine @GuardC.cons _ _ _ _ inferInstance ?_|refine @UndefC.cons _ _ _ inferInstance ?_|apply g_box|apply g_all|apply g_stf|apply g_stw|apply g_sto|apply g_asg|refine g_run rfl inferInstance (by first|exact sc trivial c7w|exact st_seq (by first|assumption|rfl)|exact st_sidx (by assumption)|exact st_move'|exact st_eq' (by first|assumption|rfl)) (by kernel_rfl) ?_|refine g_sk rfl inferInstance rfl (by kernel_rfl) ?_|refine g_un rfl inferInstance (by kernel_rfl) ?_|apply g_st|apply g_skip|apply g_ct|apply g_cf|apply g_ret|refine r_3 rfl ?_|apply g_blk|apply g_eb|apply g_ex|apply e_t|apply e_h|refine e_o rfl ?_|apply r_t|apply r_b|apply g_cl|exact st_lenW|exact st_lenO|exact st_sone (by assumption)|exact st_mk0L7 (B := w0.heap.size)|exact st_mkL7 (B := w0.heap.size)|exact st_mkW7|exact st_rowW7 rfl|exact st_rowL7 rfl|exact sc trivial c7w|exact st_idxO (by assumption)|exact st_fldO|exact st_ldO (by assumption)|exact st_slen|exact st_seq (by first|assumption|rfl)|exact st_sidx (by assumption)|exact st_sto (by assumption)|exact st_sfrom (by assumption)|exact st_add' (by assumption)|exact st_sub2 (by assumption)|exact st_sadd (by assumption)|exact st_move'|exact st_assign'|exact st_load'|exact st_fieldAddr'|exact st_or_f'|exact st_or_t'|exact st_not' (b := true) (u := false) rfl|exact st_not' (b := false) (u := true) rfl|exact st_not' rfl|exact st_eq' (by first|assumption|rfl)|exact st_leq' (by first|assumption|rfl)|exact st_gtr' (by first|assumption|rfl)|exact st_len'|exact st_indexAddr' (by assumption)|exact st_loadE'|exact Cv.rfl'|(intro _;simp only[newX,newL,ptrs,List.map,List.cons_append,List.nil_append])|intro _
          · rw [Bool.false_or] at hat
            cases h35 : ((c.toNat : Int) == 35)
            rotate_left
            · rw [h35, cond_true] at hat
              obtain ⟨k', hk', hI'⟩ := hI.next hlt (Nat.le_succ _) (Nat.le_succ _) (fun h => by cases h) (fun h x hx => Nat.le_succ_of_le (h x hx)) hat
              refine g_of h ?_
              clear h
              repeat' first|kernel_rfl|exact g_done fun _ _ h=>⟨k', hk', i + 1, out, ws, la, true, false, B, hI', hB0, h.keep [5, 6, 7, 8, 9, 0]⟩|apply g_seq|apply g_reg|apply g_nil|apply o_all|apply o_go|exact OpsT.nil|exact GuardC.nil|exact UndefC.nil|refine @GuardC.cons _ _ _ _ inferInstance ?_|refine @UndefC.cons _ _ _ inferInstance ?_|apply g_box|apply g_all|apply g_stf|apply g_stw|apply g_sto|apply g_asg|refine g_run rfl inferInstance (by first|exact sc trivial c7w|exact st_seq (by first|assumption|rfl)|exact st_sidx (by assumption)|exact st_move'|exact st_eq' (by first|assumption|rfl)) (by kernel_rfl) ?_|refine g_sk rfl inferInstance rfl (by kernel_rfl) ?_|refine g_un rfl inferInstance (by kernel_rfl) ?_|apply g_st|apply g_skip|apply g_ct|apply g_cf|apply g_ret|refine r_3 rfl ?_|apply g_blk|apply g_eb|apply g_ex|apply e_t|apply e_h|refine e_o rfl ?_|apply r_t|apply r_b|apply g_cl|exact st_lenW|exact st_lenO|exact st_sone (by assumption)|exact st_mk0L7 (B := w0.heap.size)|exact st_mkL7 (B := w0.heap.size)|exact st_mkW7|exact st_rowW7 rfl|exact st_rowL7 rfl|exact sc trivial c7w|exact st_idxO (by assumption)|exact st_fldO|exact st_ldO (by assumption)|exact st_slen|exact st_seq (by first|assumption|rfl)|exact st_sidx (by assumption)|exact st_sto (by assumption)|exact st_sfrom (by assumption)|exact st_add' (by assumption)|exact st_sub2 (by assumption)|exact st_sadd (by assumption)|exact st_move'|exact st_assign'|exact st_load'|exact st_fieldAddr'|exact st_or_f'|exact st_or_t'|exact st_not' (b := true) (u := false) rfl|exact st_not' (b := false) (u := true) rfl|exact st_not' rfl|exact st_eq' (by first|assumption|rfl)|exact st_leq' (by first|assumption|rfl)|exact st_gtr' (by first|assumption|rfl)|exact st_len'|exact st_indexAddr' (by assumption)|exact st_loadE'|exact Cv.rfl'|(intro _;simp only[newX,newL,ptrs,List.map,List.cons_append,List.nil_append])|intro _
            · rw [h35, cond_false] at hat
              cases h32 : ((c.toNat : Int) == 32)
              rotate_left
              · have hB : isB c = true := by unfold isB; rw [h32]; rfl
                rw [hB, cond_true] at hat
                obtain ⟨k', hk', hI'⟩ := hI.next hlt (Nat.le_succ _) (Nat.le_succ _) (fun h => by cases h) (fun h x hx => Nat.le_succ_of_le (h x hx)) hat
                refine g_of h ?_
                clear h
                repeat' first|kernel_rfl|exact g_done fun _ _ h=>⟨k', hk', i + 1, out, ws, la, false, false, B, hI', hB0, h.keep [5, 6, 7, 8, 9, 0]⟩|apply g_seq|apply g_reg|apply g_nil|apply o_all|apply o_go|exact OpsT.nil|exact GuardC.nil|exact UndefC.nil|refine @GuardC.cons _ _ _ _ inferInstance ?_|refine @UndefC.cons _ _ _ inferInstance ?_|apply g_box|apply g_all|apply g_stf|apply g_stw|apply g_sto|apply g_asg|refine g_run rfl inferInstance (by first|exact sc trivial c7w|exact st_seq (by first|assumption|rfl)|exact st_sidx (by assumption)|exact st_move'|exact st_eq' (by first|assumption|rfl)) (by kernel_rfl) ?_|refine g_sk rfl inferInstance rfl (by kernel_rfl) ?_|refine g_un rfl inferInstance (by kernel_rfl) ?_|apply g_st|apply g_skip|apply g_ct|apply g_cf|apply g_ret|refine r_3 rfl ?_|apply g_blk|apply g_eb|apply g_ex|apply e_t|apply e_h|refine e_o rfl ?_|apply r_t|apply r_b|apply g_cl|exact st_lenW|exact st_lenO|exact st_sone (by assumption)|exact st_mk0L7 (B := w0.heap.size)|exact st_mkL7 (B := w0.heap.size)|exact st_mkW7|exact st_rowW7 rfl|exact st_rowL7 rfl|exact sc trivial c7w|exact st_idxO (by assumption)|exact st_fldO|exact st_ldO (by assumption)|exact st_slen|exact st_seq (by first|assumption|rfl)|exact st_sidx (by assumption)|exact st_sto (by assumption)|exact st_sfrom (by assumption)|exact st_add' (by assumption)|exact st_sub2 (by assumption)|exact st_sadd (by assumption)|exact st_move'|exact st_assign'|exact st_load'|exact st_fieldAddr'|exact st_or_f'|exact st_or_t'|exact st_not' (b := true) (u := false) rfl|exact st_not' (b := false) (u := true) rfl|exact st_not' rfl|exact st_eq' (by first|assumption|rfl)|exact st_leq' (by first|assumption|rfl)|exact st_gtr' (by first|assumption|rfl)|exact st_len'|exact st_indexAddr' (by assumption)|exact st_loadE'|exact Cv.rfl'|(intro _;simp only[newX,newL,ptrs,List.map,List.cons_append,List.nil_append])|intro _
              · cases h9 : ((c.toNat : Int) == 9)
                rotate_left
                · have hB : isB c = true := by unfold isB; rw [h32, h9]; rfl
                  rw [hB, cond_true] at hat
                  obtain ⟨k', hk', hI'⟩ := hI.next hlt (Nat.le_succ _) (Nat.le_succ _) (fun h => by cases h) (fun h x hx => Nat.le_succ_of_le (h x hx)) hat
                  refine g_of h ?_
                  clear h
                  repeat' first|kernel_rfl|exact g_done fun _ _ h=>⟨k', hk', i + 1, out, ws, la, false, false, B, hI', hB0, h.keep [5, 6, 7, 8, 9, 0]⟩|apply g_seq|apply g_reg|apply g_nil|apply o_all|apply o_go|exact OpsT.nil|exact GuardC.nil|exact UndefC.nil|refine @GuardC.cons _ _ _ _ inferInstance ?_|refine @UndefC.cons _ _ _ inferInstance ?_|apply g_box|apply g_all|apply g_stf|apply g_stw|apply g_sto|apply g_asg|refine g_run rfl inferInstance (by first|exact sc trivial c7w|exact st_seq (by first|assumption|rfl)|exact st_sidx (by assumption)|exact st_move'|exact st_eq' (by first|assumption|rfl)) (by kernel_rfl) ?_|refine g_sk rfl inferInstance rfl (by kernel_rfl) ?_|refine g_un rfl inferInstance (by kernel_rfl) ?_|apply g_st|apply g_skip|apply g_ct|apply g_cf|apply g_ret|refine r_3 rfl ?_|apply g_blk|apply g_eb|apply g_ex|apply e_t|apply e_h|refine e_o rfl ?_|apply r_t|apply r_b|apply g_cl|exact st_lenW|exact st_lenO|exact st_sone (by assumption)|exact st_mk0L7 (B := w0.heap.size)|exact st_mkL7 (B := w0.heap.size)|exact st_mkW7|exact st_rowW7 rfl|exact st_rowL7 rfl|exact sc trivial c7w|exact st_idxO (by assumption)|exact st_fldO|exact st_ldO (by assumption)|exact st_slen|exact st_seq (by first|assumption|rfl)|exact st_sidx (by assumption)|exact st_sto (by assumption)|exact st_sfrom (by assumption)|exact st_add' (by assumption)|exact st_sub2 (by assumption)|exact st_sadd (by assumption)|exact st_move'|exact st_assign'|exact st_load'|exact st_fieldAddr'|exact st_or_f'|exact st_or_t'|exact st_not' (b := true) (u := false) rfl|exact st_not' (b := false) (u := true) rfl|exact st_not' rfl|exact st_eq' (by first|assumption|rfl)|exact st_leq' (by first|assumption|rfl)|exact st_gtr' (by first|assumption|rfl)|exact st_len'|exact st_indexAddr' (by assumption)|exact st_loadE'|exact Cv.rfl'|(intro _;simp only[newX,newL,ptrs,List.map,List.cons_append,List.nil_append])|intro _
                · have hB : isB c = false := by unfold isB; rw [h32, h9]; rfl
                  rw [hB, cond_false] at hat
                  cases hd : isW c
                  · rw [hd] at hat c7w
                    simp only [Bool.not_false, cond_true] at hat
                    rw [← hat]
                    refine g_of h ?_
                    clear h
                    repeat' first|kernel_rfl|apply g_seq|apply g_reg|apply g_nil|apply o_all|apply o_go|exact OpsT.nil|exact GuardC.nil|exact UndefC.nil|refine @GuardC.cons _ _ _ _ inferInstance ?_|refine @UndefC.cons _ _ _ inferInstance ?_|apply g_box|apply g_all|apply g_stf|apply g_stw|apply g_sto|apply g_asg|refine g_run rfl inferInstance (by first|exact sc trivial c7w|exact st_seq (by first|assumption|rfl)|exact st_sidx (by assumption)|exact st_move'|exact st_eq' (by first|assumption|rfl)) (by kernel_rfl) ?_|refine g_sk rfl inferInstance rfl (by kernel_rfl) ?_|refine g_un rfl inferInstance (by kernel_rfl) ?_|apply g_st|apply g_skip|apply g_ct|apply g_cf|apply g_ret|refine r_3 rfl ?_|apply g_blk|apply g_eb|apply g_ex|apply e_t|apply e_h|refine e_o rfl ?_|apply r_t|apply r_b|apply g_cl|exact st_lenW|exact st_lenO|exact st_sone (by assumption)|exact st_mk0L7 (B := w0.heap.size)|exact st_mkL7 (B := w0.heap.size)|exact st_mkW7|exact st_rowW7 rfl|exact st_rowL7 rfl|exact sc trivial c7w|exact st_idxO (by assumption)|exact st_fldO|exact st_ldO (by assumption)|exact st_slen|exact st_seq (by first|assumption|rfl)|exact st_sidx (by assumption)|exact st_sto (by assumption)|exact st_sfrom (by assumption)|exact st_add' (by assumption)|exact st_sub2 (by assumption)|exact st_sadd (by assumption)|exact st_move'|exact st_assign'|exact st_load'|exact st_fieldAddr'|exact st_or_f'|exact st_or_t'|exact st_not' (b := true) (u := false) rfl|exact st_not' (b := false) (u := true) rfl|exact st_not' rfl|exact st_eq' (by first|assumption|rfl)|exact st_leq' (by first|assumption|rfl)|exact st_gtr' (by first|assumption|rfl)|exact st_len'|exact st_indexAddr' (by assumption)|exact st_loadE'|exact cv_ow0|exact cv_owU|exact Cv.rfl'|(intro _;simp only[newX,newL,ptrs,List.map,List.cons_append,List.nil_append])|intro _
                  · rw [hd] at hat c7w
                    simp only [Bool.not_true, cond_false] at hat
                    cases op
                    · simp only [cond_false] at hat
                      obtain ⟨k', hk', hI'⟩ := hI.next hlt (Nat.le_succ _) (by rw [List.length_append]; exact Nat.le_refl _) (fun _ => by simp) (fun h x hx => (List.mem_append.1 hx).elim (fun hx => Nat.le_succ_of_le (h x hx)) fun hx => by rw [List.mem_singleton.1 hx]; exact Nat.succ_le_succ (Nat.zero_le _)) hat
                      refine g_of h ?_
                      clear h
                      repeat' first|kernel_rfl|(refine g_locR (L' := [(_, .lnj _)]) (.cons (fun _ _ _ h => lnb_lnj h) .nil) (g_app [5, 6, 7, 9, 0] hB0 (fun _ _ ht => und_size ht (Look.mem (s := 5))) elem7W (by omega) (by decide) (by kernel_rfl) ?_))|apply g_stL|exact g_done fun _ _ h=>⟨k', hk', i + 1, out, (ws ++ [([c], (i : Int))]), la, false, true, B, hI', hB0, h.keep [5, 6, 7, 8, 9, 0]⟩|apply g_seq|apply g_reg|apply g_nil|apply g_draw (id:=17) [] [] 10|apply o_all|apply o_go|exact OpsT.nil|exact GuardC.nil|exact UndefC.nil|refine @GuardC.cons _ _ _ _ inferInstance ?_|refine @UndefC.cons _ _ _ inferInstance ?_|apply g_box|apply g_all|apply g_stf|apply g_stw|apply g_sto|apply g_asg|refine g_run rfl inferInstance (by first|exact sc trivial c7w|exact st_seq (by first|assumption|rfl)|exact st_sidx (by assumption)|exact st_move'|exact st_eq' (by first|assumption|rfl)) (by kernel_rfl) ?_|refine g_sk rfl inferInstance rfl (by kernel_rfl) ?_|refine g_un rfl inferInstance (by kernel_rfl) ?_|apply g_st|apply g_skip|apply g_ct|apply g_cf|apply g_ret|refine r_3 rfl ?_|apply g_blk|apply g_eb|apply g_ex|apply e_t|apply e_h|refine e_o rfl ?_|apply r_t|apply r_b|apply g_cl|exact st_lenW|exact st_lenO|exact st_sone (by assumption)|exact st_mk0L7 (B := w0.heap.size)|exact st_mkL7 (B := w0.heap.size)|exact st_mkW7|exact st_rowW7 rfl|exact st_rowL7 rfl|exact sc trivial c7w|exact st_idxO (by assumption)|exact st_fldO|exact st_ldO (by assumption)|exact st_slen|exact st_seq (by first|assumption|rfl)|exact st_sidx (by assumption)|exact st_sto (by assumption)|exact st_sfrom (by assumption)|exact st_add' (by assumption)|exact st_sub2 (by assumption)|exact st_sadd (by assumption)|exact st_move'|exact st_assign'|exact st_load'|exact st_fieldAddr'|exact st_or_f'|exact st_or_t'|exact st_not' (b := true) (u := false) rfl|exact st_not' (b := false) (u := true) rfl|exact st_not' rfl|exact st_eq' (by first|assumption|rfl)|exact st_leq' (by first|assumption|rfl)|exact st_gtr' (by first|assumption|rfl)|exact st_len'|exact st_indexAddr' (by assumption)|exact st_loadE'|exact Cv.rfl'|(intro _;simp only[newX,newL,ptrs,List.map,List.cons_append,List.nil_append])|intro _
                    · simp only [cond_true] at hat
                      obtain ⟨k', hk', hI'⟩ := hI.next hlt (Nat.le_succ _) (by rw [apl_len]; exact Nat.le_succ _) (fun _ h0 => by have := apl_len ws c; rw [h0] at this; exact hI.p rfl (List.length_eq_zero_iff.1 this.symm)) (fun h x hx => by obtain ⟨y, hy, hl⟩ := apl_mem _ _ x hx; have := h y hy; omega) hat
                      obtain ⟨j, t, b, hj1, hj2, hj3⟩ := apl_set (hI.p rfl) c
                      have hjl : j < ws.length := by omega
                      have hwj : IntKind.i64.wrap ((ws.length : Int) - 1) = (j : Int) := by rw [hj1]; rw [IntKind.wrap_i64]; omega
                      have htl : t.length + [c].length ≤ 9223372036854775807 := by have := hI.t _ (List.mem_of_getElem? hj2); rw [List.length_singleton]; show t.length + 1 ≤ _; have : t.length ≤ i := this; omega
                      rw [← hj3] at hI'
                      refine g_of h ?_
                      clear h
                      refine g_nam fun sv => ?_
                      repeat' first|kernel_rfl|(refine g_upd [5, 6, 7, 8, 9, 0] hB0 hj2 ?_)|exact g_done fun _ _ h=>⟨k', hk', i + 1, out, (ws.set j (t ++ [c], b)), la, false, true, B, hI', hB0, h.keep [5, 6, 7, 8, 9, 0]⟩|apply g_seq|apply g_reg|apply g_nil|apply g_draw (id:=24) [] [] 23|apply o_all|apply o_go|exact OpsT.nil|exact GuardC.nil|exact UndefC.nil|refine @GuardC.cons _ _ _ _ inferInstance ?_|refine @UndefC.cons _ _ _ inferInstance ?_|apply g_box|apply g_all|apply g_stf|apply g_stw|apply g_sto|apply g_asg|refine g_run rfl inferInstance (by first|exact sc trivial c7w|exact st_seq (by first|assumption|rfl)|exact st_sidx (by assumption)|exact st_move'|exact st_eq' (by first|assumption|rfl)) (by kernel_rfl) ?_|refine g_sk rfl inferInstance rfl (by kernel_rfl) ?_|refine g_un rfl inferInstance (by kernel_rfl) ?_|apply g_st|apply g_skip|apply g_ct|apply g_cf|apply g_ret|refine r_3 rfl ?_|apply g_blk|apply g_eb|apply g_ex|apply e_t|apply e_h|refine e_o rfl ?_|apply r_t|apply r_b|apply g_cl|exact st_lenW|exact st_lenO|exact st_sone (by assumption)|exact st_mk0L7 (B := w0.heap.size)|exact st_mkL7 (B := w0.heap.size)|exact st_mkW7|exact st_rowW7 rfl|exact st_rowL7 rfl|exact sc trivial c7w|exact st_idxO (by assumption)|exact st_fldO|exact st_ldO (by assumption)|exact st_slen|exact st_seq (by first|assumption|rfl)|exact st_sidx (by assumption)|exact st_sto (by assumption)|exact st_sfrom (by assumption)|exact st_add' (by assumption)|exact st_sub2 (by assumption)|exact st_sadd (by assumption)|exact st_move'|exact st_assign'|exact st_load'|exact st_fieldAddr'|exact st_or_f'|exact st_or_t'|exact st_not' (b := true) (u := false) rfl|exact st_not' (b := false) (u := true) rfl|exact st_not' rfl|exact st_eq' (by first|assumption|rfl)|exact st_leq' (by first|assumption|rfl)|exact st_gtr' (by first|assumption|rfl)|exact st_len'|exact st_indexAddr' (by assumption)|exact st_loadE'|exact Cv.rfl'|(intro _;simp only[newX,newL,ptrs,List.map,List.cons_append,List.nil_append])|intro _
/-- What is shown, line by line, word by word. -/
theorem jn_snoc : ∀ (x : List (List UInt8)) (t : List UInt8), jn (x ++ [t]) = bif x.isEmpty then t else jn x ++ 32 :: t
  | [], t => rfl
  | [u], t => rfl
  | u :: v :: x, t => by
    show u ++ 32 :: jn ((v :: x) ++ [t]) = _
    rw [jn_snoc (v :: x) t]
    show u ++ 32 :: (jn (v :: x) ++ 32 :: t) = (u ++ 32 :: jn (v :: x)) ++ 32 :: t
    rw [List.append_assoc]; rfl
theorem shw_snoc (a : List (List (List UInt8))) (x : List (List UInt8)) : shw (a ++ [x]) = shw a ++ (jn x ++ [10]) := by
  unfold shw
  rw [List.flatMap_append]
  simp
theorem tk_snoc {α : Type} {l : List α} {i : Nat} {x : α} (h : l[i]? = some x) : l.take (i + 1) = l.take i ++ [x] := by rw [List.take_add_one, h]; rfl
theorem wl_take (l : List Ln) (i : Nat) : wl (txs (l.take i)) ≤ wl (txs l) := by
  conv => rhs; rw [← List.take_append_drop i l]
  rw [txs_app, wl_app]
  omega
theorem ww_take (l : List Wd) (i : Nat) : ww (txw (l.take i)) ≤ ww (txw l) := by
  conv => rhs; rw [← List.take_append_drop i l]
  rw [txw_app, ww_app]
  omega
theorem ww_at {l : List Ln} {i : Nat} {x : Ln} (h : l[i]? = some x) : ww (txw x.1) ≤ wl (txs l) := by
  have := wl_take l (i + 1)
  rw [tk_snoc h, txs_app, wl_app] at this
  have e : wl (txs [x]) = ww (txw x.1) := by simp [wl, txs]
  omega
theorem len_at {l : List Wd} {i : Nat} {x : Wd} (h : l[i]? = some x) : x.1.length ≤ ww (txw l) := by
  have := ww_take l (i + 1)
  rw [tk_snoc h, txw_app, ww_app] at this
  have e : ww (txw [x]) = x.1.length + 1 := by simp [ww, txw]
  omega
set_option maxRecDepth 20000 in
set_option maxHeartbeats 4000000 in
set_option synthInstance.maxSize 4000 in
set_option synthInstance.maxHeartbeats 400000 in
theorem c7_show {l : List Ln} (hb : wl (txs l) + l.length ≤ 1000000) : Ctr Try.prog S1 17 [20] [.rw Rp.lr tt l] (fun _ => .is (Tx (shw (txs l)))) := by
  refine ctr Try.func17 rfl Try.ntmps17 (by simp) (fun _ _ => by kernel_rfl) fun X w0 hE => ?_
  simp only [argE, Nat.zero_add, Nat.reduceAdd]
  repeat' first|kernel_rfl|apply g_seq|apply g_reg|apply g_nil|apply g_box|apply g_all|apply g_stf|apply g_stw|apply g_sto|apply g_asg|apply g_st|apply g_skip|apply g_ct|apply g_cf|apply g_ret|refine r_1 rfl ?_|apply g_blk|apply g_eb|apply g_ex|apply e_t|apply e_h|refine e_o rfl ?_|apply r_t|apply r_b|apply g_cl|exact st_lenW|exact st_indexW (by assumption)|exact st_fldE|exact st_loadS|exact st_sadd (by first|assumption|(simp only [List.length_append, List.length_cons, List.length_nil]; omega))|exact st_slen|exact st_add' (by assumption)|exact st_move'|exact st_assign'|exact st_load'|exact st_fieldAddr'|exact st_lss' (by first|assumption|rfl)|exact st_gtr' (by first|assumption|rfl)|exact st_len'|exact st_indexAddr' (by assumption)|exact st_loadE'|exact Cv.rfl'|intro _
  refine g_stop fun a w h => ?_
  refine cw_loop (fun k a u => ∃ i : Nat, i + k = l.length ∧ TS w0 X [] [(3, .is (Tx (shw (txs (l.take i))))), (4, .is (.int .i64 (i : Int))), (0, .rw Rp.lr tt l)] 40 a u) l.length ⟨0, by omega, h.keep [3, 4, 0]⟩ ?_
  clear h
  rintro k a u ⟨i, hi, h⟩
  have hb1 := wl_take l i
  have hb2 := shw_len (txs (l.take i))
  have hb3 : (txs (l.take i)).length ≤ l.length := by unfold txs; rw [List.length_map, List.length_take]; omega
  by_cases hlt : i < l.length
  · obtain ⟨x, hx⟩ : ∃ x, l[i]? = some x := ⟨_, List.getElem?_eq_getElem hlt⟩
    have hc : decide ((i : Int) < (l.length : Int)) = true := decide_eq_true (by omega)
    have hw : IntKind.i64.wrap ((i : Int) + 1) = ((i + 1 : Nat) : Int) := i64_small (by omega) (by omega)
    have hxl := ww_at hx
    have hsn : shw (txs (l.take (i + 1))) = shw (txs (l.take i)) ++ (jn (txw x.1) ++ [10]) := by rw [tk_snoc hx, txs_app]; exact shw_snoc _ _
    generalize hP : shw (txs (l.take i)) = P at *
    refine g_of h ?_
    clear h
    repeat' first|kernel_rfl|apply g_seq|apply g_reg|apply g_nil|apply g_box|apply g_all|apply g_stf|apply g_stw|apply g_sto|apply g_asg|apply g_st|apply g_skip|apply g_ct|apply g_cf|apply g_ret|refine r_1 rfl ?_|apply g_blk|apply g_eb|apply g_ex|apply e_t|apply e_h|refine e_o rfl ?_|apply r_t|apply r_b|apply g_cl|exact st_lenW|exact st_indexW (by assumption)|exact st_fldE|exact st_loadS|exact st_sadd (by first|assumption|(simp only [List.length_append, List.length_cons, List.length_nil]; omega))|exact st_slen|exact st_add' (by assumption)|exact st_move'|exact st_assign'|exact st_load'|exact st_fieldAddr'|exact st_lss' (by first|assumption|rfl)|exact st_gtr' (by first|assumption|rfl)|exact st_len'|exact st_indexAddr' (by assumption)|exact st_loadE'|exact Cv.rfl'|intro _
    refine g_stop fun a w h => ?_
    refine cw_loop (fun k a u => ∃ j : Nat, j + k = x.1.length ∧ TS w0 X [] [(3, .is (Tx (P ++ jn (txw (x.1.take j))))), (5, .is (.int .i64 (j : Int))), (4, .is (.int .i64 (i : Int))), (0, .rw Rp.lr tt l)] 40 a u) x.1.length ⟨0, by omega, by show TS w0 X [] [(3, .is (Tx (P ++ []))), _, _, _] _ _ _; rw [List.append_nil]; exact h.keep [3, 5, 4, 0]⟩ ?_
    clear h
    rintro k' a u ⟨j, hj, h⟩
    have hb4 := ww_take x.1 j
    have hb5 := (jn_len (txw (x.1.take j))).1
    by_cases hjt : j < x.1.length
    · obtain ⟨t, ht⟩ : ∃ t, x.1[j]? = some t := ⟨_, List.getElem?_eq_getElem hjt⟩
      have htl := len_at ht
      have hc2 : decide ((j : Int) < (x.1.length : Int)) = true := decide_eq_true (by omega)
      have hxn : x.1.length ≤ 1000000 := by
        have : x.1.length ≤ ww (txw x.1) := by
          clear hc2 hjt ht hb4 hb5 hj hsn h hx htl hxl
          obtain ⟨ws, _⟩ := x
          induction ws with
          | nil => exact Nat.zero_le _
          | cons w ws ih =>
            have e : ww (txw (w :: ws)) = w.1.length + 1 + ww (txw ws) := by simp [txw, ww]
            simp only [List.length_cons] at *
            omega
        omega
      have hw2 : IntKind.i64.wrap ((j : Int) + 1) = ((j + 1 : Nat) : Int) := i64_small (by omega) (by omega)
      have hj1 : jn (txw (x.1.take (j + 1))) = bif (txw (x.1.take j)).isEmpty then t.1 else jn (txw (x.1.take j)) ++ 32 :: t.1 := by rw [tk_snoc ht, txw_app]; exact jn_snoc _ _
      cases hz : decide ((0 : Int) < (j : Int))
      · obtain rfl : j = 0 := by have := of_decide_eq_false hz; omega
        have he : (P ++ jn (txw (x.1.take 0))) ++ t.1 = P ++ jn (txw (x.1.take (0 + 1))) := by rw [hj1]; show (P ++ []) ++ t.1 = P ++ t.1; rw [List.append_nil]
        refine g_of h ?_
        clear h
        repeat' first|kernel_rfl|exact g_done fun _ _ h=>⟨k' - 1, by omega, 0 + 1, by omega, by rw [← he]; exact h.keep [3, 5, 4, 0]⟩|apply g_seq|apply g_reg|apply g_nil|apply g_box|apply g_all|apply g_stf|apply g_stw|apply g_sto|apply g_asg|apply g_st|apply g_skip|apply g_ct|apply g_cf|apply g_ret|refine r_1 rfl ?_|apply g_blk|apply g_eb|apply g_ex|apply e_t|apply e_h|refine e_o rfl ?_|apply r_t|apply r_b|apply g_cl|exact st_lenW|exact st_indexW (by assumption)|exact st_fldE|exact st_loadS|exact st_sadd (by first|assumption|(simp only [List.length_append, List.length_cons, List.length_nil]; omega))|exact st_slen|exact st_add' (by assumption)|exact st_move'|exact st_assign'|exact st_load'|exact st_fieldAddr'|exact st_lss' (by first|assumption|rfl)|exact st_gtr' (by first|assumption|rfl)|exact st_len'|exact st_indexAddr' (by assumption)|exact st_loadE'|exact Cv.rfl'|intro _
      · have hj0 : 0 < j := by have := of_decide_eq_true hz; omega
        have he : ((P ++ jn (txw (x.1.take j))) ++ [32]) ++ t.1 = P ++ jn (txw (x.1.take (j + 1))) := by
          rw [hj1, show (txw (x.1.take j)).isEmpty = false by
            have : (txw (x.1.take j)).length = j := by unfold txw; rw [List.length_map, List.length_take]; omega
            cases hq : txw (x.1.take j) with
            | nil => rw [hq] at this; simp at this; omega
            | cons => rfl]
          simp
        refine g_of h ?_
        clear h
        repeat' first|kernel_rfl|exact g_done fun _ _ h=>⟨k' - 1, by omega, j + 1, by omega, by rw [← he]; exact h.keep [3, 5, 4, 0]⟩|apply g_seq|apply g_reg|apply g_nil|apply g_box|apply g_all|apply g_stf|apply g_stw|apply g_sto|apply g_asg|apply g_st|apply g_skip|apply g_ct|apply g_cf|apply g_ret|refine r_1 rfl ?_|apply g_blk|apply g_eb|apply g_ex|apply e_t|apply e_h|refine e_o rfl ?_|apply r_t|apply r_b|apply g_cl|exact st_lenW|exact st_indexW (by assumption)|exact st_fldE|exact st_loadS|exact st_sadd (by first|assumption|(simp only [List.length_append, List.length_cons, List.length_nil]; omega))|exact st_slen|exact st_add' (by assumption)|exact st_move'|exact st_assign'|exact st_load'|exact st_fieldAddr'|exact st_lss' (by first|assumption|rfl)|exact st_gtr' (by first|assumption|rfl)|exact st_len'|exact st_indexAddr' (by assumption)|exact st_loadE'|exact Cv.rfl'|intro _
    · obtain rfl : j = x.1.length := by omega
      have hc2 : decide ((x.1.length : Int) < (x.1.length : Int)) = false := decide_eq_false (by omega)
      rw [List.take_length] at h hb5
      have he : (P ++ jn (txw x.1)) ++ [10] = shw (txs (l.take (i + 1))) := by rw [hsn, List.append_assoc]
      refine g_of h ?_
      clear h
      repeat' first|kernel_rfl|exact g_done fun _ _ h=>⟨k - 1, by omega, i + 1, by omega, by rw [← he]; exact h.keep [3, 4, 0]⟩|apply g_seq|apply g_reg|apply g_nil|apply g_box|apply g_all|apply g_stf|apply g_stw|apply g_sto|apply g_asg|apply g_st|apply g_skip|apply g_ct|apply g_cf|apply g_ret|refine r_1 rfl ?_|apply g_blk|apply g_eb|apply g_ex|apply e_t|apply e_h|refine e_o rfl ?_|apply r_t|apply r_b|apply g_cl|exact st_lenW|exact st_indexW (by assumption)|exact st_fldE|exact st_loadS|exact st_sadd (by first|assumption|(simp only [List.length_append, List.length_cons, List.length_nil]; omega))|exact st_slen|exact st_add' (by assumption)|exact st_move'|exact st_assign'|exact st_load'|exact st_fieldAddr'|exact st_lss' (by first|assumption|rfl)|exact st_gtr' (by first|assumption|rfl)|exact st_len'|exact st_indexAddr' (by assumption)|exact st_loadE'|exact Cv.rfl'|intro _
  · obtain rfl : i = l.length := by omega
    have hc : decide ((l.length : Int) < (l.length : Int)) = false := decide_eq_false (by omega)
    rw [List.take_length] at h
    refine g_of h ?_
    clear h
    repeat' first|kernel_rfl|apply g_seq|apply g_reg|apply g_nil|apply g_box|apply g_all|apply g_stf|apply g_stw|apply g_sto|apply g_asg|apply g_st|apply g_skip|apply g_ct|apply g_cf|apply g_ret|refine r_1 rfl ?_|apply g_blk|apply g_eb|apply g_ex|apply e_t|apply e_h|refine e_o rfl ?_|apply r_t|apply r_b|apply g_cl|exact st_lenW|exact st_indexW (by assumption)|exact st_fldE|exact st_loadS|exact st_sadd (by first|assumption|(simp only [List.length_append, List.length_cons, List.length_nil]; omega))|exact st_slen|exact st_add' (by assumption)|exact st_move'|exact st_assign'|exact st_load'|exact st_fieldAddr'|exact st_lss' (by first|assumption|rfl)|exact st_gtr' (by first|assumption|rfl)|exact st_len'|exact st_indexAddr' (by assumption)|exact st_loadE'|exact Cv.rfl'|intro _
/-- A row that is there has no more elements than an int counts. -/
theorem rows_max {X : List Nat} {w : World} {l : List Ln} {v : Value} (h : (VTy.rw Rp.lr tt l).holds X w v) : l.length ≤ 9223372036854775807 ∧ ∀ x ∈ l, x.1.length ≤ 9223372036854775807 := by
  obtain ⟨_, A, n, c, _, h⟩ := h
  have hm := h.lenMax
  refine ⟨by rw [h.1]; exact hm, fun x hx => ?_⟩
  obtain ⟨i, hi⟩ := List.mem_iff_getElem?.1 hx
  have hlt := (List.getElem?_eq_some_iff.1 hi).1
  obtain ⟨b, off, _, _, hc⟩ := h.2.2.2.2 (by rw [← h.1]; omega)
  obtain ⟨cs, _, c1, c2, _, ⟨A', n', c', _, h'⟩, _⟩ := hc i x hi
  rw [h'.1]
  exact h'.lenMax
/-- Few lines, of few words, none long. -/
def fewL (x : Ln) : Bool := (x.1.take 11).all (fun w => decide (w.1.length ≤ 100)) && decide (x.1.length ≤ 10)
def fewB (l : List Ln) : Bool := l.all fewL && decide (l.length ≤ 20)
theorem all_ff {α : Type} {p : α → Bool} {l : List α} {i : Nat} {x : α} (h : l[i]? = some x) (hp : p x = false) : l.all p = false := by
  cases hq : l.all p with
  | false => rfl
  | true => rw [List.all_eq_true.1 hq x (List.mem_of_getElem? h)] at hp; cases hp
theorem all_next {α : Type} {p : α → Bool} {l : List α} {i : Nat} {x : α} (h : l[i]? = some x) (ha : (l.take i).all p = true) (hp : p x = true) : (l.take (i + 1)).all p = true := by rw [tk_snoc h, List.all_append, ha]; simp [hp]
set_option maxRecDepth 20000 in
set_option maxHeartbeats 4000000 in
set_option synthInstance.maxSize 4000 in
set_option synthInstance.maxHeartbeats 400000 in
theorem c7_few {l : List Ln} : Ctr Try.prog S1 15 [20] [.rw Rp.lr tt l] (fun _ => .is (.bool (fewB l))) := by
  refine ctrF (F := l.length ≤ 9223372036854775807 ∧ ∀ x ∈ l, x.1.length ≤ 9223372036854775807) (fun ha => ?_) (fun _ _ => by kernel_rfl) fun hb => ?_
  · obtain ⟨v, rfl, h⟩ := ha.one
    exact rows_max h
  refine ctr Try.func15 rfl Try.ntmps15 (by simp) (fun _ _ => by kernel_rfl) fun X w0 hE => ?_
  simp only [argE, Nat.zero_add, Nat.reduceAdd]
  repeat' first|kernel_rfl|apply g_seq|apply g_reg|apply g_nil|apply g_box|apply g_all|apply g_stf|apply g_stw|apply g_sto|apply g_asg|refine g_run rfl inferInstance (by first|exact st_move'|exact st_lss' (by first|assumption|rfl)) (by kernel_rfl) ?_|refine g_sk rfl inferInstance rfl (by kernel_rfl) ?_|refine g_un rfl inferInstance (by kernel_rfl) ?_|apply g_st|apply g_skip|apply g_ct|apply g_cf|apply g_ret|refine r_1 rfl ?_|apply g_blk|apply g_eb|apply g_ex|apply e_t|apply e_h|refine e_o rfl ?_|apply r_t|apply r_b|apply g_cl|exact st_lenW|exact st_indexW (by assumption)|exact st_fldE|exact st_loadS|exact st_sadd (by assumption)|exact st_slen|exact st_add' (by assumption)|exact st_move'|exact st_assign'|exact st_load'|exact st_fieldAddr'|exact st_and_t'|exact st_and_f'|exact st_lss' (by first|assumption|rfl)|exact st_leq' (by first|assumption|rfl)|exact st_gtr' (by first|assumption|rfl)|exact st_len'|exact st_indexAddr' (by assumption)|exact st_loadE'|exact Cv.rfl'|intro _
  refine g_stop fun a w h => ?_
  refine cw_loop (fun k a u => ∃ i : Nat, i + k = l.length ∧ (l.take i).all fewL = true ∧ TS w0 X [] [(3, .is (.int .i64 (i : Int))), (0, .rw Rp.lr tt l)] 46 a u) l.length ⟨0, by omega, rfl, h.keep [3, 0]⟩ ?_
  clear h
  rintro k a u ⟨i, hi, ha, h⟩
  by_cases hlt : i < l.length
  · obtain ⟨x, hx⟩ : ∃ x, l[i]? = some x := ⟨_, List.getElem?_eq_getElem hlt⟩
    have hc : decide ((i : Int) < (l.length : Int)) = true := decide_eq_true (by omega)
    have hw : IntKind.i64.wrap ((i : Int) + 1) = ((i + 1 : Nat) : Int) := i64_small (by omega) (by have := hb.1; omega)
    have hxm := hb.2 x (List.mem_of_getElem? hx)
    refine g_of h ?_
    clear h
    repeat' first|kernel_rfl|apply g_seq|apply g_reg|apply g_nil|apply g_box|apply g_all|apply g_stf|apply g_stw|apply g_sto|apply g_asg|refine g_run rfl inferInstance (by first|exact st_move'|exact st_lss' (by first|assumption|rfl)) (by kernel_rfl) ?_|refine g_sk rfl inferInstance rfl (by kernel_rfl) ?_|refine g_un rfl inferInstance (by kernel_rfl) ?_|apply g_st|apply g_skip|apply g_ct|apply g_cf|apply g_ret|refine r_1 rfl ?_|apply g_blk|apply g_eb|apply g_ex|apply e_t|apply e_h|refine e_o rfl ?_|apply r_t|apply r_b|apply g_cl|exact st_lenW|exact st_indexW (by assumption)|exact st_fldE|exact st_loadS|exact st_sadd (by assumption)|exact st_slen|exact st_add' (by assumption)|exact st_move'|exact st_assign'|exact st_load'|exact st_fieldAddr'|exact st_and_t'|exact st_and_f'|exact st_lss' (by first|assumption|rfl)|exact st_leq' (by first|assumption|rfl)|exact st_gtr' (by first|assumption|rfl)|exact st_len'|exact st_indexAddr' (by assumption)|exact st_loadE'|exact Cv.rfl'|intro _
    refine g_stop fun a w h => ?_
    refine cw_loop (fun k a u => ∃ j : Nat, j + k = x.1.length ∧ j ≤ 11 ∧ (x.1.take j).all (fun w => decide (w.1.length ≤ 100)) = true ∧ TS w0 X [] [(4, .is (.int .i64 (j : Int))), (3, .is (.int .i64 (i : Int))), (0, .rw Rp.lr tt l)] 46 a u) x.1.length ⟨0, by omega, by omega, rfl, h.keep [4, 3, 0]⟩ ?_
    clear h
    rintro k' a u ⟨j, hj, hj11, hja, h⟩
    by_cases hjt : j < x.1.length ∧ j < 11
    · obtain ⟨t, ht⟩ : ∃ t, x.1[j]? = some t := ⟨_, List.getElem?_eq_getElem hjt.1⟩
      have hc2 : decide ((j : Int) < (x.1.length : Int)) = true := decide_eq_true (by omega)
      have hc3 : decide ((j : Int) < 11) = true := decide_eq_true (by omega)
      have hw2 : IntKind.i64.wrap ((j : Int) + 1) = ((j + 1 : Nat) : Int) := i64_small (by omega) (by omega)
      cases hz : decide ((100 : Int) < (t.1.length : Int))
      · have hz' : decide (t.1.length ≤ 100) = true := decide_eq_true (by have := of_decide_eq_false hz; omega)
        have hn := all_next (p := fun w : Wd => decide (w.1.length ≤ 100)) ht hja hz'
        refine g_of h ?_
        clear h
        repeat' first|kernel_rfl|exact g_done fun _ _ h=>⟨k' - 1, by omega, j + 1, by omega, by omega, hn, h.keep [4, 3, 0]⟩|apply g_seq|apply g_reg|apply g_nil|apply g_box|apply g_all|apply g_stf|apply g_stw|apply g_sto|apply g_asg|refine g_run rfl inferInstance (by first|exact st_move'|exact st_lss' (by first|assumption|rfl)) (by kernel_rfl) ?_|refine g_sk rfl inferInstance rfl (by kernel_rfl) ?_|refine g_un rfl inferInstance (by kernel_rfl) ?_|apply g_st|apply g_skip|apply g_ct|apply g_cf|apply g_ret|refine r_1 rfl ?_|apply g_blk|apply g_eb|apply g_ex|apply e_t|apply e_h|refine e_o rfl ?_|apply r_t|apply r_b|apply g_cl|exact st_lenW|exact st_indexW (by assumption)|exact st_fldE|exact st_loadS|exact st_sadd (by assumption)|exact st_slen|exact st_add' (by assumption)|exact st_move'|exact st_assign'|exact st_load'|exact st_fieldAddr'|exact st_and_t'|exact st_and_f'|exact st_lss' (by first|assumption|rfl)|exact st_leq' (by first|assumption|rfl)|exact st_gtr' (by first|assumption|rfl)|exact st_len'|exact st_indexAddr' (by assumption)|exact st_loadE'|exact Cv.rfl'|intro _
      · have hz' : decide (t.1.length ≤ 100) = false := decide_eq_false (by have := of_decide_eq_true hz; omega)
        have e : fewB l = false := by
          unfold fewB
          have ht11 : (x.1.take 11)[j]? = some t := by rw [List.getElem?_take, if_pos hjt.2]; exact ht
          rw [all_ff hx (by unfold fewL; rw [all_ff (p := fun w : Wd => decide (w.1.length ≤ 100)) ht11 hz']; rfl)]; rfl
        rw [e]
        refine g_of h ?_
        clear h
        repeat' first|kernel_rfl|apply g_seq|apply g_reg|apply g_nil|apply g_box|apply g_all|apply g_stf|apply g_stw|apply g_sto|apply g_asg|refine g_run rfl inferInstance (by first|exact st_move'|exact st_lss' (by first|assumption|rfl)) (by kernel_rfl) ?_|refine g_sk rfl inferInstance rfl (by kernel_rfl) ?_|refine g_un rfl inferInstance (by kernel_rfl) ?_|apply g_st|apply g_skip|apply g_ct|apply g_cf|apply g_ret|refine r_1 rfl ?_|apply g_blk|apply g_eb|apply g_ex|apply e_t|apply e_h|refine e_o rfl ?_|apply r_t|apply r_b|apply g_cl|exact st_lenW|exact st_indexW (by assumption)|exact st_fldE|exact st_loadS|exact st_sadd (by assumption)|exact st_slen|exact st_add' (by assumption)|exact st_move'|exact st_assign'|exact st_load'|exact st_fieldAddr'|exact st_and_t'|exact st_and_f'|exact st_lss' (by first|assumption|rfl)|exact st_leq' (by first|assumption|rfl)|exact st_gtr' (by first|assumption|rfl)|exact st_len'|exact st_indexAddr' (by assumption)|exact st_loadE'|exact Cv.rfl'|intro _
    · have hcs : decide ((j : Int) < (x.1.length : Int)) = false ∨ decide ((j : Int) < (x.1.length : Int)) = true ∧ decide ((j : Int) < 11) = false := by
        by_cases hq : j < x.1.length
        · exact .inr ⟨decide_eq_true (by omega), decide_eq_false (by omega)⟩
        · exact .inl (decide_eq_false (by omega))
      have hj' : (x.1.take 11).all (fun w => decide (w.1.length ≤ 100)) = true ∨ decide (x.1.length ≤ 10) = false := by
        by_cases hq : j < x.1.length
        · exact .inr (decide_eq_false (by omega))
        · refine .inl ?_
          have : x.1.take j = x.1.take 11 := by rw [List.take_of_length_le (by omega), List.take_of_length_le (by omega)]
          rw [← this]; exact hja
      cases hz : decide ((10 : Int) < (x.1.length : Int))
      · have hz' : decide (x.1.length ≤ 10) = true := decide_eq_true (by have := of_decide_eq_false hz; omega)
        have hn := all_next (p := fewL) hx ha (by
          unfold fewL
          rcases hj' with e | e
          · rw [e, hz']; rfl
          · rw [hz'] at e; cases e)
        clear hj'
        rcases hcs with hc2 | ⟨hc2, hc3⟩
        all_goals
          refine g_of h ?_
          clear h
          repeat' first|kernel_rfl|exact g_done fun _ _ h=>⟨k - 1, by omega, i + 1, by omega, hn, h.keep [3, 0]⟩|apply g_seq|apply g_reg|apply g_nil|apply g_box|apply g_all|apply g_stf|apply g_stw|apply g_sto|apply g_asg|refine g_run rfl inferInstance (by first|exact st_move'|exact st_lss' (by first|assumption|rfl)) (by kernel_rfl) ?_|refine g_sk rfl inferInstance rfl (by kernel_rfl) ?_|refine g_un rfl inferInstance (by kernel_rfl) ?_|apply g_st|apply g_skip|apply g_ct|apply g_cf|apply g_ret|refine r_1 rfl ?_|apply g_blk|apply g_eb|apply g_ex|apply e_t|apply e_h|refine e_o rfl ?_|apply r_t|apply r_b|apply g_cl|exact st_lenW|exact st_indexW (by assumption)|exact st_fldE|exact st_loadS|exact st_sadd (by assumption)|exact st_slen|exact st_add' (by assumption)|exact st_move'|exact st_assign'|exact st_load'|exact st_fieldAddr'|exact st_and_t'|exact st_and_f'|exact st_lss' (by first|assumption|rfl)|exact st_leq' (by first|assumption|rfl)|exact st_gtr' (by first|assumption|rfl)|exact st_len'|exact st_indexAddr' (by assumption)|exact st_loadE'|exact Cv.rfl'|intro _
      · have hz' : decide (x.1.length ≤ 10) = false := decide_eq_false (by have := of_decide_eq_true hz; omega)
        have e : fewB l = false := by
          unfold fewB
          rw [all_ff hx (by unfold fewL; rw [hz', Bool.and_false])]; rfl
        rw [e]
        clear hj'
        rcases hcs with hc2 | ⟨hc2, hc3⟩
        all_goals
          refine g_of h ?_
          clear h
          repeat' first|kernel_rfl|apply g_seq|apply g_reg|apply g_nil|apply g_box|apply g_all|apply g_stf|apply g_stw|apply g_sto|apply g_asg|refine g_run rfl inferInstance (by first|exact st_move'|exact st_lss' (by first|assumption|rfl)) (by kernel_rfl) ?_|refine g_sk rfl inferInstance rfl (by kernel_rfl) ?_|refine g_un rfl inferInstance (by kernel_rfl) ?_|apply g_st|apply g_skip|apply g_ct|apply g_cf|apply g_ret|refine r_1 rfl ?_|apply g_blk|apply g_eb|apply g_ex|apply e_t|apply e_h|refine e_o rfl ?_|apply r_t|apply r_b|apply g_cl|exact st_lenW|exact st_indexW (by assumption)|exact st_fldE|exact st_loadS|exact st_sadd (by assumption)|exact st_slen|exact st_add' (by assumption)|exact st_move'|exact st_assign'|exact st_load'|exact st_fieldAddr'|exact st_and_t'|exact st_and_f'|exact st_lss' (by first|assumption|rfl)|exact st_leq' (by first|assumption|rfl)|exact st_gtr' (by first|assumption|rfl)|exact st_len'|exact st_indexAddr' (by assumption)|exact st_loadE'|exact Cv.rfl'|intro _
  · obtain rfl : i = l.length := by omega
    have hc : decide ((l.length : Int) < (l.length : Int)) = false := decide_eq_false (by omega)
    rw [List.take_length] at ha
    have e : fewB l = decide ((l.length : Int) ≤ 20) := by unfold fewB; rw [ha, Bool.true_and]; exact decide_eq_decide.2 (by omega)
    rw [e]
    refine g_of h ?_
    clear h
    repeat' first|kernel_rfl|apply g_seq|apply g_reg|apply g_nil|apply g_box|apply g_all|apply g_stf|apply g_stw|apply g_sto|apply g_asg|refine g_run rfl inferInstance (by first|exact st_move'|exact st_lss' (by first|assumption|rfl)) (by kernel_rfl) ?_|refine g_sk rfl inferInstance rfl (by kernel_rfl) ?_|refine g_un rfl inferInstance (by kernel_rfl) ?_|apply g_st|apply g_skip|apply g_ct|apply g_cf|apply g_ret|refine r_1 rfl ?_|apply g_blk|apply g_eb|apply g_ex|apply e_t|apply e_h|refine e_o rfl ?_|apply r_t|apply r_b|apply g_cl|exact st_lenW|exact st_indexW (by assumption)|exact st_fldE|exact st_loadS|exact st_sadd (by assumption)|exact st_slen|exact st_add' (by assumption)|exact st_move'|exact st_assign'|exact st_load'|exact st_fieldAddr'|exact st_and_t'|exact st_and_f'|exact st_lss' (by first|assumption|rfl)|exact st_leq' (by first|assumption|rfl)|exact st_gtr' (by first|assumption|rfl)|exact st_len'|exact st_indexAddr' (by assumption)|exact st_loadE'|exact Cv.rfl'|intro _
end Go.Proofs.Ytkjojpeamabdmaa
