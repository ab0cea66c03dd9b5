/- LexBack: what is shown of lines of words has the same lines; so has what is shown of a text's lines. -/
import Derived.Test.YtkjojpeamabdmaaGJ
set_option linter.unusedSimpArgs false
set_option linter.unusedVariables false
namespace Go.Proofs.Ytkjojpeamabdmaa
open Go Go.RowKit
theorem lexR_shw {L : List (List (List UInt8))} (h : L.all lok = true) (hn : wl L ≤ 65536) : ∃ lb n, lexR (shw L) = (lb, n, 0) ∧ txs lb = L := by
  have hs := lx_show L h 0 []
  unfold lexR
  rw [decide_eq_false (by rw [shw_len' L h]; omega)]
  simp only [cond_false]
  generalize lx (shw L) 0 [] [] 0 false false = R at *
  obtain ⟨lb, n, e⟩ := R
  simp only at hs
  obtain ⟨rfl, h2⟩ := hs
  exact ⟨lb, n, rfl, h2⟩
theorem lexR_e {s : List UInt8} (hs : s.length ≤ 1000) : (∃ la, lexR s = (la, 0, 0) ∧ (txs la).all lok = true ∧ wl (txs la) ≤ 1001) ∨ ∃ m, lexR s = ([], m, 70) := by
  have ho := lexR_ok s
  have he : lexR s = lx s 0 [] [] 0 false false := by unfold lexR; rw [decide_eq_false (by omega)]; rfl
  have h1 := lx_e s 0 [] [] 0 false false
  rw [← he] at h1
  clear he
  generalize lexR s = R at *
  obtain ⟨la, m, e⟩ := R
  simp only at h1 ho
  rcases h1 with ⟨rfl, rfl⟩ | ⟨rfl, rfl⟩
  · exact .inl ⟨la, rfl, ho.1, by omega⟩
  · exact .inr ⟨m, rfl⟩
theorem all_nextW {l : List Wd} {j : Nat} {t : Wd} (h : l[j]? = some t) (ha : (txw (l.take j)).all isWd = true) (hp : isWd t.1 = true) : (txw (l.take (j + 1))).all isWd = true := by
  rw [tk_snoc h, txw_app, List.all_append, ha]; simp [txw, hp]
theorem all_nextL {l : List Ln} {i : Nat} {x : Ln} (h : l[i]? = some x) (ha : (txs (l.take i)).all lok = true) (hp : lok (txw x.1) = true) : (txs (l.take (i + 1))).all lok = true := by
  rw [tk_snoc h, txs_app, List.all_append, ha]; simp [txs, hp]
theorem lok_of {ws : List Wd} (h : (txw ws).all isWd = true) (hn : ws.length ≠ 0) : lok (txw ws) = true := by
  unfold lok
  rw [h, Bool.and_true]
  cases ws with
  | nil => exact absurd rfl hn
  | cons => rfl
set_option maxRecDepth 20000 in
set_option maxHeartbeats 4000000 in
set_option synthInstance.maxSize 4000 in
set_option synthInstance.maxHeartbeats 400000 in
theorem l7_back0 {l : List Ln} {s : List UInt8} (hc : fewB l = false) : Ctr Try.prog S1 5 [20, 0] [.rw Rp.lr tt l, .is (Tx s)] (fun _ => .is (.bool true)) := by
  have hf := c7_few (l := l)
  rw [hc] at hf
  refine ctr Try.func5 rfl Try.ntmps5 (by simp) (fun _ _ => by kernel_rfl) fun X w hE => ?_
  simp only [argE, Nat.zero_add, Nat.reduceAdd]
  repeat' first|kernel_rfl|apply g_seq|apply g_reg|apply g_nil|apply g_box|apply g_all|apply g_stf|apply g_stw|apply g_sto|apply g_asg|refine g_run rfl inferInstance (by first|exact sc trivial hf|exact sc trivial c7_works|exact st_slen|exact st_move'|exact st_not' (b := true) (u := false) rfl|exact st_not' (b := false) (u := true) rfl|exact st_not' rfl|exact st_gtr' (by first|assumption|rfl)|exact st_len') (by kernel_rfl) ?_|refine g_sk rfl inferInstance rfl (by kernel_rfl) ?_|refine g_un rfl inferInstance (by kernel_rfl) ?_|apply g_st|apply g_skip|apply g_ct|apply g_cf|apply g_ret|refine r_1 rfl ?_|apply g_blk|apply g_eb|apply g_ex|apply e_t|apply e_h|refine e_o rfl ?_|apply r_t|apply r_b|apply g_cl|exact sc trivial hf|exact sc trivial c7_works|exact st_sadd (by assumption)|exact st_slen|exact st_seq (by first|assumption|rfl)|exact st_sne (by first|assumption|rfl)|exact st_add' (by assumption)|exact st_move'|exact st_assign'|exact st_load'|exact st_fieldAddr'|exact st_extract'|exact st_and_t'|exact st_and_f'|exact st_or_f'|exact st_or_t'|exact st_not' (b := true) (u := false) rfl|exact st_not' (b := false) (u := true) rfl|exact st_not' rfl|exact st_eq' (by first|assumption|rfl)|exact st_neq' (by first|assumption|rfl)|exact st_lss' (by first|assumption|rfl)|exact st_gtr' (by first|assumption|rfl)|exact st_len'|exact st_indexAddr' (by assumption)|exact st_loadE'|exact Cv.rfl'|intro _
set_option maxRecDepth 20000 in
set_option maxHeartbeats 4000000 in
set_option synthInstance.maxSize 4000 in
set_option synthInstance.maxHeartbeats 400000 in
theorem l7_back1 {l : List Ln} {s : List UInt8} (hc : fewB l = true) (h1 : decide ((1000 : Int) < (s.length : Int)) = true) : Ctr Try.prog S1 5 [20, 0] [.rw Rp.lr tt l, .is (Tx s)] (fun _ => .is (.bool true)) := by
  have hf := c7_few (l := l)
  rw [hc] at hf
  refine ctr Try.func5 rfl Try.ntmps5 (by simp) (fun _ _ => by kernel_rfl) fun X w hE => ?_
  simp only [argE, Nat.zero_add, Nat.reduceAdd]
  repeat' first|kernel_rfl|apply g_seq|apply g_reg|apply g_nil|apply g_box|apply g_all|apply g_stf|apply g_stw|apply g_sto|apply g_asg|refine g_run rfl inferInstance (by first|exact sc trivial hf|exact sc trivial c7_works|exact st_slen|exact st_move'|exact st_not' (b := true) (u := false) rfl|exact st_not' (b := false) (u := true) rfl|exact st_not' rfl|exact st_gtr' (by first|assumption|rfl)|exact st_len') (by kernel_rfl) ?_|refine g_sk rfl inferInstance rfl (by kernel_rfl) ?_|refine g_un rfl inferInstance (by kernel_rfl) ?_|apply g_st|apply g_skip|apply g_ct|apply g_cf|apply g_ret|refine r_1 rfl ?_|apply g_blk|apply g_eb|apply g_ex|apply e_t|apply e_h|refine e_o rfl ?_|apply r_t|apply r_b|apply g_cl|exact sc trivial hf|exact sc trivial c7_works|exact st_sadd (by assumption)|exact st_slen|exact st_seq (by first|assumption|rfl)|exact st_sne (by first|assumption|rfl)|exact st_add' (by assumption)|exact st_move'|exact st_assign'|exact st_load'|exact st_fieldAddr'|exact st_extract'|exact st_and_t'|exact st_and_f'|exact st_or_f'|exact st_or_t'|exact st_not' (b := true) (u := false) rfl|exact st_not' (b := false) (u := true) rfl|exact st_not' rfl|exact st_eq' (by first|assumption|rfl)|exact st_neq' (by first|assumption|rfl)|exact st_lss' (by first|assumption|rfl)|exact st_gtr' (by first|assumption|rfl)|exact st_len'|exact st_indexAddr' (by assumption)|exact st_loadE'|exact Cv.rfl'|intro _
set_option maxRecDepth 20000 in
set_option maxHeartbeats 4000000 in
set_option synthInstance.maxSize 4000 in
set_option synthInstance.maxHeartbeats 400000 in
theorem l7_back2 {l : List Ln} {s : List UInt8} {la : List Ln} (hq : lexR s = (la, 0, 0)) (hla : (txs la).all lok = true) (hlb : wl (txs la) ≤ 1001) (hc : fewB l = true) (h1 : decide ((1000 : Int) < (s.length : Int)) = false) : Ctr Try.prog S1 5 [20, 0] [.rw Rp.lr tt l, .is (Tx s)] (fun _ => .is (.bool true)) := by
  have hf := c7_few (l := l)
  rw [hc] at hf
  obtain ⟨hb1, hb2⟩ := few_wl hc
  have hat := few_at hc
  have ca := c_lines (s := s)
  rw [hq] at ca
  simp only at ca
  have ba := ls_bound hla hlb
  have hsa := c_show (l := la) (by omega)
  have cb := c_lines (s := shw (txs la))
  obtain ⟨lb, n, hqb, htx⟩ := lexR_shw hla (by omega)
  rw [hqb] at cb
  simp only at cb
  have hra := c7_ref (l := la) ⟨by omega, fun x hx => by have := ba.2.2 x hx; omega⟩
  have bb := ls_bound (ls := lb) (by rw [htx]; exact hla) (by rw [htx]; exact hlb)
  have hrb := c7_ref (l := lb) ⟨by omega, fun x hx => by have := bb.2.2 x hx; omega⟩
  have hsm := cL_same (l := la) (m := lb) (p := false)
  rw [sameB_txs htx.symm] at hsm
  clear hqb htx hq hla hlb ba bb
  refine ctr Try.func5 rfl Try.ntmps5 (by simp) (fun _ _ => by kernel_rfl) fun X w0 hE => ?_
  simp only [argE, Nat.zero_add, Nat.reduceAdd]
  repeat' first|kernel_rfl|apply g_seq|apply g_reg|apply g_nil|apply g_box|apply g_all|apply g_stf|apply g_stw|apply g_sto|apply g_asg|refine g_run rfl inferInstance (by first|exact sc trivial hf|exact sc trivial hi1|exact sc trivial ca|exact sc trivial cb|exact sc trivial cc|exact sc trivial hsa|exact sc trivial hra|exact sc trivial hrb|exact sc trivial hsm|exact sc trivial c7_works|exact sc trivial csl|exact sc trivial hrl|exact sc trivial hrc|exact sc trivial hsl|exact st_lenW|exact st_slen|exact st_move'|exact st_not' (b := true) (u := false) rfl|exact st_not' (b := false) (u := true) rfl|exact st_not' rfl|exact st_gtr' (by first|assumption|rfl)|exact st_len') (by kernel_rfl) ?_|refine g_sk rfl inferInstance rfl (by kernel_rfl) ?_|refine g_un rfl inferInstance (by kernel_rfl) ?_|apply g_st|apply g_skip|apply g_ct|apply g_cf|apply g_ret|refine r_1 rfl ?_|apply g_blk|apply g_eb|apply g_ex|apply e_t|apply e_h|refine e_o rfl ?_|apply r_t|apply r_b|apply g_cl|exact sc trivial hf|exact sc trivial hi1|exact sc trivial ca|exact sc trivial cb|exact sc trivial cc|exact sc trivial hsa|exact sc trivial hra|exact sc trivial hrb|exact sc trivial hsm|exact sc trivial c7_works|exact sc trivial csl|exact sc trivial hrl|exact sc trivial hrc|exact sc trivial hsl|exact st_lenW|exact st_indexW (by assumption)|exact st_fldE|exact st_loadS|exact st_sadd (by assumption)|exact st_slen|exact st_seq (by first|assumption|rfl)|exact st_sne (by first|assumption|rfl)|exact st_add' (by assumption)|exact st_move'|exact st_assign'|exact st_load'|exact st_fieldAddr'|exact st_extract'|exact st_and_t'|exact st_and_f'|exact st_or_f'|exact st_or_t'|exact st_not' (b := true) (u := false) rfl|exact st_not' (b := false) (u := true) rfl|exact st_not' rfl|exact st_eq' (by first|assumption|rfl)|exact st_neq' (by first|assumption|rfl)|exact st_lss' (by first|assumption|rfl)|exact st_gtr' (by first|assumption|rfl)|exact st_len'|exact st_indexAddr' (by assumption)|exact st_loadE'|exact Cv.rfl'|intro _
  refine g_stop fun a w h => ?_
  refine cw_loop (fun k a u => ∃ i : Nat, i + k = l.length ∧ (txs (l.take i)).all lok = true ∧ TS w0 X [] [(11, .is (.int .i64 (i : Int))), (0, .rw Rp.lr tt l)] 105 a u) l.length ⟨0, by omega, rfl, h.keep [11, 0]⟩ ?_
  clear h
  rintro k a u ⟨i, hi, ha, h⟩
  by_cases hlt : i < l.length
  · obtain ⟨x, hx⟩ : ∃ x, l[i]? = some x := ⟨_, List.getElem?_eq_getElem hlt⟩
    have hc1 : decide ((i : Int) < (l.length : Int)) = true := decide_eq_true (by omega)
    have hw : IntKind.i64.wrap ((i : Int) + 1) = ((i + 1 : Nat) : Int) := i64_small (by omega) (by omega)
    have hxm := hat.2 x (List.mem_of_getElem? hx)
    refine g_of h ?_
    clear h
    repeat' first|kernel_rfl|apply g_seq|apply g_reg|apply g_nil|apply g_box|apply g_all|apply g_stf|apply g_stw|apply g_sto|apply g_asg|refine g_run rfl inferInstance (by first|exact sc trivial hf|exact sc trivial hi1|exact sc trivial ca|exact sc trivial cb|exact sc trivial cc|exact sc trivial hsa|exact sc trivial hra|exact sc trivial hrb|exact sc trivial hsm|exact sc trivial c7_works|exact sc trivial csl|exact sc trivial hrl|exact sc trivial hrc|exact sc trivial hsl|exact st_lenW|exact st_slen|exact st_move'|exact st_not' (b := true) (u := false) rfl|exact st_not' (b := false) (u := true) rfl|exact st_not' rfl|exact st_gtr' (by first|assumption|rfl)|exact st_len') (by kernel_rfl) ?_|refine g_sk rfl inferInstance rfl (by kernel_rfl) ?_|refine g_un rfl inferInstance (by kernel_rfl) ?_|apply g_st|apply g_skip|apply g_ct|apply g_cf|apply g_ret|refine r_1 rfl ?_|apply g_blk|apply g_eb|apply g_ex|apply e_t|apply e_h|refine e_o rfl ?_|apply r_t|apply r_b|apply g_cl|exact sc trivial hf|exact sc trivial hi1|exact sc trivial ca|exact sc trivial cb|exact sc trivial cc|exact sc trivial hsa|exact sc trivial hra|exact sc trivial hrb|exact sc trivial hsm|exact sc trivial c7_works|exact sc trivial csl|exact sc trivial hrl|exact sc trivial hrc|exact sc trivial hsl|exact st_lenW|exact st_indexW (by assumption)|exact st_fldE|exact st_loadS|exact st_sadd (by assumption)|exact st_slen|exact st_seq (by first|assumption|rfl)|exact st_sne (by first|assumption|rfl)|exact st_add' (by assumption)|exact st_move'|exact st_assign'|exact st_load'|exact st_fieldAddr'|exact st_extract'|exact st_and_t'|exact st_and_f'|exact st_or_f'|exact st_or_t'|exact st_not' (b := true) (u := false) rfl|exact st_not' (b := false) (u := true) rfl|exact st_not' rfl|exact st_eq' (by first|assumption|rfl)|exact st_neq' (by first|assumption|rfl)|exact st_lss' (by first|assumption|rfl)|exact st_gtr' (by first|assumption|rfl)|exact st_len'|exact st_indexAddr' (by assumption)|exact st_loadE'|exact Cv.rfl'|intro _
    refine g_stop fun a w h => ?_
    refine cw_loop (fun k a u => ∃ j : Nat, j + k = x.1.length ∧ (txw (x.1.take j)).all isWd = true ∧ TS w0 X [] [(12, .is (.int .i64 (j : Int))), (11, .is (.int .i64 (i : Int))), (0, .rw Rp.lr tt l)] 105 a u) x.1.length ⟨0, by omega, rfl, h.keep [12, 11, 0]⟩ ?_
    clear h
    rintro k' a u ⟨j, hj, hja, h⟩
    by_cases hjt : j < x.1.length
    · obtain ⟨t, ht⟩ : ∃ t, x.1[j]? = some t := ⟨_, List.getElem?_eq_getElem hjt⟩
      have htl := len_at ht
      have hc2 : decide ((j : Int) < (x.1.length : Int)) = true := decide_eq_true (by omega)
      have hw2 : IntKind.i64.wrap ((j : Int) + 1) = ((j + 1 : Nat) : Int) := i64_small (by omega) (by omega)
      have hi1 := c_is (l := t.1) (by omega)
      cases hz : isWd t.1
      · rw [hz] at hi1
        refine g_of h ?_
        clear h
        repeat' first|kernel_rfl|apply g_seq|apply g_reg|apply g_nil|apply g_box|apply g_all|apply g_stf|apply g_stw|apply g_sto|apply g_asg|refine g_run rfl inferInstance (by first|exact sc trivial hf|exact sc trivial hi1|exact sc trivial ca|exact sc trivial cb|exact sc trivial cc|exact sc trivial hsa|exact sc trivial hra|exact sc trivial hrb|exact sc trivial hsm|exact sc trivial c7_works|exact sc trivial csl|exact sc trivial hrl|exact sc trivial hrc|exact sc trivial hsl|exact st_lenW|exact st_slen|exact st_move'|exact st_not' (b := true) (u := false) rfl|exact st_not' (b := false) (u := true) rfl|exact st_not' rfl|exact st_gtr' (by first|assumption|rfl)|exact st_len') (by kernel_rfl) ?_|refine g_sk rfl inferInstance rfl (by kernel_rfl) ?_|refine g_un rfl inferInstance (by kernel_rfl) ?_|apply g_st|apply g_skip|apply g_ct|apply g_cf|apply g_ret|refine r_1 rfl ?_|apply g_blk|apply g_eb|apply g_ex|apply e_t|apply e_h|refine e_o rfl ?_|apply r_t|apply r_b|apply g_cl|exact sc trivial hf|exact sc trivial hi1|exact sc trivial ca|exact sc trivial cb|exact sc trivial cc|exact sc trivial hsa|exact sc trivial hra|exact sc trivial hrb|exact sc trivial hsm|exact sc trivial c7_works|exact sc trivial csl|exact sc trivial hrl|exact sc trivial hrc|exact sc trivial hsl|exact st_lenW|exact st_indexW (by assumption)|exact st_fldE|exact st_loadS|exact st_sadd (by assumption)|exact st_slen|exact st_seq (by first|assumption|rfl)|exact st_sne (by first|assumption|rfl)|exact st_add' (by assumption)|exact st_move'|exact st_assign'|exact st_load'|exact st_fieldAddr'|exact st_extract'|exact st_and_t'|exact st_and_f'|exact st_or_f'|exact st_or_t'|exact st_not' (b := true) (u := false) rfl|exact st_not' (b := false) (u := true) rfl|exact st_not' rfl|exact st_eq' (by first|assumption|rfl)|exact st_neq' (by first|assumption|rfl)|exact st_lss' (by first|assumption|rfl)|exact st_gtr' (by first|assumption|rfl)|exact st_len'|exact st_indexAddr' (by assumption)|exact st_loadE'|exact Cv.rfl'|intro _
      · rw [hz] at hi1
        have hn := all_nextW ht hja hz
        refine g_of h ?_
        clear h
        repeat' first|kernel_rfl|exact g_done fun _ _ h=>⟨k' - 1, by omega, j + 1, by omega, hn, h.keep [12, 11, 0]⟩|apply g_seq|apply g_reg|apply g_nil|apply g_box|apply g_all|apply g_stf|apply g_stw|apply g_sto|apply g_asg|refine g_run rfl inferInstance (by first|exact sc trivial hf|exact sc trivial hi1|exact sc trivial ca|exact sc trivial cb|exact sc trivial cc|exact sc trivial hsa|exact sc trivial hra|exact sc trivial hrb|exact sc trivial hsm|exact sc trivial c7_works|exact sc trivial csl|exact sc trivial hrl|exact sc trivial hrc|exact sc trivial hsl|exact st_lenW|exact st_slen|exact st_move'|exact st_not' (b := true) (u := false) rfl|exact st_not' (b := false) (u := true) rfl|exact st_not' rfl|exact st_gtr' (by first|assumption|rfl)|exact st_len') (by kernel_rfl) ?_|refine g_sk rfl inferInstance rfl (by kernel_rfl) ?_|refine g_un rfl inferInstance (by kernel_rfl) ?_|apply g_st|apply g_skip|apply g_ct|apply g_cf|apply g_ret|refine r_1 rfl ?_|apply g_blk|apply g_eb|apply g_ex|apply e_t|apply e_h|refine e_o rfl ?_|apply r_t|apply r_b|apply g_cl|exact sc trivial hf|exact sc trivial hi1|exact sc trivial ca|exact sc trivial cb|exact sc trivial cc|exact sc trivial hsa|exact sc trivial hra|exact sc trivial hrb|exact sc trivial hsm|exact sc trivial c7_works|exact sc trivial csl|exact sc trivial hrl|exact sc trivial hrc|exact sc trivial hsl|exact st_lenW|exact st_indexW (by assumption)|exact st_fldE|exact st_loadS|exact st_sadd (by assumption)|exact st_slen|exact st_seq (by first|assumption|rfl)|exact st_sne (by first|assumption|rfl)|exact st_add' (by assumption)|exact st_move'|exact st_assign'|exact st_load'|exact st_fieldAddr'|exact st_extract'|exact st_and_t'|exact st_and_f'|exact st_or_f'|exact st_or_t'|exact st_not' (b := true) (u := false) rfl|exact st_not' (b := false) (u := true) rfl|exact st_not' rfl|exact st_eq' (by first|assumption|rfl)|exact st_neq' (by first|assumption|rfl)|exact st_lss' (by first|assumption|rfl)|exact st_gtr' (by first|assumption|rfl)|exact st_len'|exact st_indexAddr' (by assumption)|exact st_loadE'|exact Cv.rfl'|intro _
    · obtain rfl : j = x.1.length := by omega
      have hc2 : decide ((x.1.length : Int) < (x.1.length : Int)) = false := decide_eq_false (by omega)
      rw [List.take_length] at hja
      cases hz : ((x.1.length : Int) == 0)
      · have hn := all_nextL hx ha (lok_of hja (by have := ne_of_beq_false hz; omega))
        refine g_of h ?_
        clear h
        repeat' first|kernel_rfl|exact g_done fun _ _ h=>⟨k - 1, by omega, i + 1, by omega, hn, h.keep [11, 0]⟩|apply g_seq|apply g_reg|apply g_nil|apply g_box|apply g_all|apply g_stf|apply g_stw|apply g_sto|apply g_asg|refine g_run rfl inferInstance (by first|exact sc trivial hf|exact sc trivial hi1|exact sc trivial ca|exact sc trivial cb|exact sc trivial cc|exact sc trivial hsa|exact sc trivial hra|exact sc trivial hrb|exact sc trivial hsm|exact sc trivial c7_works|exact sc trivial csl|exact sc trivial hrl|exact sc trivial hrc|exact sc trivial hsl|exact st_lenW|exact st_slen|exact st_move'|exact st_not' (b := true) (u := false) rfl|exact st_not' (b := false) (u := true) rfl|exact st_not' rfl|exact st_gtr' (by first|assumption|rfl)|exact st_len') (by kernel_rfl) ?_|refine g_sk rfl inferInstance rfl (by kernel_rfl) ?_|refine g_un rfl inferInstance (by kernel_rfl) ?_|apply g_st|apply g_skip|apply g_ct|apply g_cf|apply g_ret|refine r_1 rfl ?_|apply g_blk|apply g_eb|apply g_ex|apply e_t|apply e_h|refine e_o rfl ?_|apply r_t|apply r_b|apply g_cl|exact sc trivial hf|exact sc trivial hi1|exact sc trivial ca|exact sc trivial cb|exact sc trivial cc|exact sc trivial hsa|exact sc trivial hra|exact sc trivial hrb|exact sc trivial hsm|exact sc trivial c7_works|exact sc trivial csl|exact sc trivial hrl|exact sc trivial hrc|exact sc trivial hsl|exact st_lenW|exact st_indexW (by assumption)|exact st_fldE|exact st_loadS|exact st_sadd (by assumption)|exact st_slen|exact st_seq (by first|assumption|rfl)|exact st_sne (by first|assumption|rfl)|exact st_add' (by assumption)|exact st_move'|exact st_assign'|exact st_load'|exact st_fieldAddr'|exact st_extract'|exact st_and_t'|exact st_and_f'|exact st_or_f'|exact st_or_t'|exact st_not' (b := true) (u := false) rfl|exact st_not' (b := false) (u := true) rfl|exact st_not' rfl|exact st_eq' (by first|assumption|rfl)|exact st_neq' (by first|assumption|rfl)|exact st_lss' (by first|assumption|rfl)|exact st_gtr' (by first|assumption|rfl)|exact st_len'|exact st_indexAddr' (by assumption)|exact st_loadE'|exact Cv.rfl'|intro _
      · skip
        refine g_of h ?_
        clear h
        repeat' first|kernel_rfl|apply g_seq|apply g_reg|apply g_nil|apply g_box|apply g_all|apply g_stf|apply g_stw|apply g_sto|apply g_asg|refine g_run rfl inferInstance (by first|exact sc trivial hf|exact sc trivial hi1|exact sc trivial ca|exact sc trivial cb|exact sc trivial cc|exact sc trivial hsa|exact sc trivial hra|exact sc trivial hrb|exact sc trivial hsm|exact sc trivial c7_works|exact sc trivial csl|exact sc trivial hrl|exact sc trivial hrc|exact sc trivial hsl|exact st_lenW|exact st_slen|exact st_move'|exact st_not' (b := true) (u := false) rfl|exact st_not' (b := false) (u := true) rfl|exact st_not' rfl|exact st_gtr' (by first|assumption|rfl)|exact st_len') (by kernel_rfl) ?_|refine g_sk rfl inferInstance rfl (by kernel_rfl) ?_|refine g_un rfl inferInstance (by kernel_rfl) ?_|apply g_st|apply g_skip|apply g_ct|apply g_cf|apply g_ret|refine r_1 rfl ?_|apply g_blk|apply g_eb|apply g_ex|apply e_t|apply e_h|refine e_o rfl ?_|apply r_t|apply r_b|apply g_cl|exact sc trivial hf|exact sc trivial hi1|exact sc trivial ca|exact sc trivial cb|exact sc trivial cc|exact sc trivial hsa|exact sc trivial hra|exact sc trivial hrb|exact sc trivial hsm|exact sc trivial c7_works|exact sc trivial csl|exact sc trivial hrl|exact sc trivial hrc|exact sc trivial hsl|exact st_lenW|exact st_indexW (by assumption)|exact st_fldE|exact st_loadS|exact st_sadd (by assumption)|exact st_slen|exact st_seq (by first|assumption|rfl)|exact st_sne (by first|assumption|rfl)|exact st_add' (by assumption)|exact st_move'|exact st_assign'|exact st_load'|exact st_fieldAddr'|exact st_extract'|exact st_and_t'|exact st_and_f'|exact st_or_f'|exact st_or_t'|exact st_not' (b := true) (u := false) rfl|exact st_not' (b := false) (u := true) rfl|exact st_not' rfl|exact st_eq' (by first|assumption|rfl)|exact st_neq' (by first|assumption|rfl)|exact st_lss' (by first|assumption|rfl)|exact st_gtr' (by first|assumption|rfl)|exact st_len'|exact st_indexAddr' (by assumption)|exact st_loadE'|exact Cv.rfl'|intro _
  · obtain rfl : i = l.length := by omega
    have hc1 : decide ((l.length : Int) < (l.length : Int)) = false := decide_eq_false (by omega)
    rw [List.take_length] at ha
    have csl := c_show (l := l) (by omega)
    have cc := c_lines (s := shw (txs l))
    obtain ⟨lc, n', hqc, htc⟩ := lexR_shw ha (by omega)
    rw [hqc] at cc
    simp only at cc
    have hrl := c7_ref hb2
    have bc := ls_bound (ls := lc) (n := 20220) (by rw [htc]; exact ha) (by rw [htc]; omega)
    have hrc := c7_ref (l := lc) ⟨by omega, fun x hx => by have := bc.2.2 x hx; omega⟩
    have hsl := cL_same (l := lc) (m := l) (p := false)
    rw [sameB_txs htc] at hsl
    clear hqc htc bc
    refine g_of h ?_
    clear h
    repeat' first|kernel_rfl|apply g_seq|apply g_reg|apply g_nil|apply g_box|apply g_all|apply g_stf|apply g_stw|apply g_sto|apply g_asg|refine g_run rfl inferInstance (by first|exact sc trivial hf|exact sc trivial hi1|exact sc trivial ca|exact sc trivial cb|exact sc trivial cc|exact sc trivial hsa|exact sc trivial hra|exact sc trivial hrb|exact sc trivial hsm|exact sc trivial c7_works|exact sc trivial csl|exact sc trivial hrl|exact sc trivial hrc|exact sc trivial hsl|exact st_lenW|exact st_slen|exact st_move'|exact st_not' (b := true) (u := false) rfl|exact st_not' (b := false) (u := true) rfl|exact st_not' rfl|exact st_gtr' (by first|assumption|rfl)|exact st_len') (by kernel_rfl) ?_|refine g_sk rfl inferInstance rfl (by kernel_rfl) ?_|refine g_un rfl inferInstance (by kernel_rfl) ?_|apply g_st|apply g_skip|apply g_ct|apply g_cf|apply g_ret|refine r_1 rfl ?_|apply g_blk|apply g_eb|apply g_ex|apply e_t|apply e_h|refine e_o rfl ?_|apply r_t|apply r_b|apply g_cl|exact sc trivial hf|exact sc trivial hi1|exact sc trivial ca|exact sc trivial cb|exact sc trivial cc|exact sc trivial hsa|exact sc trivial hra|exact sc trivial hrb|exact sc trivial hsm|exact sc trivial c7_works|exact sc trivial csl|exact sc trivial hrl|exact sc trivial hrc|exact sc trivial hsl|exact st_lenW|exact st_indexW (by assumption)|exact st_fldE|exact st_loadS|exact st_sadd (by assumption)|exact st_slen|exact st_seq (by first|assumption|rfl)|exact st_sne (by first|assumption|rfl)|exact st_add' (by assumption)|exact st_move'|exact st_assign'|exact st_load'|exact st_fieldAddr'|exact st_extract'|exact st_and_t'|exact st_and_f'|exact st_or_f'|exact st_or_t'|exact st_not' (b := true) (u := false) rfl|exact st_not' (b := false) (u := true) rfl|exact st_not' rfl|exact st_eq' (by first|assumption|rfl)|exact st_neq' (by first|assumption|rfl)|exact st_lss' (by first|assumption|rfl)|exact st_gtr' (by first|assumption|rfl)|exact st_len'|exact st_indexAddr' (by assumption)|exact st_loadE'|exact Cv.rfl'|intro _
set_option maxRecDepth 20000 in
set_option maxHeartbeats 4000000 in
set_option synthInstance.maxSize 4000 in
set_option synthInstance.maxHeartbeats 400000 in
theorem l7_back3 {l : List Ln} {s : List UInt8} {m : Int} (hq : lexR s = ([], m, 70)) (hc : fewB l = true) (h1 : decide ((1000 : Int) < (s.length : Int)) = false) : Ctr Try.prog S1 5 [20, 0] [.rw Rp.lr tt l, .is (Tx s)] (fun _ => .is (.bool true)) := by
  have hf := c7_few (l := l)
  rw [hc] at hf
  obtain ⟨hb1, hb2⟩ := few_wl hc
  have hat := few_at hc
  have ca := c_lines (s := s)
  rw [hq] at ca
  simp only at ca
  clear hq
  refine ctr Try.func5 rfl Try.ntmps5 (by simp) (fun _ _ => by kernel_rfl) fun X w0 hE => ?_
  simp only [argE, Nat.zero_add, Nat.reduceAdd]
  repeat' first|kernel_rfl|apply g_seq|apply g_reg|apply g_nil|apply g_box|apply g_all|apply g_stf|apply g_stw|apply g_sto|apply g_asg|refine g_run rfl inferInstance (by first|exact sc trivial hf|exact sc trivial hi1|exact sc trivial ca|exact sc trivial cb|exact sc trivial cc|exact sc trivial hsa|exact sc trivial hra|exact sc trivial hrb|exact sc trivial hsm|exact sc trivial c7_works|exact sc trivial csl|exact sc trivial hrl|exact sc trivial hrc|exact sc trivial hsl|exact st_lenW|exact st_slen|exact st_move'|exact st_not' (b := true) (u := false) rfl|exact st_not' (b := false) (u := true) rfl|exact st_not' rfl|exact st_gtr' (by first|assumption|rfl)|exact st_len') (by kernel_rfl) ?_|refine g_sk rfl inferInstance rfl (by kernel_rfl) ?_|refine g_un rfl inferInstance (by kernel_rfl) ?_|apply g_st|apply g_skip|apply g_ct|apply g_cf|apply g_ret|refine r_1 rfl ?_|apply g_blk|apply g_eb|apply g_ex|apply e_t|apply e_h|refine e_o rfl ?_|apply r_t|apply r_b|apply g_cl|exact sc trivial hf|exact sc trivial hi1|exact sc trivial ca|exact sc trivial cb|exact sc trivial cc|exact sc trivial hsa|exact sc trivial hra|exact sc trivial hrb|exact sc trivial hsm|exact sc trivial c7_works|exact sc trivial csl|exact sc trivial hrl|exact sc trivial hrc|exact sc trivial hsl|exact st_lenW|exact st_indexW (by assumption)|exact st_fldE|exact st_loadS|exact st_sadd (by assumption)|exact st_slen|exact st_seq (by first|assumption|rfl)|exact st_sne (by first|assumption|rfl)|exact st_add' (by assumption)|exact st_move'|exact st_assign'|exact st_load'|exact st_fieldAddr'|exact st_extract'|exact st_and_t'|exact st_and_f'|exact st_or_f'|exact st_or_t'|exact st_not' (b := true) (u := false) rfl|exact st_not' (b := false) (u := true) rfl|exact st_not' rfl|exact st_eq' (by first|assumption|rfl)|exact st_neq' (by first|assumption|rfl)|exact st_lss' (by first|assumption|rfl)|exact st_gtr' (by first|assumption|rfl)|exact st_len'|exact st_indexAddr' (by assumption)|exact st_loadE'|exact Cv.rfl'|intro _
  refine g_stop fun a w h => ?_
  refine cw_loop (fun k a u => ∃ i : Nat, i + k = l.length ∧ (txs (l.take i)).all lok = true ∧ TS w0 X [] [(11, .is (.int .i64 (i : Int))), (0, .rw Rp.lr tt l)] 105 a u) l.length ⟨0, by omega, rfl, h.keep [11, 0]⟩ ?_
  clear h
  rintro k a u ⟨i, hi, ha, h⟩
  by_cases hlt : i < l.length
  · obtain ⟨x, hx⟩ : ∃ x, l[i]? = some x := ⟨_, List.getElem?_eq_getElem hlt⟩
    have hc1 : decide ((i : Int) < (l.length : Int)) = true := decide_eq_true (by omega)
    have hw : IntKind.i64.wrap ((i : Int) + 1) = ((i + 1 : Nat) : Int) := i64_small (by omega) (by omega)
    have hxm := hat.2 x (List.mem_of_getElem? hx)
    refine g_of h ?_
    clear h
    repeat' first|kernel_rfl|apply g_seq|apply g_reg|apply g_nil|apply g_box|apply g_all|apply g_stf|apply g_stw|apply g_sto|apply g_asg|refine g_run rfl inferInstance (by first|exact sc trivial hf|exact sc trivial hi1|exact sc trivial ca|exact sc trivial cb|exact sc trivial cc|exact sc trivial hsa|exact sc trivial hra|exact sc trivial hrb|exact sc trivial hsm|exact sc trivial c7_works|exact sc trivial csl|exact sc trivial hrl|exact sc trivial hrc|exact sc trivial hsl|exact st_lenW|exact st_slen|exact st_move'|exact st_not' (b := true) (u := false) rfl|exact st_not' (b := false) (u := true) rfl|exact st_not' rfl|exact st_gtr' (by first|assumption|rfl)|exact st_len') (by kernel_rfl) ?_|refine g_sk rfl inferInstance rfl (by kernel_rfl) ?_|refine g_un rfl inferInstance (by kernel_rfl) ?_|apply g_st|apply g_skip|apply g_ct|apply g_cf|apply g_ret|refine r_1 rfl ?_|apply g_blk|apply g_eb|apply g_ex|apply e_t|apply e_h|refine e_o rfl ?_|apply r_t|apply r_b|apply g_cl|exact sc trivial hf|exact sc trivial hi1|exact sc trivial ca|exact sc trivial cb|exact sc trivial cc|exact sc trivial hsa|exact sc trivial hra|exact sc trivial hrb|exact sc trivial hsm|exact sc trivial c7_works|exact sc trivial csl|exact sc trivial hrl|exact sc trivial hrc|exact sc trivial hsl|exact st_lenW|exact st_indexW (by assumption)|exact st_fldE|exact st_loadS|exact st_sadd (by assumption)|exact st_slen|exact st_seq (by first|assumption|rfl)|exact st_sne (by first|assumption|rfl)|exact st_add' (by assumption)|exact st_move'|exact st_assign'|exact st_load'|exact st_fieldAddr'|exact st_extract'|exact st_and_t'|exact st_and_f'|exact st_or_f'|exact st_or_t'|exact st_not' (b := true) (u := false) rfl|exact st_not' (b := false) (u := true) rfl|exact st_not' rfl|exact st_eq' (by first|assumption|rfl)|exact st_neq' (by first|assumption|rfl)|exact st_lss' (by first|assumption|rfl)|exact st_gtr' (by first|assumption|rfl)|exact st_len'|exact st_indexAddr' (by assumption)|exact st_loadE'|exact Cv.rfl'|intro _
    refine g_stop fun a w h => ?_
    refine cw_loop (fun k a u => ∃ j : Nat, j + k = x.1.length ∧ (txw (x.1.take j)).all isWd = true ∧ TS w0 X [] [(12, .is (.int .i64 (j : Int))), (11, .is (.int .i64 (i : Int))), (0, .rw Rp.lr tt l)] 105 a u) x.1.length ⟨0, by omega, rfl, h.keep [12, 11, 0]⟩ ?_
    clear h
    rintro k' a u ⟨j, hj, hja, h⟩
    by_cases hjt : j < x.1.length
    · obtain ⟨t, ht⟩ : ∃ t, x.1[j]? = some t := ⟨_, List.getElem?_eq_getElem hjt⟩
      have htl := len_at ht
      have hc2 : decide ((j : Int) < (x.1.length : Int)) = true := decide_eq_true (by omega)
      have hw2 : IntKind.i64.wrap ((j : Int) + 1) = ((j + 1 : Nat) : Int) := i64_small (by omega) (by omega)
      have hi1 := c_is (l := t.1) (by omega)
      cases hz : isWd t.1
      · rw [hz] at hi1
        refine g_of h ?_
        clear h
        repeat' first|kernel_rfl|apply g_seq|apply g_reg|apply g_nil|apply g_box|apply g_all|apply g_stf|apply g_stw|apply g_sto|apply g_asg|refine g_run rfl inferInstance (by first|exact sc trivial hf|exact sc trivial hi1|exact sc trivial ca|exact sc trivial cb|exact sc trivial cc|exact sc trivial hsa|exact sc trivial hra|exact sc trivial hrb|exact sc trivial hsm|exact sc trivial c7_works|exact sc trivial csl|exact sc trivial hrl|exact sc trivial hrc|exact sc trivial hsl|exact st_lenW|exact st_slen|exact st_move'|exact st_not' (b := true) (u := false) rfl|exact st_not' (b := false) (u := true) rfl|exact st_not' rfl|exact st_gtr' (by first|assumption|rfl)|exact st_len') (by kernel_rfl) ?_|refine g_sk rfl inferInstance rfl (by kernel_rfl) ?_|refine g_un rfl inferInstance (by kernel_rfl) ?_|apply g_st|apply g_skip|apply g_ct|apply g_cf|apply g_ret|refine r_1 rfl ?_|apply g_blk|apply g_eb|apply g_ex|apply e_t|apply e_h|refine e_o rfl ?_|apply r_t|apply r_b|apply g_cl|exact sc trivial hf|exact sc trivial hi1|exact sc trivial ca|exact sc trivial cb|exact sc trivial cc|exact sc trivial hsa|exact sc trivial hra|exact sc trivial hrb|exact sc trivial hsm|exact sc trivial c7_works|exact sc trivial csl|exact sc trivial hrl|exact sc trivial hrc|exact sc trivial hsl|exact st_lenW|exact st_indexW (by assumption)|exact st_fldE|exact st_loadS|exact st_sadd (by assumption)|exact st_slen|exact st_seq (by first|assumption|rfl)|exact st_sne (by first|assumption|rfl)|exact st_add' (by assumption)|exact st_move'|exact st_assign'|exact st_load'|exact st_fieldAddr'|exact st_extract'|exact st_and_t'|exact st_and_f'|exact st_or_f'|exact st_or_t'|exact st_not' (b := true) (u := false) rfl|exact st_not' (b := false) (u := true) rfl|exact st_not' rfl|exact st_eq' (by first|assumption|rfl)|exact st_neq' (by first|assumption|rfl)|exact st_lss' (by first|assumption|rfl)|exact st_gtr' (by first|assumption|rfl)|exact st_len'|exact st_indexAddr' (by assumption)|exact st_loadE'|exact Cv.rfl'|intro _
      · rw [hz] at hi1
        have hn := all_nextW ht hja hz
        refine g_of h ?_
        clear h
        repeat' first|kernel_rfl|exact g_done fun _ _ h=>⟨k' - 1, by omega, j + 1, by omega, hn, h.keep [12, 11, 0]⟩|apply g_seq|apply g_reg|apply g_nil|apply g_box|apply g_all|apply g_stf|apply g_stw|apply g_sto|apply g_asg|refine g_run rfl inferInstance (by first|exact sc trivial hf|exact sc trivial hi1|exact sc trivial ca|exact sc trivial cb|exact sc trivial cc|exact sc trivial hsa|exact sc trivial hra|exact sc trivial hrb|exact sc trivial hsm|exact sc trivial c7_works|exact sc trivial csl|exact sc trivial hrl|exact sc trivial hrc|exact sc trivial hsl|exact st_lenW|exact st_slen|exact st_move'|exact st_not' (b := true) (u := false) rfl|exact st_not' (b := false) (u := true) rfl|exact st_not' rfl|exact st_gtr' (by first|assumption|rfl)|exact st_len') (by kernel_rfl) ?_|refine g_sk rfl inferInstance rfl (by kernel_rfl) ?_|refine g_un rfl inferInstance (by kernel_rfl) ?_|apply g_st|apply g_skip|apply g_ct|apply g_cf|apply g_ret|refine r_1 rfl ?_|apply g_blk|apply g_eb|apply g_ex|apply e_t|apply e_h|refine e_o rfl ?_|apply r_t|apply r_b|apply g_cl|exact sc trivial hf|exact sc trivial hi1|exact sc trivial ca|exact sc trivial cb|exact sc trivial cc|exact sc trivial hsa|exact sc trivial hra|exact sc trivial hrb|exact sc trivial hsm|exact sc trivial c7_works|exact sc trivial csl|exact sc trivial hrl|exact sc trivial hrc|exact sc trivial hsl|exact st_lenW|exact st_indexW (by assumption)|exact st_fldE|exact st_loadS|exact st_sadd (by assumption)|exact st_slen|exact st_seq (by first|assumption|rfl)|exact st_sne (by first|assumption|rfl)|exact st_add' (by assumption)|exact st_move'|exact st_assign'|exact st_load'|exact st_fieldAddr'|exact st_extract'|exact st_and_t'|exact st_and_f'|exact st_or_f'|exact st_or_t'|exact st_not' (b := true) (u := false) rfl|exact st_not' (b := false) (u := true) rfl|exact st_not' rfl|exact st_eq' (by first|assumption|rfl)|exact st_neq' (by first|assumption|rfl)|exact st_lss' (by first|assumption|rfl)|exact st_gtr' (by first|assumption|rfl)|exact st_len'|exact st_indexAddr' (by assumption)|exact st_loadE'|exact Cv.rfl'|intro _
    · obtain rfl : j = x.1.length := by omega
      have hc2 : decide ((x.1.length : Int) < (x.1.length : Int)) = false := decide_eq_false (by omega)
      rw [List.take_length] at hja
      cases hz : ((x.1.length : Int) == 0)
      · have hn := all_nextL hx ha (lok_of hja (by have := ne_of_beq_false hz; omega))
        refine g_of h ?_
        clear h
        repeat' first|kernel_rfl|exact g_done fun _ _ h=>⟨k - 1, by omega, i + 1, by omega, hn, h.keep [11, 0]⟩|apply g_seq|apply g_reg|apply g_nil|apply g_box|apply g_all|apply g_stf|apply g_stw|apply g_sto|apply g_asg|refine g_run rfl inferInstance (by first|exact sc trivial hf|exact sc trivial hi1|exact sc trivial ca|exact sc trivial cb|exact sc trivial cc|exact sc trivial hsa|exact sc trivial hra|exact sc trivial hrb|exact sc trivial hsm|exact sc trivial c7_works|exact sc trivial csl|exact sc trivial hrl|exact sc trivial hrc|exact sc trivial hsl|exact st_lenW|exact st_slen|exact st_move'|exact st_not' (b := true) (u := false) rfl|exact st_not' (b := false) (u := true) rfl|exact st_not' rfl|exact st_gtr' (by first|assumption|rfl)|exact st_len') (by kernel_rfl) ?_|refine g_sk rfl inferInstance rfl (by kernel_rfl) ?_|refine g_un rfl inferInstance (by kernel_rfl) ?_|apply g_st|apply g_skip|apply g_ct|apply g_cf|apply g_ret|refine r_1 rfl ?_|apply g_blk|apply g_eb|apply g_ex|apply e_t|apply e_h|refine e_o rfl ?_|apply r_t|apply r_b|apply g_cl|exact sc trivial hf|exact sc trivial hi1|exact sc trivial ca|exact sc trivial cb|exact sc trivial cc|exact sc trivial hsa|exact sc trivial hra|exact sc trivial hrb|exact sc trivial hsm|exact sc trivial c7_works|exact sc trivial csl|exact sc trivial hrl|exact sc trivial hrc|exact sc trivial hsl|exact st_lenW|exact st_indexW (by assumption)|exact st_fldE|exact st_loadS|exact st_sadd (by assumption)|exact st_slen|exact st_seq (by first|assumption|rfl)|exact st_sne (by first|assumption|rfl)|exact st_add' (by assumption)|exact st_move'|exact st_assign'|exact st_load'|exact st_fieldAddr'|exact st_extract'|exact st_and_t'|exact st_and_f'|exact st_or_f'|exact st_or_t'|exact st_not' (b := true) (u := false) rfl|exact st_not' (b := false) (u := true) rfl|exact st_not' rfl|exact st_eq' (by first|assumption|rfl)|exact st_neq' (by first|assumption|rfl)|exact st_lss' (by first|assumption|rfl)|exact st_gtr' (by first|assumption|rfl)|exact st_len'|exact st_indexAddr' (by assumption)|exact st_loadE'|exact Cv.rfl'|intro _
      · skip
        refine g_of h ?_
        clear h
        repeat' first|kernel_rfl|apply g_seq|apply g_reg|apply g_nil|apply g_box|apply g_all|apply g_stf|apply g_stw|apply g_sto|apply g_asg|refine g_run rfl inferInstance (by first|exact sc trivial hf|exact sc trivial hi1|exact sc trivial ca|exact sc trivial cb|exact sc trivial cc|exact sc trivial hsa|exact sc trivial hra|exact sc trivial hrb|exact sc trivial hsm|exact sc trivial c7_works|exact sc trivial csl|exact sc trivial hrl|exact sc trivial hrc|exact sc trivial hsl|exact st_lenW|exact st_slen|exact st_move'|exact st_not' (b := true) (u := false) rfl|exact st_not' (b := false) (u := true) rfl|exact st_not' rfl|exact st_gtr' (by first|assumption|rfl)|exact st_len') (by kernel_rfl) ?_|refine g_sk rfl inferInstance rfl (by kernel_rfl) ?_|refine g_un rfl inferInstance (by kernel_rfl) ?_|apply g_st|apply g_skip|apply g_ct|apply g_cf|apply g_ret|refine r_1 rfl ?_|apply g_blk|apply g_eb|apply g_ex|apply e_t|apply e_h|refine e_o rfl ?_|apply r_t|apply r_b|apply g_cl|exact sc trivial hf|exact sc trivial hi1|exact sc trivial ca|exact sc trivial cb|exact sc trivial cc|exact sc trivial hsa|exact sc trivial hra|exact sc trivial hrb|exact sc trivial hsm|exact sc trivial c7_works|exact sc trivial csl|exact sc trivial hrl|exact sc trivial hrc|exact sc trivial hsl|exact st_lenW|exact st_indexW (by assumption)|exact st_fldE|exact st_loadS|exact st_sadd (by assumption)|exact st_slen|exact st_seq (by first|assumption|rfl)|exact st_sne (by first|assumption|rfl)|exact st_add' (by assumption)|exact st_move'|exact st_assign'|exact st_load'|exact st_fieldAddr'|exact st_extract'|exact st_and_t'|exact st_and_f'|exact st_or_f'|exact st_or_t'|exact st_not' (b := true) (u := false) rfl|exact st_not' (b := false) (u := true) rfl|exact st_not' rfl|exact st_eq' (by first|assumption|rfl)|exact st_neq' (by first|assumption|rfl)|exact st_lss' (by first|assumption|rfl)|exact st_gtr' (by first|assumption|rfl)|exact st_len'|exact st_indexAddr' (by assumption)|exact st_loadE'|exact Cv.rfl'|intro _
  · obtain rfl : i = l.length := by omega
    have hc1 : decide ((l.length : Int) < (l.length : Int)) = false := decide_eq_false (by omega)
    rw [List.take_length] at ha
    have csl := c_show (l := l) (by omega)
    have cc := c_lines (s := shw (txs l))
    obtain ⟨lc, n', hqc, htc⟩ := lexR_shw ha (by omega)
    rw [hqc] at cc
    simp only at cc
    have hrl := c7_ref hb2
    have bc := ls_bound (ls := lc) (n := 20220) (by rw [htc]; exact ha) (by rw [htc]; omega)
    have hrc := c7_ref (l := lc) ⟨by omega, fun x hx => by have := bc.2.2 x hx; omega⟩
    have hsl := cL_same (l := lc) (m := l) (p := false)
    rw [sameB_txs htc] at hsl
    clear hqc htc bc
    refine g_of h ?_
    clear h
    repeat' first|kernel_rfl|apply g_seq|apply g_reg|apply g_nil|apply g_box|apply g_all|apply g_stf|apply g_stw|apply g_sto|apply g_asg|refine g_run rfl inferInstance (by first|exact sc trivial hf|exact sc trivial hi1|exact sc trivial ca|exact sc trivial cb|exact sc trivial cc|exact sc trivial hsa|exact sc trivial hra|exact sc trivial hrb|exact sc trivial hsm|exact sc trivial c7_works|exact sc trivial csl|exact sc trivial hrl|exact sc trivial hrc|exact sc trivial hsl|exact st_lenW|exact st_slen|exact st_move'|exact st_not' (b := true) (u := false) rfl|exact st_not' (b := false) (u := true) rfl|exact st_not' rfl|exact st_gtr' (by first|assumption|rfl)|exact st_len') (by kernel_rfl) ?_|refine g_sk rfl inferInstance rfl (by kernel_rfl) ?_|refine g_un rfl inferInstance (by kernel_rfl) ?_|apply g_st|apply g_skip|apply g_ct|apply g_cf|apply g_ret|refine r_1 rfl ?_|apply g_blk|apply g_eb|apply g_ex|apply e_t|apply e_h|refine e_o rfl ?_|apply r_t|apply r_b|apply g_cl|exact sc trivial hf|exact sc trivial hi1|exact sc trivial ca|exact sc trivial cb|exact sc trivial cc|exact sc trivial hsa|exact sc trivial hra|exact sc trivial hrb|exact sc trivial hsm|exact sc trivial c7_works|exact sc trivial csl|exact sc trivial hrl|exact sc trivial hrc|exact sc trivial hsl|exact st_lenW|exact st_indexW (by assumption)|exact st_fldE|exact st_loadS|exact st_sadd (by assumption)|exact st_slen|exact st_seq (by first|assumption|rfl)|exact st_sne (by first|assumption|rfl)|exact st_add' (by assumption)|exact st_move'|exact st_assign'|exact st_load'|exact st_fieldAddr'|exact st_extract'|exact st_and_t'|exact st_and_f'|exact st_or_f'|exact st_or_t'|exact st_not' (b := true) (u := false) rfl|exact st_not' (b := false) (u := true) rfl|exact st_not' rfl|exact st_eq' (by first|assumption|rfl)|exact st_neq' (by first|assumption|rfl)|exact st_lss' (by first|assumption|rfl)|exact st_gtr' (by first|assumption|rfl)|exact st_len'|exact st_indexAddr' (by assumption)|exact st_loadE'|exact Cv.rfl'|intro _
theorem l7_back {l : List Ln} {s : List UInt8} : Ctr Try.prog S1 5 [20, 0] [.rw Rp.lr tt l, .is (Tx s)] (fun _ => .is (.bool true)) := by
  cases hc : fewB l with
  | false => exact l7_back0 hc
  | true => cases h1 : decide ((1000 : Int) < (s.length : Int)) with
    | true => exact l7_back1 hc h1
    | false =>
      rcases lexR_e (s := s) (by have := of_decide_eq_false h1; omega) with ⟨la, hq, h2, h3⟩ | ⟨m, hq⟩
      · exact l7_back2 hq h2 h3 hc h1
      · exact l7_back3 hq hc h1
end Go.Proofs.Ytkjojpeamabdmaa
