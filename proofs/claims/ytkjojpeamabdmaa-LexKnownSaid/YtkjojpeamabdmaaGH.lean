/- The law of layer 7: same, ref. -/
import Derived.Test.YtkjojpeamabdmaaGG
import Derived.Lib.Builder
import Derived.Lib.AppendStr
import Derived.Lib.FrozenHead
set_option linter.unusedSimpArgs false
set_option linter.unusedVariables false
namespace Go.Proofs.Ytkjojpeamabdmaa
open Go Go.RowKit
/-- Two rows, element by element. -/
def eqA {α : Type} (f : α → α → Bool) : List α → List α → Bool
  | [], [] => true
  | x :: xs, y :: ys => f x y && eqA f xs ys
  | _, _ => false
theorem eqA_len {α : Type} {f : α → α → Bool} : ∀ {a b : List α}, eqA f a b = true → a.length = b.length
  | [], [], _ => rfl
  | x :: a, y :: b, h => by
    unfold eqA at h
    rw [Bool.and_eq_true] at h
    rw [List.length_cons, List.length_cons, eqA_len h.2]
  | [], _ :: _, h => by cases h
  | _ :: _, [], h => by cases h
theorem eqA_ne {α : Type} {f : α → α → Bool} {a b : List α} (h : a.length ≠ b.length) : eqA f a b = false := by
  cases hq : eqA f a b with
  | false => rfl
  | true => exact absurd (eqA_len hq) h
theorem eqA_at {α : Type} {f : α → α → Bool} : ∀ {a b : List α} {i : Nat} {x y : α}, a[i]? = some x → b[i]? = some y → f x y = false → eqA f a b = false
  | [], _, _, _, _, h, _, _ => by cases h
  | _ :: _, [], _, _, _, _, h, _ => by cases h
  | x :: a, y :: b, 0, u, v, h1, h2, h3 => by
    have e1 : x = u := Option.some.inj h1
    have e2 : y = v := Option.some.inj h2
    subst e1; subst e2
    show (f x y && _) = false
    rw [h3]; rfl
  | x :: a, y :: b, i + 1, _, _, h1, h2, h3 => by
    show (f x y && _) = false
    rw [eqA_at (by simpa using h1) (by simpa using h2) h3, Bool.and_false]
theorem eqA_snoc {α : Type} {f : α → α → Bool} : ∀ {a b : List α} {x y : α}, eqA f a b = true → f x y = true → eqA f (a ++ [x]) (b ++ [y]) = true
  | [], [], x, y, _, h => by show (f x y && true) = true; rw [h]; rfl
  | x :: a, y :: b, _, _, h1, h2 => by
    have h1' : (f x y && eqA f a b) = true := h1
    rw [Bool.and_eq_true] at h1'
    show (f x y && eqA f (a ++ [_]) (b ++ [_])) = true
    rw [h1'.1, eqA_snoc h1'.2 h2]; rfl
  | [], _ :: _, _, _, h, _ => by cases h
  | _ :: _, [], _, _, h, _ => by cases h
theorem eqA_next {α : Type} {f : α → α → Bool} {a b : List α} {i : Nat} {x y : α} (h1 : a[i]? = some x) (h2 : b[i]? = some y) (h : eqA f (a.take i) (b.take i) = true) (hf : f x y = true) : eqA f (a.take (i + 1)) (b.take (i + 1)) = true := by
  rw [tk_snoc h1, tk_snoc h2]
  exact eqA_snoc h hf
def sameW (p : Bool) (u v : Wd) : Bool := (u.1 == v.1) && !(p && !(u.2 == v.2))
def sameL (p : Bool) (x y : Ln) : Bool := !(p && !(x.2 == y.2)) && eqA (sameW p) x.1 y.1
def sameB (p : Bool) (a b : List Ln) : Bool := eqA (sameL p) a b
set_option maxRecDepth 20000 in
set_option maxHeartbeats 4000000 in
set_option synthInstance.maxSize 4000 in
set_option synthInstance.maxHeartbeats 400000 in
theorem cL_same {l m : List Ln} {p : Bool} : Ctr Try.prog S1 11 [20, 20, 0] [.rw Rp.lr tt l, .rw Rp.lr tt m, .is (.bool p)] (fun _ => .is (.bool (sameB p l m))) := by
  refine ctrF (F := (l.length ≤ 9223372036854775807 ∧ ∀ x ∈ l, x.1.length ≤ 9223372036854775807)) (fun ha => ?_) (fun _ _ => by kernel_rfl) fun hb => ?_
  · obtain ⟨v, us, rfl, h, _⟩ := ha.tail
    exact rows_max h
  cases hlm : ((l.length : Int) != (m.length : Int))
  rotate_left
  · have e : sameB p l m = false := eqA_ne fun e => by rw [e] at hlm; simp at hlm
    rw [e]
    refine ctr Try.func11 rfl Try.ntmps11 (by simp) (fun _ _ => by kernel_rfl) fun X w hE => ?_
    simp only [argE, Nat.zero_add, Nat.reduceAdd]
    repeat' first|kernel_rfl|apply g_seq|apply g_reg|apply g_nil|apply o_all|apply o_go|exact OpsT.nil|exact GuardC.nil|exact UndefC.nil|refine @GuardC.cons _ _ _ _ inferInstance ?_|refine @UndefC.cons _ _ _ inferInstance ?_|apply g_box|apply g_all|apply g_stf|apply g_stw|apply g_sto|apply g_asg|refine g_run rfl inferInstance (by first|fail) (by kernel_rfl) ?_|refine g_sk rfl inferInstance rfl (by kernel_rfl) ?_|refine g_un rfl inferInstance (by kernel_rfl) ?_|apply g_st|apply g_skip|apply g_ct|apply g_cf|apply g_ret|refine r_1 rfl ?_|apply g_blk|apply g_eb|apply g_ex|apply e_t|apply e_h|refine e_o rfl ?_|apply r_t|apply r_b|apply g_cl|exact st_lenW|exact st_indexW (by assumption)|exact st_fldE|exact st_loadS|exact st_sadd (by assumption)|exact st_slen|exact st_sne (by first|assumption|rfl)|exact st_add' (by assumption)|exact st_move'|exact st_assign'|exact st_load'|exact st_fieldAddr'|exact st_and_t'|exact st_and_f'|exact st_or_f'|exact st_or_t'|exact st_neq' (by first|assumption|rfl)|exact st_lss' (by first|assumption|rfl)|exact st_len'|exact st_indexAddr' (by assumption)|exact st_loadE'|exact Cv.rfl'|(intro _;simp only[newX,newL,ptrs,List.map,List.cons_append,List.nil_append])|intro _
  have hlm' : l.length = m.length := Int.ofNat.inj (by simpa using hlm)
  refine ctr Try.func11 rfl Try.ntmps11 (by simp) (fun _ _ => by kernel_rfl) fun X w0 hE => ?_
  simp only [argE, Nat.zero_add, Nat.reduceAdd]
  repeat' first|kernel_rfl|apply g_seq|apply g_reg|apply g_nil|apply o_all|apply o_go|exact OpsT.nil|exact GuardC.nil|exact UndefC.nil|refine @GuardC.cons _ _ _ _ inferInstance ?_|refine @UndefC.cons _ _ _ inferInstance ?_|apply g_box|apply g_all|apply g_stf|apply g_stw|apply g_sto|apply g_asg|refine g_run rfl inferInstance (by first|fail) (by kernel_rfl) ?_|refine g_sk rfl inferInstance rfl (by kernel_rfl) ?_|refine g_un rfl inferInstance (by kernel_rfl) ?_|apply g_st|apply g_skip|apply g_ct|apply g_cf|apply g_ret|refine r_1 rfl ?_|apply g_blk|apply g_eb|apply g_ex|apply e_t|apply e_h|refine e_o rfl ?_|apply r_t|apply r_b|apply g_cl|exact st_lenW|exact st_indexW (by assumption)|exact st_fldE|exact st_loadS|exact st_sadd (by assumption)|exact st_slen|exact st_sne (by first|assumption|rfl)|exact st_add' (by assumption)|exact st_move'|exact st_assign'|exact st_load'|exact st_fieldAddr'|exact st_and_t'|exact st_and_f'|exact st_or_f'|exact st_or_t'|exact st_neq' (by first|assumption|rfl)|exact st_lss' (by first|assumption|rfl)|exact st_len'|exact st_indexAddr' (by assumption)|exact st_loadE'|exact Cv.rfl'|(intro _;simp only[newX,newL,ptrs,List.map,List.cons_append,List.nil_append])|intro _
  refine g_stop fun a w h => ?_
  refine cw_loop (fun k a u => ∃ i : Nat, i + k = l.length ∧ eqA (sameL p) (l.take i) (m.take i) = true ∧ TS w0 X [] [(7, .is (.int .i64 (i : Int))), (0, .rw Rp.lr tt l), (1, .rw Rp.lr tt m), (2, .is (.bool p))] 102 a u) l.length ⟨0, by omega, rfl, h.keep [7, 0, 1, 2]⟩ ?_
  clear h
  rintro k a u ⟨i, hi, ha, h⟩
  by_cases hlt : i < l.length
  · obtain ⟨x, hx⟩ : ∃ x, l[i]? = some x := ⟨_, List.getElem?_eq_getElem hlt⟩
    obtain ⟨y, hy⟩ : ∃ y, m[i]? = some y := ⟨_, List.getElem?_eq_getElem (by omega)⟩
    have hc : decide ((i : Int) < (l.length : Int)) = true := decide_eq_true (by omega)
    have hw : IntKind.i64.wrap ((i : Int) + 1) = ((i + 1 : Nat) : Int) := i64_small (by omega) (by have := hb.1; omega)
    have hxm := hb.2 x (List.mem_of_getElem? hx)
    cases hln : ((x.1.length : Int) != (y.1.length : Int))
    rotate_left
    · have e : sameB p l m = false := eqA_at hx hy (by
        unfold sameL
        rw [eqA_ne (fun e => by rw [e] at hln; simp at hln), Bool.and_false])
      rw [e]
      refine g_of h ?_
      clear h
      repeat' first|kernel_rfl|apply g_seq|apply g_reg|apply g_nil|apply g_draw (id:=6) [(33, true)] [35] 28|(apply o_un (d:=35);(focus rfl);(focus kernel_rfl))|(apply o_sk;(focus rfl);(focus kernel_rfl))|apply o_all|apply o_go|exact OpsT.nil|exact GuardC.nil|exact UndefC.nil|refine @GuardC.cons _ _ _ _ inferInstance ?_|refine @UndefC.cons _ _ _ inferInstance ?_|apply g_box|apply g_all|apply g_stf|apply g_stw|apply g_sto|apply g_asg|refine g_run rfl inferInstance (by first|fail) (by kernel_rfl) ?_|refine g_sk rfl inferInstance rfl (by kernel_rfl) ?_|refine g_un rfl inferInstance (by kernel_rfl) ?_|apply g_st|apply g_skip|apply g_ct|apply g_cf|apply g_ret|refine r_1 rfl ?_|apply g_blk|apply g_eb|apply g_ex|apply e_t|apply e_h|refine e_o rfl ?_|apply r_t|apply r_b|apply g_cl|exact st_lenW|exact st_indexW (by assumption)|exact st_fldE|exact st_loadS|exact st_sadd (by assumption)|exact st_slen|exact st_sne (by first|assumption|rfl)|exact st_add' (by assumption)|exact st_move'|exact st_assign'|exact st_load'|exact st_fieldAddr'|exact st_and_t'|exact st_and_f'|exact st_or_f'|exact st_or_t'|exact st_neq' (by first|assumption|rfl)|exact st_lss' (by first|assumption|rfl)|exact st_len'|exact st_indexAddr' (by assumption)|exact st_loadE'|exact Cv.rfl'|(intro _;simp only[newX,newL,ptrs,List.map,List.cons_append,List.nil_append])|intro _
    have hln' : x.1.length = y.1.length := Int.ofNat.inj (by simpa using hln)
    cases p
    · skip
      refine g_of h ?_
      clear h
      repeat' first|kernel_rfl|apply g_seq|apply g_reg|apply g_nil|apply g_draw (id:=6) [(33, false), (35, false)] [] 28|(apply o_sk;(focus rfl);(focus kernel_rfl))|apply o_all|apply o_go|exact OpsT.nil|exact GuardC.nil|exact UndefC.nil|refine @GuardC.cons _ _ _ _ inferInstance ?_|refine @UndefC.cons _ _ _ inferInstance ?_|apply g_box|apply g_all|apply g_stf|apply g_stw|apply g_sto|apply g_asg|refine g_run rfl inferInstance (by first|fail) (by kernel_rfl) ?_|refine g_sk rfl inferInstance rfl (by kernel_rfl) ?_|refine g_un rfl inferInstance (by kernel_rfl) ?_|apply g_st|apply g_skip|apply g_ct|apply g_cf|apply g_ret|refine r_1 rfl ?_|apply g_blk|apply g_eb|apply g_ex|apply e_t|apply e_h|refine e_o rfl ?_|apply r_t|apply r_b|apply g_cl|exact st_lenW|exact st_indexW (by assumption)|exact st_fldE|exact st_loadS|exact st_sadd (by assumption)|exact st_slen|exact st_sne (by first|assumption|rfl)|exact st_add' (by assumption)|exact st_move'|exact st_assign'|exact st_load'|exact st_fieldAddr'|exact st_and_t'|exact st_and_f'|exact st_or_f'|exact st_or_t'|exact st_neq' (by first|assumption|rfl)|exact st_lss' (by first|assumption|rfl)|exact st_len'|exact st_indexAddr' (by assumption)|exact st_loadE'|exact Cv.rfl'|(intro _;simp only[newX,newL,ptrs,List.map,List.cons_append,List.nil_append])|intro _
      refine g_stop fun a w h => ?_
      refine cw_loop (fun k a u => ∃ j : Nat, j + k = x.1.length ∧ eqA (sameW false) (x.1.take j) (y.1.take j) = true ∧ TS w0 X [] [(8, .is (.int .i64 (j : Int))), (7, .is (.int .i64 (i : Int))), (0, .rw Rp.lr tt l), (1, .rw Rp.lr tt m), (2, .is (.bool false))] 102 a u) x.1.length ⟨0, by omega, rfl, h.keep [8, 7, 0, 1, 2]⟩ ?_
      clear h
      rintro k' a u ⟨j, hj, hja, h⟩
      by_cases hjt : j < x.1.length
      · obtain ⟨s, hs⟩ : ∃ s, x.1[j]? = some s := ⟨_, List.getElem?_eq_getElem hjt⟩
        obtain ⟨t, ht⟩ : ∃ t, y.1[j]? = some t := ⟨_, List.getElem?_eq_getElem (by omega)⟩
        have hc2 : decide ((j : Int) < (x.1.length : Int)) = true := decide_eq_true (by omega)
        have hw2 : IntKind.i64.wrap ((j : Int) + 1) = ((j + 1 : Nat) : Int) := i64_small (by omega) (by omega)
        cases hst : (!(s.1 == t.1))
        rotate_left
        · have e : sameB false l m = false := eqA_at hx hy (by
            unfold sameL
            rw [eqA_at hs ht (by unfold sameW; rw [Bool.not_eq_true'] at hst; rw [hst]; rfl), Bool.and_false])
          rw [e]
          refine g_of h ?_
          clear h
          repeat' first|kernel_rfl|apply g_seq|apply g_reg|apply g_nil|apply g_draw (id:=11) [(78, true)] [80] 42|(apply o_un (d:=80);(focus rfl);(focus kernel_rfl))|(apply o_sk;(focus rfl);(focus kernel_rfl))|apply o_all|apply o_go|exact OpsT.nil|exact GuardC.nil|exact UndefC.nil|refine @GuardC.cons _ _ _ _ inferInstance ?_|refine @UndefC.cons _ _ _ inferInstance ?_|apply g_box|apply g_all|apply g_stf|apply g_stw|apply g_sto|apply g_asg|refine g_run rfl inferInstance (by first|fail) (by kernel_rfl) ?_|refine g_sk rfl inferInstance rfl (by kernel_rfl) ?_|refine g_un rfl inferInstance (by kernel_rfl) ?_|apply g_st|apply g_skip|apply g_ct|apply g_cf|apply g_ret|refine r_1 rfl ?_|apply g_blk|apply g_eb|apply g_ex|apply e_t|apply e_h|refine e_o rfl ?_|apply r_t|apply r_b|apply g_cl|exact st_lenW|exact st_indexW (by assumption)|exact st_fldE|exact st_loadS|exact st_sadd (by assumption)|exact st_slen|exact st_sne (by first|assumption|rfl)|exact st_add' (by assumption)|exact st_move'|exact st_assign'|exact st_load'|exact st_fieldAddr'|exact st_and_t'|exact st_and_f'|exact st_or_f'|exact st_or_t'|exact st_neq' (by first|assumption|rfl)|exact st_lss' (by first|assumption|rfl)|exact st_len'|exact st_indexAddr' (by assumption)|exact st_loadE'|exact Cv.rfl'|(intro _;simp only[newX,newL,ptrs,List.map,List.cons_append,List.nil_append])|intro _
        · have hn := eqA_next (f := sameW false) hs ht hja (by unfold sameW; rw [Bool.not_eq_false'] at hst; rw [hst]; rfl)
          refine g_of h ?_
          clear h
          repeat' first|kernel_rfl|exact g_done fun _ _ h=>⟨k' - 1, by omega, j + 1, by omega, hn, h.keep [8, 7, 0, 1, 2]⟩|apply g_seq|apply g_reg|apply g_nil|apply g_draw (id:=11) [(78, false), (80, false)] [] 42|(apply o_sk;(focus rfl);(focus kernel_rfl))|apply o_all|apply o_go|exact OpsT.nil|exact GuardC.nil|exact UndefC.nil|refine @GuardC.cons _ _ _ _ inferInstance ?_|refine @UndefC.cons _ _ _ inferInstance ?_|apply g_box|apply g_all|apply g_stf|apply g_stw|apply g_sto|apply g_asg|refine g_run rfl inferInstance (by first|fail) (by kernel_rfl) ?_|refine g_sk rfl inferInstance rfl (by kernel_rfl) ?_|refine g_un rfl inferInstance (by kernel_rfl) ?_|apply g_st|apply g_skip|apply g_ct|apply g_cf|apply g_ret|refine r_1 rfl ?_|apply g_blk|apply g_eb|apply g_ex|apply e_t|apply e_h|refine e_o rfl ?_|apply r_t|apply r_b|apply g_cl|exact st_lenW|exact st_indexW (by assumption)|exact st_fldE|exact st_loadS|exact st_sadd (by assumption)|exact st_slen|exact st_sne (by first|assumption|rfl)|exact st_add' (by assumption)|exact st_move'|exact st_assign'|exact st_load'|exact st_fieldAddr'|exact st_and_t'|exact st_and_f'|exact st_or_f'|exact st_or_t'|exact st_neq' (by first|assumption|rfl)|exact st_lss' (by first|assumption|rfl)|exact st_len'|exact st_indexAddr' (by assumption)|exact st_loadE'|exact Cv.rfl'|(intro _;simp only[newX,newL,ptrs,List.map,List.cons_append,List.nil_append])|intro _
      · obtain rfl : j = x.1.length := by omega
        have hc2 : decide ((x.1.length : Int) < (x.1.length : Int)) = false := decide_eq_false (by omega)
        have hn := eqA_next (f := sameL false) hx hy ha (by
          rw [List.take_length, hln', List.take_length] at hja
          unfold sameL
          rw [hja]
          rfl)
        refine g_of h ?_
        clear h
        repeat' first|kernel_rfl|exact g_done fun _ _ h=>⟨k - 1, by omega, i + 1, by omega, hn, h.keep [7, 0, 1, 2]⟩|apply g_seq|apply g_reg|apply g_nil|apply g_draw (id:=11) [(78, false), (80, true)] [] 42|apply o_all|apply o_go|exact OpsT.nil|exact GuardC.nil|exact UndefC.nil|refine @GuardC.cons _ _ _ _ inferInstance ?_|refine @UndefC.cons _ _ _ inferInstance ?_|apply g_box|apply g_all|apply g_stf|apply g_stw|apply g_sto|apply g_asg|refine g_run rfl inferInstance (by first|fail) (by kernel_rfl) ?_|refine g_sk rfl inferInstance rfl (by kernel_rfl) ?_|refine g_un rfl inferInstance (by kernel_rfl) ?_|apply g_st|apply g_skip|apply g_ct|apply g_cf|apply g_ret|refine r_1 rfl ?_|apply g_blk|apply g_eb|apply g_ex|apply e_t|apply e_h|refine e_o rfl ?_|apply r_t|apply r_b|apply g_cl|exact st_lenW|exact st_indexW (by assumption)|exact st_fldE|exact st_loadS|exact st_sadd (by assumption)|exact st_slen|exact st_sne (by first|assumption|rfl)|exact st_add' (by assumption)|exact st_move'|exact st_assign'|exact st_load'|exact st_fieldAddr'|exact st_and_t'|exact st_and_f'|exact st_or_f'|exact st_or_t'|exact st_neq' (by first|assumption|rfl)|exact st_lss' (by first|assumption|rfl)|exact st_len'|exact st_indexAddr' (by assumption)|exact st_loadE'|exact Cv.rfl'|(intro _;simp only[newX,newL,ptrs,List.map,List.cons_append,List.nil_append])|intro _
    · cases hat : (x.2 != y.2)
      rotate_left
      · have e : sameB true l m = false := eqA_at hx hy (by
          unfold sameL
          rw [show (!(x.2 == y.2)) = true from hat]; rfl)
        rw [e]
        refine g_of h ?_
        clear h
        repeat' first|kernel_rfl|apply g_seq|apply g_reg|apply g_nil|apply g_draw (id:=6) [(33, false), (35, true)] [] 28|apply o_all|apply o_go|exact OpsT.nil|exact GuardC.nil|exact UndefC.nil|refine @GuardC.cons _ _ _ _ inferInstance ?_|refine @UndefC.cons _ _ _ inferInstance ?_|apply g_box|apply g_all|apply g_stf|apply g_stw|apply g_sto|apply g_asg|refine g_run rfl inferInstance (by first|fail) (by kernel_rfl) ?_|refine g_sk rfl inferInstance rfl (by kernel_rfl) ?_|refine g_un rfl inferInstance (by kernel_rfl) ?_|apply g_st|apply g_skip|apply g_ct|apply g_cf|apply g_ret|refine r_1 rfl ?_|apply g_blk|apply g_eb|apply g_ex|apply e_t|apply e_h|refine e_o rfl ?_|apply r_t|apply r_b|apply g_cl|exact st_lenW|exact st_indexW (by assumption)|exact st_fldE|exact st_loadS|exact st_sadd (by assumption)|exact st_slen|exact st_sne (by first|assumption|rfl)|exact st_add' (by assumption)|exact st_move'|exact st_assign'|exact st_load'|exact st_fieldAddr'|exact st_and_t'|exact st_and_f'|exact st_or_f'|exact st_or_t'|exact st_neq' (by first|assumption|rfl)|exact st_lss' (by first|assumption|rfl)|exact st_len'|exact st_indexAddr' (by assumption)|exact st_loadE'|exact Cv.rfl'|(intro _;simp only[newX,newL,ptrs,List.map,List.cons_append,List.nil_append])|intro _
      · skip
        refine g_of h ?_
        clear h
        repeat' first|kernel_rfl|apply g_seq|apply g_reg|apply g_nil|apply g_draw (id:=6) [(33, false), (35, true)] [] 28|apply o_all|apply o_go|exact OpsT.nil|exact GuardC.nil|exact UndefC.nil|refine @GuardC.cons _ _ _ _ inferInstance ?_|refine @UndefC.cons _ _ _ inferInstance ?_|apply g_box|apply g_all|apply g_stf|apply g_stw|apply g_sto|apply g_asg|refine g_run rfl inferInstance (by first|fail) (by kernel_rfl) ?_|refine g_sk rfl inferInstance rfl (by kernel_rfl) ?_|refine g_un rfl inferInstance (by kernel_rfl) ?_|apply g_st|apply g_skip|apply g_ct|apply g_cf|apply g_ret|refine r_1 rfl ?_|apply g_blk|apply g_eb|apply g_ex|apply e_t|apply e_h|refine e_o rfl ?_|apply r_t|apply r_b|apply g_cl|exact st_lenW|exact st_indexW (by assumption)|exact st_fldE|exact st_loadS|exact st_sadd (by assumption)|exact st_slen|exact st_sne (by first|assumption|rfl)|exact st_add' (by assumption)|exact st_move'|exact st_assign'|exact st_load'|exact st_fieldAddr'|exact st_and_t'|exact st_and_f'|exact st_or_f'|exact st_or_t'|exact st_neq' (by first|assumption|rfl)|exact st_lss' (by first|assumption|rfl)|exact st_len'|exact st_indexAddr' (by assumption)|exact st_loadE'|exact Cv.rfl'|(intro _;simp only[newX,newL,ptrs,List.map,List.cons_append,List.nil_append])|intro _
        refine g_stop fun a w h => ?_
        refine cw_loop (fun k a u => ∃ j : Nat, j + k = x.1.length ∧ eqA (sameW true) (x.1.take j) (y.1.take j) = true ∧ TS w0 X [] [(8, .is (.int .i64 (j : Int))), (7, .is (.int .i64 (i : Int))), (0, .rw Rp.lr tt l), (1, .rw Rp.lr tt m), (2, .is (.bool true))] 102 a u) x.1.length ⟨0, by omega, rfl, h.keep [8, 7, 0, 1, 2]⟩ ?_
        clear h
        rintro k' a u ⟨j, hj, hja, h⟩
        by_cases hjt : j < x.1.length
        · obtain ⟨s, hs⟩ : ∃ s, x.1[j]? = some s := ⟨_, List.getElem?_eq_getElem hjt⟩
          obtain ⟨t, ht⟩ : ∃ t, y.1[j]? = some t := ⟨_, List.getElem?_eq_getElem (by omega)⟩
          have hc2 : decide ((j : Int) < (x.1.length : Int)) = true := decide_eq_true (by omega)
          have hw2 : IntKind.i64.wrap ((j : Int) + 1) = ((j + 1 : Nat) : Int) := i64_small (by omega) (by omega)
          cases hst : (!(s.1 == t.1))
          rotate_left
          · have e : sameB true l m = false := eqA_at hx hy (by
              unfold sameL
              rw [eqA_at hs ht (by unfold sameW; rw [Bool.not_eq_true'] at hst; rw [hst]; rfl), Bool.and_false])
            rw [e]
            refine g_of h ?_
            clear h
            repeat' first|kernel_rfl|apply g_seq|apply g_reg|apply g_nil|apply g_draw (id:=11) [(78, true)] [80] 42|(apply o_un (d:=80);(focus rfl);(focus kernel_rfl))|(apply o_sk;(focus rfl);(focus kernel_rfl))|apply o_all|apply o_go|exact OpsT.nil|exact GuardC.nil|exact UndefC.nil|refine @GuardC.cons _ _ _ _ inferInstance ?_|refine @UndefC.cons _ _ _ inferInstance ?_|apply g_box|apply g_all|apply g_stf|apply g_stw|apply g_sto|apply g_asg|refine g_run rfl inferInstance (by first|fail) (by kernel_rfl) ?_|refine g_sk rfl inferInstance rfl (by kernel_rfl) ?_|refine g_un rfl inferInstance (by kernel_rfl) ?_|apply g_st|apply g_skip|apply g_ct|apply g_cf|apply g_ret|refine r_1 rfl ?_|apply g_blk|apply g_eb|apply g_ex|apply e_t|apply e_h|refine e_o rfl ?_|apply r_t|apply r_b|apply g_cl|exact st_lenW|exact st_indexW (by assumption)|exact st_fldE|exact st_loadS|exact st_sadd (by assumption)|exact st_slen|exact st_sne (by first|assumption|rfl)|exact st_add' (by assumption)|exact st_move'|exact st_assign'|exact st_load'|exact st_fieldAddr'|exact st_and_t'|exact st_and_f'|exact st_or_f'|exact st_or_t'|exact st_neq' (by first|assumption|rfl)|exact st_lss' (by first|assumption|rfl)|exact st_len'|exact st_indexAddr' (by assumption)|exact st_loadE'|exact Cv.rfl'|(intro _;simp only[newX,newL,ptrs,List.map,List.cons_append,List.nil_append])|intro _
          · cases hsa : (s.2 != t.2)
            rotate_left
            · have e : sameB true l m = false := eqA_at hx hy (by
                unfold sameL
                rw [eqA_at hs ht (by unfold sameW; rw [show (!(s.2 == t.2)) = true from hsa, Bool.and_true, Bool.not_true, Bool.and_false]), Bool.and_false])
              rw [e]
              refine g_of h ?_
              clear h
              repeat' first|kernel_rfl|apply g_seq|apply g_reg|apply g_nil|apply g_draw (id:=11) [(78, false), (80, true)] [] 42|apply o_all|apply o_go|exact OpsT.nil|exact GuardC.nil|exact UndefC.nil|refine @GuardC.cons _ _ _ _ inferInstance ?_|refine @UndefC.cons _ _ _ inferInstance ?_|apply g_box|apply g_all|apply g_stf|apply g_stw|apply g_sto|apply g_asg|refine g_run rfl inferInstance (by first|fail) (by kernel_rfl) ?_|refine g_sk rfl inferInstance rfl (by kernel_rfl) ?_|refine g_un rfl inferInstance (by kernel_rfl) ?_|apply g_st|apply g_skip|apply g_ct|apply g_cf|apply g_ret|refine r_1 rfl ?_|apply g_blk|apply g_eb|apply g_ex|apply e_t|apply e_h|refine e_o rfl ?_|apply r_t|apply r_b|apply g_cl|exact st_lenW|exact st_indexW (by assumption)|exact st_fldE|exact st_loadS|exact st_sadd (by assumption)|exact st_slen|exact st_sne (by first|assumption|rfl)|exact st_add' (by assumption)|exact st_move'|exact st_assign'|exact st_load'|exact st_fieldAddr'|exact st_and_t'|exact st_and_f'|exact st_or_f'|exact st_or_t'|exact st_neq' (by first|assumption|rfl)|exact st_lss' (by first|assumption|rfl)|exact st_len'|exact st_indexAddr' (by assumption)|exact st_loadE'|exact Cv.rfl'|(intro _;simp only[newX,newL,ptrs,List.map,List.cons_append,List.nil_append])|intro _
            · have hn := eqA_next (f := sameW true) hs ht hja (by unfold sameW; rw [Bool.not_eq_false'] at hst; rw [hst, show (!(s.2 == t.2)) = false from hsa]; rfl)
              refine g_of h ?_
              clear h
              repeat' first|kernel_rfl|exact g_done fun _ _ h=>⟨k' - 1, by omega, j + 1, by omega, hn, h.keep [8, 7, 0, 1, 2]⟩|apply g_seq|apply g_reg|apply g_nil|apply g_draw (id:=11) [(78, false), (80, true)] [] 42|apply o_all|apply o_go|exact OpsT.nil|exact GuardC.nil|exact UndefC.nil|refine @GuardC.cons _ _ _ _ inferInstance ?_|refine @UndefC.cons _ _ _ inferInstance ?_|apply g_box|apply g_all|apply g_stf|apply g_stw|apply g_sto|apply g_asg|refine g_run rfl inferInstance (by first|fail) (by kernel_rfl) ?_|refine g_sk rfl inferInstance rfl (by kernel_rfl) ?_|refine g_un rfl inferInstance (by kernel_rfl) ?_|apply g_st|apply g_skip|apply g_ct|apply g_cf|apply g_ret|refine r_1 rfl ?_|apply g_blk|apply g_eb|apply g_ex|apply e_t|apply e_h|refine e_o rfl ?_|apply r_t|apply r_b|apply g_cl|exact st_lenW|exact st_indexW (by assumption)|exact st_fldE|exact st_loadS|exact st_sadd (by assumption)|exact st_slen|exact st_sne (by first|assumption|rfl)|exact st_add' (by assumption)|exact st_move'|exact st_assign'|exact st_load'|exact st_fieldAddr'|exact st_and_t'|exact st_and_f'|exact st_or_f'|exact st_or_t'|exact st_neq' (by first|assumption|rfl)|exact st_lss' (by first|assumption|rfl)|exact st_len'|exact st_indexAddr' (by assumption)|exact st_loadE'|exact Cv.rfl'|(intro _;simp only[newX,newL,ptrs,List.map,List.cons_append,List.nil_append])|intro _
        · obtain rfl : j = x.1.length := by omega
          have hc2 : decide ((x.1.length : Int) < (x.1.length : Int)) = false := decide_eq_false (by omega)
          have hn := eqA_next (f := sameL true) hx hy ha (by
            rw [List.take_length, hln', List.take_length] at hja
            unfold sameL
            rw [hja]
            rw [show (!(x.2 == y.2)) = false from hat]; rfl)
          refine g_of h ?_
          clear h
          repeat' first|kernel_rfl|exact g_done fun _ _ h=>⟨k - 1, by omega, i + 1, by omega, hn, h.keep [7, 0, 1, 2]⟩|apply g_seq|apply g_reg|apply g_nil|apply g_draw (id:=11) [(78, false), (80, true)] [] 42|apply o_all|apply o_go|exact OpsT.nil|exact GuardC.nil|exact UndefC.nil|refine @GuardC.cons _ _ _ _ inferInstance ?_|refine @UndefC.cons _ _ _ inferInstance ?_|apply g_box|apply g_all|apply g_stf|apply g_stw|apply g_sto|apply g_asg|refine g_run rfl inferInstance (by first|fail) (by kernel_rfl) ?_|refine g_sk rfl inferInstance rfl (by kernel_rfl) ?_|refine g_un rfl inferInstance (by kernel_rfl) ?_|apply g_st|apply g_skip|apply g_ct|apply g_cf|apply g_ret|refine r_1 rfl ?_|apply g_blk|apply g_eb|apply g_ex|apply e_t|apply e_h|refine e_o rfl ?_|apply r_t|apply r_b|apply g_cl|exact st_lenW|exact st_indexW (by assumption)|exact st_fldE|exact st_loadS|exact st_sadd (by assumption)|exact st_slen|exact st_sne (by first|assumption|rfl)|exact st_add' (by assumption)|exact st_move'|exact st_assign'|exact st_load'|exact st_fieldAddr'|exact st_and_t'|exact st_and_f'|exact st_or_f'|exact st_or_t'|exact st_neq' (by first|assumption|rfl)|exact st_lss' (by first|assumption|rfl)|exact st_len'|exact st_indexAddr' (by assumption)|exact st_loadE'|exact Cv.rfl'|(intro _;simp only[newX,newL,ptrs,List.map,List.cons_append,List.nil_append])|intro _
  · obtain rfl : i = l.length := by omega
    have hc : decide ((l.length : Int) < (l.length : Int)) = false := decide_eq_false (by omega)
    rw [List.take_length, hlm', List.take_length] at ha
    have e : sameB p l m = true := ha
    rw [e]
    refine g_of h ?_
    clear h
    repeat' first|kernel_rfl|apply g_seq|apply g_reg|apply g_nil|apply o_all|apply o_go|exact OpsT.nil|exact GuardC.nil|exact UndefC.nil|refine @GuardC.cons _ _ _ _ inferInstance ?_|refine @UndefC.cons _ _ _ inferInstance ?_|apply g_box|apply g_all|apply g_stf|apply g_stw|apply g_sto|apply g_asg|refine g_run rfl inferInstance (by first|fail) (by kernel_rfl) ?_|refine g_sk rfl inferInstance rfl (by kernel_rfl) ?_|refine g_un rfl inferInstance (by kernel_rfl) ?_|apply g_st|apply g_skip|apply g_ct|apply g_cf|apply g_ret|refine r_1 rfl ?_|apply g_blk|apply g_eb|apply g_ex|apply e_t|apply e_h|refine e_o rfl ?_|apply r_t|apply r_b|apply g_cl|exact st_lenW|exact st_indexW (by assumption)|exact st_fldE|exact st_loadS|exact st_sadd (by assumption)|exact st_slen|exact st_sne (by first|assumption|rfl)|exact st_add' (by assumption)|exact st_move'|exact st_assign'|exact st_load'|exact st_fieldAddr'|exact st_and_t'|exact st_and_f'|exact st_or_f'|exact st_or_t'|exact st_neq' (by first|assumption|rfl)|exact st_lss' (by first|assumption|rfl)|exact st_len'|exact st_indexAddr' (by assumption)|exact st_loadE'|exact Cv.rfl'|(intro _;simp only[newX,newL,ptrs,List.map,List.cons_append,List.nil_append])|intro _
/-- What hangs on nothing from B on hangs on nothing further on. -/
class LeC (B B' : Nat) : Prop where
  le : B ≤ B'
instance SurvU.le {B B' : Nat} {T : VTy} [l : LeC B B'] : SurvU B' (.und B T) := ⟨fun {X w w' v} ⟨hB, h⟩ hs => ⟨Nat.le_trans hB hs.size, T.stable h ⟨hs.size, fun b hb hx => by
  rcases hs.block b hb with e | ⟨g, _⟩
  · exact e
  · exact absurd (List.mem_append_right _ (mem_above.2 ⟨hb, Nat.le_trans l.le g⟩)) hx⟩ (fun b hb hlt => by
  rcases List.mem_append.1 hb with hb | hb
  · exact List.mem_append_left _ hb
  · exact List.mem_append_right _ (mem_above.2 ⟨hlt, (mem_above.1 hb).2⟩))⟩⟩
/-- A contract out of the body, with arguments that are known to hang on old memory alone. -/
theorem c7_M {P : Program} {G : World → Prop} {f : FuncId} {fn : Func} {c : Code} {ks : List Nat} {As : List VTy} {As' : Nat → List VTy} {T : Nat → VTy} {n : Nat} [dn : DownC T] (hf : P.funcs[f]? = some fn) (hb : fn.body = some c) (hn : fn.ntmps = n) (hl : ∀ B, (As' B).length ≤ n) (he : Enters P f)
    (hA : ∀ {X : List Nat} {w : World} {vs : List Value}, AllH X w As vs → AllH X w (As' w.heap.size) vs) (h : ∀ X w, G w → GC P w X [] (argE 0 (As' w.heap.size)) n [c] (bodyPost P fn (Gives X w (T w.heap.size)))) : Ctr P G f ks As T :=
  ⟨he, dn.down, fun {X w vs} hG hX ha => g_enter hf hb hn (by rw [(hA ha).count]; exact hl _) hX (hA ha) (h X w hG)⟩
set_option maxRecDepth 20000 in
set_option maxHeartbeats 4000000 in
set_option synthInstance.maxSize 4000 in
set_option synthInstance.maxHeartbeats 400000 in
theorem c7_ref {l : List Ln} (hb : l.length ≤ 1000000 ∧ ∀ x ∈ l, x.1.length ≤ 1000000) : Ctr Try.prog S1 12 [20] [.rw Rp.lr tt l] (fun B => .ow (Rp.lo 44 B) 47 tt B l) := by
  refine c7_M (As' := fun B => [.und B (.rw Rp.lr tt l)]) Try.func12 rfl Try.ntmps12 (by simp) (fun _ _ => by kernel_rfl) (fun {X w vs} ha => by
    obtain ⟨v, rfl, h⟩ := ha.one
    exact ⟨und_new h, trivial⟩) fun X w0 hE => ?_
  simp only [argE, Nat.zero_add, Nat.reduceAdd]
  repeat' first|kernel_rfl|apply g_seq|apply g_reg|apply g_nil|apply g_draw (id:=9) [] [] 22|apply o_all|apply o_go|exact OpsT.nil|exact GuardC.nil|exact UndefC.nil|apply g_box|apply g_all|apply g_stf|apply g_stw|apply g_sto|apply g_asg|apply g_st|apply g_skip|apply g_ct|apply g_cf|apply g_ret|refine r_1 rfl ?_|apply g_blk|apply g_eb|apply g_ex|apply e_t|apply e_h|refine e_o rfl ?_|apply r_t|apply r_b|apply g_cl|exact st_lenW|exact st_indexW (by assumption)|exact st_fldE|exact st_loadS|exact st_mkL7 (B := w0.heap.size)|exact st_mkW7|exact st_rowW7 rfl|exact st_rowL7 rfl|exact st_sadd (by assumption)|exact st_slen|exact st_add' (by assumption)|exact st_move'|exact st_assign'|exact st_load'|exact st_fieldAddr'|exact st_lss' (by first|assumption|rfl)|exact st_len'|exact st_indexAddr' (by assumption)|exact st_loadE'|exact Cv.rfl'|(intro _;simp only[newX,newL,ptrs,List.map,List.cons_append,List.nil_append])|intro _
  refine g_stop fun a w h => ?_
  refine cw_loop (fun k a u => ∃ i : Nat, i + k = l.length ∧ TS w0 X [] [(3, (.ow (Rp.lo 44 w0.heap.size) 47 tt w0.heap.size (l.take i))), (4, .is (.int .i64 (i : Int))), (0, .und w0.heap.size (.rw Rp.lr tt l))] 58 a u) l.length ⟨0, by omega, (h.keep [3, 4, 0]).cast fun _ _ _ h => ow_nil h⟩ ?_
  clear h
  rintro k a u ⟨i, hi, h⟩
  by_cases hlt : i < l.length
  · obtain ⟨x, hx⟩ : ∃ x, l[i]? = some x := ⟨_, List.getElem?_eq_getElem hlt⟩
    have hc : decide ((i : Int) < (l.length : Int)) = true := decide_eq_true (by omega)
    have hw : IntKind.i64.wrap ((i : Int) + 1) = ((i + 1 : Nat) : Int) := i64_small (by omega) (by have := hb.1; omega)
    have hxm := hb.2 x (List.mem_of_getElem? hx)
    have hlen : (l.take i).length ≤ 1000000 := by rw [List.length_take]; have := hb.1; omega
    refine g_of h ?_
    clear h
    repeat' first|kernel_rfl|apply g_seq|apply g_reg|apply g_nil|apply g_draw (id:=9) [] [] 22|apply o_all|apply o_go|exact OpsT.nil|exact GuardC.nil|exact UndefC.nil|apply g_box|apply g_all|apply g_stf|apply g_stw|apply g_sto|apply g_asg|apply g_st|apply g_skip|apply g_ct|apply g_cf|apply g_ret|refine r_1 rfl ?_|apply g_blk|apply g_eb|apply g_ex|apply e_t|apply e_h|refine e_o rfl ?_|apply r_t|apply r_b|apply g_cl|exact st_lenW|exact st_indexW (by assumption)|exact st_fldE|exact st_loadS|exact st_mkL7 (B := w0.heap.size)|exact st_mkW7|exact st_rowW7 rfl|exact st_rowL7 rfl|exact st_sadd (by assumption)|exact st_slen|exact st_add' (by assumption)|exact st_move'|exact st_assign'|exact st_load'|exact st_fieldAddr'|exact st_lss' (by first|assumption|rfl)|exact st_len'|exact st_indexAddr' (by assumption)|exact st_loadE'|exact Cv.rfl'|(intro _;simp only[newX,newL,ptrs,List.map,List.cons_append,List.nil_append])|intro _
    refine g_stop fun a w h => ?_
    rename_i rx
    replace h := (h.keep [3, 5, 4, 6, 0]).again
    generalize hB : World.heap _ = hp at h
    have hB0 : w0.heap.size ≤ hp.size := by rw [← hB]; exact h.mem.below.size
    generalize hp.size = B at *
    haveI : LeC w0.heap.size B := ⟨hB0⟩
    refine cw_loop (fun k a u => ∃ j : Nat, j + k = x.1.length ∧ TS w0 (rx :: X) [(rx, .lnb 44 B (x.1.take j) x.2)] [(3, .und B (.ow (Rp.lo 44 w0.heap.size) 47 tt w0.heap.size (l.take i))), (5, .is (.pointer (some ⟨rx, 0, none⟩))), (4, .is (.int .i64 (i : Int))), (6, .is (.int .i64 (j : Int))), (0, .und w0.heap.size (.rw Rp.lr tt l))] 58 a u) x.1.length ⟨0, by omega, h⟩ ?_
    clear h
    rintro k' a u ⟨j, hj, h⟩
    have hjl : (x.1.take j).length ≤ 1000000 := by rw [List.length_take]; omega
    by_cases hjt : j < x.1.length
    · obtain ⟨s, hs⟩ : ∃ s, x.1[j]? = some s := ⟨_, List.getElem?_eq_getElem hjt⟩
      have hc2 : decide ((j : Int) < (x.1.length : Int)) = true := decide_eq_true (by omega)
      have hw2 : IntKind.i64.wrap ((j : Int) + 1) = ((j + 1 : Nat) : Int) := i64_small (by omega) (by omega)
      have htk : x.1.take j ++ [(s.1, s.2)] = x.1.take (j + 1) := (tk_snoc hs).symm
      refine g_of h ?_
      clear h
      repeat' first|kernel_rfl|(refine g_locR (L' := [(_, .lnj _)]) (.cons (fun _ _ _ h => lnb_lnj h) .nil) (g_app [3, 5, 4, 6, 0] hB0 (fun _ _ ht => und_size ht (Look.mem (s := 3))) elem7W hjl (by decide) (by kernel_rfl) ?_))|apply g_stL|exact g_done fun _ _ h=>⟨k' - 1, by omega, j + 1, by omega, by rw [← htk]; exact h.keep [3, 5, 4, 6, 0]⟩|apply g_seq|apply g_reg|apply g_nil|apply g_draw (id:=9) [] [] 22|apply o_all|apply o_go|exact OpsT.nil|exact GuardC.nil|exact UndefC.nil|apply g_box|apply g_all|apply g_stf|apply g_stw|apply g_sto|apply g_asg|apply g_st|apply g_skip|apply g_ct|apply g_cf|apply g_ret|refine r_1 rfl ?_|apply g_blk|apply g_eb|apply g_ex|apply e_t|apply e_h|refine e_o rfl ?_|apply r_t|apply r_b|apply g_cl|exact st_lenW|exact st_indexW (by assumption)|exact st_fldE|exact st_loadS|exact st_mkL7 (B := w0.heap.size)|exact st_mkW7|exact st_rowW7 rfl|exact st_rowL7 rfl|exact st_sadd (by assumption)|exact st_slen|exact st_add' (by assumption)|exact st_move'|exact st_assign'|exact st_load'|exact st_fieldAddr'|exact st_lss' (by first|assumption|rfl)|exact st_len'|exact st_indexAddr' (by assumption)|exact st_loadE'|exact Cv.rfl'|(intro _;simp only[newX,newL,ptrs,List.map,List.cons_append,List.nil_append])|intro _
    · obtain rfl : j = x.1.length := by omega
      have hc2 : decide ((x.1.length : Int) < (x.1.length : Int)) = false := decide_eq_false (by omega)
      rw [List.take_length] at h
      have htk : l.take i ++ [(x.1, x.2)] = l.take (i + 1) := (tk_snoc hx).symm
      refine g_of h ?_
      clear h
      repeat' first|kernel_rfl|(refine g_top (fun _ _ _ h => r1_lo hB0 h) (g_locR (L' := [(_, .lnj _)]) (.cons (fun _ _ _ h => lnb_lnj h) .nil) (g_app [4, 0] (Nat.le_refl _) (fun _ _ ht => ht.mem.below.size) elem7L hlen (by decide) (by kernel_rfl) ?_)))|exact g_done fun _ _ h=>⟨k - 1, by omega, i + 1, by omega, by rw [← htk]; exact h.drop.keep [3, 4, 0]⟩|apply g_seq|apply g_reg|apply g_nil|apply o_all|apply o_go|exact OpsT.nil|exact GuardC.nil|exact UndefC.nil|apply g_box|apply g_all|apply g_stf|apply g_stw|apply g_sto|apply g_asg|apply g_st|apply g_skip|apply g_ct|apply g_cf|apply g_ret|refine r_1 rfl ?_|apply g_blk|apply g_eb|apply g_ex|apply e_t|apply e_h|refine e_o rfl ?_|apply r_t|apply r_b|apply g_cl|exact st_lenW|exact st_indexW (by assumption)|exact st_fldE|exact st_loadS|exact st_mkL7 (B := w0.heap.size)|exact st_mkW7|exact st_rowW7 rfl|exact st_rowL7 rfl|exact st_sadd (by assumption)|exact st_slen|exact st_add' (by assumption)|exact st_move'|exact st_assign'|exact st_load'|exact st_fieldAddr'|exact st_lss' (by first|assumption|rfl)|exact st_len'|exact st_indexAddr' (by assumption)|exact st_loadE'|exact Cv.rfl'|(intro _;simp only[newX,newL,ptrs,List.map,List.cons_append,List.nil_append])|intro _
  · obtain rfl : i = l.length := by omega
    have hc : decide ((l.length : Int) < (l.length : Int)) = false := decide_eq_false (by omega)
    rw [List.take_length] at h
    refine g_of h ?_
    clear h
    repeat' first|kernel_rfl|apply g_seq|apply g_reg|apply g_nil|apply o_all|apply o_go|exact OpsT.nil|exact GuardC.nil|exact UndefC.nil|apply g_box|apply g_all|apply g_stf|apply g_stw|apply g_sto|apply g_asg|apply g_st|apply g_skip|apply g_ct|apply g_cf|apply g_ret|refine r_1 rfl ?_|apply g_blk|apply g_eb|apply g_ex|apply e_t|apply e_h|refine e_o rfl ?_|apply r_t|apply r_b|apply g_cl|exact st_lenW|exact st_indexW (by assumption)|exact st_fldE|exact st_loadS|exact st_mkL7 (B := w0.heap.size)|exact st_mkW7|exact st_rowW7 rfl|exact st_rowL7 rfl|exact st_sadd (by assumption)|exact st_slen|exact st_add' (by assumption)|exact st_move'|exact st_assign'|exact st_load'|exact st_fieldAddr'|exact st_lss' (by first|assumption|rfl)|exact st_len'|exact st_indexAddr' (by assumption)|exact st_loadE'|exact Cv.rfl'|(intro _;simp only[newX,newL,ptrs,List.map,List.cons_append,List.nil_append])|intro _
theorem strB_own (v : Value) : v.ownBlock = match v with | .slice A _ _ => blk A | _ => none := by
  cases v with
  | slice A n c => cases A <;> rfl
  | _ => rfl
/-- A text behind a row of bytes of the call's own. -/
theorem run_strV {P : Program} {t u e : TypeId} {i : TypeInfo} (ht : P.underlying t = some (.slice e)) (hu : P.underlying u = some .string) (hi : P.info? e = some i) (hz : i.zero = some (.int .u8 0)) (h1 : i.size = 1) (h2 : i.bytes = 1) (ty : TypeId) {w : World} {B : Nat} {A : Option Addr} {n c : Nat} {vs : List Value} (h : OwnV 1 e w B A n c vs) (s : ByteArray) (hn : n + s.size ≤ 140737488355328) (hB : B ≤ w.heap.size) :
    ∃ A' c' w', (Builtin.append_ #[t, u] ty #[.slice A n c, .string s]).run P w = .ok (.slice A' (n + s.size) c') w' ∧ OwnV 1 e w' B A' (n + s.size) c' (vs ++ Lib.strCells s) ∧ w.grownBy w' (blk A) ∧ Lies w A A' := by
  have hm : n + s.size ≤ maxLen := by unfold maxLen; omega
  obtain ⟨v', w', hr, g1, g2, _⟩ := Lib.run_append_own_string (P := P) w B t u ty e i ht hu hi hz h1 h2 (.slice A n c) n vs h s hm hn hB
  have hf : ∃ A' c', v' = .slice A' (n + s.size) c' := by
    rcases g1.2 with ⟨hv, h0⟩ | ⟨g, cap, cur, hv, _⟩
    · exact ⟨none, 0, by rw [hv, h0]⟩
    · exact ⟨_, _, hv⟩
  obtain ⟨A', c', rfl⟩ := hf
  refine ⟨A', c', w', hr, g1, by rw [strB_own] at g2; exact g2, fun g hg => ?_⟩
  cases A with
  | none =>
    obtain ⟨rfl, h0⟩ : n = 0 ∧ c = 0 := by
      rcases h.form with ⟨_, h3, h4⟩ | ⟨g, hg, _⟩
      · exact ⟨h3, h4⟩
      · cases hg
    subst h0
    have hnil : vs = [] := List.eq_nil_of_length_eq_zero (by simpa using h.len)
    subst hnil
    obtain ⟨v2, w2, hr2, k1, _⟩ := Lib.run_append_own_string (P := P) w w.heap.size t u ty e i ht hu hi hz h1 h2 (.slice none 0 0) 0 [] OwnV.nil s hm hn (Nat.le_refl _)
    rw [hr] at hr2
    injection hr2 with e1 e2
    subst e1; subst e2
    exact .inr ((OwnV.blk_ k1) g hg).1
  | some a =>
    rcases h.2 with ⟨hv, _⟩ | ⟨g0, cap, cur, hv, hb, hg0, hnc, hcm, hcs, htk⟩
    · cases hv
    · injection hv with ha _ hc
      injection ha with ha
      subst ha; subst hc
      by_cases hroom : n + s.size ≤ c
      · have := Lib.run_append_room_string (P := P) w t u ty e i ht hu hi h1 g0 n c cur hg0 s hroom (by omega)
        rw [hr] at this
        injection this with e1 _
        injection e1 with e1 _ _
        subst e1
        exact .inl hg
      · have holds : ∀ j u, vs[j]? = some u → w.cell? ((⟨g0, 0, none⟩ : Addr).add j) = some u := World.ownsRow.cells h (g := g0) rfl
        have := Lib.run_append_grow_string (P := P) w t u ty e i (.int .u8 0) ht hu hi hz ⟨g0, 0, none⟩ n c vs (by rw [h1]; simpa using h.len) holds s (by omega) (by omega) (by rw [h2]; exact growslice_fits (by omega) (by omega))
        rw [hr] at this
        injection this with e1 _
        injection e1 with e1 _ _
        subst e1
        have : w.heap.size = g := by simpa [blk] using hg
        exact .inr (Nat.le_of_eq this)
/-- A builder at the block r, whose row of bytes has the address A. -/
structure Bd (r B : Nat) (A : Option Addr) (c : Nat) (bs : List Value) (w : World) : Prop where
  hB : B ≤ r
  cell : ∃ p, (p = .pointer none ∨ p = .pointer (some ⟨r, 0, none⟩)) ∧ w.heap[r]? = some (.cells #[p, .slice A bs.length c] 55 (0, 0))
  own : OwnV 1 5 w B A bs.length c bs
  ne : blk A ≠ some r
theorem Bd.lt {r B : Nat} {A : Option Addr} {c : Nat} {bs : List Value} {w : World} (h : Bd r B A c bs w) : r < w.heap.size := by
  obtain ⟨p, _, hp⟩ := h.cell
  rcases Nat.lt_or_ge r w.heap.size with h' | h'
  · exact h'
  · simp [Array.getElem?_eq_none h'] at hp
/-- What a writing leaves: all but the builder and its row stands. -/
structure Wr (r : Nat) (A : Option Addr) (w w' : World) : Prop where
  os : w'.os = w.os
  tape : w'.tape = w.tape
  output : w'.output = w.output
  size : w.heap.size ≤ w'.heap.size
  block : ∀ b, b < w.heap.size → b ≠ r → blk A ≠ some b → w'.heap[b]? = w.heap[b]?
section
variable {r B c : Nat} {A : Option Addr} {bs : List Value} {w : World}
theorem bd_info : ∃ j, Try.prog.info? 55 = some j ∧ j.size = 2 := Option.map_eq_some_iff.1 (show (Try.prog.info? 55).map (·.size) = some 2 by kernel_rfl)
set_option maxRecDepth 20000 in
set_option maxHeartbeats 2000000 in
theorem cb_copy (h : Bd r B A c bs w) : Calls Try.prog 31 #[.pointer (some ⟨r, 0, none⟩)] w fun e w' => e = .returned (.tuple #[]) ∧ (w' = w ∨ w' = w.setCell ⟨r, 0, none⟩ (.pointer (some ⟨r, 0, none⟩))) ∧ w'.heap[r]? = some (.cells #[.pointer (some ⟨r, 0, none⟩), .slice A bs.length c] 55 (0, 0)) := by
  obtain ⟨p, hp, hcell⟩ := h.cell
  obtain ⟨j, hj, hjs⟩ := bd_info
  have u70 := Try.underlying53
  have u164 := Try.underlying69
  have c0 : w.cell? ⟨r, 0, none⟩ = some p := by rw [Lib.cell_of_heap hcell]; rfl
  have hsh : w.shape? r = some (55, 2) := by simp [World.shape?, hcell]
  have hfz : w.frozen? ⟨r, 0, none⟩ = false := Lib.frozen_of_heap hcell 0
  rcases hp with rfl | rfl
  · have hnew : (w.setCell ⟨r, 0, none⟩ (.pointer (some ⟨r, 0, none⟩))).heap[r]? = some (.cells #[.pointer (some ⟨r, 0, none⟩), .slice A bs.length c] 55 (0, 0)) := by
      rw [heap_setCell_at _ hcell]; rfl
    have H := Lib.hid hnew
    clear hnew hcell h
    go_enter Try.func31, Try.ntmps31
    go_wp2
    rw [Lib.run_to_unsafe w ⟨r, 0, none⟩ u70 u164 hj (by rw [hjs]; decide) hsh (Nat.zero_lt_succ 1)]
    simp only [Result.andThen]
    rw [Oper.upon_value]
    go_wp2
    rw [run_callFunc_extern Try.func36 (by kernel_rfl) (by kernel_rfl) (by kernel_rfl) (e := Extern.AbiNoEscape.same) (by kernel_rfl)]
    rw [Lib.run_noEscape]
    simp only [Result.andThen]
    rw [Oper.upon_value]
    go_wp2
    rw [Lib.run_from_unsafe w ⟨r, 0, none⟩ u164 u70 hj hsh (by kernel_rfl)]
    simp only [Result.andThen]
    rw [Oper.upon_value]
    go_wp2
    go_end0
    exact ⟨rfl, .inr rfl, H.out⟩
  · have H := Lib.hid hcell
    clear hcell h
    go_enter Try.func31, Try.ntmps31
    go_wp2
    rw [Lib.run_neq_ptr_same w _ u70 hj]
    go_wp2
    go_end0
    exact ⟨rfl, .inl rfl, H.out⟩
theorem elemU8 : ElemV Try.prog 43 5 1 1 := ⟨Try.underlying43, by decide, by
  obtain ⟨i, h1, h2, h3, h4⟩ : ∃ i, Try.prog.info? 5 = some i ∧ i.zero = some (.int .u8 0) ∧ i.size = 1 ∧ i.bytes = 1 := info_parts (by kernel_rfl)
  exact ⟨i, _, h1, h2, h3, h4, rfl⟩⟩
theorem wpList_byteV {w : World} {ops : Array Oper} {rest : List Oper} {o : Oper} {a : Act} {Q : Exit → Act → World → Prop} (hgd : o.guard = none) (s x : Operand)
    (ho : o.op = .call { callee := .builtin .append, args := #[s, x], argTypes := #[43, 43] }) {B : Nat} {A : Option Addr} {n c : Nat} {vs : List Value} (h : OwnV 1 5 w B A n c vs) (es : a.eval s = .slice A n c)
    {B2 : Nat} {A2 : Option Addr} {m c2 : Nat} {us : List Value} (hs : SlV 1 w B2 A2 m c2 us) (ex : a.eval x = .slice A2 m c2) (h1 : ∀ u ∈ us, u.oneCell' = true) (hn : (n + m) * 1 ≤ 140737488355328) (hm : n + m ≤ maxLen) (hB : B ≤ w.heap.size)
    (hK : ∀ A' c' w', OwnV 1 5 w' B A' (n + m) c' (vs ++ us) → w.grownBy w' (blk A) → Lies w A A' → wpList Try.prog ops Q rest (a.put o.dst (.slice A' (n + m) c')) w') : wpList Try.prog ops Q (o :: rest) a w := by
  refine wpList_plain hgd fun K hK' => ?_
  obtain ⟨A', c', w', hr, h2, h3, h4⟩ := run_appV elemU8 o.type h hs h1 hn hm hB
  unfold Oper.wp execOp
  simp only [ho, resolve, invoke, builtin, Sem.run_bind, Sem.run_pure, Result.andThen_ok, List.map_toArray, List.map_cons, List.map_nil, es, ex, hr]
  exact hK' _ _ (hK A' c' w' h2 h3 h4)
theorem wpList_strV {t u : TypeId} (ht : Try.prog.underlying t = some (.slice 5)) (hu : Try.prog.underlying u = some .string) {w : World} {ops : Array Oper} {rest : List Oper} {o : Oper} {a : Act} {Q : Exit → Act → World → Prop} (hgd : o.guard = none) (s x : Operand)
    (ho : o.op = .call { callee := .builtin .append, args := #[s, x], argTypes := #[t, u] }) {B : Nat} {A : Option Addr} {n c : Nat} {vs : List Value} (h : OwnV 1 5 w B A n c vs) (es : a.eval s = .slice A n c) (b : ByteArray) (ex : a.eval x = .string b) (hn : n + b.size ≤ 140737488355328) (hB : B ≤ w.heap.size)
    (hK : ∀ A' c' w', OwnV 1 5 w' B A' (n + b.size) c' (vs ++ Lib.strCells b) → w.grownBy w' (blk A) → Lies w A A' → wpList Try.prog ops Q rest (a.put o.dst (.slice A' (n + b.size) c')) w') : wpList Try.prog ops Q (o :: rest) a w := by
  refine wpList_plain hgd fun K hK' => ?_
  obtain ⟨i, hi, hz, h1, h2⟩ : ∃ i, Try.prog.info? 5 = some i ∧ i.zero = some (.int .u8 0) ∧ i.size = 1 ∧ i.bytes = 1 := info_parts (by kernel_rfl)
  obtain ⟨A', c', w', hr, g2, g3, g4⟩ := run_strV ht hu hi hz h1 h2 o.type h b hn hB
  unfold Oper.wp execOp
  simp only [ho, resolve, invoke, builtin, Sem.run_bind, Sem.run_pure, Result.andThen_ok, List.map_toArray, List.map_cons, List.map_nil, es, ex, hr]
  exact hK' _ _ (hK A' c' w' g2 g3 g4)
set_option maxRecDepth 20000 in
set_option maxHeartbeats 2000000 in
theorem cb_byte {x : Int} (h : Bd r B A c bs w) (hlen : bs.length + 1 ≤ 100000000) (hBw : B ≤ w.heap.size) : Calls Try.prog 24 #[.pointer (some ⟨r, 0, none⟩), .int .u8 x] w fun e w' => e = .returned (.nilIface) ∧ ∃ A' c', Bd r B A' c' (bs ++ [Value.int .u8 x]) w' ∧ Wr r A w w' ∧ Lies w A A' := by
  have hlt := h.lt
  have ecc : Enters Try.prog 31 := fun _ _ => by kernel_rfl
  have hne := h.ne
  have hB := h.hB
  have H0 := Lib.hid h
  clear h
  go_enter Try.func24, Try.ntmps24
  go_wp2_with (go_at_call 31; refine (cb_copy H0.out).mono ?_)
  rintro e w1 ⟨rfl, hw1, hc1⟩
  have hg1 : w.grownBy w1 (some r) := by
    rcases hw1 with rfl | rfl
    · exact World.grownBy.refl _ _
    · exact ⟨rfl, rfl, rfl, by simp [World.setCell], fun k _ hk => Below.heap_setCell _ _ _ _ (fun e => hk (by rw [e]))⟩
  have ho1 := H0.out.own.keep hg1 (.inr hne)
  have hs1 : w1.heap.size = w.heap.size := by
    rcases hw1 with rfl | rfl
    · rfl
    · simp [World.setCell]
  clear hw1
  have c1 : w1.cell? ⟨r, 1, none⟩ = some (.slice A bs.length c) := by rw [Lib.cell_of_heap hc1]; rfl
  obtain ⟨v, hv⟩ : ∃ v, v = Value.slice A bs.length c := ⟨_, rfl⟩
  rw [← hv] at c1
  have HV := Lib.hid hv
  clear hv
  have HO := Lib.hid ho1
  have HC := Lib.hid hc1
  have HG := Lib.hid hg1
  clear ho1 hc1 hg1
  go_wp2_with (at_builtin; (refine wpList_byteV rfl _ _ rfl (HO.out.alloc _) HV.out (SlV.lit 1 w1 w.heap.size hs1 [.int .u8 x] 1 rfl (by omega) 5) rfl (by intro u hu; rw [List.mem_singleton.1 hu]; rfl) (by omega) (by unfold maxLen; omega) (by rw [size_one]; omega) ?_))
  intro A' c' w2 h2 hg2 hf2
  obtain rfl := HV.out
  clear HV
  have hb2 : w2.heap[r]? = some (.cells #[.pointer (some ⟨r, 0, none⟩), .slice A bs.length c] 55 (0, 0)) := by
    rw [hg2.block r (by rw [size_one]; omega) (fun e => hne e.symm)]
    rw [Lib.alloc_old w1 _ r (by omega)]
    exact HC.out
  have d1 : w2.cell? ⟨r, 1, none⟩ = some (.slice A bs.length c) := by rw [Lib.cell_of_heap hb2]; rfl
  have f1 : w2.frozen? ⟨r, 1, none⟩ = false := Lib.frozen_of_heap hb2 1
  have hsz : w1.heap.size ≤ w2.heap.size := by have := hg2.size; rw [size_one] at this; omega
  have hne2 : blk A' ≠ some r := fun e => by
    rcases hf2 r e with h | h
    · exact hne h
    · rw [size_one] at h; omega
  have hlies : Lies w A A' := fun g hg => by
    rcases hf2 g hg with h | h
    · exact .inl h
    · exact .inr (by rw [size_one] at h; omega)
  have hfin : Bd r B A' c' (bs ++ [Value.int .u8 x]) (w2.setCell ⟨r, 1, none⟩ (.slice A' (bs.length + 1) c')) := by
    have hl : (bs ++ [Value.int .u8 x]).length = bs.length + 1 := by simp
    refine ⟨hB, ⟨_, .inr rfl, ?_⟩, ?_, hne2⟩
    · rw [heap_setCell_at _ hb2, hl]; rfl
    · rw [hl]
      exact h2.keep (row := some r) ⟨rfl, rfl, rfl, by simp [World.setCell], fun k _ hk => Below.heap_setCell _ _ _ _ (fun e => hk (by rw [e]))⟩ (.inr hne2)
  have hwr : Wr r A w (w2.setCell ⟨r, 1, none⟩ (.slice A' (bs.length + 1) c')) := by
    have hg := HG.out
    refine ⟨hg2.os.trans hg.os, hg2.tape.trans hg.tape, hg2.output.trans hg.output, by rw [show (w2.setCell ⟨r, 1, none⟩ (.slice A' (bs.length + 1) c')).heap.size = w2.heap.size by simp [World.setCell]]; omega, fun b hb hbr hbA => ?_⟩
    rw [Below.heap_setCell _ _ _ _ hbr, hg2.block b (by rw [size_one]; omega) (fun e => hbA e.symm)]
    rw [Lib.alloc_old w1 _ b (by omega)]
    exact hg.block b hb (fun e => hbr (by injection e))
  have HF := Lib.hid hfin
  have HW := Lib.hid hwr
  clear hfin hwr hb2 h2 hg2 hf2 HO HC HG
  go_wp2
  go_ret
  exact ⟨rfl, A', c', HF.out, HW.out, hlies⟩
set_option maxRecDepth 20000 in
set_option maxHeartbeats 2000000 in
theorem cb_str {s : ByteArray} (h : Bd r B A c bs w) (hlen : bs.length + s.size ≤ 100000000) (hBw : B ≤ w.heap.size) : Calls Try.prog 25 #[.pointer (some ⟨r, 0, none⟩), .string s] w fun e w' => e = .returned (.tuple #[.int .i64 (s.size : Int), .nilIface]) ∧ ∃ A' c', Bd r B A' c' (bs ++ Lib.strCells s) w' ∧ Wr r A w w' ∧ Lies w A A' := by
  have hlt := h.lt
  have ecc : Enters Try.prog 31 := fun _ _ => by kernel_rfl
  have hne := h.ne
  have hB := h.hB
  have H0 := Lib.hid h
  clear h
  go_enter Try.func25, Try.ntmps25
  go_wp2_with (go_at_call 31; refine (cb_copy H0.out).mono ?_)
  rintro e w1 ⟨rfl, hw1, hc1⟩
  have hg1 : w.grownBy w1 (some r) := by
    rcases hw1 with rfl | rfl
    · exact World.grownBy.refl _ _
    · exact ⟨rfl, rfl, rfl, by simp [World.setCell], fun k _ hk => Below.heap_setCell _ _ _ _ (fun e => hk (by rw [e]))⟩
  have ho1 := H0.out.own.keep hg1 (.inr hne)
  have hs1 : w1.heap.size = w.heap.size := by
    rcases hw1 with rfl | rfl
    · rfl
    · simp [World.setCell]
  clear hw1
  have c1 : w1.cell? ⟨r, 1, none⟩ = some (.slice A bs.length c) := by rw [Lib.cell_of_heap hc1]; rfl
  obtain ⟨v, hv⟩ : ∃ v, v = Value.slice A bs.length c := ⟨_, rfl⟩
  rw [← hv] at c1
  have HV := Lib.hid hv
  clear hv
  have HO := Lib.hid ho1
  have HC := Lib.hid hc1
  have HG := Lib.hid hg1
  clear ho1 hc1 hg1
  go_wp2_with (at_builtin; (refine wpList_strV Try.underlying43 Try.underlying9 rfl _ _ rfl HO.out HV.out s rfl (by omega) (by omega) ?_))
  intro A' c' w2 h2 hg2 hf2
  obtain rfl := HV.out
  clear HV
  have hb2 : w2.heap[r]? = some (.cells #[.pointer (some ⟨r, 0, none⟩), .slice A bs.length c] 55 (0, 0)) := by
    rw [hg2.block r (by omega) (fun e => hne e.symm)]
    skip
    exact HC.out
  have d1 : w2.cell? ⟨r, 1, none⟩ = some (.slice A bs.length c) := by rw [Lib.cell_of_heap hb2]; rfl
  have f1 : w2.frozen? ⟨r, 1, none⟩ = false := Lib.frozen_of_heap hb2 1
  have hsz : w1.heap.size ≤ w2.heap.size := by have := hg2.size; omega
  have hne2 : blk A' ≠ some r := fun e => by
    rcases hf2 r e with h | h
    · exact hne h
    · omega
  have hlies : Lies w A A' := fun g hg => by
    rcases hf2 g hg with h | h
    · exact .inl h
    · exact .inr (by omega)
  have hfin : Bd r B A' c' (bs ++ Lib.strCells s) (w2.setCell ⟨r, 1, none⟩ (.slice A' (bs.length + s.size) c')) := by
    have hl : (bs ++ Lib.strCells s).length = bs.length + s.size := by rw [List.length_append, Lib.strCells_length]
    refine ⟨hB, ⟨_, .inr rfl, ?_⟩, ?_, hne2⟩
    · rw [heap_setCell_at _ hb2, hl]; rfl
    · rw [hl]
      exact h2.keep (row := some r) ⟨rfl, rfl, rfl, by simp [World.setCell], fun k _ hk => Below.heap_setCell _ _ _ _ (fun e => hk (by rw [e]))⟩ (.inr hne2)
  have hwr : Wr r A w (w2.setCell ⟨r, 1, none⟩ (.slice A' (bs.length + s.size) c')) := by
    have hg := HG.out
    refine ⟨hg2.os.trans hg.os, hg2.tape.trans hg.tape, hg2.output.trans hg.output, by rw [show (w2.setCell ⟨r, 1, none⟩ (.slice A' (bs.length + s.size) c')).heap.size = w2.heap.size by simp [World.setCell]]; omega, fun b hb hbr hbA => ?_⟩
    rw [Below.heap_setCell _ _ _ _ hbr, hg2.block b (by omega) (fun e => hbA e.symm)]
    skip
    exact hg.block b hb (fun e => hbr (by injection e))
  have HF := Lib.hid hfin
  have HW := Lib.hid hwr
  clear hfin hwr hb2 h2 hg2 hf2 HO HC HG
  go_wp2
  go_ret2
  exact ⟨rfl, A', c', HF.out, HW.out, hlies⟩
end
theorem ww_count : ∀ (ws : List Wd), ws.length ≤ ww (txw ws)
  | [] => Nat.zero_le _
  | w :: ws => by
    have := ww_count ws
    have e : ww (txw (w :: ws)) = w.1.length + 1 + ww (txw ws) := by simp [txw, ww]
    rw [e, List.length_cons]
    omega
abbrev bcells (l : List UInt8) : List Value := l.map fun b => Value.int .u8 (b.toNat : Int)
/-- How a builder stands (told at 998, apart from all slots): its block and its row are of no other variable. -/
def VTy.bd (r B : Nat) (l : List UInt8) : VTy := ⟨fun X w _ => Free X w r ∧ ∃ A c, Bd r B A c (bcells l) w ∧ ∀ g, blk A = some g → Free X w g,
  fun ⟨hr, A, c, h, hg⟩ hk hX => ⟨Free.mono hk hX _ hr, A, c, ⟨h.hB, by
    obtain ⟨p, h1, h2⟩ := h.cell
    exact ⟨p, h1, (hk.block _ hr.1 hr.2).trans h2⟩, h.own.same fun g e => hk.block g (hg g e).1 (hg g e).2, h.ne⟩, fun g e => Free.mono hk hX g (hg g e)⟩⟩
/-- Whose value is known, whatever else is told of it. -/
class IsC (T : VTy) (v : outParam Value) : Prop where
  ok : ∀ {X : List Nat} {w : World} {u : Value}, T.holds X w u → u = v
instance {v : Value} : IsC (.is v) v := ⟨fun h => h⟩
instance {B : Nat} {T : VTy} {v : Value} [i : IsC T v] : IsC (.und B T) v := ⟨fun h => i.ok (und_weak h)⟩
instance {α β : Type} {r : Rp α} {s : Rp β} {p : α × β → Prop} {a : α × β} {T : VTy} [k : K1 r] [sc : ScalC r a.1 T] : PartC (.el (r.pair s) p a) 0 1 false T := ⟨fun _ => rfl, fun {X w v} ⟨y, ⟨e, _⟩, cs, hv, c1, c2, hcs, h1, h2⟩ => by
  subst e
  obtain ⟨u, rfl⟩ : ∃ u, c1 = [u] := List.length_eq_one_iff.1 ((r.len h1).trans k.ok)
  subst hcs
  refine ⟨[u], rfl, fun j x hj => ?_, fun x _ hx => ?_⟩
  · have : j = 0 ∧ x = u := by cases j with | zero => exact ⟨rfl, by simpa using hj.symm⟩ | succ j => simp at hj
    rw [hv, this.1, this.2]; rfl
  · have := hx rfl
    simp at this
    rw [← this]; exact sc.ok h1⟩
instance {p : Ln → Prop} {a : Ln} : SizeV (.el Rp.lr p a) 2 true := ⟨fun h => (SizeV.ex (r := Rp.lr)).ok h⟩
instance {p : Wd → Prop} {a : Wd} : SizeV (.el Rp.wd p a) 2 true := ⟨fun h => (SizeV.ex (r := Rp.wd)).ok h⟩
theorem bd_wr {X : List Nat} {w w' : World} {r B : Nat} {A A' : Option Addr} {c c' : Nat} {bs bs' : List Value} (hX : ∀ b ∈ X, b < w.heap.size) (hr : Free X w r) (h : Bd r B A c bs w) (hg : ∀ g, blk A = some g → Free X w g) (h' : Bd r B A' c' bs' w') (hw : Wr r A w w') (hl : Lies w A A') : Ch B X w w' ∧ Free X w' r ∧ ∀ g, blk A' = some g → Free X w' g := by
  refine ⟨⟨hw.os, hw.tape, hw.output, hw.size, fun b hb => ?_⟩, ⟨Nat.lt_of_lt_of_le hr.1 hw.size, hr.2⟩, fun g e => ?_⟩
  · by_cases h1 : b = r
    · exact .inr ⟨by rw [h1]; exact h.hB, by rw [h1]; exact hr.2⟩
    · by_cases h2 : blk A = some b
      · exact .inr ⟨(h.own.blk_ b h2).1, (hg b h2).2⟩
      · exact .inl (hw.block b hb h1 h2)
  · refine ⟨(h'.own.blk_ g e).2, fun hx => ?_⟩
    rcases hl g e with h1 | h1
    · exact (hg g h1).2 hx
    · have := hX g hx; omega
section
variable {w00 : World} {X : List Nat} {L : List Loc} {E E0 : List (Nat × VTy)} {n : Nat} {ops : Array Oper} {rest : List Oper} {Q : Exit → Act → World → Prop} {cs : List Code} {t0 : TypeId} {pos : String} {af : Array Edge} {ats : Array TypeId}
theorem run_alB (o : Oper) (ρ : Operand → Value) (w : World) (e : o.op = .alloc 55) : (execOp ρ o).run Try.prog w = .ok (.value (.pointer (some ⟨w.heap.size, 0, none⟩))) (w.alloc (.cells #[.pointer none, .slice none 0 0] 55)) := by
  cases o with
  | mk dst op ty pos af gd =>
    have e' : op = _ := e
    subst e'
    go_simp
/-- A builder is made. -/
theorem g_alB {s : Nat} (hd : (Nat.blt s n && !(E.map Prod.fst).elem s) = true) (h : ∀ r, GR Try.prog w00 X L ((s, .is (.pointer (some ⟨r, 0, none⟩))) :: (998, .bd r w00.heap.size []) :: E) n ops rest cs Q) : GR Try.prog w00 X L E n ops (⟨some s, .alloc 55, t0, pos, af, none⟩ :: rest) cs Q := ⟨fun a w ht => by
  refine wpList_run rfl ?_
  simp only [Bool.and_eq_true, Bool.not_eq_true'] at hd
  unfold Oper.wp
  rw [run_alB ⟨some s, .alloc 55, t0, pos, af, none⟩ a.eval w rfl]
  have hb : Below w.heap.size w (w.alloc (.cells #[.pointer none, .slice none 0 0] 55)) := (Below.refl _ _).alloc (Nat.le_refl _) _
  have h1 := ht.new (T := .is (.pointer (some ⟨w.heap.size, 0, none⟩))) hd.2 (by rw [← Nat.blt_eq]; exact hd.1) rfl hb
  refine (h w.heap.size).run _ _ ⟨h1.size, h1.df, fun p hp => ?_, h1.mem⟩
  rcases List.mem_cons.1 hp with rfl | hp
  · exact h1.slots _ List.mem_cons_self
  · rcases List.mem_cons.1 hp with rfl | hp
    · refine ⟨⟨by rw [size_one]; omega, fun hx => by have := ht.mem.far _ hx; omega⟩, none, 0, ⟨ht.mem.below.size, ⟨_, .inl rfl, heap_new _ _⟩, OwnV.nil, fun e => by cases e⟩, fun g e => by cases e⟩
    · exact h1.slots p (List.mem_cons_of_mem _ hp)⟩
theorem g_wb {s p r B : Nat} {l : List UInt8} {k0 : Int} (x : UInt8) (hx : k0 = (x.toNat : Int)) {o : Operand} {To : VTy} [ic : IsC To (.int .u8 k0)] (ss : List Nat) (hB0 : w00.heap.size ≤ B) [hs : Look E p (.is (.pointer (some ⟨r, 0, none⟩)))] [ho : OpC E o To] [g : Look E 998 (.bd r B l)] [k : KeepC E ss E0] [kL : SurvUL B L] [kE : SurvUL B E0] (hlen : l.length + 1 ≤ 100000000) (hd : (Nat.blt s n && Nat.blt n 998 && !(E0.map Prod.fst).elem s) = true)
    (h : GR Try.prog w00 X L ((s, .any) :: (998, .bd r B (l ++ [x])) :: E0) n ops rest cs Q) : GR Try.prog w00 X L E n ops (⟨some s, .call { callee := .value (.func 24), args := #[.tmp p, o], argTypes := ats }, t0, pos, af, none⟩ :: rest) cs Q := ⟨fun a w ht => by
  refine wpList_run rfl ?_
  simp only [Bool.and_eq_true, Bool.not_eq_true'] at hd
  have e1 : a.eval (.tmp p) = .pointer (some ⟨r, 0, none⟩) := ht.slots _ hs.mem
  have e2 : a.eval o = .int .u8 (x.toNat : Int) := by
    have := ho.get (X := X) (w := w) (ρ := a.eval) (fun _ => rfl) fun q hq _ => ht.slots q hq
    rw [← hx]; exact ic.ok this
  obtain ⟨hr, A, c, hbd, hg⟩ := ht.slots _ g.mem
  have hsz : B ≤ w.heap.size := Nat.le_trans hbd.hB (Nat.le_of_lt hbd.lt)
  have hc := cb_byte (x := (x.toNat : Int)) hbd (by rw [List.length_map]; first | exact hlen | (rw [bs_size]; exact hlen)) hsz
  have hrun : ∀ ρ : Operand → Value, (execOp ρ ⟨some s, .call { callee := .value (.func 24), args := #[.tmp p, o], argTypes := ats }, t0, pos, af, none⟩).run Try.prog w = .ok (.enter 24 #[ρ (.tmp p), ρ o]) w ∨ ρ (.func 24) ≠ .func (.func 24) #[] #[] := fun ρ => by
    by_cases hff : ρ (.func 24) = .func (.func 24) #[] #[]
    · left
      have hen : Enters Try.prog 24 := fun _ _ => by kernel_rfl
      clear hc hbd hg h e1 e2 ht
      go_simp
      all_goals exact hen _ _
    · exact .inr hff
  have hrun := (hrun a.eval).resolve_right fun h => h rfl
  rw [e1, e2] at hrun
  unfold Oper.wp
  rw [hrun]
  refine hc.mono ?_
  rintro e w' ⟨rfl, A', c', hbd', hw, hl⟩
  obtain ⟨hch, hr', hg'⟩ := bd_wr ht.mem.far hr hbd hg hbd' hw hl
  have h5 := (ht.keep (E' := E0) ss).ch hch hB0
  have h6 := h5.new (T := .any) (v := .nilIface) hd.2 (by rw [← Nat.blt_eq]; exact hd.1.1) trivial (Below.refl _ _)
  refine h.run _ _ ⟨h6.size, h6.df, fun q hq => ?_, h6.mem⟩
  rcases List.mem_cons.1 hq with rfl | hq
  · trivial
  · rcases List.mem_cons.1 hq with rfl | hq
    · refine ⟨hr', A', c', ?_, hg'⟩
      show Bd r B A' c' (bcells (l ++ [x])) w'
      have e : bcells (l ++ [x]) = bcells l ++ [Value.int .u8 (x.toNat : Int)] := by simp [bcells]
      rw [e]
      exact hbd'
    · exact h6.slots q (List.mem_cons_of_mem _ hq)⟩
theorem g_ws {s p r B : Nat} {l : List UInt8} {t : List UInt8} {o : Operand} {To : VTy} [ic : IsC To (Tx t)] (ss : List Nat) (hB0 : w00.heap.size ≤ B) [hs : Look E p (.is (.pointer (some ⟨r, 0, none⟩)))] [ho : OpC E o To] [g : Look E 998 (.bd r B l)] [k : KeepC E ss E0] [kL : SurvUL B L] [kE : SurvUL B E0] (hlen : l.length + t.length ≤ 100000000) (hd : (Nat.blt s n && Nat.blt n 998 && !(E0.map Prod.fst).elem s) = true)
    (h : GR Try.prog w00 X L ((s, .any) :: (998, .bd r B (l ++ t)) :: E0) n ops rest cs Q) : GR Try.prog w00 X L E n ops (⟨some s, .call { callee := .value (.func 25), args := #[.tmp p, o], argTypes := ats }, t0, pos, af, none⟩ :: rest) cs Q := ⟨fun a w ht => by
  refine wpList_run rfl ?_
  simp only [Bool.and_eq_true, Bool.not_eq_true'] at hd
  have e1 : a.eval (.tmp p) = .pointer (some ⟨r, 0, none⟩) := ht.slots _ hs.mem
  have e2 : a.eval o = .string ⟨t.toArray⟩ := by
    have := ho.get (X := X) (w := w) (ρ := a.eval) (fun _ => rfl) fun q hq _ => ht.slots q hq
    exact ic.ok this
  obtain ⟨hr, A, c, hbd, hg⟩ := ht.slots _ g.mem
  have hsz : B ≤ w.heap.size := Nat.le_trans hbd.hB (Nat.le_of_lt hbd.lt)
  have hc := cb_str (s := ⟨t.toArray⟩) hbd (by rw [List.length_map]; first | exact hlen | (rw [bs_size]; exact hlen)) hsz
  have hrun : ∀ ρ : Operand → Value, (execOp ρ ⟨some s, .call { callee := .value (.func 25), args := #[.tmp p, o], argTypes := ats }, t0, pos, af, none⟩).run Try.prog w = .ok (.enter 25 #[ρ (.tmp p), ρ o]) w ∨ ρ (.func 25) ≠ .func (.func 25) #[] #[] := fun ρ => by
    by_cases hff : ρ (.func 25) = .func (.func 25) #[] #[]
    · left
      have hen : Enters Try.prog 25 := fun _ _ => by kernel_rfl
      clear hc hbd hg h e1 e2 ht
      go_simp
      all_goals exact hen _ _
    · exact .inr hff
  have hrun := (hrun a.eval).resolve_right fun h => h rfl
  rw [e1, e2] at hrun
  unfold Oper.wp
  rw [hrun]
  refine hc.mono ?_
  rintro e w' ⟨rfl, A', c', hbd', hw, hl⟩
  obtain ⟨hch, hr', hg'⟩ := bd_wr ht.mem.far hr hbd hg hbd' hw hl
  have h5 := (ht.keep (E' := E0) ss).ch hch hB0
  have h6 := h5.new (T := .any) (v := .tuple #[.int .i64 ((⟨t.toArray⟩ : ByteArray).size : Int), .nilIface]) hd.2 (by rw [← Nat.blt_eq]; exact hd.1.1) trivial (Below.refl _ _)
  refine h.run _ _ ⟨h6.size, h6.df, fun q hq => ?_, h6.mem⟩
  rcases List.mem_cons.1 hq with rfl | hq
  · trivial
  · rcases List.mem_cons.1 hq with rfl | hq
    · refine ⟨hr', A', c', ?_, hg'⟩
      show Bd r B A' c' (bcells (l ++ t)) w'
      have e : bcells (l ++ t) = bcells l ++ Lib.strCells ⟨t.toArray⟩ := by simp [bcells, Lib.strCells]
      rw [e]
      exact hbd'
    · exact h6.slots q (List.mem_cons_of_mem _ hq)⟩
/-- What was written is read. -/
theorem g_bs {s p r : Nat} {l : List UInt8} [hs : Look E p (.is (.pointer (some ⟨r, 0, none⟩)))] [g : Look E 998 (.bd r w00.heap.size l)] (hd : Nat.blt s n = true)
    (h : GR Try.prog w00 X [] [(s, .is (Tx l))] n ops rest cs Q) : GR Try.prog w00 X L E n ops (⟨some s, .call { callee := .value (.func 26), args := #[.tmp p], argTypes := ats }, t0, pos, af, none⟩ :: rest) cs Q := ⟨fun a w ht => by
  refine wpList_run rfl ?_
  have e1 : a.eval (.tmp p) = .pointer (some ⟨r, 0, none⟩) := ht.slots _ hs.mem
  obtain ⟨hr, A, c, hbd, hg⟩ := ht.slots _ g.mem
  have hib : Lib.IsBuilderF 55 5 w00.heap.size r (Lib.byteCells l) w := by
    obtain ⟨p, hp, hcell⟩ := hbd.cell
    have hat : Lib.BuilderAtF 55 5 w00.heap.size r p (Lib.byteCells l) w := .of ⟨hbd.hB, _, hcell, hbd.own, by rw [strB_own]; exact hbd.ne⟩
    rcases hp with rfl | rfl
    · exact .inl hat
    · exact .inr hat
  have hc := Try.Builder_String_any_k w00.heap.size r l w hib ht.mem.below.size
  have hrun : ∀ ρ : Operand → Value, (execOp ρ ⟨some s, .call { callee := .value (.func 26), args := #[.tmp p], argTypes := ats }, t0, pos, af, none⟩).run Try.prog w = .ok (.enter 26 #[ρ (.tmp p)]) w ∨ ρ (.func 26) ≠ .func (.func 26) #[] #[] := fun ρ => by
    by_cases hff : ρ (.func 26) = .func (.func 26) #[] #[]
    · left
      have hen : Enters Try.prog 26 := fun _ _ => by kernel_rfl
      clear hc hbd hg h e1 ht hib
      go_simp
      all_goals exact hen _ _
    · exact .inr hff
  have hrun := (hrun a.eval).resolve_right fun h => h rfl
  rw [e1] at hrun
  unfold Oper.wp
  rw [hrun]
  refine hc.mono ?_
  rintro e w' ⟨rfl, _, hb, _⟩
  refine h.run _ _ ⟨by simp [Act.put, ht.size], ht.df, fun q hq => ?_, ⟨fun _ h => (by cases h), fun b hb' => Nat.lt_of_lt_of_le (ht.mem.far b hb') hb.size, List.nodup_nil, ht.mem.below.trans hb⟩⟩
  rw [List.mem_singleton.1 hq]
  have hsz : s < a.tmps.size := by rw [ht.size, ← Nat.blt_eq]; exact hd
  rw [put_getD _ _ _ _ hsz, if_pos rfl]
  exact rfl⟩
end
section
variable {P : Program} {w00 : World} {N : Nat} {L : List Loc} {E : List (Nat × VTy)} {d : Nat} {t0 : TypeId} {pos : String} {af : Array Edge} {gd : Option (Nat × Bool)} {ats : Array TypeId}
/-- Rows that hang on old memory alone: an element's address, an element. -/
theorem st_indexU {α : Type} {r : Rp α} {p : α → Prop} {l : List α} {a : α} {o oi : Operand} {ty : TypeId} {j B : Nat} [ho : OpC E o (.und B (.rw r p l))] [hi : OpC E oi (.is (.int .i64 (j : Int)))] [ht : SliceC P ty r.k] (ha : l[j]? = some a) : StepT P w00 N L E ⟨some d, .indexAddr ty o oi, t0, pos, af, gd⟩ (.und B (.pe r p a)) := by
  constructor
  intro X ρ w hc hf hN hm hsl
  obtain ⟨hB, h1⟩ := ho.get (X := X) (w := w) hc fun p hp e => hsl p hp (by simp [Op.operands, e])
  have h2 := hi.get (X := X) (w := w) hc fun p hp e => hsl p hp (by simp [Op.operands, e])
  have e2 : ρ oi = .int .i64 j := h2
  obtain ⟨hp, A, n, c, e, h1, h2, h3, h4, h5⟩ := h1
  have e1 : ρ o = .slice A n c := by simpa using e
  have hj : j < n := by rw [← h1]; exact (List.getElem?_eq_some_iff.1 ha).1
  obtain ⟨b, off, rfl, hb, hcs⟩ := h5 (by omega)
  obtain ⟨cs, g1, g2⟩ := hcs j a ha
  obtain ⟨el, hu, hs⟩ := ht.ok
  have hz : (sizeOf el).run P w = .ok r.k w := by
    cases hq : P.info? el with
    | none => rw [hq] at hs; cases hs
    | some q =>
      rw [hq] at hs
      have : q.size = r.k := by simpa using hs
      simp [sizeOf, typeInfo, hq, this]
  have hrun : (execOp ρ ⟨some d, .indexAddr ty o oi, t0, pos, af, gd⟩).run P w = .ok (.value (.pointer (some ⟨b, off + j * r.k, none⟩))) w := by
    unfold execOp
    have hji : (0 : Int) ≤ (j : Int) ∧ (j : Int) < (n : Int) := ⟨by omega, by omega⟩
    simp only [e1, e2, Instr.indexAt, asIntOf, Sem.run_bind, Sem.run_pure, Result.andThen_ok, run_underlying hu w, hji, and_self, if_true, hz, Int.toNat_natCast, Addr.add_mid]
  unfold Yields
  rw [hrun]
  exact ⟨⟨hB, hp a (List.mem_of_getElem? ha), b, _, cs, rfl, hb, g1, g2⟩, Below.refl _ _⟩
theorem st_loadEU {α : Type} {r : Rp α} {p : α → Prop} {a : α} {ty : TypeId} {s B : Nat} [ho : Look E s (.und B (.pe r p a))] [ht : TyC P ty r.k true] : StepT P w00 N L E ⟨some d, .load ty (.tmp s), t0, pos, af, gd⟩ (.und B (.el r p a)) := by
  constructor
  intro X ρ w hc _ hN hm hsl
  obtain ⟨hB, hp, b, o, cs, e, hb, h1, h2⟩ := hsl _ ho.mem (by simp [Op.operands])
  have e' : ρ (.tmp s) = .pointer (some ⟨b, o, none⟩) := e
  obtain ⟨dd, hu, hd⟩ := ht.row
  have hi : (P.info? ty).map (·.size) = some cs.length := by rw [r.len h2]; exact ht.size
  have hrun : (execOp ρ ⟨some d, .load ty (.tmp s), t0, pos, af, gd⟩).run P w = .ok (.value (.agg cs.toArray)) w := by
    unfold execOp
    simp only [e', run_loadAt_mid w b o ty cs dd h1 hu hd hi, Sem.run_bind, Sem.run_pure, Result.andThen_ok]
  unfold Yields
  rw [hrun]
  exact ⟨⟨hB, a, ⟨rfl, hp⟩, cs, rfl, h2⟩, Below.refl _ _⟩
end
set_option maxRecDepth 20000 in
set_option maxHeartbeats 4000000 in
set_option synthInstance.maxSize 4000 in
set_option synthInstance.maxHeartbeats 400000 in
theorem c_show {l : List Ln} (hb : wl (txs l) + l.length ≤ 1000000) : Ctr Try.prog S1 16 [20] [.rw Rp.lr tt l] (fun _ => .is (Tx (shw (txs l)))) := by
  refine c7_M (As' := fun B => [.und B (.rw Rp.lr tt l)]) Try.func16 rfl Try.ntmps16 (by simp) (fun _ _ => by kernel_rfl) (fun {X w vs} ha => by
    obtain ⟨v, rfl, h⟩ := ha.one
    exact ⟨und_new h, trivial⟩) fun X w0 hE => ?_
  simp only [argE, Nat.zero_add, Nat.reduceAdd]
  repeat' first|kernel_rfl|(refine g_alB (by kernel_rfl) fun _ => ?_)|apply g_seq|apply g_reg|apply g_nil|apply g_mv (s:=10)|apply g_mv (s:=17)|apply g_box|apply g_all|apply g_stf|apply g_stw|apply g_sto|apply g_asg|apply g_st|apply g_skip|apply g_ct|apply g_cf|apply g_ret|refine r_1 rfl ?_|apply g_blk|apply g_eb|apply g_ex|apply e_t|apply e_h|refine e_o rfl ?_|apply r_t|apply r_b|apply g_cl|exact st_lenW|exact st_indexU (by assumption)|exact st_loadEU|exact st_sadd (by assumption)|exact st_slen|exact st_add' (by assumption)|exact st_move'|exact st_assign'|exact st_load'|exact st_fieldAddr'|exact st_lss' (by first|assumption|rfl)|exact st_gtr' (by first|assumption|rfl)|exact st_len'|exact st_indexAddr' (by assumption)|exact st_loadE'|exact Cv.rfl'|intro _
  refine g_stop fun a w h => ?_
  rename_i rb
  refine cw_loop (fun k a u => ∃ i : Nat, i + k = l.length ∧ TS w0 X [] [(3, .is (.pointer (some ⟨rb, 0, none⟩))), (998, .bd rb w0.heap.size (shw (txs (l.take i)))), (10, .is (.int .i64 (i : Int))), (9, .is (.int .i64 (l.length : Int))), (8, .und w0.heap.size (.rw Rp.lr tt l))] 32 a u) l.length ⟨0, by omega, h.keep [3, 998, 10, 9, 8]⟩ ?_
  clear h
  rintro k a u ⟨i, hi, h⟩
  have hb1 := wl_take l i
  have hb2 := shw_len (txs (l.take i))
  have hb3 : (txs (l.take i)).length ≤ l.length := by unfold txs; rw [List.length_map, List.length_take]; omega
  by_cases hlt : i < l.length
  · obtain ⟨x, hx⟩ : ∃ x, l[i]? = some x := ⟨_, List.getElem?_eq_getElem hlt⟩
    have hc : decide ((i : Int) < (l.length : Int)) = true := decide_eq_true (by omega)
    have hw : IntKind.i64.wrap ((i : Int) + 1) = ((i + 1 : Nat) : Int) := i64_small (by omega) (by omega)
    have hxl := ww_at hx
    have hsn : shw (txs (l.take (i + 1))) = shw (txs (l.take i)) ++ (jn (txw x.1) ++ [10]) := by rw [tk_snoc hx, txs_app]; exact shw_snoc _ _
    generalize hP : shw (txs (l.take i)) = P at *
    refine g_of h ?_
    clear h
    repeat' first|kernel_rfl|apply g_seq|apply g_reg|apply g_nil|apply g_mv (s:=10)|apply g_mv (s:=17)|apply g_box|apply g_all|apply g_stf|apply g_stw|apply g_sto|apply g_asg|apply g_st|apply g_skip|apply g_ct|apply g_cf|apply g_ret|refine r_1 rfl ?_|apply g_blk|apply g_eb|apply g_ex|apply e_t|apply e_h|refine e_o rfl ?_|apply r_t|apply r_b|apply g_cl|exact st_lenW|exact st_indexU (by assumption)|exact st_loadEU|exact st_sadd (by assumption)|exact st_slen|exact st_add' (by assumption)|exact st_move'|exact st_assign'|exact st_load'|exact st_fieldAddr'|exact st_lss' (by first|assumption|rfl)|exact st_gtr' (by first|assumption|rfl)|exact st_len'|exact st_indexAddr' (by assumption)|exact st_loadE'|exact Cv.rfl'|intro _
    refine g_stop fun a w h => ?_
    rename_i rx
    refine cw_loop (fun k a u => ∃ j : Nat, j + k = x.1.length ∧ TS w0 (rx :: X) [(rx, .und w0.heap.size (.el Rp.lr tt x))] [(3, .is (.pointer (some ⟨rb, 0, none⟩))), (998, .bd rb w0.heap.size (P ++ jn (txw (x.1.take j)))), (17, .is (.int .i64 (j : Int))), (16, .is (.int .i64 (x.1.length : Int))), (15, .und w0.heap.size (.rw Rp.wd tt x.1)), (10, .is (.int .i64 (i : Int))), (9, .is (.int .i64 (l.length : Int))), (8, .und w0.heap.size (.rw Rp.lr tt l))] 32 a u) x.1.length ⟨0, by omega, by show TS w0 _ _ [_, (998, .bd rb w0.heap.size (P ++ [])), _, _, _, _, _, _] _ _ _; rw [List.append_nil]; exact h.keep [3, 998, 17, 16, 15, 10, 9, 8]⟩ ?_
    clear h
    rintro k' a u ⟨j, hj, h⟩
    have hb4 := ww_take x.1 j
    have hb5 := (jn_len (txw (x.1.take j))).1
    by_cases hjt : j < x.1.length
    · obtain ⟨t, ht⟩ : ∃ t, x.1[j]? = some t := ⟨_, List.getElem?_eq_getElem hjt⟩
      have htl := len_at ht
      have hc2 : decide ((j : Int) < (x.1.length : Int)) = true := decide_eq_true (by omega)
      have hxn : x.1.length ≤ 1000000 := by have := ww_count x.1; omega
      have hw2 : IntKind.i64.wrap ((j : Int) + 1) = ((j + 1 : Nat) : Int) := i64_small (by omega) (by omega)
      have hj1 : jn (txw (x.1.take (j + 1))) = bif (txw (x.1.take j)).isEmpty then t.1 else jn (txw (x.1.take j)) ++ 32 :: t.1 := by rw [tk_snoc ht, txw_app]; exact jn_snoc _ _
      cases hz : decide ((0 : Int) < (j : Int))
      · obtain rfl : j = 0 := by have := of_decide_eq_false hz; omega
        have he : (P ++ jn (txw (x.1.take 0))) ++ t.1 = P ++ jn (txw (x.1.take (0 + 1))) := by rw [hj1]; show (P ++ []) ++ t.1 = P ++ t.1; rw [List.append_nil]
        refine g_of h ?_
        clear h
        repeat' first|kernel_rfl|(refine g_ws [3, 17, 16, 15, 10, 9, 8] (Nat.le_refl _) (by simp only [List.length_append, List.length_cons, List.length_nil]; omega) (by kernel_rfl) ?_)|exact g_done fun _ _ h=>⟨k' - 1, by omega, 0 + 1, by omega, by rw [← he]; exact h.drop.keep [3, 998, 17, 16, 15, 10, 9, 8]⟩|apply g_seq|apply g_reg|apply g_nil|apply g_mv (s:=10)|apply g_mv (s:=17)|apply g_box|apply g_all|apply g_stf|apply g_stw|apply g_sto|apply g_asg|apply g_st|apply g_skip|apply g_ct|apply g_cf|apply g_ret|refine r_1 rfl ?_|apply g_blk|apply g_eb|apply g_ex|apply e_t|apply e_h|refine e_o rfl ?_|apply r_t|apply r_b|apply g_cl|exact st_lenW|exact st_indexU (by assumption)|exact st_loadEU|exact st_sadd (by assumption)|exact st_slen|exact st_add' (by assumption)|exact st_move'|exact st_assign'|exact st_load'|exact st_fieldAddr'|exact st_lss' (by first|assumption|rfl)|exact st_gtr' (by first|assumption|rfl)|exact st_len'|exact st_indexAddr' (by assumption)|exact st_loadE'|exact Cv.rfl'|intro _
      · have hj0 : 0 < j := by have := of_decide_eq_true hz; omega
        have he : ((P ++ jn (txw (x.1.take j))) ++ [32]) ++ t.1 = P ++ jn (txw (x.1.take (j + 1))) := by
          rw [hj1, show (txw (x.1.take j)).isEmpty = false by
            have : (txw (x.1.take j)).length = j := by unfold txw; rw [List.length_map, List.length_take]; omega
            cases hq : txw (x.1.take j) with
            | nil => rw [hq] at this; simp at this; omega
            | cons => rfl]
          simp
        refine g_of h ?_
        clear h
        repeat' first|kernel_rfl|(refine g_wb 32 rfl [3, 7, 17, 16, 15, 10, 9, 8] (Nat.le_refl _) (by simp only [List.length_append, List.length_cons, List.length_nil]; omega) (by kernel_rfl) ?_)|(refine g_ws [3, 17, 16, 15, 10, 9, 8] (Nat.le_refl _) (by simp only [List.length_append, List.length_cons, List.length_nil]; omega) (by kernel_rfl) ?_)|exact g_done fun _ _ h=>⟨k' - 1, by omega, j + 1, by omega, by rw [← he]; exact h.drop.keep [3, 998, 17, 16, 15, 10, 9, 8]⟩|apply g_seq|apply g_reg|apply g_nil|apply g_mv (s:=10)|apply g_mv (s:=17)|apply g_box|apply g_all|apply g_stf|apply g_stw|apply g_sto|apply g_asg|apply g_st|apply g_skip|apply g_ct|apply g_cf|apply g_ret|refine r_1 rfl ?_|apply g_blk|apply g_eb|apply g_ex|apply e_t|apply e_h|refine e_o rfl ?_|apply r_t|apply r_b|apply g_cl|exact st_lenW|exact st_indexU (by assumption)|exact st_loadEU|exact st_sadd (by assumption)|exact st_slen|exact st_add' (by assumption)|exact st_move'|exact st_assign'|exact st_load'|exact st_fieldAddr'|exact st_lss' (by first|assumption|rfl)|exact st_gtr' (by first|assumption|rfl)|exact st_len'|exact st_indexAddr' (by assumption)|exact st_loadE'|exact Cv.rfl'|intro _
    · obtain rfl : j = x.1.length := by omega
      have hc2 : decide ((x.1.length : Int) < (x.1.length : Int)) = false := decide_eq_false (by omega)
      rw [List.take_length] at h hb5
      have he : (P ++ jn (txw x.1)) ++ [10] = shw (txs (l.take (i + 1))) := by rw [hsn, List.append_assoc]
      refine g_of h ?_
      clear h
      repeat' first|kernel_rfl|(refine g_wb 10 rfl [3, 10, 9, 8] (Nat.le_refl _) (by simp only [List.length_append, List.length_cons, List.length_nil]; omega) (by kernel_rfl) ?_)|exact g_done fun _ _ h=>⟨k - 1, by omega, i + 1, by omega, by rw [← he]; exact h.drop.keep [3, 998, 10, 9, 8]⟩|apply g_seq|apply g_reg|apply g_nil|apply g_mv (s:=10)|apply g_mv (s:=17)|apply g_box|apply g_all|apply g_stf|apply g_stw|apply g_sto|apply g_asg|apply g_st|apply g_skip|apply g_ct|apply g_cf|apply g_ret|refine r_1 rfl ?_|apply g_blk|apply g_eb|apply g_ex|apply e_t|apply e_h|refine e_o rfl ?_|apply r_t|apply r_b|apply g_cl|exact st_lenW|exact st_indexU (by assumption)|exact st_loadEU|exact st_sadd (by assumption)|exact st_slen|exact st_add' (by assumption)|exact st_move'|exact st_assign'|exact st_load'|exact st_fieldAddr'|exact st_lss' (by first|assumption|rfl)|exact st_gtr' (by first|assumption|rfl)|exact st_len'|exact st_indexAddr' (by assumption)|exact st_loadE'|exact Cv.rfl'|intro _
  · obtain rfl : i = l.length := by omega
    have hc : decide ((l.length : Int) < (l.length : Int)) = false := decide_eq_false (by omega)
    rw [List.take_length] at h
    refine g_of h ?_
    clear h
    repeat' first|kernel_rfl|(refine g_alB (by kernel_rfl) fun _ => ?_)|(refine g_bs (by kernel_rfl) ?_)|apply g_seq|apply g_reg|apply g_nil|apply g_box|apply g_all|apply g_stf|apply g_stw|apply g_sto|apply g_asg|apply g_st|apply g_skip|apply g_ct|apply g_cf|apply g_ret|refine r_1 rfl ?_|apply g_blk|apply g_eb|apply g_ex|apply e_t|apply e_h|refine e_o rfl ?_|apply r_t|apply r_b|apply g_cl|exact st_lenW|exact st_indexU (by assumption)|exact st_loadEU|exact st_sadd (by assumption)|exact st_slen|exact st_add' (by assumption)|exact st_move'|exact st_assign'|exact st_load'|exact st_fieldAddr'|exact st_lss' (by first|assumption|rfl)|exact st_gtr' (by first|assumption|rfl)|exact st_len'|exact st_indexAddr' (by assumption)|exact st_loadE'|exact Cv.rfl'|intro _
/-- A new row of structs. -/
theorem rw_new {α : Type} {r : Rp α} {X : List Nat} {w : World} {T : TypeId} (hX : ∀ b ∈ X, b < w.heap.size) (xs : List (α × List Value)) (hx : ∀ p ∈ xs, r.rd w (Free X w) p.1 p.2) (hlen : xs.length ≤ 100) :
    (VTy.rw r tt (xs.map Prod.fst)).holds X (w.alloc (.cells (xs.flatMap Prod.snd).toArray T)) (.slice (some ⟨w.heap.size, 0, none⟩) xs.length xs.length) := by
  have hb : Below w.heap.size w (w.alloc (.cells (xs.flatMap Prod.snd).toArray T)) := (Below.refl _ _).alloc (Nat.le_refl _) _
  refine ⟨fun _ _ => trivial, some ⟨w.heap.size, 0, none⟩, xs.length, xs.length, rfl, by simp, Nat.le_refl _, by unfold maxLen; omega, (fun h => by cases h), fun _ => ⟨w.heap.size, 0, rfl, ⟨by rw [size_one]; exact Nat.lt_succ_self _, fun h => by have := hX _ h; omega⟩, fun j a ha => ?_⟩⟩
  rw [List.getElem?_map] at ha
  cases hj : xs[j]? with
  | none => rw [hj] at ha; cases ha
  | some p =>
    rw [hj] at ha
    have ha' : p.1 = a := by simpa using ha
    subst ha'
    refine ⟨p.2, fun i u hu => ?_, r.up (hx p (List.mem_of_getElem? hj)) (Below.keeps hb X) fun _ h _ => h⟩
    rw [Nat.zero_add]
    refine cell_at (heap_new _ _) ?_
    rw [List.getElem?_toArray]
    exact flat_get (fun q hq => r.len (hx q hq)) hj hu
section
variable {w00 : World} {N : Nat} {L : List Loc} {E : List (Nat × VTy)} {d : Nat} {t0 : TypeId} {pos : String} {af : Array Edge} {gd : Option (Nat × Bool)}
set_option maxRecDepth 20000 in
theorem st_mkW70 {o : Operand} {t : List UInt8} [ho : OpC E o (.is (Tx t))] : StepT Try.prog w00 N L E ⟨some d, .build 44 #[(0, o)], t0, pos, af, gd⟩ (.is (.agg #[Tx t, .int .i64 0])) := by
  constructor
  intro X ρ w hc _ hN hm hsl
  have e0 : ρ o = Tx t := ho.get (X := X) (w := w) hc fun p hp e => hsl p hp (by simp [Op.operands, e])
  clear hc hsl ho hm
  unfold Yields
  go_simp
  exact ⟨rfl, Below.refl _ _⟩
theorem wd_rd {w : World} {S : Nat → Prop} (t : List UInt8) (a : Int) : Rp.wd.rd w S (t, a) [Tx t, .int .i64 a] := ⟨[Tx t], [.int .i64 a], rfl, ⟨_, rfl, data_mk t⟩, rfl⟩
set_option maxRecDepth 20000 in
theorem st_rwW1 {o0 : Operand} {t0' : List UInt8} {a0 : Int} [h0 : OpC E o0 (.is (.agg #[Tx t0', .int .i64 a0]))] : StepT Try.prog w00 N L E ⟨some d, .buildSlice 45 1 #[(0, o0)], t0, pos, af, gd⟩ (.rw Rp.wd tt [(t0', a0)]) := by
  constructor
  intro X ρ w hc _ hN hm hsl
  have e0 : ρ o0 = .agg #[Tx t0', .int .i64 a0] := h0.get (X := X) (w := w) hc fun p hp e => hsl p hp (by simp [Op.operands, e])
  have hT := rw_new (r := Rp.wd) (T := 44) (w := w) (X := X) hm.far [((t0', a0), [Tx t0', .int .i64 a0])] (by
    intro p hp
    simp only [List.mem_cons, List.not_mem_nil, or_false] at hp
    rcases hp with rfl <;> exact wd_rd _ _) (by simp)
  have HT := Lib.hid hT
  clear hT hsl hm hc h0
  unfold Yields
  go_simp
  exact ⟨HT.out, (Below.refl _ _).alloc (Nat.le_refl _) _⟩
set_option maxRecDepth 20000 in
theorem st_rwW2 {o0 : Operand} {t0' : List UInt8} {a0 : Int} [h0 : OpC E o0 (.is (.agg #[Tx t0', .int .i64 a0]))] {o1 : Operand} {t1' : List UInt8} {a1 : Int} [h1 : OpC E o1 (.is (.agg #[Tx t1', .int .i64 a1]))] : StepT Try.prog w00 N L E ⟨some d, .buildSlice 45 2 #[(0, o0), (1, o1)], t0, pos, af, gd⟩ (.rw Rp.wd tt [(t0', a0), (t1', a1)]) := by
  constructor
  intro X ρ w hc _ hN hm hsl
  have e0 : ρ o0 = .agg #[Tx t0', .int .i64 a0] := h0.get (X := X) (w := w) hc fun p hp e => hsl p hp (by simp [Op.operands, e])
  have e1 : ρ o1 = .agg #[Tx t1', .int .i64 a1] := h1.get (X := X) (w := w) hc fun p hp e => hsl p hp (by simp [Op.operands, e])
  have hT := rw_new (r := Rp.wd) (T := 44) (w := w) (X := X) hm.far [((t0', a0), [Tx t0', .int .i64 a0]), ((t1', a1), [Tx t1', .int .i64 a1])] (by
    intro p hp
    simp only [List.mem_cons, List.not_mem_nil, or_false] at hp
    rcases hp with rfl | rfl <;> exact wd_rd _ _) (by simp)
  have HT := Lib.hid hT
  clear hT hsl hm hc h0 h1
  unfold Yields
  go_simp
  exact ⟨HT.out, (Below.refl _ _).alloc (Nat.le_refl _) _⟩
/-- A line of such a row. -/
theorem lr_rd {X : List Nat} {w : World} {ws : List Wd} {v : Value} (h : (VTy.rw Rp.wd tt ws).holds X w v) (a : Int) : Rp.lr.rd w (Free X w) (ws, a) [v, .int .i64 a] := ⟨[v], [.int .i64 a], rfl, h.2, rfl⟩
set_option maxRecDepth 20000 in
theorem st_mkR {o o1 : Operand} {ws : List Wd} {a : Int} [ho : OpC E o (.rw Rp.wd tt ws)] [h1 : OpC E o1 (.is (.int .i64 a))] : StepT Try.prog w00 N L E ⟨some d, .build 47 #[(0, o), (1, o1)], t0, pos, af, gd⟩ (.ra Rp.lr (ws, a)) := by
  constructor
  intro X ρ w hc _ hN hm hsl
  have h0 := ho.get (X := X) (w := w) hc fun p hp e => hsl p hp (by simp [Op.operands, e])
  have e1 : ρ o1 = .int .i64 a := h1.get (X := X) (w := w) hc fun p hp e => hsl p hp (by simp [Op.operands, e])
  have HT := Lib.hid (show (VTy.ra Rp.lr (ws, a)).holds X w (.agg #[ρ o, .int .i64 a]) from ⟨[ρ o, .int .i64 a], rfl, lr_rd h0 a⟩)
  obtain ⟨_, A, n, c, e, _⟩ := h0
  have e0 : ρ o = .slice A n c := by simpa using e
  rw [e0] at HT
  clear hc hsl ho h1 hm e
  unfold Yields
  go_simp
  exact ⟨HT.out, Below.refl _ _⟩
set_option maxRecDepth 20000 in
theorem st_mkR0 {o : Operand} {ws : List Wd} [ho : OpC E o (.rw Rp.wd tt ws)] : StepT Try.prog w00 N L E ⟨some d, .build 47 #[(0, o)], t0, pos, af, gd⟩ (.ra Rp.lr (ws, 0)) := by
  constructor
  intro X ρ w hc _ hN hm hsl
  have h0 := ho.get (X := X) (w := w) hc fun p hp e => hsl p hp (by simp [Op.operands, e])
  have HT := Lib.hid (show (VTy.ra Rp.lr (ws, 0)).holds X w (.agg #[ρ o, .int .i64 0]) from ⟨[ρ o, .int .i64 0], rfl, lr_rd h0 0⟩)
  obtain ⟨_, A, n, c, e, _⟩ := h0
  have e0 : ρ o = .slice A n c := by simpa using e
  rw [e0] at HT
  clear hc hsl ho hm e
  unfold Yields
  go_simp
  exact ⟨HT.out, Below.refl _ _⟩
set_option maxRecDepth 20000 in
theorem st_rwL2 {o0 o1 : Operand} {x y : Ln} [h0 : OpC E o0 (.ra Rp.lr x)] [h1 : OpC E o1 (.ra Rp.lr y)] : StepT Try.prog w00 N L E ⟨some d, .buildSlice 23 2 #[(0, o0), (1, o1)], t0, pos, af, gd⟩ (.rw Rp.lr tt [x, y]) := by
  constructor
  intro X ρ w hc _ hN hm hsl
  obtain ⟨cs, e0, g0⟩ := h0.get (X := X) (w := w) hc fun p hp e => hsl p hp (by simp [Op.operands, e])
  obtain ⟨ds, e1, g1⟩ := h1.get (X := X) (w := w) hc fun p hp e => hsl p hp (by simp [Op.operands, e])
  have hT := rw_new (r := Rp.lr) (T := 47) (w := w) (X := X) hm.far [(x, cs), (y, ds)] (by
    intro p hp
    simp only [List.mem_cons, List.not_mem_nil, or_false] at hp
    rcases hp with rfl | rfl
    · exact g0
    · exact g1) (by simp)
  obtain ⟨u, v, rfl⟩ : ∃ u v, cs = [u, v] := by
    match cs, Rp.lr.len g0 with
    | [u, v], _ => exact ⟨u, v, rfl⟩
  obtain ⟨u', v', rfl⟩ : ∃ u v, ds = [u, v] := by
    match ds, Rp.lr.len g1 with
    | [u, v], _ => exact ⟨u, v, rfl⟩
  have e0' : ρ o0 = .agg #[u, v] := e0
  have e1' : ρ o1 = .agg #[u', v'] := e1
  have HT := Lib.hid hT
  clear hT hsl hm hc h0 h1 g0 g1 e0 e1
  unfold Yields
  go_simp
  exact ⟨HT.out, (Below.refl _ _).alloc (Nat.le_refl _) _⟩
end
set_option maxRecDepth 20000 in
set_option maxHeartbeats 4000000 in
set_option synthInstance.maxSize 4000 in
set_option synthInstance.maxHeartbeats 400000 in
theorem c7_works : Ctr Try.prog S1 8 [] [] (fun _ => .is (.bool true)) := by
  have h1 := c_lines (s := [97, 32, 32, 98, 32, 35, 32, 99, 10, 10, 100])
  rw [show lexR [97, 32, 32, 98, 32, 35, 32, 99, 10, 10, 100] = ([([([97], 0), ([98], 3)], 0), ([([100], 10)], 10)], 0, 0) by decide +kernel] at h1
  have h2 := c_lines (s := [97, 200])
  rw [show lexR [97, 200] = ([], 1, 70) by decide +kernel] at h2
  have h3 := c_lines (s := [35, 32, 111, 110, 108, 121])
  rw [show lexR [35, 32, 111, 110, 108, 121] = ([], 0, 0) by decide +kernel] at h3
  have hb : ([([([97], 0), ([98], 3)], 0), ([([100], 10)], 10)] : List Ln).length ≤ 1000000 ∧ ∀ x ∈ ([([([97], 0), ([98], 3)], 0), ([([100], 10)], 10)] : List Ln), x.1.length ≤ 1000000 := by decide
  have hsm := cL_same (l := [([([97], 0), ([98], 3)], 0), ([([100], 10)], 10)]) (m := [([([97], 0), ([98], 3)], 0), ([([100], 10)], 10)]) (p := true)
  rw [show sameB true [([([97], 0), ([98], 3)], 0), ([([100], 10)], 10)] [([([97], 0), ([98], 3)], 0), ([([100], 10)], 10)] = true by decide +kernel] at hsm
  refine ctr Try.func8 rfl Try.ntmps8 (by simp) (fun _ _ => by kernel_rfl) fun X w hE => ?_
  simp only [argE, Nat.zero_add, Nat.reduceAdd]
  repeat' first|kernel_rfl|apply g_seq|apply g_reg|apply g_nil|apply g_box|apply g_all|apply g_stf|apply g_stw|apply g_sto|apply g_asg|refine g_run rfl inferInstance (by first|exact sc trivial h1|exact sc trivial h2|exact sc trivial h3|exact sc trivial (c7_ref hb)|exact sc trivial hsm|exact st_mkW70|exact st_mkW7|exact st_rwW1|exact st_rwW2|exact st_mkR0|exact st_mkR|exact st_rwL2|exact st_lenW|exact st_slen|exact st_seq (by first|assumption|rfl)|exact st_move'|exact st_eq' (by first|assumption|rfl)|exact st_len') (by kernel_rfl) ?_|refine g_sk rfl inferInstance rfl (by kernel_rfl) ?_|refine g_un rfl inferInstance (by kernel_rfl) ?_|apply g_st|apply g_skip|apply g_ct|apply g_cf|apply g_ret|refine r_1 rfl ?_|apply g_cl|exact sc trivial h1|exact sc trivial h2|exact sc trivial h3|exact sc trivial (c7_ref hb)|exact sc trivial hsm|exact st_mkW70|exact st_mkW7|exact st_rwW1|exact st_rwW2|exact st_mkR0|exact st_mkR|exact st_rwL2|exact st_lenW|exact st_slen|exact st_seq (by first|assumption|rfl)|exact st_move'|exact st_assign'|exact st_extract'|exact st_and_t'|exact st_and_f'|exact st_eq' (by first|assumption|rfl)|exact st_len'|exact Cv.rfl'|intro _
theorem few_at {l : List Ln} (h : fewB l = true) : l.length ≤ 20 ∧ ∀ x ∈ l, x.1.length ≤ 10 ∧ ww (txw x.1) ≤ 1010 := by
  unfold fewB at h
  rw [Bool.and_eq_true, decide_eq_true_eq] at h
  refine ⟨h.2, fun x hx => ?_⟩
  have hf := List.all_eq_true.1 h.1 x hx
  unfold fewL at hf
  rw [Bool.and_eq_true, decide_eq_true_eq] at hf
  refine ⟨hf.2, ?_⟩
  have hw := hf.1
  rw [List.take_of_length_le (by omega)] at hw
  have : ∀ ws : List Wd, ws.all (fun w => decide (w.1.length ≤ 100)) = true → ww (txw ws) ≤ ws.length * 101 := by
    intro ws
    induction ws with
    | nil => intro _; exact Nat.zero_le _
    | cons w ws ih =>
      intro h
      simp only [List.all_cons, Bool.and_eq_true, decide_eq_true_eq] at h
      have := ih h.2
      have e : ww (txw (w :: ws)) = w.1.length + 1 + ww (txw ws) := by simp [txw, ww]
      rw [e, List.length_cons]
      omega
  have := this _ hw
  omega
theorem few_wl {l : List Ln} (h : fewB l = true) : wl (txs l) + l.length ≤ 20220 ∧ l.length ≤ 1000000 ∧ ∀ x ∈ l, x.1.length ≤ 1000000 := by
  obtain ⟨h1, h2⟩ := few_at h
  have : ∀ m : List Ln, (∀ x ∈ m, ww (txw x.1) ≤ 1010) → wl (txs m) ≤ m.length * 1010 := by
    intro m
    induction m with
    | nil => intro _; exact Nat.zero_le _
    | cons x m ih =>
      intro h
      have := ih fun y hy => h y (List.mem_cons_of_mem _ hy)
      have := h x List.mem_cons_self
      have e : wl (txs (x :: m)) = ww (txw x.1) + wl (txs m) := by simp [wl, txs]
      rw [e, List.length_cons]
      omega
  have := this l fun x hx => (h2 x hx).2
  exact ⟨by omega, by omega, fun x hx => by have := (h2 x hx).1; omega⟩
set_option maxRecDepth 20000 in
set_option maxHeartbeats 4000000 in
set_option synthInstance.maxSize 4000 in
set_option synthInstance.maxHeartbeats 400000 in
theorem l7_shows {l : List Ln} : Ctr Try.prog S1 4 [20] [.rw Rp.lr tt l] (fun _ => .is (.bool true)) := by
  have hf := c7_few (l := l)
  cases hc : fewB l
  · rw [hc] at hf
    refine ctr Try.func4 rfl Try.ntmps4 (by simp) (fun _ _ => by kernel_rfl) fun X w hE => ?_
    simp only [argE, Nat.zero_add, Nat.reduceAdd]
    repeat' first|kernel_rfl|apply g_seq|apply g_reg|apply g_nil|apply g_box|apply g_all|apply g_stf|apply g_stw|apply g_sto|apply g_asg|refine g_run rfl inferInstance (by first|exact sc trivial hf|exact sc trivial c7_works|exact st_seq (by first|assumption|rfl)|exact st_move'|exact st_and_t'|exact st_and_f'|exact st_eq' (by first|assumption|rfl)) (by kernel_rfl) ?_|refine g_sk rfl inferInstance rfl (by kernel_rfl) ?_|refine g_un rfl inferInstance (by kernel_rfl) ?_|apply g_st|apply g_skip|apply g_ct|apply g_cf|apply g_ret|refine r_1 rfl ?_|apply g_cl|exact sc trivial hf|exact sc trivial c7_works|exact st_seq (by first|assumption|rfl)|exact st_move'|exact st_assign'|exact st_and_t'|exact st_and_f'|exact st_or_f'|exact st_or_t'|exact st_not' (b := true) (u := false) rfl|exact st_not' (b := false) (u := true) rfl|exact st_not' rfl|exact st_eq' (by first|assumption|rfl)|exact Cv.rfl'|intro _
  · rw [hc] at hf
    obtain ⟨h1, h2⟩ := few_wl hc
    have hs := c_show (l := l) (by omega)
    have h7 := c7_show (l := l) (by omega)
    have hr := c7_ref h2
    have he : (shw (txs l) == shw (txs l)) = true := beq_self_eq_true _
    refine ctr Try.func4 rfl Try.ntmps4 (by simp) (fun _ _ => by kernel_rfl) fun X w hE => ?_
    simp only [argE, Nat.zero_add, Nat.reduceAdd]
    repeat' first|kernel_rfl|apply g_seq|apply g_reg|apply g_nil|apply g_box|apply g_all|apply g_stf|apply g_stw|apply g_sto|apply g_asg|refine g_run rfl inferInstance (by first|exact sc trivial hf|exact sc trivial hs|exact sc trivial h7|exact sc trivial hr|exact sc trivial c7_works|exact st_seq (by first|assumption|rfl)|exact st_move'|exact st_and_t'|exact st_and_f'|exact st_eq' (by first|assumption|rfl)) (by kernel_rfl) ?_|refine g_sk rfl inferInstance rfl (by kernel_rfl) ?_|refine g_un rfl inferInstance (by kernel_rfl) ?_|apply g_st|apply g_skip|apply g_ct|apply g_cf|apply g_ret|refine r_1 rfl ?_|apply g_cl|exact sc trivial hf|exact sc trivial hs|exact sc trivial h7|exact sc trivial hr|exact sc trivial c7_works|exact st_seq (by first|assumption|rfl)|exact st_move'|exact st_assign'|exact st_and_t'|exact st_and_f'|exact st_or_f'|exact st_or_t'|exact st_not' (b := true) (u := false) rfl|exact st_not' (b := false) (u := true) rfl|exact st_not' rfl|exact st_eq' (by first|assumption|rfl)|exact Cv.rfl'|intro _
end Go.Proofs.Ytkjojpeamabdmaa
