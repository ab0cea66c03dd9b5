/- Package lex: which bytes fit, how many stand ahead, what a cutter takes; the reference's words. -/
import Derived.Test.YtkjojpeamabdmaaGE
import Derived.Test.YtkjojpeamabdmaaShelf
import Derived.Test.YtkjojpeamabdmaaGD
set_option linter.unusedSimpArgs false
set_option linter.unusedVariables false
namespace Go.Proofs.Ytkjojpeamabdmaa
open Go Go.RowKit
instance : TyC Try.prog 3 1 false := ⟨⟨_, Try.underlying3, rfl⟩, by kernel_rfl⟩
instance : TyC Try.prog 5 1 false := ⟨⟨_, Try.underlying5, rfl⟩, by kernel_rfl⟩
instance : TyC Try.prog 50 2 true := ⟨⟨_, Try.underlying50, rfl⟩, by kernel_rfl⟩
instance : FieldC Try.prog 50 0 0 1 false := ⟨⟨_, _, Try.underlying50, rfl, rfl, by kernel_rfl, by decide, _, Try.underlying9, rfl⟩⟩
instance : FieldC Try.prog 50 1 1 1 false := ⟨⟨_, _, Try.underlying50, rfl, rfl, by kernel_rfl, by decide, _, Try.underlying3, rfl⟩⟩
theorem bne_def (x y : Int) : (x != y) = !(x == y) := rfl
theorem u8_back (c : UInt8) : ((c.toNat : Int).toNat).toUInt8 = c := by
  rw [Int.toNat_natCast]
  exact UInt8.ofNat_toNat
set_option maxRecDepth 20000 in
set_option maxHeartbeats 4000000 in
set_option synthInstance.maxSize 4000 in
set_option synthInstance.maxHeartbeats 400000 in
theorem c_inword {c : UInt8} : Ctr Try.prog S1 23 [0] [.is (.int .u8 (c.toNat : Int))] (fun _ => .is (.bool (isW c))) := by
  have h3 := bne_def (c.toNat : Int) 35
  unfold isW
  rw [← h3]
  cases h1 : decide ((33 : Int) ≤ (c.toNat : Int))
  all_goals cases h2 : decide ((c.toNat : Int) ≤ 126)
  all_goals
    refine ctr Try.func23 rfl Try.ntmps23 (by simp) (fun _ _ => by kernel_rfl) fun X w hE => ?_
    simp only [argE, Nat.zero_add, Nat.reduceAdd]
    repeat' first|kernel_rfl|apply g_seq|apply g_reg|apply g_nil|apply g_box|apply g_all|apply g_stf|apply g_stw|apply g_sto|apply g_asg|refine g_run rfl inferInstance (by first|exact st_move'|exact st_neq' (by first|assumption|rfl)|exact st_leq' (by first|assumption|rfl)) (by kernel_rfl) ?_|refine g_sk rfl inferInstance rfl (by kernel_rfl) ?_|refine g_un rfl inferInstance (by kernel_rfl) ?_|apply g_st|apply g_skip|apply g_ct|apply g_cf|apply g_ret|refine r_1 rfl ?_|apply g_cl|exact st_move'|exact st_assign'|exact st_and_t'|exact st_and_f'|exact st_neq' (by first|assumption|rfl)|exact st_leq' (by first|assumption|rfl)|exact st_geq' (by first|assumption|rfl)|exact Cv.rfl'|intro _
set_option maxRecDepth 20000 in
set_option maxHeartbeats 4000000 in
set_option synthInstance.maxSize 4000 in
set_option synthInstance.maxHeartbeats 400000 in
theorem c7_word {c : UInt8} : Ctr Try.prog S1 18 [0] [.is (.int .u8 (c.toNat : Int))] (fun _ => .is (.bool (isW c))) := by
  have h3 := bne_def (c.toNat : Int) 35
  unfold isW
  rw [← h3]
  cases h1 : decide ((33 : Int) ≤ (c.toNat : Int))
  all_goals cases h2 : decide ((c.toNat : Int) ≤ 126)
  all_goals
    refine ctr Try.func18 rfl Try.ntmps18 (by simp) (fun _ _ => by kernel_rfl) fun X w hE => ?_
    simp only [argE, Nat.zero_add, Nat.reduceAdd]
    repeat' first|kernel_rfl|apply g_seq|apply g_reg|apply g_nil|apply g_box|apply g_all|apply g_stf|apply g_stw|apply g_sto|apply g_asg|refine g_run rfl inferInstance (by first|exact st_move'|exact st_neq' (by first|assumption|rfl)|exact st_leq' (by first|assumption|rfl)) (by kernel_rfl) ?_|refine g_sk rfl inferInstance rfl (by kernel_rfl) ?_|refine g_un rfl inferInstance (by kernel_rfl) ?_|apply g_st|apply g_skip|apply g_ct|apply g_cf|apply g_ret|refine r_1 rfl ?_|apply g_cl|exact st_move'|exact st_assign'|exact st_and_t'|exact st_and_f'|exact st_neq' (by first|assumption|rfl)|exact st_leq' (by first|assumption|rfl)|exact st_geq' (by first|assumption|rfl)|exact Cv.rfl'|intro _
theorem c_index {l : List UInt8} {c : UInt8} : Ctr Try.prog S1 33 [0, 0] [.is (Tx l), .is (.int .u8 (c.toNat : Int))] (fun _ => .is (.int .i64 (Lib.indexByte l c))) :=
  ctr_v2 (fun _ _ => by kernel_rfl) fun w _ => (Try.strings_IndexByte ⟨l.toArray⟩ (c.toNat : Int) w).mono fun e w' h => by
    rw [data_mk, u8_back] at h
    exact ⟨h.1, by rw [h.2]; exact Below.refl _ _⟩
theorem u8_eq (c : UInt8) (n : Nat) (hn : n < 256) : (c == UInt8.ofNat n) = ((c.toNat : Int) == (n : Int)) := by
  rw [Bool.eq_iff_iff, beq_iff_eq, beq_iff_eq]
  constructor
  · intro h; rw [h]; simp [Nat.mod_eq_of_lt hn]
  · intro h
    have h' : c.toNat = n := by omega
    rw [← h']
    simp
theorem index_B (c : UInt8) : decide ((0 : Int) ≤ Lib.indexByte [32, 9] c) = isB c := by
  unfold isB
  have e1 := u8_eq c 32 (by decide)
  have e2 := u8_eq c 9 (by decide)
  rw [show ((c.toNat : Int) == 32) = (c == 32) from e1.symm, show ((c.toNat : Int) == 9) = (c == 9) from e2.symm]
  by_cases h1 : c = 32
  · subst h1; decide
  · by_cases h2 : c = 9
    · subst h2; decide
    · rw [beq_eq_false_iff_ne.2 h1, beq_eq_false_iff_ne.2 h2]
      have h3 : (32 == c) = false := beq_eq_false_iff_ne.2 fun e => h1 e.symm
      have h4 : (9 == c) = false := beq_eq_false_iff_ne.2 fun e => h2 e.symm
      simp [Lib.indexByte, List.findIdx?_cons, h3, h4]
section
variable {P : Program} {w00 : World} {N : Nat} {L : List Loc} {E : List (Nat × VTy)} {d : Nat} {t0 : TypeId} {pos : String} {af : Array Edge} {gd : Option (Nat × Bool)} {ats : Array TypeId}
/-- A closure. -/
theorem st_fnU {f : FuncId} {o : Operand} {T : VTy} [ho : OpC E o T] : StepT P w00 N L E ⟨some d, .makeFunc (.func f) #[] #[o], t0, pos, af, gd⟩ (.fv f [] [T]) := by
  constructor
  intro X ρ w hc _ hN hm hsl
  have h := ho.get (X := X) (w := w) hc fun p hp e => hsl p hp (by simp [Op.operands, e])
  unfold Yields execOp
  simp only [Sem.run_bind, Sem.run_pure, Result.andThen_ok]
  exact ⟨⟨[], [ρ o], by simp, trivial, h, trivial⟩, Below.refl _ _⟩
end
/-- A contract out of the body, for a caller that has set blocks aside. -/
theorem ctrX {P : Program} {G : World → Prop} {f : FuncId} {fn : Func} {c : Code} {ks : List Nat} {As : List VTy} {T : Nat → VTy} {n : Nat} [dn : DownC T] (hf : P.funcs[f]? = some fn) (hb : fn.body = some c) (hn : fn.ntmps = n) (hl : As.length ≤ n) (he : Enters P f)
    (h : ∀ X w, G w → (∀ b ∈ X, b < w.heap.size) → GC P w X [] (argE 0 As) n [c] (bodyPost P fn (Gives X w (T w.heap.size)))) : Ctr P G f ks As T :=
  ⟨he, dn.down, fun {X w vs} hG hX ha => by
    refine g_enter hf hb hn ?_ hX ha (h X w hG hX)
    have : ∀ {As : List VTy} {vs : List Value}, AllH X w As vs → vs.length = As.length := by
      intro As
      induction As with
      | nil => intro vs h; cases vs with | nil => rfl | cons => exact h.elim
      | cons A As ih => intro vs h; cases vs with | nil => exact h.elim | cons v vs => simp [ih h.2]
    rw [this ha]
    exact hl⟩
/-- A result that names a variable of the call's own. -/
theorem r_1g {P : Program} {w00 : World} {X X0 : List Nat} {L : List Loc} {E : List (Nat × VTy)} {n : Nat} {fn : Func} {r : ResultVar} {T T' : VTy} (hr : fn.results = #[r]) [k : ResC P L E r T] (hc : ∀ a w v, TS w00 X L E n a w → T.holds X w v → T'.holds X0 w v) : GT w00 X L E n (bodyPost P fn (Gives X0 w00 T')) :=
  ⟨fun a w h => by
    obtain ⟨v, h1, h2⟩ := k.ok h
    exact ⟨h.df, v, results_one hr h1, v, rfl, hc a w v h h2, h.mem.below⟩⟩
theorem cap_pv {w00 w : World} {X X0 : List Nat} {L : List Loc} {E : List (Nat × VTy)} {n r : Nat} {a : Act} {u : Value} (h : TS w00 X L E n a w) [hl : LocC L r (.is u)] (h1 : u.oneCell' = true) (hX : ∀ b ∈ X0, b < w00.heap.size) : (VTy.pv u).holds X0 w (.pointer (some ⟨r, 0, none⟩)) := by
  obtain ⟨g1, g2, v, ty, g3, g4⟩ := h.mem.loc _ hl.mem
  have e : v = u := g3
  subst e
  rw [cells_one h1] at g4
  exact ⟨r, 0, rfl, ⟨h.mem.far _ g1, fun hx => by have := hX _ hx; omega⟩, cell_at g4 rfl⟩
set_option maxRecDepth 20000 in
set_option maxHeartbeats 4000000 in
set_option synthInstance.maxSize 4000 in
set_option synthInstance.maxHeartbeats 400000 in
theorem c_oneof1 {c : UInt8} : Ctr Try.prog S1 32 [0, 0] [.is (.int .u8 (c.toNat : Int)), .pv (Tx [32, 9])] (fun _ => .is (.bool (isB c))) := by
  have h := index_B c
  refine ctr Try.func32 rfl Try.ntmps32 (by simp) (fun _ _ => by kernel_rfl) fun X w hE => ?_
  simp only [argE, Nat.zero_add, Nat.reduceAdd]
  repeat' first|kernel_rfl|apply g_seq|apply g_reg|apply g_nil|apply g_box|apply g_all|apply g_stf|apply g_stw|apply g_sto|apply g_asg|apply g_st|apply g_skip|apply g_ct|apply g_cf|apply g_ret|refine r_1 rfl ?_|apply g_cl|exact sc trivial c_index|exact st_loadV|exact st_move'|exact st_assign'|exact st_load'|exact st_geq' (by first|assumption|rfl)|exact st_loadE'|exact Cv.rfl'|intro _
set_option maxRecDepth 20000 in
set_option maxHeartbeats 4000000 in
set_option synthInstance.maxSize 4000 in
set_option synthInstance.maxHeartbeats 400000 in
theorem c_till1 {c : UInt8} : Ctr Try.prog S1 35 [0, 0] [.is (.int .u8 (c.toNat : Int)), .pv (.int .u8 10)] (fun _ => .is (.bool (n10 c))) := by
  have h : ((c.toNat : Int) != 10) = n10 c := rfl
  refine ctr Try.func35 rfl Try.ntmps35 (by simp) (fun _ _ => by kernel_rfl) fun X w hE => ?_
  simp only [argE, Nat.zero_add, Nat.reduceAdd]
  repeat' first|kernel_rfl|apply g_seq|apply g_reg|apply g_nil|apply g_box|apply g_all|apply g_stf|apply g_stw|apply g_sto|apply g_asg|apply g_st|apply g_skip|apply g_ct|apply g_cf|apply g_ret|refine r_1 rfl ?_|apply g_cl|exact st_loadV|exact st_move'|exact st_assign'|exact st_load'|exact st_neq' (by first|assumption|rfl)|exact st_loadE'|exact Cv.rfl'|intro _
set_option maxRecDepth 20000 in
set_option maxHeartbeats 4000000 in
set_option synthInstance.maxSize 4000 in
set_option synthInstance.maxHeartbeats 400000 in
theorem c_oneof : Ctr Try.prog S1 28 [0] [.is (Tx [32, 9])] (fun _ => .fp Try.prog isB) := by
  haveI : DownC fun _ => VTy.fp Try.prog isB := ⟨fun _ h => h⟩
  refine ctrX Try.func28 rfl Try.ntmps28 (by simp) (fun _ _ => by kernel_rfl) fun X w hE hX => ?_
  simp only [argE, Nat.zero_add, Nat.reduceAdd]
  repeat' first|kernel_rfl|apply g_seq|apply g_reg|apply g_nil|apply g_box|apply g_all|apply g_stf|apply g_stw|apply g_sto|apply g_asg|apply g_st|apply g_skip|apply g_ct|apply g_cf|apply g_ret|refine r_1g rfl fun a w v ht hv => ?_|apply g_cl|exact st_fnU|exact st_assign'|exact Cv.rfl'|intro _
  obtain ⟨vs, us, rfl, h1, h2⟩ := hv
  match vs, us, h1, h2 with
  | [], [q], _, h2 =>
    have e : q = _ := h2.1
    subst e
    exact ⟨_, [_], [0, 0], [.pv (Tx [32, 9])], rfl, ⟨cap_pv ht rfl hX, trivial⟩, fun c => c_oneof1⟩
set_option maxRecDepth 20000 in
set_option maxHeartbeats 4000000 in
set_option synthInstance.maxSize 4000 in
set_option synthInstance.maxHeartbeats 400000 in
theorem c_till : Ctr Try.prog S1 30 [0] [.is (.int .u8 10)] (fun _ => .fp Try.prog n10) := by
  haveI : DownC fun _ => VTy.fp Try.prog n10 := ⟨fun _ h => h⟩
  refine ctrX Try.func30 rfl Try.ntmps30 (by simp) (fun _ _ => by kernel_rfl) fun X w hE hX => ?_
  simp only [argE, Nat.zero_add, Nat.reduceAdd]
  repeat' first|kernel_rfl|apply g_seq|apply g_reg|apply g_nil|apply g_box|apply g_all|apply g_stf|apply g_stw|apply g_sto|apply g_asg|apply g_st|apply g_skip|apply g_ct|apply g_cf|apply g_ret|refine r_1g rfl fun a w v ht hv => ?_|apply g_cl|exact st_fnU|exact st_assign'|exact Cv.rfl'|intro _
  obtain ⟨vs, us, rfl, h1, h2⟩ := hv
  match vs, us, h1, h2 with
  | [], [q], _, h2 =>
    have e : q = _ := h2.1
    subst e
    exact ⟨_, [_], [0, 0], [.pv (.int .u8 10)], rfl, ⟨cap_pv ht rfl hX, trivial⟩, fun c => c_till1⟩
set_option maxRecDepth 20000 in
set_option maxHeartbeats 4000000 in
set_option synthInstance.maxSize 4000 in
set_option synthInstance.maxHeartbeats 400000 in
theorem c_run {l : List UInt8} {p : UInt8 → Bool} (hl : l.length ≤ 9223372036854775807) : Ctr Try.prog S1 22 [0, 0] [.is (Tx l), .fp Try.prog p] (fun _ => .is (.int .i64 ((l.takeWhile p).length : Int))) := by
  have hm1 := takeW_len (p := p) l
  refine ctr Try.func22 rfl Try.ntmps22 (by simp) (fun _ _ => by kernel_rfl) fun X w0 hE => ?_
  simp only [argE, Nat.zero_add, Nat.reduceAdd]
  repeat' first|kernel_rfl|apply g_seq|apply g_reg|apply g_nil|apply g_box|apply g_all|apply g_stf|apply g_stw|apply g_sto|apply g_asg|refine g_run rfl inferInstance (by first|exact st_fp (by assumption)|exact st_sidx (by assumption)|exact st_move') (by kernel_rfl) ?_|refine g_sk rfl inferInstance rfl (by kernel_rfl) ?_|refine g_un rfl inferInstance (by kernel_rfl) ?_|apply g_st|apply g_skip|apply g_ct|apply g_cf|apply g_ret|refine r_1 rfl ?_|apply g_blk|apply g_eb|apply g_ex|apply e_t|apply e_h|refine e_o rfl ?_|apply r_t|apply r_b|apply g_cl|exact st_fp (by assumption)|exact st_sadd (by assumption)|exact st_slen|exact st_sidx (by assumption)|exact st_add' (by assumption)|exact st_move'|exact st_assign'|exact st_and_t'|exact st_and_f'|exact st_lss' (by first|assumption|rfl)|exact st_len'|exact Cv.rfl'|intro _
  refine g_stop fun a w h => ?_
  refine cw_loop (fun k a u => ∃ i : Nat, i + k = (l.takeWhile p).length ∧ TS w0 X [] [(5, .is (.int .i64 (i : Int))), (4, .is (.int .i64 0)), (0, .is (Tx l)), (1, .fp Try.prog p)] 20 a u) (l.takeWhile p).length ⟨0, by omega, h.keep [5, 4, 0, 1]⟩ ?_
  clear h
  rintro k a u ⟨i, hi, h⟩
  by_cases hlt : i < (l.takeWhile p).length
  · obtain ⟨c, hx, hd⟩ := takeW_in hlt
    have hc : decide ((i : Int) < (l.length : Int)) = true := decide_eq_true (by omega)
    have hix : 0 ≤ (i : Int) ∧ l[(i : Int).toNat]? = some c := ⟨by omega, hx⟩
    have hw : IntKind.i64.wrap ((i : Int) + 1) = ((i + 1 : Nat) : Int) := i64_small (by omega) (by omega)
    refine g_of h ?_
    clear h
    repeat' first|kernel_rfl|exact g_done fun _ _ h=>⟨k - 1, by omega, i + 1, by omega, h.keep [5, 4, 0, 1]⟩|apply g_seq|apply g_reg|apply g_nil|apply g_box|apply g_all|apply g_stf|apply g_stw|apply g_sto|apply g_asg|refine g_run rfl inferInstance (by first|exact st_fp (by assumption)|exact st_sidx (by assumption)|exact st_move') (by kernel_rfl) ?_|refine g_sk rfl inferInstance rfl (by kernel_rfl) ?_|refine g_un rfl inferInstance (by kernel_rfl) ?_|apply g_st|apply g_skip|apply g_ct|apply g_cf|apply g_ret|refine r_1 rfl ?_|apply g_blk|apply g_eb|apply g_ex|apply e_t|apply e_h|refine e_o rfl ?_|apply r_t|apply r_b|apply g_cl|exact st_fp (by assumption)|exact st_sadd (by assumption)|exact st_slen|exact st_sidx (by assumption)|exact st_add' (by assumption)|exact st_move'|exact st_assign'|exact st_and_t'|exact st_and_f'|exact st_lss' (by first|assumption|rfl)|exact st_len'|exact Cv.rfl'|intro _
  · obtain rfl : i = (l.takeWhile p).length := by omega
    have hcs : decide ((((l.takeWhile p).length : Nat) : Int) < (l.length : Int)) = false ∨ (decide ((((l.takeWhile p).length : Nat) : Int) < (l.length : Int)) = true ∧ ∃ c : UInt8, (0 ≤ (((l.takeWhile p).length : Nat) : Int) ∧ l[(((l.takeWhile p).length : Nat) : Int).toNat]? = some c) ∧ p c = false) := by
      by_cases hq : (l.takeWhile p).length < l.length
      · obtain ⟨c, hx, hd⟩ := takeW_end hq
        exact .inr ⟨decide_eq_true (by omega), c, ⟨by omega, hx⟩, hd⟩
      · exact .inl (decide_eq_false (by omega))
    generalize (((l.takeWhile p).length : Nat) : Int) = j at *
    rcases hcs with hc | ⟨hc, c, hx, c1⟩
    all_goals
      refine g_of h ?_
      clear h
      repeat' first|kernel_rfl|apply g_seq|apply g_reg|apply g_nil|apply g_box|apply g_all|apply g_stf|apply g_stw|apply g_sto|apply g_asg|refine g_run rfl inferInstance (by first|exact st_fp (by assumption)|exact st_sidx (by assumption)|exact st_move') (by kernel_rfl) ?_|refine g_sk rfl inferInstance rfl (by kernel_rfl) ?_|refine g_un rfl inferInstance (by kernel_rfl) ?_|apply g_st|apply g_skip|apply g_ct|apply g_cf|apply g_ret|refine r_1 rfl ?_|apply g_blk|apply g_eb|apply g_ex|apply e_t|apply e_h|refine e_o rfl ?_|apply r_t|apply r_b|apply g_cl|exact st_fp (by assumption)|exact st_sadd (by assumption)|exact st_slen|exact st_sidx (by assumption)|exact st_add' (by assumption)|exact st_move'|exact st_assign'|exact st_and_t'|exact st_and_f'|exact st_lss' (by first|assumption|rfl)|exact st_len'|exact Cv.rfl'|intro _
theorem tw_all {p : UInt8 → Bool} (l : List UInt8) : (((l.takeWhile p).length : Int) == (l.length : Int)) = l.all p := by
  rw [Bool.eq_iff_iff, beq_iff_eq]
  constructor
  · intro h
    have h1 := tdW p l
    have h2 : l.dropWhile p = [] := List.length_eq_zero_iff.1 (by omega)
    exact dropW_nil.1 h2
  · intro h
    have h1 := tdW p l
    rw [dropW_nil.2 h] at h1
    simp at h1
    omega
theorem c_runW {l : List UInt8} (hl : l.length ≤ 9223372036854775807) : Ctr Try.prog S1 22 [0, 0] [.is (Tx l), .fv 23 [] []] (fun _ => .is (.int .i64 ((l.takeWhile isW).length : Int))) := (c_run (p := isW) hl).args fun {X w vs} h => by
  obtain ⟨v, u, rfl, h1, h2⟩ := h.two
  exact ⟨h1, fp_of (fun c => c_inword) h2, trivial⟩
set_option maxRecDepth 20000 in
set_option maxHeartbeats 4000000 in
set_option synthInstance.maxSize 4000 in
set_option synthInstance.maxHeartbeats 400000 in
theorem c_is {l : List UInt8} (hl : l.length ≤ 9223372036854775807) : Ctr Try.prog S1 13 [0] [.is (Tx l)] (fun _ => .is (.bool (isWd l))) := by
  have h1 := tw_all (p := isW) l
  unfold isWd
  generalize l.all isW = v at *
  cases h0 : (!(l == []))
  all_goals
    refine ctr Try.func13 rfl Try.ntmps13 (by simp) (fun _ _ => by kernel_rfl) fun X w hE => ?_
    simp only [argE, Nat.zero_add, Nat.reduceAdd]
    repeat' first|kernel_rfl|apply g_seq|apply g_reg|apply g_nil|apply g_box|apply g_all|apply g_stf|apply g_stw|apply g_sto|apply g_asg|refine g_run rfl inferInstance (by first|exact sc trivial (c_runW hl)|exact st_slen|exact st_seq (by first|assumption|rfl)|exact st_move'|exact st_eq' (by first|assumption|rfl)|exact st_len') (by kernel_rfl) ?_|refine g_sk rfl inferInstance rfl (by kernel_rfl) ?_|refine g_un rfl inferInstance (by kernel_rfl) ?_|apply g_st|apply g_skip|apply g_ct|apply g_cf|apply g_ret|refine r_1 rfl ?_|apply g_cl|exact sc trivial (c_runW hl)|exact st_slen|exact st_seq (by first|assumption|rfl)|exact st_sne (by first|assumption|rfl)|exact st_move'|exact st_assign'|exact st_and_t'|exact st_and_f'|exact st_eq' (by first|assumption|rfl)|exact st_neq' (by first|assumption|rfl)|exact st_len'|exact Cv.rfl'|intro _
set_option maxRecDepth 20000 in
set_option maxHeartbeats 4000000 in
set_option synthInstance.maxSize 4000 in
set_option synthInstance.maxHeartbeats 400000 in
theorem c_more {s : List UInt8} {a : Int} {b : Bool} (hb : decide (a < (s.length : Int)) = b) : Ctr Try.prog S1 19 [0] [.pcs [Tx s, .int .i64 a]] (fun _ => .is (.bool b)) := by
  refine ctr Try.func19 rfl Try.ntmps19 (by simp) (fun _ _ => by kernel_rfl) fun X w hE => ?_
  simp only [argE, Nat.zero_add, Nat.reduceAdd]
  repeat' first|kernel_rfl|apply g_seq|apply g_reg|apply g_nil|apply g_draw (id:=1) [] [] 10|apply o_all|apply o_go|exact OpsT.nil|exact GuardC.nil|exact UndefC.nil|apply g_box|apply g_all|apply g_stf|apply g_stw|apply g_sto|apply g_asg|apply g_st|apply g_skip|apply g_ct|apply g_cf|apply g_ret|refine r_1 rfl ?_|apply g_cl|exact st_nilP|exact st_fldP|exact st_loadV|exact st_slen|exact st_nilc|exact st_move'|exact st_assign'|exact st_load'|exact st_fieldAddr'|exact st_lss' (by first|assumption|rfl)|exact st_len'|exact st_loadE'|exact Cv.rfl'|(intro _;simp only[newX,newL,ptrs,List.map,List.cons_append,List.nil_append])|intro _
set_option maxRecDepth 20000 in
set_option maxHeartbeats 4000000 in
set_option synthInstance.maxSize 4000 in
set_option synthInstance.maxHeartbeats 400000 in
theorem c_stands0 {s : List UInt8} {a k : Int} (hb : decide (a < (s.length : Int)) = false) : Ctr Try.prog S1 21 [0, 0] [.pcs [Tx s, .int .i64 a], .is (.int .u8 k)] (fun _ => .is (.bool false)) := by
  refine ctr Try.func21 rfl Try.ntmps21 (by simp) (fun _ _ => by kernel_rfl) fun X w hE => ?_
  simp only [argE, Nat.zero_add, Nat.reduceAdd]
  repeat' first|kernel_rfl|apply g_seq|apply g_reg|apply g_nil|apply g_draw (id:=1) [(7, false)] [] 15|(apply o_sk;(focus rfl);(focus kernel_rfl))|apply o_all|apply o_go|exact OpsT.nil|exact GuardC.nil|exact UndefC.nil|refine @GuardC.cons _ _ _ _ inferInstance ?_|refine @UndefC.cons _ _ _ inferInstance ?_|apply g_box|apply g_all|apply g_stf|apply g_stw|apply g_sto|apply g_asg|refine g_run rfl inferInstance (by first|fail) (by kernel_rfl) ?_|refine g_sk rfl inferInstance rfl (by kernel_rfl) ?_|refine g_un rfl inferInstance (by kernel_rfl) ?_|apply g_st|apply g_skip|apply g_ct|apply g_cf|apply g_ret|refine r_1 rfl ?_|apply g_cl|exact sc trivial (c_more hb)|exact st_nilP|exact st_fldP|exact st_loadV|exact st_seq (by first|assumption|rfl)|exact st_sidx (by assumption)|exact st_nilc|exact st_move'|exact st_assign'|exact st_load'|exact st_fieldAddr'|exact st_and_t'|exact st_and_f'|exact st_eq' (by first|assumption|rfl)|exact st_loadE'|exact Cv.rfl'|(intro _;simp only[newX,newL,ptrs,List.map,List.cons_append,List.nil_append])|intro _
set_option maxRecDepth 20000 in
set_option maxHeartbeats 4000000 in
set_option synthInstance.maxSize 4000 in
set_option synthInstance.maxHeartbeats 400000 in
theorem c_stands1 {s : List UInt8} {a k : Int} {c : UInt8} {b : Bool} (hb : decide (a < (s.length : Int)) = true) (hx : 0 ≤ a ∧ s[a.toNat]? = some c) (h : ((c.toNat : Int) == k) = b) : Ctr Try.prog S1 21 [0, 0] [.pcs [Tx s, .int .i64 a], .is (.int .u8 k)] (fun _ => .is (.bool b)) := by
  refine ctr Try.func21 rfl Try.ntmps21 (by simp) (fun _ _ => by kernel_rfl) fun X w hE => ?_
  simp only [argE, Nat.zero_add, Nat.reduceAdd]
  repeat' first|kernel_rfl|apply g_seq|apply g_reg|apply g_nil|apply g_draw (id:=1) [(7, true)] [] 15|apply o_all|apply o_go|exact OpsT.nil|exact GuardC.nil|exact UndefC.nil|refine @GuardC.cons _ _ _ _ inferInstance ?_|refine @UndefC.cons _ _ _ inferInstance ?_|apply g_box|apply g_all|apply g_stf|apply g_stw|apply g_sto|apply g_asg|refine g_run rfl inferInstance (by first|fail) (by kernel_rfl) ?_|refine g_sk rfl inferInstance rfl (by kernel_rfl) ?_|refine g_un rfl inferInstance (by kernel_rfl) ?_|apply g_st|apply g_skip|apply g_ct|apply g_cf|apply g_ret|refine r_1 rfl ?_|apply g_cl|exact sc trivial (c_more hb)|exact st_nilP|exact st_fldP|exact st_loadV|exact st_seq (by first|assumption|rfl)|exact st_sidx (by assumption)|exact st_nilc|exact st_move'|exact st_assign'|exact st_load'|exact st_fieldAddr'|exact st_and_t'|exact st_and_f'|exact st_eq' (by first|assumption|rfl)|exact st_loadE'|exact Cv.rfl'|(intro _;simp only[newX,newL,ptrs,List.map,List.cons_append,List.nil_append])|intro _
theorem cut_mid (s : List UInt8) (p : UInt8 → Bool) (i : Nat) : (s.take (i + ((s.drop i).takeWhile p).length)).drop i = (s.drop i).takeWhile p := by
  rw [List.drop_take, Nat.add_sub_cancel_left]
  exact takeW_take _
set_option maxRecDepth 20000 in
set_option maxHeartbeats 4000000 in
set_option synthInstance.maxSize 4000 in
set_option synthInstance.maxHeartbeats 400000 in
theorem c_taken {s : List UInt8} {i : Nat} {p : UInt8 → Bool} (hs : s.length ≤ 1000000) (hi : i ≤ s.length) : PtB Try.prog S1 27 (.cs [Tx s, .int .i64 (i : Int)]) [0] [.fp Try.prog p] (.cs [Tx s, .int .i64 ((i + ((s.drop i).takeWhile p).length : Nat) : Int)]) (fun _ => .is (Tx ((s.drop i).takeWhile p))) := by
  have hm := takeW_len (p := p) (s.drop i)
  have hd : (s.drop i).length = s.length - i := List.length_drop
  have hc := c_run (l := s.drop i) (p := p) (by omega)
  have hcut := cut_mid s p i
  generalize hn : ((s.drop i).takeWhile p).length = n at *
  rw [← hcut]
  have hw : IntKind.i64.wrap ((i : Int) + (n : Int)) = ((i + n : Nat) : Int) := i64_small (by omega) (by omega)
  have hx : 0 ≤ (i : Int) ∧ (i : Int) ≤ (s.length : Int) := ⟨by omega, by omega⟩
  have hy : 0 ≤ (i : Int) ∧ (i : Int) ≤ ((i + n : Nat) : Int) ∧ ((i + n : Nat) : Int) ≤ (s.length : Int) := ⟨by omega, by omega, by omega⟩
  clear hn hm hd hcut
  refine ptb Try.func27 rfl Try.ntmps27 (by simp) (fun _ _ => by kernel_rfl) fun w00 X L0 r wS hG hm => ?_
  simp only [argE, Nat.zero_add, Nat.reduceAdd, List.cons_append, List.nil_append]
  repeat' first|kernel_rfl|apply g_seq|apply g_reg|apply g_nil|apply g_draw (id:=2) [] [] 15|apply g_draw (id:=3) [] [] 10|apply o_all|apply o_go|exact OpsT.nil|exact GuardC.nil|exact UndefC.nil|apply g_box|apply g_all|apply g_stf|apply g_stw|apply g_sto|apply g_asg|apply g_st|apply g_skip|apply g_ct|apply g_cf|apply g_ret|refine rn_1 rfl hm ?_|apply g_cl|exact sc trivial hc|exact st_ssub (by assumption)|exact st_sadd (by assumption)|exact st_sto (by assumption)|exact st_sfrom (by assumption)|exact st_nilc|exact st_add' (by assumption)|exact st_move'|exact st_assign'|exact st_load'|exact st_fieldAddr'|exact st_loadE'|exact Cv.rfl'|(intro _;simp only[newX,newL,ptrs,List.map,List.cons_append,List.nil_append])|intro _
/-- Rows that lie at the head of a block of their own type; what lies from block B on. -/
def Rp.own {α : Type} (r : Rp α) (e : TypeId) : Rp (List α) := ⟨1, fun w S l cs => ∃ A n c, cs = [.slice A n c] ∧ SlR r w S A n c l ∧ ∀ b o, A = some ⟨b, o, none⟩ → 0 < n → o = 0 ∧ ∃ cur, w.heap[b]? = some (.cells cur e (0, 0)),
  fun ⟨_, _, _, h, _⟩ => by rw [h]; rfl, fun ⟨_, _, _, h, _⟩ v hv => by rw [h, List.mem_singleton] at hv; rw [hv]; rfl,
  fun ⟨A, n, c, e, h, g⟩ hk => ⟨A, n, c, e, h.keep hk, fun b o hA hn => by
    obtain ⟨h1, cur, h2⟩ := g b o hA hn
    obtain ⟨b', o', hA', hS, _⟩ := h.2.2.2.2 hn
    rw [hA] at hA'
    injection hA' with hA'
    injection hA' with hb _
    subst hb
    exact ⟨h1, cur, (hk _ hS).trans h2⟩⟩, fun ⟨A, n, c, e, h, g⟩ hB => ⟨A, n, c, e, h.more hB, g⟩⟩
def Rp.frm {α : Type} (B : Nat) (r : Rp α) : Rp α := ⟨r.k, fun w S a cs => r.rd w (fun b => S b ∧ B ≤ b) a cs, r.len, r.one, fun h hk => r.keep h fun b hb => hk b hb.1, fun h hk => r.more h fun b hb => ⟨hk b hb.1, hb.2⟩⟩
abbrev Rp.wd : Rp Wd := Rp.str.pair (Rp.int .i64)
abbrev Rp.lr : Rp Ln := Rp.wd.row.pair (Rp.int .i64)
abbrev Rp.lo (e : TypeId) (B : Nat) : Rp Ln := .frm B ((Rp.own Rp.wd e).pair (Rp.int .i64))
instance {α : Type} {r : Rp α} {e : TypeId} : K1 (r.own e) := ⟨rfl⟩
/-- Who reads so reads so, too. -/
class RpLe {α : Type} (r r' : Rp α) : Prop where
  k : r.k = r'.k
  ok : ∀ {w S a cs}, r.rd w S a cs → r'.rd w S a cs
instance {α : Type} {r : Rp α} : RpLe r r := ⟨rfl, fun h => h⟩
theorem SlR.le {α : Type} {r r' : Rp α} [l : RpLe r r'] {w : World} {S : Nat → Prop} {A : Option Addr} {n c : Nat} {xs : List α} (h : SlR r w S A n c xs) : SlR r' w S A n c xs := by
  obtain ⟨h1, h2, h3, h4, h5⟩ := h
  refine ⟨h1, h2, h3, h4, fun hn => ?_⟩
  obtain ⟨b, off, hA, hb, hc⟩ := h5 hn
  refine ⟨b, off, hA, hb, fun j a ha => ?_⟩
  obtain ⟨cs, g1, g2⟩ := hc j a ha
  exact ⟨cs, by rw [← l.k]; exact g1, l.ok g2⟩
instance RpLe.frm {α : Type} {B : Nat} {r r' : Rp α} [l : RpLe r r'] : RpLe (r.frm B) r' := ⟨l.k, fun h => l.ok (r.more h fun _ hb => hb.1)⟩
instance RpLe.own {α : Type} {r : Rp α} {e : TypeId} : RpLe (r.own e) r.row := ⟨rfl, fun ⟨A, n, c, h, g, _⟩ => ⟨A, n, c, h, g⟩⟩
instance RpLe.pair {α β : Type} {r r' : Rp α} {s s' : Rp β} [l : RpLe r r'] [m : RpLe s s'] : RpLe (r.pair s) (r'.pair s') := ⟨by show r.k + s.k = r'.k + s'.k; rw [l.k, m.k], fun ⟨c1, c2, e, h1, h2⟩ => ⟨c1, c2, e, l.ok h1, m.ok h2⟩⟩
theorem rw_le {α : Type} {r r' : Rp α} [l : RpLe r r'] {p : α → Prop} {xs : List α} {X : List Nat} {w : World} {v : Value} (h : (VTy.rw r p xs).holds X w v) : (VTy.rw r' tt xs).holds X w v := by
  obtain ⟨_, A, n, c, e, h⟩ := h
  exact ⟨fun _ _ => trivial, A, n, c, e, h.le⟩
/-- As a row of lines that is read. -/
class AsL (T : VTy) (l : outParam (List Ln)) : Prop where
  ok : ∀ {X : List Nat} {w : World} {v : Value}, T.holds X w v → (VTy.rw Rp.lr tt l).holds X w v
instance {l : List Ln} : AsL (.rw Rp.lr tt l) l := ⟨fun h => h⟩
instance {e : TypeId} {B : Nat} {l : List Ln} : AsL (.rw (Rp.lo e B) tt l) l := ⟨fun h => rw_le h⟩
instance {e e2 : TypeId} {B B2 : Nat} {p : Ln → Prop} {l : List Ln} : AsL (.ow (Rp.lo e B) e2 p B2 l) l := ⟨fun h => rw_le (ow_rw h)⟩
instance {B : Nat} {T : VTy} {l : List Ln} [a : AsL T l] : AsL (.und B T) l := ⟨fun h => a.ok (und_weak h)⟩
instance {T : VTy} {l : List Ln} [a : AsL T l] : AsK 20 T (.rw Rp.lr tt l) := ⟨a.ok⟩
/-- A variable, or a value, of a row of the call's own and a number; one whose row has a name; one whose row is not told any more. -/
def VTy.lnb (e : TypeId) (B : Nat) (ws : List Wd) (a : Int) : VTy := ⟨fun X w v => ∃ sv, v = .agg #[sv, .int .i64 a] ∧ (VTy.ow Rp.wd e tt B ws).holds X w sv, fun ⟨sv, e, h⟩ hk hX => ⟨sv, e, (VTy.ow _ _ _ _ _).stable h hk hX⟩⟩
def VTy.lns (sv : Value) (e : TypeId) (B : Nat) (ws : List Wd) (a : Int) : VTy := ⟨fun X w v => v = .agg #[sv, .int .i64 a] ∧ (VTy.ow Rp.wd e tt B ws).holds X w sv, fun ⟨e, h⟩ hk hX => ⟨e, (VTy.ow _ _ _ _ _).stable h hk hX⟩⟩
def VTy.lnj (a : Int) : VTy := ⟨fun _ _ v => ∃ sv : Value, v = .agg #[sv, .int .i64 a] ∧ sv.oneCell' = true, fun h _ _ => h⟩
def VTy.ows (sv : Value) (e : TypeId) (B : Nat) (ws : List Wd) : VTy := ⟨fun X w v => v = sv ∧ (VTy.ow Rp.wd e tt B ws).holds X w sv, fun ⟨e, h⟩ hk hX => ⟨e, (VTy.ow _ _ _ _ _).stable h hk hX⟩⟩
/-- The address of a word of it. -/
def VTy.oes (sv : Value) (e : TypeId) (B : Nat) (ws : List Wd) (j : Nat) : VTy := ⟨fun X w v => (∃ g n c, sv = .slice (some ⟨g, 0, none⟩) n c ∧ v = .pointer (some ⟨g, j * 2, none⟩)) ∧ (VTy.ow Rp.wd e tt B ws).holds X w sv, fun ⟨e, h⟩ hk hX => ⟨e, (VTy.ow _ _ _ _ _).stable h hk hX⟩⟩
theorem ow_one {α : Type} {r : Rp α} {e : TypeId} {p : α → Prop} {B : Nat} {l : List α} {X : List Nat} {w : World} {v : Value} (h : (VTy.ow r e p B l).holds X w v) : v.oneCell' = true := by
  obtain ⟨A, c, ps, rfl, _⟩ := h
  rfl
theorem lns_lnb {sv : Value} {e : TypeId} {B : Nat} {ws : List Wd} {a : Int} {X : List Nat} {w : World} {v : Value} (h : (VTy.lns sv e B ws a).holds X w v) : (VTy.lnb e B ws a).holds X w v := ⟨sv, h.1, h.2⟩
theorem lnb_lnj {e : TypeId} {B : Nat} {ws : List Wd} {a : Int} {X : List Nat} {w : World} {v : Value} (h : (VTy.lnb e B ws a).holds X w v) : (VTy.lnj a).holds X w v := by
  obtain ⟨sv, e, h⟩ := h
  exact ⟨sv, e, ow_one h⟩
theorem lnj_size {a : Int} {X : List Nat} {w : World} {v : Value} (h : (VTy.lnj a).holds X w v) : v.cells.size = 2 ∧ v.cells.all (·.oneCell') = true ∧ (true = true → v = .agg v.cells) ∧ (true = false → v.cells = #[v]) := by
  obtain ⟨sv, rfl, h1⟩ := h
  exact ⟨rfl, by simp [Value.cells, h1, show (Value.int .i64 a).oneCell' = true from rfl], fun _ => rfl, fun h => by cases h⟩
instance {a : Int} : SizeV (.lnj a) 2 true := ⟨lnj_size⟩
instance {e : TypeId} {B : Nat} {ws : List Wd} {a : Int} : SizeV (.lnb e B ws a) 2 true := ⟨fun h => lnj_size (lnb_lnj h)⟩
instance {sv : Value} {e : TypeId} {B : Nat} {ws : List Wd} {a : Int} : SizeV (.lns sv e B ws a) 2 true := ⟨fun h => lnj_size (lnb_lnj (lns_lnb h))⟩
instance {e : TypeId} {B : Nat} {ws : List Wd} {a : Int} : PartC (.lnb e B ws a) 0 1 false (.ow Rp.wd e tt B ws) := ⟨fun _ => rfl, fun {X w u} ⟨sv, e, h⟩ => ⟨[sv], rfl, fun j x hj => by
    subst e
    have : j = 0 ∧ x = sv := by cases j with | zero => exact ⟨rfl, by simpa using hj.symm⟩ | succ j => simp at hj
    rw [this.1, this.2]; rfl, fun x _ hx => by have := hx rfl; simp at this; rw [← this]; exact h⟩⟩
instance {sv : Value} {e : TypeId} {B : Nat} {ws : List Wd} {a : Int} : PartC (.lns sv e B ws a) 0 1 false (.ows sv e B ws) := ⟨fun _ => rfl, fun {X w u} ⟨e, h⟩ => ⟨[sv], rfl, fun j x hj => by
    subst e
    have : j = 0 ∧ x = sv := by cases j with | zero => exact ⟨rfl, by simpa using hj.symm⟩ | succ j => simp at hj
    rw [this.1, this.2]; rfl, fun x _ hx => by have := hx rfl; simp at this; rw [← this]; exact ⟨rfl, h⟩⟩⟩
instance {e : TypeId} {B : Nat} {ws : List Wd} {a : Int} : PartC (.lnb e B ws a) 1 1 false (.is (.int .i64 a)) := ⟨fun _ => rfl, fun {X w u} ⟨sv, e, h⟩ => ⟨[.int .i64 a], rfl, fun j x hj => by
    subst e
    have : j = 0 ∧ x = .int .i64 a := by cases j with | zero => exact ⟨rfl, by simpa using hj.symm⟩ | succ j => simp at hj
    rw [this.1, this.2]; rfl, fun x _ hx => by have := hx rfl; simp at this; exact this.symm⟩⟩
instance {e : TypeId} {B : Nat} {ws : List Wd} {a : Int} : PartC (.lnb e B ws a) 0 2 true (.lnb e B ws a) := ⟨(fun h => by cases h), fun {X w u} h => by
  obtain ⟨sv, e1, h1⟩ := h
  refine ⟨[sv, .int .i64 a], rfl, fun j x hj => by subst e1; rw [Nat.zero_add]; simpa [Value.cells] using hj, fun x hx _ => ?_⟩
  rw [hx rfl]
  exact ⟨sv, rfl, h1⟩⟩
instance {e : TypeId} {ws : List Wd} {a : Int} : DownC fun B => .lnb e B ws a := ⟨fun hB ⟨sv, e1, A, c, ps, h1, h2, h3, h4, h5⟩ => ⟨sv, e1, A, c, ps, h1, h2, h3, h4.lower hB, h5⟩⟩
instance {e e2 : TypeId} {l : List Ln} : DownC fun B => .ow (Rp.lo e B) e2 tt B l := ⟨fun hB ⟨A, c, ps, h1, h2, h3, h4, h5⟩ => ⟨A, c, ps, h1, h2, fun q hq => ⟨(h3 q hq).1, ((Rp.own Rp.wd e).pair (Rp.int .i64)).more (h3 q hq).2 fun b hb => ⟨hb.1, Nat.le_trans hB hb.2⟩⟩, h4.lower hB, h5⟩⟩
/-- What is no row of its own: of different types. -/
class NeC (a b : TypeId) : Prop where
  ne : a ≠ b
/-- A struct whose rows lie in blocks of another type. -/
class KxC (e : TypeId) (T : VTy) {α : outParam Type} (r : outParam (Rp α)) (a : outParam α) : Prop where
  ok : ∀ {X : List Nat} {w : World} {v : Value}, T.holds X w v → ∃ cs : List Value, v = .agg cs.toArray ∧ r.rd w (FreeK e X w) a cs
instance {e : TypeId} {t : List UInt8} {a : Int} : KxC e (.is (.agg #[Tx t, .int .i64 a])) Rp.wd (t, a) := ⟨fun h => ⟨[Tx t, .int .i64 a], h, [Tx t], [.int .i64 a], rfl, ⟨_, rfl, data_mk t⟩, rfl⟩⟩
theorem wd_any {w w' : World} {S S' : Nat → Prop} {a : Wd} {cs : List Value} (h : Rp.wd.rd w S a cs) : Rp.wd.rd w' S' a cs := h
theorem ow_own {e e2 : TypeId} {B : Nat} {l : List Wd} {X : List Nat} {w : World} {v : Value} (hne : e ≠ e2) (h : (VTy.ow Rp.wd e tt B l).holds X w v) : (Rp.own Rp.wd e).rd w (fun b => FreeK e2 X w b ∧ B ≤ b) l [v] := by
  obtain ⟨A, c, ps, rfl, rfl, h3, h4, h5, _⟩ := h
  refine ⟨A, _, c, rfl, ?_, fun b o hA hn => ?_⟩
  · obtain ⟨g1, g2, g3, g4, g5⟩ := h4.sl
    refine ⟨rfl, g2, g3, g4, fun hn => ?_⟩
    obtain ⟨b, off, rfl, hb, hc⟩ := g5 hn
    obtain ⟨cur, hcur⟩ := h4.type (g := b) rfl
    refine ⟨b, off, rfl, ⟨⟨h5 b rfl, cur, e, (0, 0), hcur, hne⟩, (h4.blk_ b rfl).1⟩, fun j a ha => ?_⟩
    rw [List.getElem?_map] at ha
    cases hq : ps[j]? with
    | none => rw [hq] at ha; cases ha
    | some q =>
      rw [hq] at ha
      obtain rfl : q.1 = a := by simpa using ha
      refine ⟨q.2, fun i u hu => ?_, wd_any (h3 q (List.mem_of_getElem? hq)).2⟩
      have := hc (j * Rp.wd.k + i) u (flat_get (fun q hq => Rp.wd.len (h3 q hq).2) hq hu)
      rw [Nat.add_assoc]
      exact this
  · rcases h4.form with ⟨rfl, h0, _⟩ | ⟨g, rfl, _⟩
    · cases hA
    · injection hA with hA
      injection hA with hb ho _
      subst hb
      exact ⟨ho.symm, h4.type rfl⟩
instance {e e2 : TypeId} {B : Nat} {ws : List Wd} {a : Int} [n : NeC e e2] : KxC e2 (.lnb e B ws a) (Rp.lo e B) (ws, a) := ⟨fun {X w v} ⟨sv, hv, h⟩ => ⟨[sv, .int .i64 a], hv, [sv], [.int .i64 a], rfl, ow_own n.ne h, rfl⟩⟩
/-- A slot that is a row of the call's own, whatever else is told of it. -/
class AsOw (T : VTy) {α : outParam Type} (r : outParam (Rp α)) (e : outParam TypeId) (p : outParam (α → Prop)) (B : outParam Nat) (l : outParam (List α)) : Prop where
  ok : ∀ {X : List Nat} {w : World} {v : Value}, T.holds X w v → (VTy.ow r e p B l).holds X w v
instance {α : Type} {r : Rp α} {e : TypeId} {p : α → Prop} {B : Nat} {l : List α} : AsOw (.ow r e p B l) r e p B l := ⟨fun h => h⟩
instance {α : Type} {r : Rp α} {e : TypeId} {p : α → Prop} {B B2 : Nat} {l : List α} {T : VTy} [a : AsOw T r e p B l] : AsOw (.und B2 T) r e p B l := ⟨fun h => a.ok (und_weak h)⟩
instance {X0 : List Nat} {w0 : World} : SurvU w0.heap.size (.gh X0 w0) := ⟨fun {X w w' v} ⟨h1, h2⟩ hs => ⟨h1, Nat.le_trans h2.size hs.size, fun b hb hx => by
  have e := h2.block b hb hx
  rcases hs.block b (Nat.lt_of_lt_of_le hb h2.size) with g | ⟨g, _⟩
  · exact g.trans e
  · omega⟩⟩
instance {B : Nat} {c : List Value} : SurvU B (.cs c) := ⟨fun h _ => h⟩
instance {B : Nat} {a : Int} : SurvU B (.lnj a) := ⟨fun h _ => h⟩
instance {B : Nat} : SurvU B VTy.any := ⟨fun h _ => h⟩
section
variable {P : Program} {w00 : World} {X : List Nat} {L L' : List Loc} {E E0 : List (Nat × VTy)} {n : Nat} {ops : Array Oper} {rest : List Oper} {Q : Exit → Act → World → Prop} {cs : List Code} {t0 : TypeId} {pos : String} {af : Array Edge}
/-- Variables are seen otherwise, in the midst of a region, or ahead of one. -/
theorem g_locR (hl : LocsLe L L') (h : GR P w00 X L' E n ops rest cs Q) : GR P w00 X L E n ops rest cs Q := ⟨fun a w ht => h.run a w (ht.locs hl)⟩
/-- APPEND OF ONE ELEMENT to a row of the call's own: what else is kept hangs on nothing from block B on. -/
theorem g_app {α : Type} {r : Rp α} {e t : TypeId} {p : α → Prop} {B s x d bytes : Nat} {l : List α} {y : α} {Ts : VTy} (ss : List Nat) (hB0 : w00.heap.size ≤ B) (hsz : ∀ a w, TS w00 X L E n a w → B ≤ w.heap.size) [hs : Look E s Ts] [ao : AsOw Ts r e p B l] [hx : Look E x (.r1 r e p y)] [k : KeepC E ss E0] [kL : SurvUL B L] [kE : SurvUL B E0] (T : ElemV P t e r.k bytes)
    (hlen : l.length ≤ 1000000) (hby : bytes ≤ 1000) (hd : (Nat.blt d n && !(E0.map Prod.fst).elem d) = true)
    (h : GR P w00 X L ((d, .ow r e p B (l ++ [y])) :: E0) n ops rest cs Q) : GR P w00 X L E n ops (⟨some d, .call { callee := .builtin .append, args := #[.tmp s, .tmp x], argTypes := #[t, t] }, t0, pos, af, none⟩ :: rest) cs Q := ⟨fun a w ht => by
  simp only [Bool.and_eq_true, Bool.not_eq_true'] at hd
  have hBw := hsz a w ht
  obtain ⟨A, c, ps, es, hps, hrd, hown, hfree, _⟩ := ao.ok (ht.slots _ hs.mem)
  obtain ⟨hp, b, o, cs', ex, hb, hra, hrc⟩ := ht.slots _ hx.mem
  have hcl := r.len hrc
  have hpos := T.pos
  have hmx : l.length + 1 ≤ maxLen := by unfold maxLen; omega
  have hsl : SlV r.k w w.heap.size (some ⟨b, o, none⟩) 1 1 cs' := ⟨by rw [hcl]; omega, Nat.le_refl _, by unfold maxLen; omega, (fun h => by cases h), fun _ => ⟨b, o, rfl, hb.1, fun j u hu => hra j u hu⟩⟩
  obtain ⟨A', c', w', hr, h2, h3, h4⟩ := run_appV (A := A) (A2 := some ⟨b, o, none⟩) T t0 hown hsl (r.one hrc) (by have := Nat.mul_le_mul (show l.length + 1 ≤ 1000001 by omega) hby; omega) hmx hBw
  have hch : Ch B X w w' := ⟨h3.os, h3.tape, h3.output, h3.size, fun g hg => by
    by_cases hA : blk A = some g
    · exact .inr ⟨(hown.blk_ g hA).1, (hfree g hA).2⟩
    · exact .inl (h3.block g hg (fun e => hA e.symm))⟩
  have hkK : ∀ g, FreeK e X w g → w'.heap[g]? = w.heap[g]? := fun g hg => h3.block g hg.1.1 (fun e' => by
    obtain ⟨cur, hcur⟩ := hown.type e'.symm
    obtain ⟨_, cs', t', f', h5, h6⟩ := hg
    rw [hcur] at h5
    injection h5 with h5
    injection h5 with _ h5 _
    exact h6 h5.symm)
  have hmoreK : ∀ g, FreeK e X w g → FreeK e X w' g := fun g hg => by
    obtain ⟨h1, cs', t', f', h5, h6⟩ := hg
    exact ⟨⟨Nat.lt_of_lt_of_le h1.1 h3.size, h1.2⟩, cs', t', f', (hkK g ⟨h1, cs', t', f', h5, h6⟩).trans h5, h6⟩
  have hT : (VTy.ow r e p B (l ++ [y])).holds X w' (.slice A' (l.length + 1) c') := by
    refine ⟨A', c', ps ++ [(y, cs')], by simp, by simp [hps], fun q hq => ?_, by simpa using h2, fun g hg => ?_, fun h => by simp at h⟩
    · rcases List.mem_append.1 hq with hq | hq
      · exact ⟨(hrd q hq).1, r.more (r.keep (hrd q hq).2 hkK) hmoreK⟩
      · rw [List.mem_singleton.1 hq]
        exact ⟨hp, r.more (r.keep hrc hkK) hmoreK⟩
    · have hlt := (h2.blk_ g hg).2
      rcases h4 g hg with h5 | h5
      · exact ⟨hlt, (hfree g h5).2⟩
      · exact ⟨hlt, fun hx => by have := ht.mem.far g hx; omega⟩
  have h5 := (ht.keep (E' := E0) ss).ch hch hB0
  refine ⟨wpList_plain rfl fun K hK' => ?_⟩
  have e1 : a.eval (.tmp s) = .slice A l.length c := es
  have e2 : a.eval (.tmp x) = .slice (some ⟨b, o, none⟩) 1 1 := ex
  unfold Oper.wp execOp
  simp only [resolve, invoke, builtin, Sem.run_bind, Sem.run_pure, Result.andThen_ok, List.map_toArray, List.map_cons, List.map_nil, e1, e2, hr]
  exact hK' _ _ (h.run _ _ (h5.new hd.2 (by rw [← Nat.blt_eq]; exact hd.1) hT (Below.refl _ _))).out⟩
/-- The row of such a variable is written anew. -/
theorem g_stL {ty e : TypeId} {s r : Nat} {o : Operand} {B : Nat} {ws : List Wd} {a0 : Int} [hs : Look E s (.is (.pointer (some ⟨r, 0, none⟩)))] [ho : OpC E o (.ow Rp.wd e tt B ws)] [hu : UpdC L r (.lnj a0) (.lnb e B ws a0) L'] [hty : TyC P ty 1 false]
    (h : GR P w00 X L' E n ops rest cs Q) : GR P w00 X L E n ops (⟨none, .store ty (.tmp s) o, t0, pos, af, none⟩ :: rest) cs Q := ⟨fun a w ht => by
  refine wpList_run rfl ?_
  have e1 : a.eval (.tmp s) = .pointer (some ⟨r, 0, none⟩) := ht.slots _ hs.mem
  have e2 : (VTy.ow Rp.wd e tt B ws).holds X w (a.eval o) := ho.get (X := X) (w := w) (fun _ => rfl) fun p hp _ => ht.slots p hp
  generalize hev : a.eval o = v at e2
  have h1 := ow_one e2
  obtain ⟨g1, g2, u, ty', ⟨sv, rfl, _⟩, g4⟩ := ht.mem.loc _ hu.upd.mem
  have hi := hty.size
  have hcell : w.cell? ⟨r, 0, none⟩ = some sv := cell_at g4 rfl
  have hfro : w.frozen? ⟨r, 0, none⟩ = false := by simp [World.frozen?, g4]
  have hadd : (⟨r, 0, none⟩ : Addr).add 0 = ⟨r, 0, none⟩ := by unfold Addr.add; split <;> simp_all
  have hst : (store ((⟨r, 0, none⟩ : Addr).add 0) v).run P w = .ok () (w.setRow r #[v, .int .i64 a0]) := by
    rw [hadd, run_store P w _ v _ h1, hcell]
    have := setCell_eq_setRow w r 0 #[sv, .int .i64 a0] ty' (0, 0) v g4
    simp [hfro, this]
  have hcl : v.cells = #[v] := cells_one h1
  have hsv : (storeVar ty ⟨r, 0, none⟩ v).run P w = .ok () (w.setRow r #[v, .int .i64 a0]) := by
    cases hq : P.info? ty with
    | none => simp [hq] at hi
    | some q =>
      have hs : q.size = 1 := by simpa [hq] using hi
      simp [storeVar, sizeOf, typeInfo, hq, hcl, hs, storeCells, hst]
  have hk := keeps_setRow (w := w) g1 #[v, .int .i64 a0]
  have hnew := ht.write (k := 2) (k0 := 2) (ag := true) (ag0 := true) (v := .agg #[v, .int .i64 a0]) hu.upd ⟨v, rfl, e2⟩
  unfold Oper.wp execOp
  simp only [e1, Instr.storeAt, Instr.sureAddr, Sem.run_bind, Sem.run_pure, Result.andThen_ok, hev, hsv]
  exact h.run a _ hnew⟩
/-- The row gets a name. -/
theorem g_nam {r : Nat} {e : TypeId} {B : Nat} {ws : List Wd} {a : Int} {L0 : List Loc} (h : ∀ sv, GC P w00 X ((r, .lns sv e B ws a) :: L0) E n cs Q) : GC P w00 X ((r, .lnb e B ws a) :: L0) E n cs Q := ⟨fun b w ht => by
  obtain ⟨g1, g2, v, ty, ⟨sv, g3, g3'⟩, g4⟩ := ht.mem.loc _ List.mem_cons_self
  refine (h sv).run b w ⟨ht.size, ht.df, ht.slots, ⟨fun p hp => ?_, ht.mem.far, ht.mem.nodup, ht.mem.below⟩⟩
  rcases List.mem_cons.1 hp with rfl | hp
  · exact ⟨g1, g2, v, ty, ⟨g3, g3'⟩, g4⟩
  · exact ht.mem.loc p (List.mem_cons_of_mem _ hp)⟩
end
section
variable {P : Program} {w00 : World} {N : Nat} {L : List Loc} {E : List (Nat × VTy)} {d : Nat} {t0 : TypeId} {pos : String} {af : Array Edge} {gd : Option (Nat × Bool)} {ats : Array TypeId}
theorem st_lenO {sv : Value} {e : TypeId} {B : Nat} {ws : List Wd} {s k : Nat} {ty : TypeId} [ho : Look E s (.ows sv e B ws)] [ht : SliceC P ty k] : StepT P w00 N L E ⟨some d, .call { callee := .builtin .len, args := #[.tmp s], argTypes := #[ty] }, t0, pos, af, gd⟩ (.is (.int .i64 ws.length)) := by
  constructor
  intro X ρ w hc _ hN hm hsl
  obtain ⟨e0, A, c, ps, e1, _⟩ := hsl _ ho.mem (by simp [Op.operands, Call.operands])
  have e2 : ρ (.tmp s) = .slice A ws.length c := e0.trans e1
  obtain ⟨el, hu, _⟩ := ht.ok
  clear hc hsl ho ht hm e0 e1
  unfold Yields
  go_simp
  exact ⟨rfl, Below.refl _ _⟩
theorem st_idxO {sv : Value} {e : TypeId} {B : Nat} {ws : List Wd} {o oi : Operand} {ty : TypeId} {j : Nat} [ho : OpC E o (.ows sv e B ws)] [hi : OpC E oi (.is (.int .i64 (j : Int)))] [ht : SliceC P ty 2] (hj : j < ws.length) : StepT P w00 N L E ⟨some d, .indexAddr ty o oi, t0, pos, af, gd⟩ (.oes sv e B ws j) := by
  constructor
  intro X ρ w hc _ hN hm hsl
  obtain ⟨e0, h0⟩ := ho.get (X := X) (w := w) hc fun p hp e => hsl p hp (by simp [Op.operands, e])
  have h0' := h0
  obtain ⟨A, c, ps, e1, _, _, hown, _⟩ := h0'
  have e2 : ρ oi = .int .i64 j := hi.get (X := X) (w := w) hc fun p hp e => hsl p hp (by simp [Op.operands, e])
  rcases hown.form with ⟨_, hz, _⟩ | ⟨g, rfl, _⟩
  · omega
  have e1' : ρ o = .slice (some ⟨g, 0, none⟩) ws.length c := e0.trans e1
  obtain ⟨el, hu, hs⟩ := ht.ok
  have hz : (sizeOf el).run P w = .ok 2 w := by
    cases hq : P.info? el with
    | none => rw [hq] at hs; cases hs
    | some q =>
      rw [hq] at hs
      have : q.size = 2 := by simpa using hs
      simp [sizeOf, typeInfo, hq, this]
  have hrun : (execOp ρ ⟨some d, .indexAddr ty o oi, t0, pos, af, gd⟩).run P w = .ok (.value (.pointer (some ⟨g, j * 2, none⟩))) w := by
    unfold execOp
    have hji : (0 : Int) ≤ (j : Int) ∧ (j : Int) < (ws.length : Int) := ⟨by omega, by omega⟩
    simp only [e1', e2, Instr.indexAt, asIntOf, Sem.run_bind, Sem.run_pure, Result.andThen_ok, run_underlying hu w, hji, and_self, if_true, hz, Int.toNat_natCast, Addr.add_mid, Nat.zero_add]
  unfold Yields
  rw [hrun]
  exact ⟨⟨⟨g, ws.length, c, e1, rfl⟩, h0⟩, Below.refl _ _⟩
theorem st_fldO {sv : Value} {e : TypeId} {B : Nat} {ws : List Wd} {j : Nat} {ty : TypeId} {s k : Nat} {ag : Bool} [hs : Look E s (.oes sv e B ws j)] [hf : FieldC P ty 0 0 k ag] : StepT P w00 N L E ⟨some d, .fieldAddr ty (.tmp s) 0, t0, pos, af, gd⟩ (.oes sv e B ws j) := by
  constructor
  intro X ρ w hc _ hN hm hsl
  obtain ⟨⟨g, m, c, e1, e2⟩, h0⟩ := hsl _ hs.mem (by simp [Op.operands])
  have e' : ρ (.tmp s) = .pointer (some ⟨g, j * 2, none⟩) := e2
  obtain ⟨fs, f, h1, h2, h3, h4, h5, _⟩ := hf.ok
  have hz : (sizeOf f.type).run P w = .ok k w := by
    cases hq : P.info? f.type with
    | none => rw [hq] at h4; cases h4
    | some q =>
      rw [hq] at h4
      have : q.size = k := by simpa using h4
      simp [sizeOf, typeInfo, hq, this]
  have hrun : (execOp ρ ⟨some d, .fieldAddr ty (.tmp s) 0, t0, pos, af, gd⟩).run P w = .ok (.value (.pointer (some ⟨g, j * 2, none⟩))) w := by
    unfold execOp
    simp only [e', Instr.fieldAt, Instr.sureAddr, fieldPlace, Sem.run_bind, Sem.run_pure, Result.andThen_ok, run_underlying h1 w, h2, hz, h5, if_false, h3, Addr.add_mid, Nat.add_zero]
  unfold Yields
  rw [hrun]
  exact ⟨⟨⟨g, m, c, e1, rfl⟩, h0⟩, Below.refl _ _⟩
/-- The j-th text of such a row. -/
theorem ow_text {e : TypeId} {B : Nat} {ws : List Wd} {X : List Nat} {w : World} {g m c j : Nat} {t : List UInt8} {a : Int} (h : (VTy.ow Rp.wd e tt B ws).holds X w (.slice (some ⟨g, 0, none⟩) m c)) (hj : ws[j]? = some (t, a)) : w.cell? ⟨g, j * 2, none⟩ = some (Tx t) := by
  obtain ⟨_, A, n, c', e1, g1, g2, g3, g4, g5⟩ := ow_rw h
  injection e1 with e1 _
  injection e1 with e1 e2 _
  subst e1
  have hn : 0 < n := by
    rw [← g1]
    have := (List.getElem?_eq_some_iff.1 hj).1
    omega
  obtain ⟨b, off, hA, _, hc⟩ := g5 hn
  injection hA with hA
  injection hA with hb ho _
  subst hb; subst ho
  obtain ⟨cs, k1, c1, c2, rfl, ⟨u, rfl, hu⟩, rfl⟩ := hc j _ hj
  have := k1 0 (.string u) rfl
  rw [show 0 + j * Rp.wd.k + 0 = j * 2 by show 0 + j * 2 + 0 = j * 2; omega] at this
  rw [this, tx_of u, hu]
theorem st_ldO {sv : Value} {e : TypeId} {B : Nat} {ws : List Wd} {j : Nat} {t : List UInt8} {a : Int} {ty : TypeId} {s : Nat} [hs : Look E s (.oes sv e B ws j)] [ht : TyC P ty 1 false] (hj : ws[j]? = some (t, a)) : StepT P w00 N L E ⟨some d, .load ty (.tmp s), t0, pos, af, gd⟩ (.is (Tx t)) := by
  constructor
  intro X ρ w hc _ hN hm hsl
  obtain ⟨⟨g, m, c, e1, e2⟩, h0⟩ := hsl _ hs.mem (by simp [Op.operands])
  have e' : ρ (.tmp s) = .pointer (some ⟨g, j * 2, none⟩) := e2
  obtain ⟨dd, hu, hd⟩ := ht.row
  have hag : (isAgg ty).run P w = .ok false w := by
    unfold isAgg
    rw [Sem.run_bind, run_underlying hu w]
    cases dd <;> first | rfl | cases hd
  rw [e1] at h0
  have hcell := ow_text h0 hj
  have hrun : (execOp ρ ⟨some d, .load ty (.tmp s), t0, pos, af, gd⟩).run P w = .ok (.value (Tx t)) w := by
    unfold execOp
    simp only [e', Instr.loadAt, Instr.sureAddr, loadVar, Sem.run_bind, Sem.run_pure, Result.andThen_ok, hag, run_load, hcell, if_false, Bool.false_eq_true]
  unfold Yields
  rw [hrun]
  exact ⟨rfl, Below.refl _ _⟩
end
theorem flat_len {α : Type} {k : Nat} : ∀ {ps : List (α × List Value)} (_ : ∀ q ∈ ps, q.2.length = k), (ps.flatMap Prod.snd).length = ps.length * k
  | [], _ => by simp
  | q :: ps, h => by
    rw [List.flatMap_cons, List.length_append, h q List.mem_cons_self, flat_len fun q hq => h q (List.mem_cons_of_mem _ hq), List.length_cons, Nat.succ_mul, Nat.add_comm]
theorem flat_set {α : Type} {ps : List (α × List Value)} (hl : ∀ q ∈ ps, q.2.length = 2) {j : Nat} {q : α × List Value} (hq : ps[j]? = some q) {x : α} {u v : Value} {l : List Value} (hv : q.2 = v :: l) : ((ps.flatMap Prod.snd).set (j * 2) u) = (ps.set j (x, u :: l)).flatMap Prod.snd := by
  induction ps generalizing j with
  | nil => cases hq
  | cons p ps ih =>
    cases j with
    | zero =>
      have e : p = q := by simpa using hq
      subst e
      simp [hv]
    | succ j =>
      have h0 := hl p List.mem_cons_self
      rw [List.flatMap_cons, List.set_cons_succ, List.flatMap_cons, List.set_append_right _ _ (by rw [h0]; omega), h0, show (j + 1) * 2 - 2 = j * 2 by omega, ih (fun q hq => hl q (List.mem_cons_of_mem _ hq)) (by simpa using hq)]
theorem Free.grow {X : List Nat} {w w' : World} {b : Nat} (h : Free X w b) (hs : w.heap.size ≤ w'.heap.size) : Free X w' b := ⟨Nat.lt_of_lt_of_le h.1 hs, h.2⟩
/-- A text of an own row is written over. -/
theorem ow_set {e : TypeId} {B : Nat} {ws : List Wd} {X : List Nat} {w : World} {g m c j : Nat} {t : List UInt8} {a : Int} (h : (VTy.ow Rp.wd e tt B ws).holds X w (.slice (some ⟨g, 0, none⟩) m c)) (hj : ws[j]? = some (t, a)) (t' : List UInt8) :
    (VTy.ow Rp.wd e tt B (ws.set j (t', a))).holds X (w.setCell ⟨g, j * 2, none⟩ (Tx t')) (.slice (some ⟨g, 0, none⟩) m c) ∧ w.frozen? ⟨g, j * 2, none⟩ = false ∧ B ≤ g ∧ g < w.heap.size ∧ g ∉ X := by
  obtain ⟨A, c', ps, e1, e2, h3, h4, h5, h6⟩ := h
  injection e1 with e1 em ec
  subst e1; subst em; subst ec
  obtain ⟨cur, hcur⟩ := h4.type (g := g) rfl
  obtain ⟨hB, hlt⟩ := h4.blk_ g rfl
  have hfz : w.frozen? ⟨g, j * 2, none⟩ = false := by simp [World.frozen?, hcur]
  refine ⟨⟨some ⟨g, 0, none⟩, c, ps.set j ((t', a), [Tx t', .int .i64 a]), by rw [List.length_set], by rw [List.map_set, e2], fun q hq => ?_, ?_, fun b hb => ?_, fun h0 => ?_⟩, hfz, hB, hlt, (h5 g rfl).2⟩
  · refine ⟨trivial, ?_⟩
    rcases List.mem_or_eq_of_mem_set hq with hq | rfl
    · exact wd_any (h3 q hq).2
    · exact ⟨[Tx t'], [.int .i64 a], rfl, ⟨_, rfl, data_mk t'⟩, rfl⟩
  · rw [List.length_set]
    have hlen : ∀ q ∈ ps, q.2.length = 2 := fun q hq => Rp.wd.len (h3 q hq).2
    obtain ⟨hl, h4⟩ := h4
    refine ⟨?_, .inr ?_⟩
    · rw [← hl, flat_len hlen, flat_len (fun q hq => ?_), List.length_set]
      rcases List.mem_or_eq_of_mem_set hq with hq | rfl
      · exact hlen q hq
      · rfl
    · rcases h4 with ⟨h4, _⟩ | ⟨g', cap, cur', k1, k2, k3, k4, k5, k6, k7⟩
      · cases h4
      · injection k1 with k1 kn kc
        injection k1 with k1
        injection k1 with k1 _ _
        subst k1; subst kc
        refine ⟨g, c, cur'.setIfInBounds (j * 2) (Tx t'), rfl, k2, heap_setCell_at _ k3, k4, k5, by simp [k6], ?_⟩
        obtain ⟨q, hq, hq1⟩ : ∃ q, ps[j]? = some q ∧ q.1 = (t, a) := by
          rw [← e2, List.getElem?_map] at hj
          cases hq : ps[j]? with
          | none => rw [hq] at hj; cases hj
          | some q => rw [hq] at hj; exact ⟨q, rfl, by simpa using hj⟩
        obtain ⟨c1, c2, hq2, ⟨u, rfl, hu⟩, rfl⟩ := (h3 q (List.mem_of_getElem? hq)).2
        rw [Array.toList_setIfInBounds, List.take_set, k7]
        exact flat_set hlen hq (by rw [hq2, hq1]; rfl)
  · exact Free.grow (h5 b hb) (by simp [World.setCell])
  · have : ws = [] := by simpa using h0
    rw [this] at hj; cases hj
section
variable {P : Program} {w00 : World} {X : List Nat} {E E0 : List (Nat × VTy)} {n : Nat} {ops : Array Oper} {rest : List Oper} {Q : Exit → Act → World → Prop} {cs : List Code} {t0 : TypeId} {pos : String} {af : Array Edge}
theorem g_upd {ty e : TypeId} {s r : Nat} {o : Operand} {B : Nat} {ws : List Wd} {a0 : Int} {sv : Value} {j : Nat} {t t' : List UInt8} {a1 : Int} (ss : List Nat) (hB0 : w00.heap.size ≤ B) [hs : Look E s (.oes sv e B ws j)] [ho : OpC E o (.is (Tx t'))] [k : KeepC E ss E0] [kE : SurvUL B E0] [hty : TyC P ty 1 false] (hj : ws[j]? = some (t, a1))
    (h : GR P w00 X [(r, .lnb e B (ws.set j (t', a1)) a0)] E0 n ops rest cs Q) : GR P w00 X [(r, .lns sv e B ws a0)] E n ops (⟨none, .store ty (.tmp s) o, t0, pos, af, none⟩ :: rest) cs Q := ⟨fun a w ht => by
  refine wpList_run rfl ?_
  obtain ⟨⟨g, m, c, e1, e2⟩, h0⟩ := ht.slots _ hs.mem
  have e3 : a.eval (.tmp s) = .pointer (some ⟨g, j * 2, none⟩) := e2
  have e4 : a.eval o = Tx t' := ho.get (X := X) (w := w) (fun _ => rfl) fun p hp _ => ht.slots p hp
  rw [e1] at h0
  have hcell := ow_text h0 hj
  obtain ⟨h1, hfz, hB, hlt, hgX⟩ := ow_set h0 hj t'
  have hi := hty.size
  have hadd : (⟨g, j * 2, none⟩ : Addr).add 0 = ⟨g, j * 2, none⟩ := by rw [Addr.add_lit]; rfl
  have hst : (store ((⟨g, j * 2, none⟩ : Addr).add 0) (Tx t')).run P w = .ok () (w.setCell ⟨g, j * 2, none⟩ (Tx t')) := by
    rw [hadd, run_store P w _ (Tx t') _ rfl, hcell]
    simp [hfz]
  have hcl : (Tx t').cells = #[Tx t'] := rfl
  have hsv : (storeVar ty ⟨g, j * 2, none⟩ (Tx t')).run P w = .ok () (w.setCell ⟨g, j * 2, none⟩ (Tx t')) := by
    cases hq : P.info? ty with
    | none => simp [hq] at hi
    | some q =>
      have hs : q.size = 1 := by simpa [hq] using hi
      simp [storeVar, sizeOf, typeInfo, hq, hcl, hs, storeCells, hst]
  have hch : Ch B X w (w.setCell ⟨g, j * 2, none⟩ (Tx t')) := ⟨rfl, rfl, rfl, by simp [World.setCell], fun b hb => by
    by_cases hbg : b = g
    · exact .inr ⟨by rw [hbg]; exact hB, by rw [hbg]; exact hgX⟩
    · exact .inl (Below.heap_setCell _ _ _ _ hbg)⟩
  unfold Oper.wp execOp
  simp only [e3, e4, Instr.storeAt, Instr.sureAddr, Sem.run_bind, Sem.run_pure, Result.andThen_ok, hsv]
  have h5 := (TS.mk (L := []) (X := X) (E := E0) ht.size ht.df (fun p hp => ht.slots p (k.sub p hp)) ⟨fun _ h => (by cases h), ht.mem.far, List.nodup_nil, ht.mem.below⟩ : TS w00 X [] E0 n a w).ch hch hB0
  refine h.run a _ ⟨h5.size, h5.df, h5.slots, ⟨fun p hp => ?_, h5.mem.far, ht.mem.nodup, h5.mem.below⟩⟩
  rw [List.mem_singleton.1 hp]
  obtain ⟨g1, g2, v, ty', ⟨g3, _⟩, g4⟩ := ht.mem.loc _ List.mem_cons_self
  have hne : r ≠ g := fun e => hgX (by rw [← e]; exact g1)
  exact ⟨g1, g2, v, ty', ⟨sv, g3, by rw [e1]; exact h1⟩, (Below.heap_setCell _ _ _ _ hne).trans g4⟩⟩
end
instance : TyC Try.prog 36 2 true := ⟨⟨_, Try.underlying36, rfl⟩, by kernel_rfl⟩
instance : TyC Try.prog 34 2 true := ⟨⟨_, Try.underlying34, rfl⟩, by kernel_rfl⟩
instance : TyC Try.prog 32 1 false := ⟨⟨_, Try.underlying32, rfl⟩, by kernel_rfl⟩
instance : SliceC Try.prog 32 2 := ⟨⟨_, Try.underlying32, by kernel_rfl⟩⟩
instance : TyC Try.prog 27 1 false := ⟨⟨_, Try.underlying27, rfl⟩, by kernel_rfl⟩
instance : SliceC Try.prog 27 2 := ⟨⟨_, Try.underlying27, by kernel_rfl⟩⟩
instance : FieldC Try.prog 36 0 0 1 false := ⟨⟨_, _, Try.underlying36, rfl, rfl, by kernel_rfl, by decide, _, Try.underlying9, rfl⟩⟩
instance : FieldC Try.prog 36 1 1 1 false := ⟨⟨_, _, Try.underlying36, rfl, rfl, by kernel_rfl, by decide, _, Try.underlying3, rfl⟩⟩
instance : FieldC Try.prog 34 0 0 1 false := ⟨⟨_, _, Try.underlying34, rfl, rfl, by kernel_rfl, by decide, _, Try.underlying32, rfl⟩⟩
instance : FieldC Try.prog 34 1 1 1 false := ⟨⟨_, _, Try.underlying34, rfl, rfl, by kernel_rfl, by decide, _, Try.underlying3, rfl⟩⟩
instance : NeC 36 34 := ⟨by decide⟩
instance : ZeroC Try.prog 34 (.lnj 0) := ⟨⟨.agg #[.slice none 0 0, .int .i64 0], fun X w => ⟨_, rfl, rfl⟩, fun o ρ w e => by
  cases o with
  | mk dst op ty pos af gd =>
    have e' : op = _ := e
    subst e'
    go_simp⟩⟩
instance : TyC Try.prog 44 2 true := ⟨⟨_, Try.underlying44, rfl⟩, by kernel_rfl⟩
instance : TyC Try.prog 47 2 true := ⟨⟨_, Try.underlying47, rfl⟩, by kernel_rfl⟩
instance : TyC Try.prog 45 1 false := ⟨⟨_, Try.underlying45, rfl⟩, by kernel_rfl⟩
instance : SliceC Try.prog 45 2 := ⟨⟨_, Try.underlying45, by kernel_rfl⟩⟩
instance : TyC Try.prog 23 1 false := ⟨⟨_, Try.underlying23, rfl⟩, by kernel_rfl⟩
instance : SliceC Try.prog 23 2 := ⟨⟨_, Try.underlying23, by kernel_rfl⟩⟩
instance : FieldC Try.prog 44 0 0 1 false := ⟨⟨_, _, Try.underlying44, rfl, rfl, by kernel_rfl, by decide, _, Try.underlying9, rfl⟩⟩
instance : FieldC Try.prog 44 1 1 1 false := ⟨⟨_, _, Try.underlying44, rfl, rfl, by kernel_rfl, by decide, _, Try.underlying3, rfl⟩⟩
instance : FieldC Try.prog 47 0 0 1 false := ⟨⟨_, _, Try.underlying47, rfl, rfl, by kernel_rfl, by decide, _, Try.underlying45, rfl⟩⟩
instance : FieldC Try.prog 47 1 1 1 false := ⟨⟨_, _, Try.underlying47, rfl, rfl, by kernel_rfl, by decide, _, Try.underlying3, rfl⟩⟩
instance : NeC 44 47 := ⟨by decide⟩
instance : ZeroC Try.prog 47 (.lnj 0) := ⟨⟨.agg #[.slice none 0 0, .int .i64 0], fun X w => ⟨_, rfl, rfl⟩, fun o ρ w e => by
  cases o with
  | mk dst op ty pos af gd =>
    have e' : op = _ := e
    subst e'
    go_simp⟩⟩
instance : ZeroC Try.prog 36 (.ra Rp.wd ([], 0)) := ⟨⟨.agg #[Tx [], .int .i64 0], fun X w => ⟨[Tx [], .int .i64 0], rfl, [Tx []], [.int .i64 0], rfl, ⟨_, rfl, data_mk []⟩, rfl⟩, fun o ρ w e => by
  cases o with
  | mk dst op ty pos af gd =>
    have e' : op = _ := e
    subst e'
    go_simp⟩⟩
theorem elemW : ElemV Try.prog 32 36 2 24 := ⟨Try.underlying32, by decide, by
  obtain ⟨i, h1, h2, h3, h4⟩ : ∃ i, Try.prog.info? 36 = some i ∧ i.zero = some (.agg #[Tx [], .int .i64 0]) ∧ i.size = 2 ∧ i.bytes = 24 := info_parts (by kernel_rfl)
  exact ⟨i, _, h1, h2, h3, h4, rfl⟩⟩
theorem elemL : ElemV Try.prog 27 34 2 32 := ⟨Try.underlying27, by decide, by
  obtain ⟨i, h1, h2, h3, h4⟩ : ∃ i, Try.prog.info? 34 = some i ∧ i.zero = some (.agg #[.slice none 0 0, .int .i64 0]) ∧ i.size = 2 ∧ i.bytes = 32 := info_parts (by kernel_rfl)
  exact ⟨i, _, h1, h2, h3, h4, rfl⟩⟩
theorem elem7W : ElemV Try.prog 45 44 2 24 := ⟨Try.underlying45, by decide, by
  obtain ⟨i, h1, h2, h3, h4⟩ : ∃ i, Try.prog.info? 44 = some i ∧ i.zero = some (.agg #[Tx [], .int .i64 0]) ∧ i.size = 2 ∧ i.bytes = 24 := info_parts (by kernel_rfl)
  exact ⟨i, _, h1, h2, h3, h4, rfl⟩⟩
theorem elem7L : ElemV Try.prog 23 47 2 32 := ⟨Try.underlying23, by decide, by
  obtain ⟨i, h1, h2, h3, h4⟩ : ∃ i, Try.prog.info? 47 = some i ∧ i.zero = some (.agg #[.slice none 0 0, .int .i64 0]) ∧ i.size = 2 ∧ i.bytes = 32 := info_parts (by kernel_rfl)
  exact ⟨i, _, h1, h2, h3, h4, rfl⟩⟩
section
variable {w00 : World} {N : Nat} {L : List Loc} {E : List (Nat × VTy)} {d : Nat} {t0 : TypeId} {pos : String} {af : Array Edge} {gd : Option (Nat × Bool)}
set_option maxRecDepth 20000 in
theorem st_mkL {o : Operand} {B : Nat} {a : Int} [ho : OpC E o (.is (.int .i64 a))] : StepT Try.prog w00 N L E ⟨some d, .build 34 #[(1, o)], t0, pos, af, gd⟩ (.lnb 36 B [] a) := by
  constructor
  intro X ρ w hc _ hN hm hsl
  have e0 : ρ o = .int .i64 a := ho.get (X := X) (w := w) hc fun p hp e => hsl p hp (by simp [Op.operands, e])
  have H := Lib.hid (show (VTy.lnb 36 B [] a).holds X w (.agg #[.slice none 0 0, .int .i64 a]) from ⟨_, rfl, ow_nil rfl⟩)
  clear hc hsl ho hm
  unfold Yields
  go_simp
  exact ⟨H.out, Below.refl _ _⟩
set_option maxRecDepth 20000 in
theorem st_mkW {o o1 : Operand} {t : List UInt8} {a : Int} [ho : OpC E o (.is (Tx t))] [h1 : OpC E o1 (.is (.int .i64 a))] : StepT Try.prog w00 N L E ⟨some d, .build 36 #[(0, o), (1, o1)], t0, pos, af, gd⟩ (.is (.agg #[Tx t, .int .i64 a])) := by
  constructor
  intro X ρ w hc _ hN hm hsl
  have e0 : ρ o = Tx t := ho.get (X := X) (w := w) hc fun p hp e => hsl p hp (by simp [Op.operands, e])
  have e1 : ρ o1 = .int .i64 a := h1.get (X := X) (w := w) hc fun p hp e => hsl p hp (by simp [Op.operands, e])
  clear hc hsl ho h1 hm
  unfold Yields
  go_simp
  exact ⟨rfl, Below.refl _ _⟩
set_option maxRecDepth 20000 in
theorem st_rowW {o : Operand} {T : VTy} {r : Rp Wd} {a : Wd} [ho : OpC E o T] [kx : KxC 36 T r a] (hk : r.k = 2) : StepT Try.prog w00 N L E ⟨some d, .buildSlice 32 1 #[(0, o)], t0, pos, af, gd⟩ (.r1 r 36 tt a) := by
  constructor
  intro X ρ w hc _ hN hm hsl
  obtain ⟨cs, e0, g0⟩ := kx.ok (ho.get (X := X) (w := w) hc fun p hp e => hsl p hp (by simp [Op.operands, e]))
  obtain ⟨u, v, rfl⟩ : ∃ u v, cs = [u, v] := by
    have := (r.len g0).trans hk
    match cs, this with
    | [u, v], _ => exact ⟨u, v, rfl⟩
  have hb : Below w.heap.size w (w.alloc (.cells #[u, v] 36)) := (Below.refl _ _).alloc (Nat.le_refl _) _
  have hT : (VTy.r1 r 36 tt a).holds X (w.alloc (.cells #[u, v] 36)) (.slice (some ⟨w.heap.size, 0, none⟩) 1 1) := by
    refine ⟨trivial, w.heap.size, 0, _, rfl, ⟨by rw [size_one]; omega, fun hx => by have := hm.far _ hx; omega⟩, ?_, Rp.upK r g0 (Below.keeps hb X) fun _ h _ => h⟩
    intro j x hj
    have := rangeAt_new (w := w) (T := 36) (pre := []) (cs := [u, v]) (ds := [u, v]) (List.prefix_refl _) j x hj
    simpa using this
  have e0' : ρ o = .agg #[u, v] := e0
  have HT := Lib.hid hT
  have HB := Lib.hid hb
  clear hT hb hsl hm hc g0 ho e0
  unfold Yields
  go_simp
  exact ⟨HT.out, HB.out⟩
set_option maxRecDepth 20000 in
theorem st_rowL {o : Operand} {T : VTy} {r : Rp Ln} {a : Ln} [ho : OpC E o T] [kx : KxC 34 T r a] (hk : r.k = 2) : StepT Try.prog w00 N L E ⟨some d, .buildSlice 27 1 #[(0, o)], t0, pos, af, gd⟩ (.r1 r 34 tt a) := by
  constructor
  intro X ρ w hc _ hN hm hsl
  obtain ⟨cs, e0, g0⟩ := kx.ok (ho.get (X := X) (w := w) hc fun p hp e => hsl p hp (by simp [Op.operands, e]))
  obtain ⟨u, v, rfl⟩ : ∃ u v, cs = [u, v] := by
    have := (r.len g0).trans hk
    match cs, this with
    | [u, v], _ => exact ⟨u, v, rfl⟩
  have hb : Below w.heap.size w (w.alloc (.cells #[u, v] 34)) := (Below.refl _ _).alloc (Nat.le_refl _) _
  have hT : (VTy.r1 r 34 tt a).holds X (w.alloc (.cells #[u, v] 34)) (.slice (some ⟨w.heap.size, 0, none⟩) 1 1) := by
    refine ⟨trivial, w.heap.size, 0, _, rfl, ⟨by rw [size_one]; omega, fun hx => by have := hm.far _ hx; omega⟩, ?_, Rp.upK r g0 (Below.keeps hb X) fun _ h _ => h⟩
    intro j x hj
    have := rangeAt_new (w := w) (T := 34) (pre := []) (cs := [u, v]) (ds := [u, v]) (List.prefix_refl _) j x hj
    simpa using this
  have e0' : ρ o = .agg #[u, v] := e0
  have HT := Lib.hid hT
  have HB := Lib.hid hb
  clear hT hb hsl hm hc g0 ho e0
  unfold Yields
  go_simp
  exact ⟨HT.out, HB.out⟩
set_option maxRecDepth 20000 in
theorem st_mkL7 {o : Operand} {B : Nat} {a : Int} [ho : OpC E o (.is (.int .i64 a))] : StepT Try.prog w00 N L E ⟨some d, .build 47 #[(1, o)], t0, pos, af, gd⟩ (.lnb 44 B [] a) := by
  constructor
  intro X ρ w hc _ hN hm hsl
  have e0 : ρ o = .int .i64 a := ho.get (X := X) (w := w) hc fun p hp e => hsl p hp (by simp [Op.operands, e])
  have H := Lib.hid (show (VTy.lnb 44 B [] a).holds X w (.agg #[.slice none 0 0, .int .i64 a]) from ⟨_, rfl, ow_nil rfl⟩)
  clear hc hsl ho hm
  unfold Yields
  go_simp
  exact ⟨H.out, Below.refl _ _⟩
set_option maxRecDepth 20000 in
theorem st_mk0L7 {B : Nat} : StepT Try.prog w00 N L E ⟨some d, .build 47 #[], t0, pos, af, gd⟩ (.lnb 44 B [] 0) := by
  constructor
  intro X ρ w hc _ hN hm hsl
  have H := Lib.hid (show (VTy.lnb 44 B [] 0).holds X w (.agg #[.slice none 0 0, .int .i64 0]) from ⟨_, rfl, ow_nil rfl⟩)
  clear hc hsl hm
  unfold Yields
  go_simp
  exact ⟨H.out, Below.refl _ _⟩
set_option maxRecDepth 20000 in
theorem st_mkW7 {o o1 : Operand} {t : List UInt8} {a : Int} [ho : OpC E o (.is (Tx t))] [h1 : OpC E o1 (.is (.int .i64 a))] : StepT Try.prog w00 N L E ⟨some d, .build 44 #[(0, o), (1, o1)], t0, pos, af, gd⟩ (.is (.agg #[Tx t, .int .i64 a])) := by
  constructor
  intro X ρ w hc _ hN hm hsl
  have e0 : ρ o = Tx t := ho.get (X := X) (w := w) hc fun p hp e => hsl p hp (by simp [Op.operands, e])
  have e1 : ρ o1 = .int .i64 a := h1.get (X := X) (w := w) hc fun p hp e => hsl p hp (by simp [Op.operands, e])
  clear hc hsl ho h1 hm
  unfold Yields
  go_simp
  exact ⟨rfl, Below.refl _ _⟩
set_option maxRecDepth 20000 in
theorem st_rowW7 {o : Operand} {T : VTy} {r : Rp Wd} {a : Wd} [ho : OpC E o T] [kx : KxC 44 T r a] (hk : r.k = 2) : StepT Try.prog w00 N L E ⟨some d, .buildSlice 45 1 #[(0, o)], t0, pos, af, gd⟩ (.r1 r 44 tt a) := by
  constructor
  intro X ρ w hc _ hN hm hsl
  obtain ⟨cs, e0, g0⟩ := kx.ok (ho.get (X := X) (w := w) hc fun p hp e => hsl p hp (by simp [Op.operands, e]))
  obtain ⟨u, v, rfl⟩ : ∃ u v, cs = [u, v] := by
    have := (r.len g0).trans hk
    match cs, this with
    | [u, v], _ => exact ⟨u, v, rfl⟩
  have hb : Below w.heap.size w (w.alloc (.cells #[u, v] 44)) := (Below.refl _ _).alloc (Nat.le_refl _) _
  have hT : (VTy.r1 r 44 tt a).holds X (w.alloc (.cells #[u, v] 44)) (.slice (some ⟨w.heap.size, 0, none⟩) 1 1) := by
    refine ⟨trivial, w.heap.size, 0, _, rfl, ⟨by rw [size_one]; omega, fun hx => by have := hm.far _ hx; omega⟩, ?_, Rp.upK r g0 (Below.keeps hb X) fun _ h _ => h⟩
    intro j x hj
    have := rangeAt_new (w := w) (T := 44) (pre := []) (cs := [u, v]) (ds := [u, v]) (List.prefix_refl _) j x hj
    simpa using this
  have e0' : ρ o = .agg #[u, v] := e0
  have HT := Lib.hid hT
  have HB := Lib.hid hb
  clear hT hb hsl hm hc g0 ho e0
  unfold Yields
  go_simp
  exact ⟨HT.out, HB.out⟩
set_option maxRecDepth 20000 in
theorem st_rowL7 {o : Operand} {T : VTy} {r : Rp Ln} {a : Ln} [ho : OpC E o T] [kx : KxC 47 T r a] (hk : r.k = 2) : StepT Try.prog w00 N L E ⟨some d, .buildSlice 23 1 #[(0, o)], t0, pos, af, gd⟩ (.r1 r 47 tt a) := by
  constructor
  intro X ρ w hc _ hN hm hsl
  obtain ⟨cs, e0, g0⟩ := kx.ok (ho.get (X := X) (w := w) hc fun p hp e => hsl p hp (by simp [Op.operands, e]))
  obtain ⟨u, v, rfl⟩ : ∃ u v, cs = [u, v] := by
    have := (r.len g0).trans hk
    match cs, this with
    | [u, v], _ => exact ⟨u, v, rfl⟩
  have hb : Below w.heap.size w (w.alloc (.cells #[u, v] 47)) := (Below.refl _ _).alloc (Nat.le_refl _) _
  have hT : (VTy.r1 r 47 tt a).holds X (w.alloc (.cells #[u, v] 47)) (.slice (some ⟨w.heap.size, 0, none⟩) 1 1) := by
    refine ⟨trivial, w.heap.size, 0, _, rfl, ⟨by rw [size_one]; omega, fun hx => by have := hm.far _ hx; omega⟩, ?_, Rp.upK r g0 (Below.keeps hb X) fun _ h _ => h⟩
    intro j x hj
    have := rangeAt_new (w := w) (T := 47) (pre := []) (cs := [u, v]) (ds := [u, v]) (List.prefix_refl _) j x hj
    simpa using this
  have e0' : ρ o = .agg #[u, v] := e0
  have HT := Lib.hid hT
  have HB := Lib.hid hb
  clear hT hb hsl hm hc g0 ho e0
  unfold Yields
  go_simp
  exact ⟨HT.out, HB.out⟩
end
/-- How far a line's words reach. -/
theorem drop_tw (s : List UInt8) (p : UInt8 → Bool) (i : Nat) : s.drop (i + ((s.drop i).takeWhile p).length) = (s.drop i).dropWhile p := by
  rw [← List.drop_drop]
  exact takeW_drop _
theorem c_clone {l : List UInt8} (hl : l.length ≤ 1000000) : Ctr Try.prog S1 29 [0] [.is (Tx l)] (fun _ => .is (Tx l)) := by
  have hc : Ctr Try.prog S1 34 [0] [.is (Tx l)] (fun _ => .is (Tx l)) := ctr_v1 (fun _ _ => by kernel_rfl) fun w _ => Try.stringslite_Clone ⟨l.toArray⟩ w (by rw [bs_size]; omega)
  refine ctr Try.func29 rfl Try.ntmps29 (by simp) (fun _ _ => by kernel_rfl) fun X w hE => ?_
  simp only [argE, Nat.zero_add, Nat.reduceAdd]
  repeat' first|kernel_rfl|apply g_seq|apply g_reg|apply g_nil|apply g_box|apply g_all|apply g_stf|apply g_stw|apply g_sto|apply g_asg|apply g_st|apply g_skip|apply g_ct|apply g_cf|apply g_ret|refine r_1 rfl ?_|apply g_cl|exact sc trivial hc|exact st_move'|exact st_assign'|exact Cv.rfl'|intro _
set_option maxRecDepth 20000 in
set_option maxHeartbeats 4000000 in
set_option synthInstance.maxSize 4000 in
set_option synthInstance.maxHeartbeats 400000 in
theorem c_line {s : List UInt8} {i : Nat} (hs : s.length ≤ 100000) (hi : i ≤ s.length) : PtO Try.prog S1 20 (.cs [Tx s, .int .i64 (i : Int)]) [] [] (.cs [Tx s, .int .i64 ((s.length - (lnR (s.drop i) (i : Int)).length : Nat) : Int)]) (fun B => .lnb 36 B (lnW (s.drop i) (i : Int)) (i : Int)) := by
  refine pto Try.func20 rfl Try.ntmps20 (by simp) (fun _ _ => by kernel_rfl) fun w00 X r wS hG hm => ?_
  simp only [argE, Nat.zero_add, Nat.reduceAdd, List.cons_append, List.nil_append]
  repeat' first|kernel_rfl|apply g_seq|apply g_reg|apply g_nil|apply g_draw (id:=6) [] [] 7|apply o_all|apply o_go|exact OpsT.nil|exact GuardC.nil|exact UndefC.nil|apply g_box|apply g_all|apply g_stf|apply g_stw|apply g_sto|apply g_asg|apply g_st|apply g_skip|apply g_ct|apply g_cf|apply g_ret|refine rn_1 rfl hm ?_|apply g_blk|apply g_eb|apply g_ex|apply e_t|apply e_h|refine e_o rfl ?_|apply r_t|apply r_b|apply g_cl|exact sc trivial c_oneof|exact sc trivial c_till|exact sc trivial (c_clone (by assumption))|exact scown trivial (c_stands0 (by assumption))|exact scown trivial (c_stands1 (by assumption) (by assumption) (by assumption))|exact st_mkL (B := wS.heap.size)|exact st_mkW|exact st_rowW rfl|exact st_seq (by first|assumption|rfl)|exact st_nilc|exact st_move'|exact st_assign'|exact st_load'|exact st_fieldAddr'|exact st_eq' (by first|assumption|rfl)|exact st_loadE'|exact Cv.rfl'|(intro _;simp only[newX,newL,ptrs,List.map,List.cons_append,List.nil_append])|intro _
  refine g_stop fun a w h => ?_
  rename_i rb ra
  have hB0 : w00.heap.size ≤ wS.heap.size := hm.below.size
  refine cw_loop (fun k a u => ∃ (n j : Nat) (ws : List Wd), (s.drop j).length < n ∧ j ≤ s.length ∧ k = s.length - j ∧ ws.length ≤ j ∧ lnF ((s.drop i).length + 1) (s.drop i) (i : Int) = (ws ++ (lnF n (s.drop j) (j : Int)).1, (lnF n (s.drop j) (j : Int)).2) ∧
    TS w00 (ra :: rb :: X) [(ra, .lnb 36 wS.heap.size ws (i : Int)), (rb, .lnj 0), (r, .cs [Tx s, .int .i64 (j : Int)])] [(3, .is (.pointer (some ⟨ra, 0, none⟩))), (2, .is (.pointer (some ⟨rb, 0, none⟩))), (0, .is (.pointer (some ⟨r, 0, none⟩))), (999, .gh X wS)] 37 a u) (s.length - i) ⟨_, i, [], Nat.lt_succ_self _, hi, rfl, Nat.zero_le _, rfl, h.keep [3, 2, 0, 999]⟩ ?_
  clear h
  rintro k a u ⟨n, j, ws, hn, hj, rfl, hwl, hf, h⟩
  obtain ⟨n, rfl⟩ : ∃ m, n = m + 1 := ⟨n - 1, by omega⟩
  replace hs : s.length ≤ 1000000 := by omega
  have hdj : (s.drop j).length = s.length - j := List.length_drop
  have hT1 := c_taken (p := isB) hs hj
  have hA := takeW_len (p := isB) (s.drop j)
  have hd1 := drop_tw s isB j
  generalize hF : lnF ((s.drop i).length + 1) (s.drop i) (i : Int) = F at hf
  unfold lnF at hf
  rw [← hd1] at hf
  obtain ⟨j1, hj1⟩ : ∃ x, x = j + ((s.drop j).takeWhile isB).length := ⟨_, rfl⟩
  have hjj : (j : Int) + (((s.drop j).takeWhile isB).length : Int) = (j1 : Int) := by omega
  rw [hjj] at hf
  rw [← hj1] at hT1 hf hd1
  have hj1s : j1 ≤ s.length := by omega
  have hd1l : (s.drop j1).length = s.length - j1 := List.length_drop
  have hT2 := (c_taken (p := isW) hs hj1s).args (ks' := [0]) (As' := [.fv 23 [] []]) fun {X w vs} h => by
    obtain ⟨v, rfl, h1⟩ := h.one
    exact ⟨fp_of (fun c => c_inword) h1, trivial⟩
  have hB := takeW_len (p := isW) (s.drop j1)
  have hd2 := drop_tw s isW j1
  rw [← hd2] at hf
  obtain ⟨j2, hj2⟩ : ∃ x, x = j1 + ((s.drop j1).takeWhile isW).length := ⟨_, rfl⟩
  have hjj2 : (j1 : Int) + (((s.drop j1).takeWhile isW).length : Int) = (j2 : Int) := by omega
  rw [hjj2] at hf
  rw [← hj2] at hT2 hf hd2
  have hj2s : j2 ≤ s.length := by omega
  have hWl : ((s.drop j1).takeWhile isW).length ≤ 1000000 := by omega
  generalize hW : (s.drop j1).takeWhile isW = W at *
  cases he : (W == [])
  · rw [he] at hf
    simp only [cond_false] at hf
    have hpos : 0 < W.length := by
      rcases Nat.eq_zero_or_pos W.length with e | e
      · rw [List.length_eq_zero_iff.1 e] at he; cases he
      · exact e
    have hd2l : (s.drop j2).length = s.length - j2 := List.length_drop
    rw [show ws ++ (W, (j1 : Int)) :: (lnF n (s.drop j2) (j2 : Int)).1 = (ws ++ [(W, (j1 : Int))]) ++ (lnF n (s.drop j2) (j2 : Int)).1 by rw [List.append_assoc]; rfl] at hf
    have hl1 : (ws ++ [(W, (j1 : Int))]).length ≤ j2 := by rw [List.length_append, List.length_singleton]; omega
    clear hW
    refine g_of h ?_
    clear h
    repeat' first|kernel_rfl|(refine g_pb trivial hT1 (by kernel_rfl) ?_)|(refine g_pb trivial hT2 (by kernel_rfl) ?_)|(refine g_locR (L' := [(_, .lnj _), (_, .lnj _), (_, .cs _)]) (.cons (fun _ _ _ h => lnb_lnj h) (.same (.same .nil))) (g_app [0,2,3,999] hB0 (fun _ _ ht => gh_size (X0 := X) (w0 := wS) ht) elemW (by omega) (by decide) (by kernel_rfl) ?_))|apply g_stL|exact g_done fun _ _ h=>⟨s.length - j2, by omega, n, j2, ws ++ [(W, (j1 : Int))], by omega, hj2s, rfl, hl1, hf, h.keep [3, 2, 0, 999]⟩|apply g_seq|apply g_reg|apply g_nil|apply g_draw (id:=6) [] [] 7|apply o_all|apply o_go|exact OpsT.nil|exact GuardC.nil|exact UndefC.nil|apply g_box|apply g_all|apply g_stf|apply g_stw|apply g_sto|apply g_asg|apply g_st|apply g_skip|apply g_ct|apply g_cf|apply g_ret|refine rn_1 rfl hm ?_|apply g_blk|apply g_eb|apply g_ex|apply e_t|apply e_h|refine e_o rfl ?_|apply r_t|apply r_b|apply g_cl|exact sc trivial c_oneof|exact sc trivial c_till|exact sc trivial (c_clone (by assumption))|exact scown trivial (c_stands0 (by assumption))|exact scown trivial (c_stands1 (by assumption) (by assumption) (by assumption))|exact st_mkL (B := wS.heap.size)|exact st_mkW|exact st_rowW rfl|exact st_seq (by first|assumption|rfl)|exact st_nilc|exact st_move'|exact st_assign'|exact st_load'|exact st_fieldAddr'|exact st_eq' (by first|assumption|rfl)|exact st_loadE'|exact Cv.rfl'|(intro _;simp only[newX,newL,ptrs,List.map,List.cons_append,List.nil_append])|intro _
  · rw [he] at hf
    simp only [cond_true, List.append_nil] at hf
    have e1 : lnW (s.drop i) (i : Int) = ws := by unfold lnW; rw [hF, hf]
    have e2 : lnR (s.drop i) (i : Int) = rmk (s.drop j1) := by unfold lnR; rw [hF, hf]
    have hW0 : W = [] := by simpa using he
    have hj12 : j2 = j1 := by rw [hj2, hW0]; rfl
    subst hj12
    rw [e1, e2]
    clear e1 e2 hf hd2
    cases hc : decide ((j2 : Int) < (s.length : Int))
    · have e3 : s.drop j2 = [] := List.length_eq_zero_iff.1 (by have := of_decide_eq_false hc; omega)
      have e4 : s.length - (rmk (s.drop j2)).length = j2 := by rw [e3]; have := of_decide_eq_false hc; show s.length - 0 = j2; omega
      rw [e4]
      refine g_of h ?_
      clear h
      repeat' first|kernel_rfl|(refine g_pb trivial hT1 (by kernel_rfl) ?_)|(refine g_pb trivial hT2 (by kernel_rfl) ?_)|apply g_seq|apply g_reg|apply g_nil|apply g_draw (id:=6) [] [] 7|apply o_all|apply o_go|exact OpsT.nil|exact GuardC.nil|exact UndefC.nil|apply g_box|apply g_all|apply g_stf|apply g_stw|apply g_sto|apply g_asg|apply g_st|apply g_skip|apply g_ct|apply g_cf|apply g_ret|refine rn_1 rfl hm ?_|apply g_blk|apply g_eb|apply g_ex|apply e_t|apply e_h|refine e_o rfl ?_|apply r_t|apply r_b|apply g_cl|exact sc trivial c_oneof|exact sc trivial c_till|exact sc trivial (c_clone (by assumption))|exact scown trivial (c_stands0 (by assumption))|exact scown trivial (c_stands1 (by assumption) (by assumption) (by assumption))|exact st_mkL (B := wS.heap.size)|exact st_mkW|exact st_rowW rfl|exact st_seq (by first|assumption|rfl)|exact st_nilc|exact st_move'|exact st_assign'|exact st_load'|exact st_fieldAddr'|exact st_eq' (by first|assumption|rfl)|exact st_loadE'|exact Cv.rfl'|(intro _;simp only[newX,newL,ptrs,List.map,List.cons_append,List.nil_append])|intro _
    · have hlt := of_decide_eq_true hc
      obtain ⟨c, hx⟩ : ∃ c, s[j2]? = some c := ⟨_, List.getElem?_eq_getElem (by omega)⟩
      have hix : 0 ≤ (j2 : Int) ∧ s[(j2 : Int).toNat]? = some c := ⟨by omega, hx⟩
      have hcons : s.drop j2 = c :: s.drop (j2 + 1) := by
        obtain ⟨hl, hc⟩ := List.getElem?_eq_some_iff.1 hx
        rw [List.drop_eq_getElem_cons hl, hc]
      have hr : rmk (s.drop j2) = bif (c.toNat : Int) == 35 then (s.drop j2).dropWhile n10 else s.drop j2 := by rw [hcons]; rfl
      have hT3 := c_taken (p := n10) hs hj1s
      have ht := tdW n10 (s.drop j2)
      cases h35 : ((c.toNat : Int) == 35)
      · rw [h35] at hr
        have e4 : s.length - (rmk (s.drop j2)).length = j2 := by rw [hr]; show s.length - (s.drop j2).length = j2; omega
        rw [e4]
        refine g_of h ?_
        clear h
        repeat' first|kernel_rfl|(refine g_pb trivial hT1 (by kernel_rfl) ?_)|(refine g_pb trivial hT2 (by kernel_rfl) ?_)|apply g_seq|apply g_reg|apply g_nil|apply g_draw (id:=6) [] [] 7|apply o_all|apply o_go|exact OpsT.nil|exact GuardC.nil|exact UndefC.nil|apply g_box|apply g_all|apply g_stf|apply g_stw|apply g_sto|apply g_asg|apply g_st|apply g_skip|apply g_ct|apply g_cf|apply g_ret|refine rn_1 rfl hm ?_|apply g_blk|apply g_eb|apply g_ex|apply e_t|apply e_h|refine e_o rfl ?_|apply r_t|apply r_b|apply g_cl|exact sc trivial c_oneof|exact sc trivial c_till|exact sc trivial (c_clone (by assumption))|exact scown trivial (c_stands0 (by assumption))|exact scown trivial (c_stands1 (by assumption) (by assumption) (by assumption))|exact st_mkL (B := wS.heap.size)|exact st_mkW|exact st_rowW rfl|exact st_seq (by first|assumption|rfl)|exact st_nilc|exact st_move'|exact st_assign'|exact st_load'|exact st_fieldAddr'|exact st_eq' (by first|assumption|rfl)|exact st_loadE'|exact Cv.rfl'|(intro _;simp only[newX,newL,ptrs,List.map,List.cons_append,List.nil_append])|intro _
      · rw [h35] at hr
        have e4 : s.length - (rmk (s.drop j2)).length = j2 + ((s.drop j2).takeWhile n10).length := by rw [hr]; simp only [cond_true]; omega
        rw [e4]
        refine g_of h ?_
        clear h
        repeat' first|kernel_rfl|(refine g_pb trivial hT1 (by kernel_rfl) ?_)|(refine g_pb trivial hT2 (by kernel_rfl) ?_)|(refine g_pb trivial hT3 (by kernel_rfl) ?_)|apply g_seq|apply g_reg|apply g_nil|apply g_draw (id:=6) [] [] 7|apply o_all|apply o_go|exact OpsT.nil|exact GuardC.nil|exact UndefC.nil|apply g_box|apply g_all|apply g_stf|apply g_stw|apply g_sto|apply g_asg|apply g_st|apply g_skip|apply g_ct|apply g_cf|apply g_ret|refine rn_1 rfl hm ?_|apply g_blk|apply g_eb|apply g_ex|apply e_t|apply e_h|refine e_o rfl ?_|apply r_t|apply r_b|apply g_cl|exact sc trivial c_oneof|exact sc trivial c_till|exact sc trivial (c_clone (by assumption))|exact scown trivial (c_stands0 (by assumption))|exact scown trivial (c_stands1 (by assumption) (by assumption) (by assumption))|exact st_mkL (B := wS.heap.size)|exact st_mkW|exact st_rowW rfl|exact st_seq (by first|assumption|rfl)|exact st_nilc|exact st_move'|exact st_assign'|exact st_load'|exact st_fieldAddr'|exact st_eq' (by first|assumption|rfl)|exact st_loadE'|exact Cv.rfl'|(intro _;simp only[newX,newL,ptrs,List.map,List.cons_append,List.nil_append])|intro _
end Go.Proofs.Ytkjojpeamabdmaa
namespace Go.Proofs.Ytkjojpeamabdmaa
open Go Go.ChangeShapes Go.WideShapes Go.ChangeAt Go.RowKit Go.Deep
theorem OpenR.str {P : Program} {t : TypeId} (hb : P.underlying t = some .string) (hc : P.cellsOf t = 1) : OpenR P t Rp.str := ⟨hc, fun h => by
  obtain ⟨s, rfl, _⟩ := DataW.trod_string hb h
  exact ⟨_, s, rfl, rfl⟩⟩
theorem OpenR.int {P : Program} {t : TypeId} {k : IntKind} (hb : P.underlying t = some (.int k)) (hc : P.cellsOf t = 1) : OpenR P t (Rp.int k) := ⟨hc, fun h => by
  obtain ⟨n, rfl, _⟩ := DataW.trod_int hb h
  exact ⟨n, rfl⟩⟩
end Go.Proofs.Ytkjojpeamabdmaa
