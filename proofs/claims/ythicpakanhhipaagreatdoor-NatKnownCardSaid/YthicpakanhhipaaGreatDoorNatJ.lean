/- nat: written, digitsOf, Parse: what each call answers, and leaves. -/
import Derived.Test.YthicpakanhhipaaGreatDoorNatI
import Derived.Test.YthicpakanhhipaaGreatDoorMathT
import Derived.Laws.Tables
import Derived.Laws.ResultCell
import Derived.Laws.CopyRow
import Derived.Lib.AtoiErrMem
namespace Go.Proofs.YthicpakanhhipaaGreatDoor
open Go Go.RowKit

/-- What 'written' tells. -/
def WrittenR (s : ByteArray) (e : Ending) : Prop := (Written s ∧ e = .returned (.bool true)) ∨ (¬ Written s ∧ e = .returned (.bool false))

set_option maxHeartbeats 2000000 in
theorem written_any {w : World} (s : ByteArray) (hsz : s.size ≤ maxLen) : Calls Tryz.prog 40 #[.string s] w fun e w' => WrittenR s e ∧ w = w' := by
  unfold maxLen at hsz
  by_cases h0 : s.size = 0
  · have hemp : s.toList.isEmpty = true := by
      rw [ByteArray.toList_eq, List.isEmpty_iff]; exact List.eq_nil_of_length_eq_zero (by simpa using h0)
    have HN := Lib.hid (show ¬ Written s from fun h => by have := h.1; omega)
    go_enter Tryz.func40, Tryz.ntmps40
    go_wp2_with fail
    go_ret
    exact ⟨.inr ⟨HN.out, rfl⟩, rfl⟩
  · have hemp : s.toList.isEmpty = false := by
      rw [ByteArray.toList_eq, ← Bool.not_eq_true, List.isEmpty_iff]
      intro h
      apply h0
      have := congrArg List.length h
      simpa using this
    have hp : 0 < s.size := by omega
    go_enter Tryz.func40, Tryz.ntmps40
    have h3 : ((s[0].toNat : Int) = 48 ∧ 1 < s.size) ∨ ((s[0].toNat : Int) = 48 ∧ ¬ 1 < s.size) ∨ (s[0].toNat : Int) ≠ 48 := by omega
    rcases h3 with ⟨h48, hs1⟩ | ⟨h48, hs1⟩ | h48
    · have h48b : ((s[0].toNat : Int) == 48) = true := beq_iff_eq.2 h48
      have HN := Lib.hid (show ¬ Written s from fun h => h.2.1 hs1 h48)
      clear h48
      go_wp2_with fail
      go_ret
      exact ⟨.inr ⟨HN.out, rfl⟩, rfl⟩
    case' inr.inl =>
      have h48b : ((s[0].toNat : Int) == 48) = true := beq_iff_eq.2 h48
      have hlead := Lib.hid (show ∀ h : 1 < s.size, (s[0].toNat : Int) ≠ 48 from fun h => absurd h hs1)
    case' inr.inr =>
      have h48b : ((s[0].toNat : Int) == 48) = false := beq_eq_false_iff_ne.2 h48
      have hlead := Lib.hid (show ∀ h : 1 < s.size, (s[0].toNat : Int) ≠ 48 from fun _ => h48)
    all_goals
      clear h48
      go_wp2_with fail
      go_loop [18] (fun iv => ∃ k : Nat, k ≤ s.size ∧ iv = .int .i64 k ∧ Hid (∀ c ∈ s.data.toList.take k, isDig c)) (fun iv => s.size - (intOf iv).toNat)
      case atStart => exact ⟨0, by omega, rfl, fun c h => by simp at h⟩
      case round =>
        obtain ⟨k, hk, rfl, hd⟩ := hrel
        by_cases hlt : k < s.size
        · by_cases hc : isDig s[k]
          · have hnx := Lib.hid (show ∀ c ∈ s.data.toList.take (k + 1), isDig c by
              rw [take_snoc s k hlt]
              intro c h
              rcases List.mem_append.1 h with h | h
              · exact hd.out c h
              · rw [List.mem_singleton.1 h]; exact hc)
            have hc1 : ¬ (s[k].toNat : Int) < 48 := by have := hc.1; omega
            have hc2 : ¬ 57 < (s[k].toNat : Int) := by have := hc.2; omega
            clear hd hc
            go_wp2_with fail
            go_round
            case rel => exact ⟨k + 1, by omega, by go_num, hnx⟩
            case measure => simp [intOf] <;> omega
          · have HN := Lib.hid (show ¬ Written s from fun h => hc (h.2.2 _ (mem_at s k hlt)))
            clear hd
            by_cases hc1 : (s[k].toNat : Int) < 48
            case' neg => have hc2 : 57 < (s[k].toNat : Int) := by unfold isDig at hc; omega
            all_goals
              clear hc
              go_wp2_with fail
              go_ret
              exact ⟨.inr ⟨HN.out, rfl⟩, rfl⟩
        · have HW := Lib.hid (show Written s from ⟨hp, hlead.out, by have h := hd.out; rw [List.take_of_length_le (by simp; omega)] at h; exact h⟩)
          clear hd
          go_wp2_with fail
          go_ret
          exact ⟨.inl ⟨HW.out, rfl⟩, rfl⟩

/-- Big digits of a text: n of them behind the first k letters. -/
structure BigI (s : ByteArray) (L n : Nat) (D : List Int) : Prop where
  dg : Dg 1000000000 D
  len : D.length = 456
  num : dval s.data.toList = val 1000000000 (D.take n) + 1000000000 ^ n * dval (s.data.toList.take L)
  fit : L + 9 * n ≤ s.size + 8 ∧ (0 < L → L + 9 * n = s.size)
theorem BigI.start (s : ByteArray) : BigI s s.size 0 (List.replicate 456 0) :=
  ⟨Dg.zeros (by decide) _, List.length_replicate, by rw [List.take_of_length_le (show s.data.toList.length ≤ s.size by simp), List.take_zero, Int.pow_zero]; simp only [val]; omega, by omega⟩
theorem BigI.step {s : ByteArray} {L n : Nat} {D : List Int} (h : BigI s L n D) (hs : s.size ≤ 4104) (hd : ∀ c ∈ s.data.toList, isDig c) (h0 : 0 < L) {cut : Nat} (hc : cut + 9 = L ∨ (L < 9 ∧ cut = 0)) :
    n < 456 ∧ (∀ c ∈ (s.data.toList.take L).drop cut, isDig c) ∧ (s.data.toList.take L).drop cut ≠ [] ∧ ((s.data.toList.take L).drop cut).length ≤ 9 ∧
      (0 ≤ dval ((s.data.toList.take L).drop cut) ∧ dval ((s.data.toList.take L).drop cut) < 1000000000) ∧ BigI s cut (n + 1) (D.set n (dval ((s.data.toList.take L).drop cut))) := by
  have hf := h.fit.2 h0
  have hLs : L ≤ s.size := by omega
  have hn : n < 456 := by omega
  have hl : s.data.toList.length = s.size := by simp
  have hdd : ∀ c ∈ (s.data.toList.take L).drop cut, isDig c := fun c hx => hd c (List.mem_of_mem_take (List.mem_of_mem_drop hx))
  have hlen : ((s.data.toList.take L).drop cut).length = L - cut := by rw [List.length_drop, List.length_take, hl]; omega
  have hb := dval_bound _ hdd
  rw [hlen] at hb
  have hp : (10 : Int) ^ (L - cut) ≤ 10 ^ 9 := pow_mono (by decide) (by omega)
  have hr : 0 ≤ dval ((s.data.toList.take L).drop cut) ∧ dval ((s.data.toList.take L).drop cut) < 1000000000 := by omega
  refine ⟨hn, hdd, fun e => by rw [e] at hlen; simp at hlen; omega, by omega, hr, h.dg.set hr, by simp [h.len], ?_, by omega⟩
  have hset : (D.set n (dval ((s.data.toList.take L).drop cut)))[n]? = some (dval ((s.data.toList.take L).drop cut))   := List.getElem?_set_self (by rw [h.len]; exact hn)
  rw [take_succ_of hset, val_snoc, List.take_set_of_le (Nat.le_refl _), List.length_take, Nat.min_eq_left (by have := h.len; omega), h.num]
  have e1 : dval (s.data.toList.take L) = dval (s.data.toList.take cut) * 10 ^ (L - cut) + dval ((s.data.toList.take L).drop cut) := by
    conv => lhs; rw [← List.take_append_drop cut (s.data.toList.take L)]
    rw [dval_append, hlen, List.take_take, Nat.min_eq_left (by omega)]
  rw [e1]
  rcases hc with hc | ⟨_, rfl⟩
  · rw [show L - cut = 9 by omega, show (10 : Int) ^ 9 = 1000000000 from rfl, Int.pow_succ]
    grind
  · simp only [List.take_zero]
    have : dval [] = 0 := rfl
    rw [this]
    grind

section
variable {k : IntKind} {e : TypeId} {w w' : World} {B g n : Nat} {xs : List Int}
theorem Own.heap (h : Own k e w B (some ⟨g, 0, none⟩) n n xs) : w.heap[g]? = some (.cells (xs.map (Value.int k)).toArray e (0, 0)) := by
  have hl := h.len
  rcases h.2 with ⟨hv, _⟩ | ⟨g', cap, cur, hv, hb, hg, h1, h2, h3, h4⟩
  · cases hv
  · injection hv with hv h5 h6
    injection hv with hv
    injection hv with hv
    subst hv
    subst h6
    have hcur : cur.toList = xs.map (Value.int k) := by rw [← h4, List.take_of_length_le (by simp; omega)]
    rw [hg, ← hcur]
theorem Own.of_heap (hB : B ≤ g) (hg : w.heap[g]? = some (.cells (xs.map (Value.int k)).toArray e (0, 0))) (hl : xs.length = n) (hn : n ≤ maxLen) : Own k e w B (some ⟨g, 0, none⟩) n n xs :=
  ⟨by simp [hl], .inr ⟨g, n, _, rfl, hB, hg, Nat.le_refl _, hn, by simp [hl], by rw [Nat.mul_one, List.take_of_length_le (by simp [hl])]⟩⟩
/-- A whole array stored where one of the call's own lies. -/
theorem wpList_store_arr {P : Program} {ops : Array Oper} {rest : List Oper} {o : Oper} {a : Act} {Q : Exit → Act → World → Prop} (hgd : o.guard = none) (ty : TypeId) (x y : Operand) (ho : o.op = .store ty x y) {X : List Int}
    (h : Own k e w B (some ⟨g, 0, none⟩) n n xs) (ex : a.eval x = .pointer (some ⟨g, 0, none⟩)) (ey : a.eval y = .agg (X.map (Value.int k)).toArray) (hX : X.length = n) (hi : (P.info? ty).map (·.size) = some n) (hn : n ≤ maxLen)
    (hK : ∀ w', Own k e w' B (some ⟨g, 0, none⟩) n n X → w.grownBy w' (some g) → wpList P ops Q rest (a.put o.dst undef) w') : wpList P ops Q (o :: rest) a w := by
  have hl := h.len
  refine wpList_store_row hgd ty x y ho g _ ex ey e _ h.heap (by rw [hi]; simp [hX]) (by simp [hX, hl]) (by simp [Value.oneCell']) ?_
  exact hK _ (.of_heap (h.blk_ g rfl).1 (setRow_heap w g _ _ e _ h.heap) hX hn) ⟨rfl, rfl, rfl, by simp [World.setRow], fun i hi hne => setRow_other w g i _ (fun e => hne (by rw [e]))⟩
end
theorem results_cellt {P : Program} {fn : Func} {p u : Tmp} {ty : TypeId} (h : fn.results = #[.cell p ty, .tmp u]) (tmps : Array Value) (w : World) (g : Nat) (t : TypeId) (cs : Array Value) (fr : Nat × Nat) (d : TypeDesc)
    (hp : tmps.getD p undef = .pointer (some ⟨g, 0, none⟩)) (hg : w.heap[g]? = some (.cells cs t fr)) (hu : P.underlying ty = some d) (hd : (match d with | .struct _ | .array _ _ => true | _ => false) = true) (hi : (P.info? ty).map (·.size) = some cs.size) :
    (results fn tmps).run P w = .ok (.tuple #[.agg cs, tmps.getD u undef]) w := by
  rw [results_cell_tmp h, hp]
  simp [asAddr, Result.andThen, run_loadVar_row w g t ty cs fr d hg hu hd hi]
theorem zeros456 : Tryz.zeroCells65 = ((List.replicate 456 (0 : Int)).map (Value.int .u32)).toArray := by kernel_rfl
theorem info456 : (Tryz.prog.info? 65).map (·.size) = some 456 := by kernel_rfl

/-- What digitsOf answers. -/
def DigitsR (w : World) (s : ByteArray) (e : Ending) (w' : World) : Prop :=
  ∃ (n : Nat) (D : List Int), e = .returned (.tuple #[.agg (D.map (Value.int .u32)).toArray, .int .i64 n]) ∧ n ≤ 456 ∧ D.length = 456 ∧ Dg 1000000000 D ∧ dval s.data.toList = val 1000000000 (D.take n) ∧ Below w.heap.size w w'

set_option maxHeartbeats 2000000 in
theorem digitsOf_any {w : World} (s : ByteArray) (hs : s.size ≤ 4096) (hd : ∀ c ∈ s.data.toList, isDig c) : Calls Tryz.prog 41 #[.string s] w (DigitsR w s) := by
  have ho : Own .u32 65 (w.alloc (.cells Tryz.zeroCells65 65)) w.heap.size (some ⟨w.heap.size, 0, none⟩) 456 456 (List.replicate 456 0) :=
    .of_heap (Nat.le_refl _) (by rw [zeros456]; exact heap_alloc_new _ _) List.length_replicate (by unfold maxLen; omega)
  have hb : Below w.heap.size w (w.alloc (.cells Tryz.zeroCells65 65)) := (Below.refl _ _).alloc (Nat.le_refl _) _
  go_enter Tryz.func41, Tryz.ntmps41
  go_wp2_with fail
  generalize w.alloc (.cells Tryz.zeroCells65 65) = w1 at *
  go_loopw [0, 3] (fun sv nv wr => ∃ (t : ByteArray) (n : Nat) (D : List Int), sv = .string t ∧ nv = .int .i64 n ∧ Hid (t.data.toList = s.data.toList.take t.size) ∧ t.size ≤ 4096 ∧ n ≤ 456 ∧ Own .u32 65 wr w.heap.size (some ⟨w.heap.size, 0, none⟩) 456 456 D ∧ Hid (BigI s t.size n D) ∧ Below w.heap.size w wr)
    (fun sv _ _ => match sv with | .string t => t.size | _ => 0)
  case atStart => exact ⟨s, 0, _, rfl, rfl, by show _ = _; rw [List.take_of_length_le (by simp)], hs, by omega, ho, BigI.start s, hb⟩
  case round =>
    clear ho hb
    obtain ⟨t, n, D, rfl, rfl, ht, hts, hn, oD, hI, br⟩ := hrel
    by_cases h0 : t.size = 0
    · have hnum := hI.out.num
      rw [h0, List.take_zero] at hnum
      have HN := Lib.hid (show dval s.data.toList = val 1000000000 (D.take n) by rw [hnum]; show _ + _ * dval [] = _; simp [dval])
      have HL := Lib.hid hI.out.len
      have HD := Lib.hid hI.out.dg
      have HB := Lib.hid br
      clear hnum hI br
      have hg := Lib.hid oD.heap
      have hsz := Lib.hid (show (Tryz.prog.info? 65).map (·.size) = some (D.map (Value.int .u32)).toArray.size by rw [info456]; simp [HL.out])
      go_wp2_with (first
        | (with_reducible refine wpList_load_row rfl 65 _ rfl w.heap.size rfl _ _ _ _ hg.out Tryz.underlying65 rfl hsz.out ?_)
        | (with_reducible refine wpList_store_arr rfl 65 _ _ rfl oD rfl rfl HL.out info456 (by unfold maxLen; omega) ?_; intro w2 o2 g2))
      have HB2 := Lib.hid (HB.out.grown g2 HB.out.size (fun k hk => by injection hk with hk; omega))
      refine bodyPost_ret_by (results_cellt rfl _ _ w.heap.size _ _ _ _ rfl o2.heap Tryz.underlying65 rfl hsz.out) rfl ?_
      exact ⟨n, D, rfl, hn, HL.out, HD.out, HN.out, HB2.out⟩
    · have hts0 : (0 : Int) < t.size := by omega
      obtain ⟨cut, hcut, hc1, hc2⟩ : ∃ cut : Nat, (max ((t.size : Int) - 9) 0).toNat = cut ∧ (cut + 9 = t.size ∨ (t.size < 9 ∧ cut = 0)) ∧ max ((t.size : Int) - 9) 0 = (cut : Int) := by
        rcases Nat.lt_or_ge t.size 9 with h | h
        · exact ⟨0, by rw [Int.max_eq_right (by omega)]; rfl, .inr ⟨h, rfl⟩, by rw [Int.max_eq_right (by omega)]; rfl⟩
        · exact ⟨t.size - 9, by rw [Int.max_eq_left (by omega)]; omega, .inl (by omega), by rw [Int.max_eq_left (by omega)]; omega⟩
      obtain ⟨p1, p2, p3, p4, p5, p6⟩ := hI.out.step (by omega) hd (by omega) hc1
      have hblk : (t.extract cut t.size).data.toList = (s.data.toList.take t.size).drop cut := by
        rw [← ht.out, ByteArray.data_extract, Array.toList_extract, List.extract_eq_take_drop, List.take_of_length_le (by simp)]
      have HPU := Lib.hid (fun W => Tryz.strconv_ParseUint_10_at32_ok (t.extract cut t.size) (by
        have : (t.extract cut t.size).data.toList.length ≤ 9 := by rw [hblk]; exact p4
        have e : (t.extract cut t.size).size = (t.extract cut t.size).data.toList.length := by simp
        omega) (dval ((s.data.toList.take t.size).drop cut)).toNat (by rw [hblk]; exact parse_ok _ p2 p3 p4) W)
      have HI := Lib.hid p6
      have hfs : (t.extract 0 cut).size = cut := by simp; omega
      have hfront := Lib.hid (show (t.extract 0 cut).data.toList = s.data.toList.take (t.extract 0 cut).size by
        rw [hfs, ByteArray.data_extract, Array.toList_extract, List.extract_eq_take_drop, ht.out, List.drop_zero, List.take_take]
        congr 1
        omega)
      generalize dval ((s.data.toList.take t.size).drop cut) = d at *
      clear hI p2 p3 p4 p6 hblk ht
      have hdn : ((d.toNat : Nat) : Int) = d := by omega
      have hw1 : d % 4294967296 = d := by omega
      have HB := Lib.hid br
      clear br
      go_wp2_with fail
      refine (HPU.out wr).mono ?_
      rintro e w2 ⟨rfl, hw2⟩
      have hb2 : Below wr.heap.size wr w2 := by
        rcases hw2 with rfl | rfl
        · exact Below.refl _ _
        · exact Lib.bytesWorld_below _ _ _
      rw [hdn]
      have oD2 := oD.below hb2
      obtain ⟨z, hz, hcell, hfr, hput⟩ := oD2.at_row (i := n) p1
      have hnext := Lib.hid (hput d)
      have HB2 := Lib.hid (HB.out.trans (hb2.mono HB.out.size))
      have hzs := HB2.out.size
      clear hput hw2 hb2 oD oD2 HPU
      go_wp2_with fail
      refine ⟨⟨t.extract 0 cut, n + 1, _, rfl, by go_num, hfront, by omega, by omega, hnext.out.1, by rw [hfs]; exact HI, HB2.out.trans (Below.own hnext.out.2 (Nat.le_refl _) hzs)⟩, ?_⟩
      show (t.extract 0 cut).size < t.size
      omega

/-- What Parse answers. -/
def ParseN (w : World) (s : ByteArray) (e : Ending) (w' : World) : Prop :=
  (¬ Written s ∧ e = .returned (.tuple #[.slice none 0 0, .int .i64 60]) ∧ Below w.heap.size w w') ∨
  (Written s ∧ 4096 < s.size ∧ e = .returned (.tuple #[.slice none 0 0, .int .i64 3]) ∧ Below w.heap.size w w') ∨
  (Written s ∧ s.size ≤ 4096 ∧ NewE w (dval s.data.toList) e w')

theorem held_alloc {w W : World} {o : Obj} {p : Addr} {u : Value} (hp : p.block < w.heap.size) (h : Below w.heap.size w W ∧ W.cell? p = some u) : Below w.heap.size w (W.alloc o) ∧ (W.alloc o).cell? p = some u :=
  ⟨h.1.alloc h.1.size o, by rw [World.cell?_alloc_lt _ _ _ (Nat.lt_of_lt_of_le hp h.1.size)]; exact h.2⟩
theorem mulB_arg {w W : World} {A : Option Addr} {n c : Nat} {X : List Int} {x : Int} {p : Addr} {u : Value} (hs : Sl .u32 w w.heap.size A n c X) (rX : Row 4294967296 x X) (hn : n ≤ 1000000) (hp : p.block < w.heap.size) (hS : Below w.heap.size w W ∧ W.cell? p = some u) :
    Calls Tryz.prog 43 #[.slice A n c, .int .u32 1000000000] W fun e W' => ∃ ys A' n' c', e = .returned (.slice A' n' c') ∧ Row 4294967296 (1000000000 * x) ys ∧ Sl .u32 W' W'.heap.size A' n' c' ys ∧ Below W.heap.size W W' ∧ W'.cell? p = some u := by
  refine (MulSmall_any ((hs.below hS.1 (Nat.le_refl _)).more hS.1.size) (Nat.le_refl _) rX.dg (m := 1000000000) (by omega) (by omega)).mono ?_
  rintro e W' ⟨ys, hr, A', n', c', rfl, ho, hb⟩
  rw [rX.val] at hr
  have hsz := hS.1.size
  exact ⟨ys, A', n', c', rfl, hr, ho.sl, hb, (hb.cell (by omega)).trans hS.2⟩

theorem addB_arg {w W : World} {A A2 : Option Addr} {n c : Nat} {Y : List Int} {x d : Int} {p : Addr} {u : Value} (hs : Sl .u32 W W.heap.size A n c Y) (ht : Sl .u32 W W.heap.size A2 1 1 [d]) (rY : Row 4294967296 (1000000000 * x) Y) (hx : x < 4294967296 ^ 500) (hd : 0 ≤ d ∧ d < 4294967296)
    (hp : p.block < w.heap.size) (hS : Below w.heap.size w W ∧ W.cell? p = some u) :
    Calls Tryz.prog 42 #[.slice A n c, .slice A2 1 1] W fun e W' => ∃ ys A' n' c', e = .returned (.slice A' n' c') ∧ Row 4294967296 (1000000000 * x + d) ys ∧ Own .u32 27 W' w.heap.size A' n' c' ys ∧ Below W.heap.size W W' ∧ W'.cell? p = some u := by
  have hl : n ≤ 501 := by
    rw [← hs.len]
    refine rY.len_le (by decide) ?_
    rw [show (4294967296 : Int) ^ 501 = 4294967296 ^ 500 * 4294967296 from Int.pow_succ _ _]
    omega
  refine (Add_any hs ht (Nat.le_refl _) rY.dg (dg1 hd) (by omega) (by omega)).mono ?_
  rintro e W' ⟨ys, hr, A', n', c', rfl, ho, hb⟩
  have hv : val 4294967296 Y + val 4294967296 [d] = 1000000000 * x + d := by rw [rY.val]; simp [val]
  rw [hv] at hr
  have hsz := hS.1.size
  exact ⟨ys, A', n', c', rfl, hr, ho.lower hsz, hb, (hb.cell (by omega)).trans hS.2⟩

set_option maxHeartbeats 2000000 in
theorem Parse_any {w : World} (s : ByteArray) (hsz : s.size ≤ maxLen) : Calls Tryz.prog 20 #[.string s] w (ParseN w s) := by
  have HW := Lib.hid (written_any (w := w) s hsz)
  have hsm := hsz
  unfold maxLen at hsm
  go_enter Tryz.func20, Tryz.ntmps20
  go_wp2_with fail
  refine HW.out.mono ?_
  rintro e w' ⟨h, rfl⟩
  rcases h with ⟨hw, rfl⟩ | ⟨hw, rfl⟩
  · by_cases hbig : 4096 < s.size
    · have H1 := Lib.hid hw
      clear hw HW
      go_wp2_with fail
      go_ret2
      exact .inr (.inl ⟨H1.out, hbig, rfl, Below.refl _ _⟩)
    · have HD := Lib.hid (digitsOf_any (w := w) s (by omega) hw.2.2)
      have H1 := Lib.hid hw
      clear hw HW
      go_wp2_with fail
      refine HD.out.mono ?_
      rintro e w1 ⟨N, D, rfl, hN, lD, dD, hv, hb1⟩
      have ho : Own .u32 65 (w1.alloc (.cells Tryz.zeroCells65 65)) w1.heap.size (some ⟨w1.heap.size, 0, none⟩) 456 456 (List.replicate 456 0) :=
        .of_heap (Nat.le_refl _) (by rw [zeros456]; exact heap_alloc_new _ _) List.length_replicate (by unfold maxLen; omega)
      have hb : Below w1.heap.size w1 (w1.alloc (.cells Tryz.zeroCells65 65)) := (Below.refl _ _).alloc (Nat.le_refl _) _
      have HV := Lib.hid hv
      have B1 := Lib.hid hb1
      clear HD hv hb1
      go_wp2_with (with_reducible refine wpList_store_arr rfl 65 _ _ rfl ho rfl rfl lD info456 (by unfold maxLen; omega) ?_; intro w2 o2 g2)
      have hz1 := (ho.blk_ _ rfl).2
      have hsz2 : w1.heap.size < w2.heap.size := Nat.lt_of_lt_of_le hz1 g2.size
      have B2 := Lib.hid (B1.out.trans ((hb.grown g2 (Nat.le_of_lt hz1) (fun k hk => by injection hk with hk; omega)).mono B1.out.size))
      have hw12 := B1.out.size
      clear hb ho g2 B1 hz1
      have lT : (D.take N).length = N := by rw [List.length_take]; omega
      have dT : Dg 1000000000 (D.take N) := dD.take N
      have hget : ∀ j, j < N → (D.take N)[j]? = D[j]? := fun j hj => by rw [List.getElem?_take, if_pos hj]
      generalize D.take N = T at *
      go_loopw [5, 6] (fun nv av wr => ∃ (k n3 c3 : Nat) (A3 : Option Addr) (O : List Int), k ≤ N ∧ nv = .int .i64 k ∧ av = .slice A3 n3 c3 ∧ Own .u32 27 wr w2.heap.size A3 n3 c3 O ∧ Hid (Row 4294967296 (val 1000000000 (T.drop k)) O) ∧ Below w2.heap.size w2 wr) (fun nv _ _ => (intOf nv).toNat)
      case atStart => exact ⟨N, 0, 0, none, [], Nat.le_refl _, rfl, rfl, Own.nil, ⟨Dg.nil, Tr.nil, by rw [List.drop_of_length_le (by omega)]; rfl⟩, Below.refl _ _⟩
      case round =>
        obtain ⟨k, n3, c3, A3, O, hk, rfl, rfl, oA, RA, br⟩ := hrel
        by_cases h0 : k = 0
        · subst h0
          have RR := Lib.hid (show Row 4294967296 (dval s.data.toList) O by rw [HV.out]; have := RA.out; rwa [List.drop_zero] at this)
          have B3 := Lib.hid (B2.out.trans (br.mono B2.out.size))
          have hw2s := B2.out.size
          clear br RA
          go_wp2_with fail
          go_ret2
          exact .inr (.inr ⟨H1.out, by omega, O, A3, n3, c3, RR.out, rfl, oA.lower hw2s, B3.out⟩)
        · obtain ⟨j, rfl⟩ : ∃ j, k = j + 1 := ⟨k - 1, by omega⟩
          obtain ⟨d, hdj⟩ := get_of_lt (xs := T) (i := j) (by omega)
          have hd := dT.get hdj
          have hcell : wr.cell? ⟨w1.heap.size, j, none⟩ = some (.int .u32 d) := by
            obtain ⟨z, hz, hc, -, -⟩ := o2.at_row (i := j) (by omega)
            rw [hget j (by omega), hz] at hdj
            injection hdj with hdj
            subst hdj
            exact (br.cell (show w1.heap.size < _ from hsz2)).trans hc
          have v0 := val_nonneg (β := 1000000000) (by decide) (dT.drop (j + 1))
          have v1 := val_lt (β := 1000000000) (by decide) (dT.drop (j + 1))
          rw [List.length_drop, lT] at v1
          have hl3 : n3 ≤ 500 := by
            rw [← oA.len]
            have h1 := pow_mono (show (0 : Int) < 1000000000 by decide) (show N - (j + 1) ≤ 500 by omega)
            have h2 : (1000000000 : Int) ^ 500 ≤ 4294967296 ^ 500 := by decide +kernel
            exact RA.out.len_le (by decide) (by omega)
          have hval := Lib.hid (show val 1000000000 (T.drop j) = 1000000000 * val 1000000000 (T.drop (j + 1)) + d by rw [val_head _ hdj]; omega)
          have HB := Lib.hid br
          have hbz := br.size
          have sA := oA.sl
          have hwk : wr.heap.size ≥ w2.heap.size := hbz
          have hmx : val 1000000000 (T.drop (j + 1)) < 4294967296 ^ 500 := by
            have h1 := pow_mono (show (0 : Int) < 1000000000 by decide) (show N - (j + 1) ≤ 500 by omega)
            have h2 : (1000000000 : Int) ^ 500 ≤ 4294967296 ^ 500 := by decide +kernel
            omega
          have HMX := Lib.hid hmx
          have hj456 : (j : Int) < 456 := by omega
          clear br oA v0 v1 hdj hmx
          have h0S : Below wr.heap.size wr wr ∧ wr.cell? ⟨w1.heap.size, j, none⟩ = some (.int .u32 d) := ⟨Below.refl _ _, hcell⟩
          have hjk : ((j + 1 : Nat) : Int) - 1 = j := by omega
          have hw1r : (Addr.mk w1.heap.size j none).block < wr.heap.size := show w1.heap.size < wr.heap.size by omega
          go_wp2_with fail
          go_region_held3 (fun W => Below wr.heap.size wr W ∧ W.cell? ⟨w1.heap.size, j, none⟩ = some (.int .u32 d))
            (first
              | assumption
              | exact ⟨Below.drew (And.left (by assumption)), And.right (by assumption)⟩
              | exact ⟨Below.trans (And.left (by assumption)) (Below.mono (by assumption) (Below.size (And.left (by assumption)))), by assumption⟩
              | exact held_alloc (w := wr) (p := ⟨w1.heap.size, j, none⟩) hw1r (by assumption))
            (first
              | (go_at_call 43; go_must (refine (mulB_arg (w := wr) (p := ⟨w1.heap.size, j, none⟩) (u := .int .u32 d) sA RA.out (by omega) (show w1.heap.size < wr.heap.size by omega) (show Below wr.heap.size wr _ ∧ _ by assumption)).mono ?_; rintro e wS ⟨ys, Az, nz, cz, rfl, rY, sY, hbz2, hcz⟩))
              | (go_at_call 42; go_must (refine (addB_arg (w := wr) (d := d) (p := ⟨w1.heap.size, j, none⟩) (u := .int .u32 d) (Y := ys)
                  (by first | exact sY | exact ((sY.alloc (Nat.le_refl _) _).more (by rw [size_one]; exact Nat.le_succ _)))
                  (by first | (refine Sl.more ?_ (Nat.le_of_eq (size_one _ _).symm); exact lit1 wS wS.heap.size rfl d _) | exact (((lit1 wr wr.heap.size rfl d 27).drew1).below hbz2 (by show _ ≤ (wr.alloc _).heap.size; rw [size_one]; exact Nat.le_refl _)).more (Nat.le_trans (by show _ ≤ (wr.alloc _).heap.size; rw [size_one]; exact Nat.le_refl _) hbz2.size))
                  rY HMX.out (by omega) hw1r (show Below wr.heap.size wr _ ∧ _ by assumption)).mono ?_; rintro e wA ⟨zs, Aa, na, ca, rfl, rZ, oZ, hbz3, hcz2⟩)))
          all_goals
            have RZ := Lib.hid (show Row 4294967296 (val 1000000000 (T.drop j)) zs by rw [hval.out]; exact rZ)
            have B5 := Lib.hid (HB.out.trans ((show Below wr.heap.size wr wA ∧ _ by assumption).1.mono hbz))
            have oZ' := oZ.lower (B' := w2.heap.size) hbz
            clear rZ oZ hbz3 hcz2 hcell h0S sA sY hbz2 hcz rY RA
            go_wp2_with fail
            go_roundw
            case rel => exact ⟨j, na, ca, Aa, zs, by omega, rfl, rfl, oZ', RZ, B5.out⟩
            case measure => simp [intOf] <;> omega
  · have H1 := Lib.hid hw
    clear hw HW
    go_wp2_with fail
    go_ret2
    exact .inl ⟨H1.out, rfl, Below.refl _ _⟩
end Go.Proofs.YthicpakanhhipaaGreatDoor
