/- nat: putBlock, Put: what each call answers, and leaves. -/
import Derived.Test.YthicpakanhhipaaGreatDoorNatJ
import Derived.Lib.AppendStr
import Derived.Lib.Join
namespace Go.Proofs.YthicpakanhhipaaGreatDoor
open Go Go.RowKit

theorem elemY : ElemT Tryz.prog 25 5 .u8 1 := ⟨Tryz.underlying25, info_parts (by kernel_rfl)⟩
/-- append(b, s...), s a string. -/
theorem wpList_apps {w : World} {ops : Array Oper} {rest : List Oper} {o : Oper} {a : Act} {Q : Exit → Act → World → Prop} (hgd : o.guard = none) (s x : Operand)
    (ho : o.op = .call { callee := .builtin .append, args := #[s, x], argTypes := #[25, 9] }) {B : Nat} {A : Option Addr} {n c : Nat} {xs : List Int} (h : Own .u8 5 w B A n c xs) (es : a.eval s = .slice A n c)
    {t : ByteArray} (ex : a.eval x = .string t) (hn : n + t.size ≤ 140737488355328) (hB : B ≤ w.heap.size)
    (hK : ∀ A' c' w', Own .u8 5 w' B A' (n + t.size) c' (xs ++ t.data.toList.map fun b => (b.toNat : Int)) → w.grownBy w' (blk A) → wpList Tryz.prog ops Q rest (a.put o.dst (.slice A' (n + t.size) c')) w') : wpList Tryz.prog ops Q (o :: rest) a w := by
  obtain ⟨i, hi, hz, hsz, hby⟩ := elemY.info
  refine Lib.wpList_append_own_string w hgd s x 25 9 ho B 5 i elemY.slice Tryz.underlying9 hi hz hsz hby (.slice A n c) n (xs.map (Value.int .u8)) es h t ex (by unfold maxLen; omega) hn hB ?_
  intro v' w' h2 h3 _
  have e1 : xs.map (Value.int .u8) ++ Lib.strCells t = (xs ++ t.data.toList.map fun b => (b.toNat : Int)).map (Value.int .u8) := by
    rw [List.map_append, List.map_map]; rfl
  rw [e1] at h2
  rw [ownBlock_slice] at h3
  have hf : ∃ A' c', v' = .slice A' (n + t.size) c' := by
    rcases h2.2 with ⟨hv, h0⟩ | ⟨g, cap, cur, hv, _⟩
    · exact ⟨none, 0, by rw [hv, h0]⟩
    · exact ⟨_, _, hv⟩
  obtain ⟨A', c', rfl⟩ := hf
  exact hK A' c' w' h2 h3

theorem text_back {w : World} {B n c : Nat} {A : Option Addr} {l : List UInt8} (h : Own .u8 5 w B A n c (txt l)) (h0 : l ≠ []) : (convert 25 9 (.slice A n c)).run Tryz.prog w = .ok (.string ⟨l.toArray⟩) w := by
  have hl := h.len
  unfold txt at hl
  rw [List.length_map] at hl
  rcases h.form with ⟨_, hn, _⟩ | ⟨g, rfl, _, _⟩
  · exact absurd (List.eq_nil_of_length_eq_zero (hl.trans hn)) h0
  · subst hl
    refine run_convert_bytes_back (P := Tryz.prog) w 25 9 5 ⟨g, 0, none⟩ c l Tryz.underlying25 Tryz.underlying5 Tryz.underlying9 fun j hj => ?_
    refine h.sl.news j _ ?_
    simp [txt, hj]

set_option maxHeartbeats 4000000 in
theorem putBlock_any {w : World} {B : Nat} {A : Option Addr} {n c : Nat} {xs : List Int} (hs : Sl .u32 w B A n c xs) (hB : B ≤ w.heap.size) (hx : Dg 4294967296 xs) (hn : n ≤ 100000000) (hN : val 4294967296 xs < 1000000000 ^ 456)
    (htab : Lib.TabIs Tryz.prog w "internal/strconv.uint64pow10" .u64 Lib.pow10Tab) (hP : ∀ w', Below w.heap.size w w' → Lib.TabIs Tryz.prog w' "internal/strconv.uint64pow10" .u64 Lib.pow10Tab) :
    Calls Tryz.prog 47 #[.slice A n c] w (PutB w (val 4294967296 xs)) := by
  have ho : Own .u32 65 (w.alloc (.cells Tryz.zeroCells65 65)) w.heap.size (some ⟨w.heap.size, 0, none⟩) 456 456 (List.replicate 456 0) :=
    .of_heap (Nat.le_refl _) (by rw [zeros456]; exact heap_alloc_new _ _) List.length_replicate (by unfold maxLen; omega)
  have hb : Below w.heap.size w (w.alloc (.cells Tryz.zeroCells65 65)) := (Below.refl _ _).alloc (Nat.le_refl _) _
  have hs0 := hs.alloc hB (.cells Tryz.zeroCells65 65)
  have hB0 : B ≤ (w.alloc (.cells Tryz.zeroCells65 65)).heap.size := by rw [size_one]; omega
  have rX : Row 4294967296 (val 4294967296 xs) (tl xs) := ⟨tl_Dg hx, tl_idem _, tl_val _ _⟩
  have hxl := tl_len xs
  have hxl2 := hs.len
  have v0 := val_nonneg (β := 4294967296) (by decide) hx
  generalize val 4294967296 xs = N at *
  clear hx htab
  go_enter Tryz.func47, Tryz.ntmps47
  go_wp2_with fail
  generalize w.alloc (.cells Tryz.zeroCells65 65) = w1 at *
  have hz1 := (ho.blk_ _ rfl).2
  refine (Trim_any hs0 (by omega)).mono ?_
  rintro e w2 ⟨A1, n1, c1, rfl, ho1, hb1⟩
  have hw1 := hb.size
  have hw2 := hb1.size
  have oD := ho.below hb1
  have B2 := hb.trans (hb1.mono hw1)
  have hl1 := ho1.len
  generalize tl xs = X at *
  clear hs hs0 ho hb hb1 hB hB0
  go_wp2_with fail
  go_loopw [0, 4] (fun av nv wr => ∃ (j n3 c3 : Nat) (A3 : Option Addr) (O D : List Int) (q : Int), av = .slice A3 n3 c3 ∧ nv = .int .i64 j ∧ j ≤ 456 ∧ n3 ≤ 100000000 ∧ Own .u32 27 wr w1.heap.size A3 n3 c3 O ∧ Own .u32 65 wr w.heap.size (some ⟨w.heap.size, 0, none⟩) 456 456 D ∧
      Hid (Row 4294967296 q O) ∧ Hid (BlkI N q j D) ∧ Below w.heap.size w wr) (fun av _ wr => rdL wr av)
  case atStart => exact ⟨0, n1, c1, A1, X, _, N, rfl, rfl, by omega, by omega, ho1, oD, rX, ⟨Dg.zeros (by decide) _, List.length_replicate, by rw [List.take_zero, Int.pow_zero]; simp only [val]; omega, v0, fun _ => .inl rfl⟩, B2⟩
  case round =>
    clear ho1 oD rX B2
    obtain ⟨j, n3, c3, A3, O, D, q, rfl, rfl, hj, hn3, oA, oD, RA, HI, br⟩ := hrel
    have hol := oA.len
    have hwr := br.size
    by_cases h0 : n3 = 0
    · subst h0
      have hq : q = 0 := by rw [← RA.out.val, List.eq_nil_of_length_eq_zero hol]; rfl
      subst hq
      have hnum := HI.out.num
      rw [Int.mul_zero, Int.add_zero] at hnum
      have HP := Lib.hid hP
      have BR := Lib.hid br
      by_cases hj0 : j = 0
      · subst hj0
        have hN0 : N = 0 := by rw [hnum, List.take_zero]; rfl
        have HN := Lib.hid hN0
        clear hnum hN0 HI RA br hP
        go_wp2_with fail
        go_ret
        exact ⟨_, rfl, by rw [HN.out]; rfl, BR.out⟩
      · obtain ⟨wp, rfl⟩ : ∃ wp : World, wp = wr := ⟨_, rfl⟩
        obtain ⟨d0, hd0, hd0p⟩ : ∃ d, D[j - 1]? = some d ∧ 0 < d := by
          rcases HI.out.top rfl with h | h
          · exact absurd h hj0
          · exact h
        obtain ⟨m, rfl⟩ : ∃ m, j = m + 1 := ⟨j - 1, by omega⟩
        rw [Nat.add_sub_cancel] at hd0
        have hdd := HI.out.dg.get hd0
        obtain ⟨z, hz, hcell, -, -⟩ := oD.at_row (i := m) (by omega)
        obtain rfl : z = d0 := by rw [hz] at hd0; injection hd0
        obtain ⟨u, rfl⟩ : ∃ u : Nat, z = (u : Int) := ⟨z.toNat, by omega⟩
        have hjb : ((m + 1 : Nat) : Int) ≠ 0 := by omega
        have hjb2 : (((m : Int) + 1) == 0) = false := beq_eq_false_iff_ne.2 (by omega)
        have lD := HI.out.len
        have dT : Dg 1000000000 (D.take (m + 1)) := HI.out.dg.take _
        have lT : (D.take (m + 1)).length = m + 1 := by rw [List.length_take]; omega
        have hgT : ∀ i, i < m + 1 → (D.take (m + 1))[i]? = D[i]? := fun i hi => by rw [List.getElem?_take, if_pos hi]
        have htop : val 1000000000 ((D.take (m + 1)).drop m) = (u : Int) := by
          rw [drop_of (x := (u : Int)) (by rw [hgT m (by omega)]; exact hz), List.drop_of_length_le (by omega)]; simp [val]
        have HA := Lib.hid (AppendUint_any (u := u) (w := wp) (B := wp.heap.size) (by omega) Own.nil (Nat.le_refl _) (by omega) (HP.out wp br))
        have hw5 : (m : Int) < 456 := by omega
        have HNum := Lib.hid hnum
        have hzr := (oD.blk_ _ rfl).2
        clear HI RA br hP oA hnum hd0
        go_wp2_with fail
        refine HA.out.mono ?_
        rintro e w5 ⟨A5, n5, c5, rfl, o5, b5⟩
        rw [List.nil_append] at o5
        have hdec : Lib.decDigits u = decL u := by rw [decDigits_putL]; exact if_neg (by omega)
        have hlen5 := (padL_eq 8 (l := u) (by omega)).1
        have hn5 := o5.len
        rw [List.length_map] at hn5
        rw [hdec] at o5 hlen5 hn5
        have oT := Lib.hid (show Own .u8 5 w5 wp.heap.size A5 n5 c5 (txt (decL (val 1000000000 ((D.take (m + 1)).drop m)).toNat)) by rw [htop]; exact o5)
        have B5 := Lib.hid b5
        clear HA hdec o5 b5 htop
        generalize hTd : D.take (m + 1) = T at *
        clear hTd
        go_wp2_with fail
        go_loopw [5, 6] (fun tv iv wr => ∃ (k m5 c5 : Nat) (A5 : Option Addr), iv = .int .i64 ((k : Int) - 1) ∧ tv = .slice A5 m5 c5 ∧ k ≤ m ∧ Own .u8 5 wr wp.heap.size A5 m5 c5 (txt (decL (val 1000000000 (T.drop k)).toNat)) ∧ m5 + 9 * k ≤ 9 * (m + 1) ∧ Below wp.heap.size wp wr) (fun _ iv _ => (intOf iv + 1).toNat)
        case atStart => exact ⟨m, n5, c5, A5, by first | rfl | (congr 1; omega), rfl, Nat.le_refl _, oT.out, by omega, B5.out⟩
        case round =>
          clear oT B5
          obtain ⟨k, m5, c5, A5, rfl, rfl, hk, oX, hm5, bq⟩ := hrel
          have hwq := bq.size
          by_cases hk0 : k = 0
          · subst hk0
            rw [List.drop_zero, ← HNum.out] at oX
            have hTm : T[m]? = some (u : Int) := by rw [hgT m (by omega)]; exact hz
            have hNp : 0 < N := by rw [HNum.out]; exact val_pos (by decide) dT hTm hd0p
            have hcv := text_back oX (decL_ne (by omega))
            have HE := Lib.hid (show putL N.toNat = decL N.toNat from if_neg (by omega))
            have HB := Lib.hid (BR.out.trans (bq.mono BR.out.size))
            clear bq
            go_wp2_with fail
            go_ret
            exact ⟨_, rfl, by rw [HE.out], HB.out⟩
          · obtain ⟨i, rfl⟩ : ∃ i, k = i + 1 := ⟨k - 1, by omega⟩
            obtain ⟨d, hd, hcd, -, -⟩ := (oD.keep (row := none) ⟨bq.os, bq.tape, bq.output, bq.size, fun j hj _ => bq.block j hj⟩ (by right; simp [blk])).at_row (i := i) (by omega)
            have hTi : T[i]? = some d := by rw [hgT i (by omega)]; exact hd
            have hdd2 := dT.get hTi
            obtain ⟨u2, rfl⟩ : ∃ u2 : Nat, d = (u2 : Int) := ⟨d.toNat, by omega⟩
            have hTm : T[m]? = some (u : Int) := by rw [hgT m (by omega)]; exact hz
            have hpos : 0 < val 1000000000 (T.drop (i + 1)) := val_pos (by decide) (dT.drop (i + 1)) (k := m - (i + 1)) (by rw [List.getElem?_drop, show i + 1 + (m - (i + 1)) = m by omega]; exact hTm) hd0p
            obtain ⟨hbig, hl9⟩ := decL_big dT hTi hpos
            rw [Int.toNat_natCast] at hbig hl9
            have HF := Lib.hid (FormatUint_any (u := u2) (w := wr) (by omega) (HP.out wr (BR.out.trans (bq.mono BR.out.size))))
            have HBig := Lib.hid hbig
            have HBq := Lib.hid bq
            clear hbig bq
            go_wp2_with fail
            refine HF.out.mono ?_
            rintro e w6 ⟨rfl, b6⟩
            have hlsz : (⟨(Lib.decDigits u2).toArray⟩ : ByteArray).size = (Lib.decDigits u2).length := rfl
            have hlls : (⟨(Lib.decDigits u2).toArray⟩ : ByteArray).data.toList = Lib.decDigits u2 := rfl
            generalize (⟨(Lib.decDigits u2).toArray⟩ : ByteArray) = low at *
            have hlow9 : low.size ≤ 9 := by omega
            have HLz := Lib.hid (And.intro hlsz hlls)
            clear hlsz hlls
            have hsub : (9 : Int) - (low.size : Int) = ((9 - low.size : Nat) : Int) := by omega
            have hwr9 : IntKind.i64.wrap ((9 - low.size : Nat) : Int) = ((9 - low.size : Nat) : Int) := by rw [IntKind.wrap_i64]; omega
            have hzs : (⟨#[48]⟩ : ByteArray).size = 1 := rfl
            have HRp := Lib.hid (Tryz.strings_Repeat ⟨#[48]⟩ (9 - low.size) w6 (by omega) (by rw [hzs]; omega))
            have oX6 := oX.below b6
            have HB6 := Lib.hid (HBq.out.trans (b6.mono hwq))
            have hw6 := b6.size
            clear b6 oX HF
            go_wp2_with fail
            refine HRp.out.mono ?_
            rintro e w7 ⟨rfl, b7⟩
            have hrl : (⟨(Lib.repeatL (⟨#[48]⟩ : ByteArray).data.toList (9 - low.size)).toArray⟩ : ByteArray).data.toList = Lib.repeatL [48] (9 - low.size) := rfl
            have hrs : (⟨(Lib.repeatL (⟨#[48]⟩ : ByteArray).data.toList (9 - low.size)).toArray⟩ : ByteArray).size = 9 - low.size := by
              show (Lib.repeatL [48] (9 - low.size)).length = _
              rw [Lib.repeatL_length]; simp
            generalize (⟨(Lib.repeatL (⟨#[48]⟩ : ByteArray).data.toList (9 - low.size)).toArray⟩ : ByteArray) = nul at *
            have HRl := Lib.hid (And.intro hrl hrs)
            have hnul : nul.size ≤ 9 := by omega
            have oX7 := oX6.below b7
            have HB7 := Lib.hid (HB6.out.trans (b7.mono (Nat.le_trans hwq hw6)))
            have hw7 := b7.size
            clear b7 oX6 HRp hrl hrs hsub hwr9
            go_wp2_with (first
              | (with_reducible refine wpList_apps rfl _ _ rfl oX7 rfl rfl (by omega) (by omega) ?_; intro A8 c8 w8 o8 g8; have hg8 := Lib.hid g8; have hsz8 := g8.size; clear g8)
              | (with_reducible refine wpList_apps rfl _ _ rfl o8 rfl rfl (by omega) (by omega) ?_; intro A9 c9 w9 o9 g9; have hg9 := Lib.hid g9; clear g9))
            have hsum : m5 + nul.size + low.size = m5 + 9 := by have := HRl.out.2; omega
            have htx : txt (decL (val 1000000000 (T.drop (i + 1))).toNat) ++ nul.data.toList.map (fun b => (b.toNat : Int)) ++ low.data.toList.map (fun b => (b.toNat : Int)) = txt (decL (val 1000000000 (T.drop i)).toNat) := by
              rw [HBig.out, HRl.out.1, HLz.out.2, HLz.out.1]
              simp [txt, List.append_assoc]
            rw [htx, hsum] at o9
            have HB9 := HB7.out.trans (((Below.refl w7.heap.size w7).mono (Nat.le_refl _)).mono (Nat.le_trans (Nat.le_trans hwq hw6) hw7) |>.trans ((Below.refl wp.heap.size w7).grown hg8.out (Nat.le_trans (Nat.le_trans hwq hw6) hw7) (fun k hk => (oX7.blk_ k hk).1) |>.trans ((Below.refl wp.heap.size w8).grown hg9.out (by omega) (fun k hk => (o8.blk_ k hk).1))))
            refine ⟨⟨i, m5 + 9, c9, A9, rfl, by rw [hsum], by omega, o9, by omega, HB9⟩, ?_⟩
            simp [intOf] <;> omega
    · have hqp : 0 < q := by
        have h1 := HI.out.q0
        rcases Int.lt_or_le 0 q with h | h
        · exact h
        · have := Tr.zero (β := 4294967296) (by decide) RA.out.dg RA.out.tr (by rw [RA.out.val]; omega)
          rw [this] at hol; simp at hol; omega
      have hroom := HI.out.room hqp hN
      have HI2 := Lib.hid (HI.out.step hqp hroom)
      have hms := Lib.hid oA.sl.rdL
      have hw1r : w1.heap.size ≤ wr.heap.size := by
        rcases oA.form with ⟨_, h, _⟩ | ⟨g, _, h1, h2⟩
        · omega
        · omega
      have HDv := Lib.hid (DivSmall_any (d := 1000000000) oA.sl (Nat.le_refl _) RA.out.dg (by omega) (by omega))
      rw [RA.out.val] at HDv hms
      have hqlt : q < 4294967296 ^ n3 := by rw [← RA.out.val, ← hol]; exact val_lt (by decide) RA.out.dg
      have HQ := Lib.hid hqlt
      have HB := Lib.hid br
      have hpos : (0 : Int) < n3 := by omega
      clear br RA HI oA hqlt
      go_wp2_with fail
      refine HDv.out.mono ?_
      rintro e w3 ⟨qs, A4, n4, c4, rQ, rfl, oQ, b3⟩
      have oD3 := oD.below b3
      obtain ⟨z, hz, hcell, hfr, hput⟩ := oD3.at_row (i := j) hroom
      have hw3 := b3.size
      have hnext := Lib.hid (hput (q % 1000000000))
      have hne : blk A4 ≠ some w.heap.size := by
        intro h
        have := (oQ.blk_ _ h).1
        omega
      have oQ3 := Lib.hid ((oQ.of_grown (hput (q % 1000000000)).2 hne).lower (B' := w1.heap.size) hw1r)
      have RQ := Lib.hid rQ
      have hl4 : n4 ≤ n3 := by rw [← oQ.len]; exact rQ.len_le (by decide) (by have := HQ.out; omega)
      have hme := Lib.hid (show rdL (w3.setCell ⟨w.heap.size, j, none⟩ (.int .u32 (q % 1000000000))) (.slice A4 n4 c4) < rdL wr (.slice A3 n3 c3) by
        rw [oQ3.out.sl.rdL, hms.out, rQ.val]; omega)
      have HB3 := Lib.hid (HB.out.trans ((b3.mono hwr).trans (Below.own (hput (q % 1000000000)).2 (Nat.le_refl _) (Nat.le_trans hwr hw3))))
      clear hput b3 oD oD3 oQ rQ HDv hms HQ
      go_wp2_with fail
      go_roundw
      case rel => exact ⟨j + 1, n4, c4, A4, qs, _, _, rfl, by go_num, by omega, by omega, oQ3.out, hnext.out.1, RQ, HI2, HB3.out⟩
      case measure => exact hme.out

/-- What the calls read of the tables that start-up lays. -/
structure Env (w : World) : Prop where
  half : HalfT w
  hz : 0 < w.heap.size
  pow : Lib.TabIs Tryz.prog w "internal/strconv.uint64pow10" .u64 Lib.pow10Tab
theorem powT_below {w w' : World} (h : Lib.TabIs Tryz.prog w "internal/strconv.uint64pow10" .u64 Lib.pow10Tab) (hb : Below w.heap.size w w') : Lib.TabIs Tryz.prog w' "internal/strconv.uint64pow10" .u64 Lib.pow10Tab := by
  have hg : Tryz.prog.globalNamed "internal/strconv.uint64pow10" = some 4 := by kernel_rfl
  unfold Lib.TabIs World.var? at h ⊢
  rw [hg] at h ⊢
  simp only [Option.bind_some] at h ⊢
  have hlt : 4 < w.heap.size := by
    rcases Nat.lt_or_ge 4 w.heap.size with h' | h'
    · exact h'
    · rw [Array.getElem?_eq_none h'] at h; cases h
  rw [hb.block _ hlt]
  exact h
theorem Env.below {w w' : World} (h : Env w) (hb : Below w.heap.size w w') : Env w' := ⟨h.half.below hb h.hz, Nat.lt_of_lt_of_le h.hz hb.size, powT_below h.pow hb⟩

theorem reverse_one {w : World} {A : Option Addr} {c : Nat} : Calls Tryz.prog 49 #[.slice A 1 c] w fun e w' => e = .returned (.tuple #[]) ∧ w = w' := by
  go_enter Tryz.func49, Tryz.ntmps49
  go_wp2
  go_loop [2, 3] (fun i j => i = .int .i64 0 ∧ j = .int .i64 0) (fun _ _ => 0)
  case atStart => exact ⟨rfl, rfl⟩
  case round =>
    obtain ⟨rfl, rfl⟩ := hrel
    go_wp2
    go_end0
    exact ⟨rfl, rfl⟩

theorem put_any {w : World} {B : Nat} {A : Option Addr} {n c : Nat} {xs : List Int} (hs : Sl .u32 w B A n c xs) (hB : B ≤ w.heap.size) (hx : Dg 4294967296 xs) (hn : n ≤ 100000000) (hN : val 4294967296 xs < 1000000000 ^ 456) (hE : Env w) :
    Calls Tryz.prog 47 #[.slice A n c] w (PutB w (val 4294967296 xs)) := putBlock_any hs hB hx hn hN hE.pow fun _ hb => powT_below hE.pow hb

set_option maxHeartbeats 4000000 in
theorem Put_any {w : World} {B : Nat} {A : Option Addr} {n c : Nat} {xs : List Int} (hs : Sl .u32 w B A n c xs) (hB : B ≤ w.heap.size) (hx : Dg 4294967296 xs) (hn : n ≤ 100000000) (hN : val 4294967296 xs < 1000000000 ^ 456) (hE : Env w) :
    Calls Tryz.prog 24 #[.slice A n c] w (PutB w (val 4294967296 xs)) := by
  have HB := Lib.hid (Bits_any hs hE.half hx (by omega))
  have HP := Lib.hid (put_any hs hB hx hn hN hE)
  have HE := Lib.hid hE
  go_enter Tryz.func24, Tryz.ntmps24
  go_wp2_with fail
  refine HB.out.mono ?_
  rintro e w' ⟨⟨b, hb, rfl⟩, rfl⟩
  have HBit := Lib.hid hb
  clear hb HB
  by_cases hsm : b ≤ 13224
  · have hsm' : (b : Int) ≤ 13224 := by omega
    clear hs hE HBit
    go_wp2_with fail
    refine HP.out.mono ?_
    rintro e w1 ⟨t, rfl, ht, hb1⟩
    have H1 := Lib.hid ht
    have H2 := Lib.hid hb1
    clear ht hb1
    go_wp2_with fail
    go_ret
    exact ⟨t, rfl, H1.out, H2.out⟩
  · have hsm' : ¬ (b : Int) ≤ 13224 := by omega
    have HPw := Lib.hid (Pow_any (w := w) (b := 1000000000) (n := 456) (by omega) (by omega))
    clear HP HBit hE
    go_wp2_with fail
    refine HPw.out.mono ?_
    rintro e w1 ⟨ps, A1, n1, c1, rP, rfl, o1, b1⟩
    have hs1 := hs.below b1 hB
    have hw1 := b1.size
    have E1 := Lib.hid (HE.out.below b1)
    have HNl := Lib.hid (show val 4294967296 xs < val 4294967296 ps by rw [rP.val]; exact hN)
    have HC := Lib.hid (Cmp_any (hs1.more (Nat.le_trans hB hw1)) o1.sl hx rP.dg)
    have hc := Lib.hid (cmpI_lt HNl.out)
    have B1 := Lib.hid b1
    clear hs b1 rP HPw
    go_wp2_with fail
    go_loopw [0, 5] (fun av bv wr => av = .slice A n c ∧ bv = .slice none 0 0 ∧ wr = w1) (fun _ _ _ => 0)
    case atStart => exact ⟨rfl, rfl, rfl⟩
    case round =>
      obtain ⟨rfl, rfl, rfl⟩ := hrel
      go_wp2_with fail
      refine HC.out.mono ?_
      rintro e w2 ⟨hr2, q, rfl⟩
      obtain rfl : e = .returned (.int .i64 (-1)) := by unfold CmpR at hr2; rw [hr2, hc.out]
      have hs2 := hs1.drew q
      have B2 := Lib.hid (Below.drewN' B1.out q)
      have E2 : Hid (Env (wr.drewN q)) := Lib.hid ⟨E1.out.half, E1.out.hz, E1.out.pow⟩
      have hw2 : w.heap.size ≤ (wr.drewN q).heap.size := hw1
      clear hr2 HC HNl hc E1 B1 hs1 o1
      generalize wr.drewN q = w2 at *
      have HP2 := Lib.hid (put_any hs2 (Nat.le_trans hB hw2) hx hn hN E2.out)
      go_wp2_with fail
      refine HP2.out.mono ?_
      rintro e w3 ⟨t, rfl, ht, hb3⟩
      have HT := Lib.hid ht
      have B3 := Lib.hid (B2.out.trans (hb3.mono hw2))
      have hw3 := B3.out.size
      clear ht hb3 hs2 HP2
      obtain ⟨ti, hti, htz, hts, htb⟩ : ∃ i, Tryz.prog.info? 9 = some i ∧ i.zero = some (.string ⟨#[]⟩) ∧ i.size = 1 ∧ i.bytes = 16 := info_parts (by kernel_rfl)
      have hnew : ∀ (W : World) (j : Nat) (u : Value), [Value.string t][j]? = some u → (W.alloc (.cells #[.string t] 9)).cell? ((⟨W.heap.size, 0, none⟩ : Addr).add j) = some u := by
        intro W j u hj
        have h0 : j = 0 := by have := (List.getElem?_eq_some_iff.1 hj).1; simp at this; omega
        subst h0
        simp at hj
        subst hj
        simp [Addr.add_lit, World.cell?_alloc_new]
      go_wp2_with (at_builtin; refine wpList_append_own _ rfl _ _ 52 rfl w.heap.size 9 ti (.string ⟨#[]⟩) 1 16 Tryz.underlying52 hti htz hts htb rfl (by decide) _ 0 [] rfl (World.ownsRow_nil _ _ _ _) ⟨w3.heap.size, 0, none⟩ 1 1 [.string t] rfl rfl (hnew w3) (by intro u hu; rw [List.mem_singleton.1 hu]; rfl) (by unfold maxLen; omega) (by omega) (by rw [size_one]; omega) ?_; intro v4 w4 h4 g4 _)
      have g4' : (w3.alloc (.cells #[.string t] 9)).grownBy w4 none := g4
      obtain ⟨g, c4, rfl, hg4, hc4⟩ : ∃ g c4, v4 = .slice (some ⟨g, 0, none⟩) 1 c4 ∧ g < w4.heap.size ∧ 1 ≤ c4 := by
        rcases h4.2 with ⟨_, h0⟩ | ⟨g, cap, cur, hv, _, hg, h1, _⟩
        · omega
        · refine ⟨g, cap, hv, ?_, h1⟩
          rcases Nat.lt_or_ge g w4.heap.size with h | h
          · exact h
          · rw [Array.getElem?_eq_none h] at hg; cases hg
      have hcell : ∀ (j : Nat) (x : ByteArray), [t][j]? = some x → w4.cell? ⟨g, 0 + j, none⟩ = some (.string x) := by
        intro j x hj
        have h0 : j = 0 := by have := (List.getElem?_eq_some_iff.1 hj).1; simp at this; omega
        subst h0
        have := World.ownsRow.cellAt h4 0 (by omega)
        simp at hj
        subst hj
        simpa using this
      have B4 := Lib.hid (B3.out.trans ((below_a1 ((Below.refl _ _).grown g4' (Nat.le_refl _) (fun _ h => by cases h))).mono hw3))
      have htl : t.data.toList.length ≤ 100000 := by
        rw [HT.out]
        exact putL_len hN
      have HJ := Lib.hid (Tryz.strings_Join g 0 c4 [t] ⟨#[]⟩ w4 hcell hg4 (by simp) hc4 (by rw [List.map_singleton, Lib.join_one]; omega))
      rw [List.map_singleton, Lib.join_one] at HJ
      clear g4 g4' h4 hcell hnew B3
      refine reverse_one.mono ?_
      rintro e w5 ⟨rfl, rfl⟩
      go_wp2_with fail
      refine HJ.out.mono ?_
      rintro e w6 ⟨rfl, hb6⟩
      have B6 := Lib.hid (B4.out.trans (hb6.mono B4.out.size))
      clear hb6 HJ
      go_wp2_with fail
      go_ret
      exact ⟨_, rfl, HT.out, B6.out⟩
end Go.Proofs.YthicpakanhhipaaGreatDoor
