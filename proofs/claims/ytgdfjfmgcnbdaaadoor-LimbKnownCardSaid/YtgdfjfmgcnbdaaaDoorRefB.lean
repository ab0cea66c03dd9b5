/- tallageref01: limbs, Trim, Cmp, Bits: what each call answers. -/
import Derived.Test.YtgdfjfmgcnbdaaaDoorRefA
namespace Go.Proofs.YtgdfjfmgcnbdaaaDoor
open Go Go.RowKit

/-- Pairs of half limbs as limbs. -/
def pr : List Int → List Int
  | [] => []
  | [x] => [x]
  | x :: y :: r => (x + 65536 * y) :: pr r
theorem pr_val : ∀ l : List Int, val 4294967296 (pr l) = val 65536 l
  | [] => rfl
  | [x] => by simp [pr, val]
  | x :: y :: r => by simp only [pr, val, pr_val r]; omega
theorem pr_dg : ∀ {l : List Int}, Dg 65536 l → Dg 4294967296 (pr l)
  | [], _ => Dg.nil
  | [x], h => Dg.cons (by have := h.head; omega) Dg.nil
  | x :: y :: r, h => Dg.cons (by have := h.head; have := h.tail.head; omega) (pr_dg h.tail.tail)
theorem Tr.cons {x : Int} {xs : List Int} (h : Tr xs) (hx : xs = [] → x ≠ 0) : Tr (x :: xs) := by
  unfold Tr at *
  simp only [tl, h]
  split
  · rename_i h0
    rw [if_neg (hx h0), h0]
  · rfl
theorem Tr.single {x : Int} (h : Tr [x]) : x ≠ 0 := by
  rintro rfl
  simp [Tr, tl] at h
theorem pr_nil : ∀ {l : List Int}, pr l = [] → l = []
  | [], _ => rfl
  | [x], h => by simp [pr] at h
  | x :: y :: r, h => by simp [pr] at h
theorem pr_tr : ∀ {l : List Int}, Dg 65536 l → Tr l → Tr (pr l)
  | [], _, _ => rfl
  | [x], _, h => h
  | x :: y :: r, hd, h => by
    refine Tr.cons (pr_tr hd.tail.tail h.tail.tail) fun e => ?_
    have hr := pr_nil e
    subst hr
    have h1 := h.tail.single
    have h2 := hd.head
    have h3 := hd.tail.head
    omega
theorem pr_append : ∀ (l m : List Int) (j : Nat), l.length = 2 * j → pr (l ++ m) = pr l ++ pr m
  | [], m, _, _ => rfl
  | [x], m, j, h => by simp at h; omega
  | x :: y :: r, m, j, h => by
    simp only [List.cons_append, pr]
    rw [pr_append r m (j - 1) (by simp at h; omega)]
theorem pr_len : ∀ (l : List Int), (pr l).length ≤ l.length
  | [] => by simp [pr]
  | [x] => by simp [pr]
  | x :: y :: r => by have := pr_len r; simp [pr]; omega

set_option maxHeartbeats 1000000 in
theorem limbs_any {w : World} {B : Nat} {A : Option Addr} {n c : Nat} {xs : List Int} (hs : Sl .i64 w B A n c xs) (hB : B ≤ w.heap.size) (hx : Dg 65536 xs) (hn : n ≤ 2000000000) :
    Calls Tryd.prog 33 #[.slice A n c] w (NewN w (val 65536 xs)) := by
  have hll : (tl xs).length ≤ 2000000000 := by have := tl_len xs; have := hs.len; omega
  have hv := Lib.hid (tl_val 65536 xs)
  have hX := tl_Dg hx
  have hT := tl_idem xs
  go_enter Tryd.func33, Tryd.ntmps33
  go_wp2_with fail
  refine (cut_any hs).mono ?_
  rintro e w' ⟨⟨n', rfl, hs'⟩, rfl⟩
  have hl' := hs'.len
  generalize tl xs = X at *
  clear hs
  go_wp2_with fail
  go_loopw [3, 4] (fun ov iv wr => ∃ (j m c2 : Nat) (A2 : Option Addr), 2 * j ≤ n' + 1 ∧ iv = .int .i64 (2 * (j : Int)) ∧ ov = .slice A2 m c2 ∧ Own .u32 37 wr w.heap.size A2 m c2 (pr (X.take (2 * j))) ∧ Below w.heap.size w wr) (fun _ iv _ => n' + 1 - (intOf iv).toNat)
  case atStart => exact ⟨0, 0, 0, none, by omega, rfl, rfl, Own.nil, Below.refl _ _⟩
  case round =>
    obtain ⟨j, m, c2, A2, hj, rfl, rfl, ho, hb⟩ := hrel
    have hol := ho.len
    have hpl := pr_len (X.take (2 * j))
    rw [List.length_take] at hpl
    have hm : m ≤ 2000000000 := by omega
    by_cases hlt : 2 * j < n'
    · obtain ⟨b, off, x, rfl, _, ex, hcell⟩ := (hs'.below hb hB).at_ hlt
      have hxx := hX.get ex
      by_cases hlt2 : 2 * j + 1 < n'
      · obtain ⟨b', off', y, hA, _, ey, hcell2⟩ := (hs'.below hb hB).at_ hlt2
        injection hA with hA
        injection hA with e1 e2
        subst e1
        subst e2
        have hyy := hX.get ey
        have hnx : pr (X.take (2 * j)) ++ [x + 65536 * y] = pr (X.take (2 * (j + 1))) := by
          rw [show 2 * (j + 1) = 2 * j + 1 + 1 by omega, take_succ_of ey, take_succ_of ex, List.append_assoc, pr_append _ _ j (by rw [List.length_take]; omega)]
          rfl
        have HN := Lib.hid hnx
        clear hnx hol hpl
        go_wp2_with (at_builtin; refine wpList_app elemU rfl _ _ rfl (ho.alloc _) rfl (Sl.new1 .u32 _ _ _) rfl (by omega) (by unfold maxLen; omega) (by have := hb.size; simp; omega) ?_; intro A3 c3 w3 h3 hg)
        rw [HN.out] at h3
        have hb3 : Below w.heap.size w w3 := (hb.alloc hb.size _).grown hg (by have := hb.size; simp; omega) (fun k hk => (ho.blk_ k hk).1)
        clear hg ho hb
        go_wp2
        go_roundw
        case rel => exact ⟨j + 1, _, _, _, by omega, by go_num, rfl, h3, hb3⟩
        case measure => simp [intOf] <;> omega
      · have hnx : pr (X.take (2 * j)) ++ [x] = pr (X.take (2 * (j + 1))) := by
          have e1 : X.take (2 * (j + 1)) = X.take (2 * j) ++ [x] := by rw [List.take_of_length_le (by omega), ← take_succ_of ex, List.take_of_length_le (by omega)]
          rw [e1, pr_append _ _ j (by rw [List.length_take]; omega)]
          rfl
        have HN := Lib.hid hnx
        clear hnx hol hpl
        go_wp2_with (at_builtin; refine wpList_app elemU rfl _ _ rfl (ho.alloc _) rfl (Sl.new1 .u32 _ _ _) rfl (by omega) (by unfold maxLen; omega) (by have := hb.size; simp; omega) ?_; intro A3 c3 w3 h3 hg)
        rw [HN.out] at h3
        have hb3 : Below w.heap.size w w3 := (hb.alloc hb.size _).grown hg (by have := hb.size; simp; omega) (fun k hk => (ho.blk_ k hk).1)
        clear hg ho hb
        go_wp2
        go_roundw
        case rel => exact ⟨j + 1, _, _, _, by omega, by go_num, rfl, h3, hb3⟩
        case measure => simp [intOf] <;> omega
    · have hN := Lib.hid (show val 4294967296 (pr (X.take (2 * j))) = val 65536 xs by rw [pr_val, List.take_of_length_le (by omega)]; exact hv.out)
      have hD := pr_dg (hX.take (2 * j))
      have hTr : Tr (pr (X.take (2 * j))) := by rw [List.take_of_length_le (by omega)]; exact pr_tr hX hT
      have HT := Lib.hid hTr
      clear hTr hT
      go_wp2_with fail
      go_ret
      exact ⟨_, ⟨hD, HT.out, hN.out⟩, A2, m, c2, rfl, ho, hb⟩

/-- A number's half limbs are at most twice its limbs. -/
theorem half_len {n : Nat} {xs ys : List Int} (hl : xs.length = n) (hx : Dg 4294967296 xs) (hr : Row 65536 (val 4294967296 xs) ys) : ys.length ≤ 2 * n := by
  refine hr.len_le (by decide) (Int.lt_of_lt_of_le (val_lt (by decide) hx) ?_)
  rw [hl, show (4294967296 : Int) = 65536 ^ 2 by decide, ← Int.pow_mul]
  exact Int.le_refl _
theorem refTrim_any {w : World} {B : Nat} {A : Option Addr} {n c : Nat} {xs : List Int} (hs : Sl .u32 w B A n c xs) (hB : B ≤ w.heap.size) (hx : Dg 4294967296 xs) (hn : n ≤ 500000000) :
    Calls Tryd.prog 17 #[.slice A n c] w (NewN w (val 4294967296 xs)) := by
  go_enter Tryd.func17, Tryd.ntmps17
  go_wp2_with fail
  refine (halves_any hs hB hx (by omega)).mono ?_
  rintro e w1 ⟨ys, A1, n1, c1, hr, rfl, ho, hb⟩
  have hl1 : n1 ≤ 2 * n := by
    have := half_len hs.len hx hr
    have := ho.len
    omega
  go_wp2_with fail
  refine (limbs_any ho.sl (Nat.le_refl _) hr.dg (by omega)).mono ?_
  rintro e w2 ⟨zs, hz, A2, n2, c2, rfl, ho2, hb2⟩
  rw [hr.val] at hz
  go_wp2
  go_ret
  exact ⟨zs, hz, A2, n2, c2, rfl, ho2.lower hb.size, hb.trans (hb2.mono hb.size)⟩

/-- From place k on both rows are alike, noughts behind each. -/
def AlikeP (xs ys : List Int) (k : Nat) : Prop := ∀ i, k ≤ i → xs[i]?.getD 0 = ys[i]?.getD 0
/-- With noughts up to M. -/
def pad (xs : List Int) (M : Nat) : List Int := xs ++ List.replicate (M - xs.length) 0
theorem pad_val (β : Int) (xs : List Int) (M : Nat) : val β (pad xs M) = val β xs := by
  unfold pad
  rw [val_append, val_zeros]; simp
theorem pad_dg {β : Int} (hβ : 0 < β) {xs : List Int} (h : Dg β xs) (M : Nat) : Dg β (pad xs M) := h.append (Dg.zeros hβ _)
theorem pad_len {xs : List Int} {M : Nat} (h : xs.length ≤ M) : (pad xs M).length = M := by simp [pad]; omega
theorem pad_get {xs : List Int} {M i : Nat} (h : xs.length ≤ M) (hi : i < M) : (pad xs M)[i]? = some (xs[i]?.getD 0) := by
  unfold pad
  rcases Nat.lt_or_ge i xs.length with hl | hl
  · rw [List.getElem?_append_left hl, List.getElem?_eq_getElem hl]; rfl
  · rw [List.getElem?_append_right hl, List.getElem?_eq_none hl, List.getElem?_replicate, if_pos (by omega)]; rfl
theorem pad_drop {xs ys : List Int} {M k : Nat} (hx : xs.length ≤ M) (hy : ys.length ≤ M) (h : AlikeP xs ys k) : (pad xs M).drop k = (pad ys M).drop k := by
  refine List.ext_getElem? fun i => ?_
  rw [List.getElem?_drop, List.getElem?_drop]
  rcases Nat.lt_or_ge (k + i) M with hl | hl
  · rw [pad_get hx hl, pad_get hy hl, h _ (by omega)]
  · rw [List.getElem?_eq_none (by rw [pad_len hx]; omega), List.getElem?_eq_none (by rw [pad_len hy]; omega)]
theorem AlikeP.eq {β : Int} {xs ys : List Int} (h : AlikeP xs ys 0) : val β xs = val β ys := by
  have := pad_drop (M := max xs.length ys.length) (by omega) (by omega) h
  simp only [List.drop_zero] at this
  rw [← pad_val β xs (max xs.length ys.length), this, pad_val]
theorem AlikeP.lt {β : Int} (hβ : 0 < β) {xs ys : List Int} (hx : Dg β xs) (hy : Dg β ys) {i : Nat} (h : AlikeP xs ys (i + 1)) (hlt : xs[i]?.getD 0 < ys[i]?.getD 0) : val β xs < val β ys := by
  have l1 : xs.length ≤ max (i + 1) (max xs.length ys.length) := by omega
  have l2 : ys.length ≤ max (i + 1) (max xs.length ys.length) := by omega
  rw [← pad_val β xs (max (i + 1) (max xs.length ys.length)), ← pad_val β ys (max (i + 1) (max xs.length ys.length))]
  exact val_lt_of_digit hβ (pad_dg hβ hx _) (pad_dg hβ hy _) i (pad_get l1 (by omega)) (pad_get l2 (by omega)) (pad_drop l1 l2 h) hlt

/-- How two numbers stand, told in whatever world. -/
def CmpN (w : World) (a b : Int) (e : Ending) (w' : World) : Prop := e = .returned (.int .i64 (cmpI a b)) ∧ Below w.heap.size w w'

set_option maxHeartbeats 1000000 in
theorem refCmp_any {w : World} {B : Nat} {A A2 : Option Addr} {n c m c2 : Nat} {xs ys : List Int} (hs : Sl .u32 w B A n c xs) (ht : Sl .u32 w B A2 m c2 ys) (hB : B ≤ w.heap.size) (hx : Dg 4294967296 xs) (hy : Dg 4294967296 ys) (hn : n ≤ 500000000) (hm : m ≤ 500000000) :
    Calls Tryd.prog 20 #[.slice A n c, .slice A2 m c2] w (CmpN w (val 4294967296 xs) (val 4294967296 ys)) := by
  go_enter Tryd.func20, Tryd.ntmps20
  go_wp2_with fail
  refine (halves_any hs hB hx (by omega)).mono ?_
  rintro e w1 ⟨us, A1, n1, c1, hu, rfl, ho1, b1⟩
  have hl1 : n1 ≤ 2 * n := by have := half_len hs.len hx hu; have := ho1.len; omega
  go_wp2_with fail
  refine (halves_any ((ht.below b1 hB).more (Nat.le_trans hB b1.size)) (Nat.le_refl _) hy (by omega)).mono ?_
  rintro e w2 ⟨vs, A2', n2, c2', hv, rfl, ho2, b2⟩
  have hl2 : n2 ≤ 2 * m := by have := half_len ht.len hy hv; have := ho2.len; omega
  have s1 := (ho1.below b2).sl
  have s2 := ho2.sl
  have hb := b1.trans (b2.mono b1.size)
  have hul := ho1.len
  have hvl := ho2.len
  have EU := Lib.hid hu.val
  have EV := Lib.hid hv.val
  have dU := hu.dg
  have dV := hv.dg
  clear ho1 ho2 b1 b2 hu hv hs ht
  by_cases hcase : n1 < n2
  all_goals
    go_wp2_with fail
    go_loop [7] (fun iv => ∃ k : Nat, k ≤ max n1 n2 ∧ iv = .int .i64 ((k : Int) - 1) ∧ AlikeP us vs k) (fun iv => (intOf iv + 1).toNat)
    case atStart =>
      refine ⟨max n1 n2, Nat.le_refl _, congrArg (Value.int .i64) (by omega), fun i hi => ?_⟩
      rw [List.getElem?_eq_none (by omega), List.getElem?_eq_none (by omega)]
    case round =>
      obtain ⟨k, hk, rfl, hal⟩ := hrel
      by_cases h0 : k = 0
      · subst h0
        have hfin := Lib.hid (cmpI_eq (show val 4294967296 xs = val 4294967296 ys by rw [← EU.out, ← EV.out]; exact hal.eq))
        clear hal
        go_wp2_with fail
        go_ret
        exact ⟨by rw [hfin.out]; rfl, hb⟩
      · obtain ⟨j, rfl⟩ : ∃ j, k = j + 1 := ⟨k - 1, by omega⟩
        have ha := at_any (i := j) s1
        have hc := at_any (i := j) s2
        have hlt := hal.lt (β := 65536) (i := j) (by decide) dU dV
        have hgt := AlikeP.lt (β := 65536) (i := j) (by decide) dV dU (fun i hi => (hal i hi).symm)
        have hnx : us[j]?.getD 0 = vs[j]?.getD 0 → AlikeP us vs j := fun e i hi => by
          rcases Nat.eq_or_lt_of_le hi with h | h
          · subst h; exact e
          · exact hal i h
        generalize us[j]?.getD 0 = x at *
        generalize vs[j]?.getD 0 = y at *
        have HA := Lib.hid ha
        have HC := Lib.hid hc
        have HL := Lib.hid hlt
        have HG := Lib.hid hgt
        have HN := Lib.hid hnx
        clear ha hc hlt hgt hnx hal
        go_wp2_with fail
        refine HA.out.mono ?_
        rintro e w' ⟨rfl, rfl⟩
        go_wp2_with fail
        refine HC.out.mono ?_
        rintro e w' ⟨rfl, rfl⟩
        rcases Int.lt_trichotomy x y with h | h | h
        · go_wp2_with fail
          go_ret
          exact ⟨by rw [cmpI_lt (by rw [← EU.out, ← EV.out]; exact HL.out h)]; rfl, hb⟩
        · subst h
          go_wp2_with fail
          refine HA.out.mono ?_
          rintro e w' ⟨rfl, rfl⟩
          go_wp2_with fail
          refine HC.out.mono ?_
          rintro e w' ⟨rfl, rfl⟩
          go_wp2_with fail
          go_round
          case rel => exact ⟨j, by omega, by simp, by first | exact HN.out rfl | exact HN.out trivial⟩
          case measure => simp [intOf]
        · go_wp2_with fail
          refine HA.out.mono ?_
          rintro e w' ⟨rfl, rfl⟩
          go_wp2_with fail
          refine HC.out.mono ?_
          rintro e w' ⟨rfl, rfl⟩
          go_wp2_with fail
          go_ret
          exact ⟨by rw [cmpI_gt (by rw [← EU.out, ← EV.out]; exact HG.out h)]; rfl, hb⟩

/-- In the midst of ref's count. -/
structure BitsJ (N : Int) (n0 n t : Nat) : Prop where
  bound : n + t ≤ n0
  num : ∀ b, IsBits (t : Int) b → IsBits N (n + b)
theorem BitsJ.step {N : Int} {n0 n t : Nat} (h : BitsJ N n0 n t) (ht : 0 < t) : BitsJ N n0 (n + 1) (t / 2) := by
  refine ⟨by have := h.bound; omega, fun b hb => ?_⟩
  rw [show n + 1 + b = n + (b + 1) by omega]
  refine h.num _ ?_
  rcases Nat.eq_zero_or_pos (t / 2) with hz | hz
  · obtain rfl : t = 1 := by omega
    obtain rfl : b = 0 := hb.uniq (.inl ⟨rfl, rfl⟩)
    exact IsBits.one
  · have e : ((t / 2 : Nat) : Int) = (t : Int) / 2 ^ 1 := by omega
    rw [e] at hb
    exact IsBits.high (by omega) hb

/-- How many binary digits, told in whatever world. -/
def BitsN (w : World) (N : Int) (e : Ending) (w' : World) : Prop := ∃ b : Nat, IsBits N b ∧ e = .returned (.int .i64 b) ∧ Below w.heap.size w w'

set_option maxHeartbeats 1000000 in
theorem refBits_any {w : World} {B : Nat} {A : Option Addr} {n c : Nat} {xs : List Int} (hs : Sl .u32 w B A n c xs) (hB : B ≤ w.heap.size) (hx : Dg 4294967296 xs) (hn : n ≤ 500000000) :
    Calls Tryd.prog 22 #[.slice A n c] w (BitsN w (val 4294967296 xs)) := by
  go_enter Tryd.func22, Tryd.ntmps22
  go_wp2_with fail
  refine (halves_any hs hB hx (by omega)).mono ?_
  rintro e w1 ⟨us, A1, n1, c1, hu, rfl, ho1, b1⟩
  have hl1 : n1 ≤ 2 * n := by have := half_len hs.len hx hu; have := ho1.len; omega
  have s1 := ho1.sl
  have hul := ho1.len
  clear ho1
  by_cases h0 : n1 = 0
  · subst h0
    have hz := Lib.hid (show val 4294967296 xs = 0 by rw [← hu.val, List.eq_nil_of_length_eq_zero hul]; rfl)
    clear hu
    go_wp2
    go_ret
    exact ⟨0, .inl ⟨hz.out, rfl⟩, rfl, b1⟩
  · have hbn : ((n1 : Int) == 0) = false := beq_eq_false_iff_ne.2 (by omega)
    have hne : us ≠ [] := by intro h; rw [h] at hul; exact h0 hul.symm
    obtain ⟨zs, z, ez, hz0, ezl⟩ := hu.tr.last hne
    obtain ⟨b, off, z', rfl, _, ez', hcell⟩ := s1.at_ (j := n1 - 1) (by omega)
    rw [hul, ez'] at ezl
    obtain rfl : z' = z := by injection ezl
    have hzd := hu.dg.get ez'
    obtain ⟨t, rfl⟩ : ∃ t : Nat, z' = (t : Int) := ⟨z'.toNat, by omega⟩
    have hzl : zs.length = n1 - 1 := by have := congrArg List.length ez; simp at this; omega
    have hstart : BitsJ (val 4294967296 xs) (16 * (n1 - 1) + t) (16 * (n1 - 1)) t := by
      refine ⟨Nat.le_refl _, fun b hb => ?_⟩
      have hd : Dg 65536 zs := by have := hu.dg; rw [ez] at this; exact this.left
      have := IsBits.row (k := 16) (by decide) hd (by omega) hb
      rw [← ez, hzl, hu.val] at this
      exact this
    obtain ⟨m, rfl⟩ : ∃ m, n1 = m + 1 := ⟨n1 - 1, by omega⟩
    rw [show m + 1 - 1 = m by omega] at hcell hstart
    have ht : t < 65536 := by omega
    clear ez ez' ezl hzl hz0 hne hu hul
    go_wp2_with fail
    go_loop [4, 5] (fun nv tv => ∃ i j : Nat, nv = .int .i64 i ∧ tv = .int .i64 j ∧ j ≤ t ∧ BitsJ (val 4294967296 xs) (16 * m + t) i j) (fun _ tv => (intOf tv).toNat)
    case atStart => exact ⟨16 * m, t, by go_num, rfl, Nat.le_refl _, hstart⟩
    case round =>
      obtain ⟨i, j, rfl, rfl, hjt, hinv⟩ := hrel
      have hb2 := hinv.bound
      by_cases hj : 0 < j
      · have hstep := Lib.hid (hinv.step hj)
        clear hinv hstart
        go_wp2
        go_round
        case rel => exact ⟨i + 1, j / 2, by go_num, by go_num, by omega, hstep.out⟩
        case measure => simp [intOf] <;> omega
      · obtain rfl : j = 0 := by omega
        have hfin := Lib.hid (hinv.num 0 (.inl ⟨rfl, rfl⟩))
        clear hinv hstart
        go_wp2
        go_ret
        exact ⟨i, hfin.out, rfl, b1⟩
end Go.Proofs.YtgdfjfmgcnbdaaaDoor
