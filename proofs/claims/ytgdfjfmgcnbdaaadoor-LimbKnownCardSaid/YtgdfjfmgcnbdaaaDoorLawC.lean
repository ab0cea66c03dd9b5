/- tallagelaw01: LimbSmall, LimbSums: each returns true, whatever the rows are. -/
import Derived.Test.YtgdfjfmgcnbdaaaDoorRefD
import Derived.Test.YtgdfjfmgcnbdaaaDoorLawB
namespace Go.Proofs.YtgdfjfmgcnbdaaaDoor
open Go Go.RowKit

/-- What a division answers: the row, what is left, the error. -/
def DivSpec (N d : Int) (qs : List Int) (r er : Int) : Prop := (d = 0 ∧ qs = [] ∧ r = 0 ∧ er = 20) ∨ (d ≠ 0 ∧ Row 4294967296 (N / d) qs ∧ r = N % d ∧ er = 0)
theorem DivSpec.uniq {N d : Int} {qs qs' : List Int} {r er r' er' : Int} (h : DivSpec N d qs r er) (h' : DivSpec N d qs' r' er') : qs = qs' ∧ r = r' ∧ er = er' := by
  rcases h with ⟨h0, h1, h2, h3⟩ | ⟨h0, h1, h2, h3⟩ <;> rcases h' with ⟨k0, k1, k2, k3⟩ | ⟨k0, k1, k2, k3⟩
  · exact ⟨h1.trans k1.symm, h2.trans k2.symm, h3.trans k3.symm⟩
  · exact absurd h0 k0
  · exact absurd k0 h0
  · exact ⟨h1.uniq (by decide) k1, h2.trans k2.symm, h3.trans k3.symm⟩
def DivU (w : World) (N d : Int) (e : Ending) (w' : World) : Prop :=
  ∃ qs A n c r er, DivSpec N d qs r er ∧ e = .returned (.tuple #[.slice A n c, .int .u32 r, .int .i64 er]) ∧ Own .u32 37 w' w.heap.size A n c qs ∧ Below w.heap.size w w'
theorem DivSmall_u {w : World} {B : Nat} {A : Option Addr} {n c : Nat} {xs : List Int} {d : Int} (hs : Sl .u32 w B A n c xs) (hB : B ≤ w.heap.size) (hx : Dg 4294967296 xs) (hd : 0 ≤ d ∧ d < 4294967296) (hn : n ≤ 1000000000) :
    Calls Tryd.prog 24 #[.slice A n c, .int .u32 d] w (DivU w (val 4294967296 xs) d) := by
  by_cases h0 : d = 0
  · subst h0
    refine DivSmall_zero.mono ?_
    rintro e w' ⟨rfl, rfl⟩
    exact ⟨[], none, 0, 0, 0, 20, .inl ⟨rfl, rfl, rfl, rfl⟩, rfl, Own.nil, Below.refl _ _⟩
  · refine (DivSmall_any hs hB hx (by omega) hn).mono ?_
    rintro e w' ⟨qs, A', n', c', hr, rfl, ho, hb⟩
    exact ⟨qs, A', n', c', _, 0, .inr ⟨h0, hr, rfl, rfl⟩, rfl, ho, hb⟩
theorem refDivSmall_u {w : World} {B : Nat} {A : Option Addr} {n c : Nat} {xs : List Int} {d : Int} (hs : Sl .u32 w B A n c xs) (hB : B ≤ w.heap.size) (hx : Dg 4294967296 xs) (hd : 0 ≤ d ∧ d < 4294967296) (hn : n ≤ 400000000) :
    Calls Tryd.prog 25 #[.slice A n c, .int .u32 d] w (DivU w (val 4294967296 xs) d) := by
  by_cases h0 : d = 0
  · subst h0
    refine refDivSmall_zero.mono ?_
    rintro e w' ⟨rfl, rfl⟩
    exact ⟨[], none, 0, 0, 0, 20, .inl ⟨rfl, rfl, rfl, rfl⟩, rfl, Own.nil, Below.refl _ _⟩
  · refine (refDivSmall_any hs hB hx (by omega) hn).mono ?_
    rintro e w' ⟨qs, A', n', c', hr, rfl, ho, hb⟩
    exact ⟨qs, A', n', c', _, 0, .inr ⟨h0, hr, rfl, rfl⟩, rfl, ho, hb⟩
/-- What a difference answers. -/
def SubSpec (a b : Int) (qs : List Int) (er : Int) : Prop := (a < b ∧ qs = [] ∧ er = 2) ∨ (b ≤ a ∧ Row 4294967296 (a - b) qs ∧ er = 0)
theorem SubSpec.uniq {a b : Int} {qs qs' : List Int} {er er' : Int} (h : SubSpec a b qs er) (h' : SubSpec a b qs' er') : qs = qs' ∧ er = er' := by
  rcases h with ⟨h0, h1, h2⟩ | ⟨h0, h1, h2⟩ <;> rcases h' with ⟨k0, k1, k2⟩ | ⟨k0, k1, k2⟩
  · exact ⟨h1.trans k1.symm, h2.trans k2.symm⟩
  · omega
  · omega
  · exact ⟨h1.uniq (by decide) k1, h2.trans k2.symm⟩
def SubU (w : World) (a b : Int) (e : Ending) (w' : World) : Prop :=
  ∃ qs A n c er, SubSpec a b qs er ∧ e = .returned (.tuple #[.slice A n c, .int .i64 er]) ∧ Own .u32 37 w' w.heap.size A n c qs ∧ Below w.heap.size w w'
theorem Sub_u {w : World} {B : Nat} {A A2 : Option Addr} {n c m c2 : Nat} {xs ys : List Int} (hs : Sl .u32 w B A n c xs) (ht : Sl .u32 w B A2 m c2 ys) (hB : B ≤ w.heap.size) (hx : Dg 4294967296 xs) (hy : Dg 4294967296 ys) (hn : n ≤ 1000000000) :
    Calls Tryd.prog 9 #[.slice A n c, .slice A2 m c2] w (SubU w (val 4294967296 xs) (val 4294967296 ys)) := by
  rcases Int.lt_or_le (val 4294967296 xs) (val 4294967296 ys) with h | h
  · refine (Sub_less hs ht hx hy h).mono ?_
    rintro e w' ⟨rfl, q, rfl⟩
    exact ⟨[], none, 0, 0, 2, .inl ⟨h, rfl, rfl⟩, rfl, Own.nil, Below.drewN' (Below.refl _ _) q⟩
  · refine (Sub_any hs ht hB hx hy h hn).mono ?_
    rintro e w' ⟨qs, A', n', c', hr, rfl, ho, hb⟩
    exact ⟨qs, A', n', c', 0, .inr ⟨h, hr, rfl⟩, rfl, ho, hb⟩
theorem refSub_u {w : World} {B : Nat} {A A2 : Option Addr} {n c m c2 : Nat} {xs ys : List Int} (hs : Sl .u32 w B A n c xs) (ht : Sl .u32 w B A2 m c2 ys) (hB : B ≤ w.heap.size) (hx : Dg 4294967296 xs) (hy : Dg 4294967296 ys) (hn : n ≤ 400000000) (hm : m ≤ 400000000) :
    Calls Tryd.prog 10 #[.slice A n c, .slice A2 m c2] w (SubU w (val 4294967296 xs) (val 4294967296 ys)) := by
  rcases Int.lt_or_le (val 4294967296 xs) (val 4294967296 ys) with h | h
  · refine (refSub_less hs ht hB hx hy hn hm h).mono ?_
    rintro e w' ⟨rfl, hb⟩
    exact ⟨[], none, 0, 0, 2, .inl ⟨h, rfl, rfl⟩, rfl, Own.nil, hb⟩
  · refine (refSub_any hs ht hB hx hy hn hm h).mono ?_
    rintro e w' ⟨qs, A', n', c', hr, rfl, ho, hb⟩
    exact ⟨qs, A', n', c', 0, .inr ⟨h, hr, rfl⟩, rfl, ho, hb⟩

theorem Own.apart {k k' : IntKind} {e e' : TypeId} {w1 w2 : World} {B B' : Nat} {A A' : Option Addr} {n n' c c' : Nat} {xs ys : List Int} (h : Own k e w1 B A n c xs) (h' : Own k' e' w2 B' A' n' c' ys) (hB : w1.heap.size ≤ B') : blk A' = none ∨ blk A' ≠ blk A := by
  rcases h'.form with ⟨rfl, _⟩ | ⟨g, rfl, hg, _⟩
  · exact .inl rfl
  · refine .inr fun hne => ?_
    have := (h.blk_ g hne.symm).2
    omega
theorem grown_below {w w' : World} {B : Nat} {A : Option Addr} (hg : w.grownBy w' (blk A)) (hB : B ≤ w.heap.size) (hA : ∀ g, blk A = some g → B ≤ g) : Below B w w' := (Below.refl _ _).grown hg hB hA

set_option maxRecDepth 100000 in
set_option maxHeartbeats 4000000 in
theorem LimbSmall_any {w : World} {B : Nat} {A : Option Addr} {n c : Nat} {xs : List Int} {d : Int} (hs : Sl .u32 w B A n c xs) (hB : B ≤ w.heap.size) (hx : Dg 4294967296 xs) (hd : 0 ≤ d ∧ d < 4294967296) (hT : HalfT w) (h0 : 0 < w.heap.size) :
    Calls Tryd.prog 4 #[.slice A n c, .int .u32 d] w fun e w' => e = .returned (.bool true) ∧ Below w.heap.size w w' := by
  have HT := Lib.hid hT
  clear hT
  by_cases c1 : 60 < n
  · go_enter Tryd.func4, Tryd.ntmps4
    go_wp2_with fail
    refine (works_any w HT.out h0).mono ?_
    rintro e w' ⟨rfl, hb⟩
    go_wp2
    go_ret
    exact ⟨rfl, hb⟩
  · have hn : n ≤ 60 := by omega
    clear c1
    go_enter Tryd.func4, Tryd.ntmps4
    go_wp2_with (at_builtin; refine wpList_app elemU rfl _ _ rfl (Own.nil (B := w.heap.size)) rfl hs rfl (by omega) (by unfold maxLen; omega) (Nat.le_refl _) ?_; intro Ax cx w1 hx1 hg1)
    rw [Nat.zero_add, List.nil_append] at hx1
    have b1 : Below w.heap.size w w1 := grown_below hg1 (Nat.le_refl _) (fun g h => by cases h)
    clear hg1
    have sa := (hs.below b1 hB).more (Nat.le_trans hB b1.size)
    have sx := hx1.sl
    clear hs hx1
    go_loopw [6] (fun tv wr => ∃ t : Nat, t ≤ 2 ∧ tv = .int .i64 t ∧ Below w1.heap.size w1 wr) (fun tv _ => 2 - (intOf tv).toNat)
    case atStart => exact ⟨0, by omega, rfl, Below.refl _ _⟩
    case round =>
      obtain ⟨t, ht, rfl, bw⟩ := hrel
      by_cases htl : t < 2
      · have sa0 := (sa.below bw (Nat.le_refl _)).more bw.size
        have sx0 := (sx.below bw (Nat.le_refl _)).more bw.size
        go_wp2_with fail
        refine (MulSmall_any sa0 (Nat.le_refl _) hx hd (by omega)).mono ?_
        rintro e w2 ⟨ps, hp, Ap, np, cp, rfl, hop, b2⟩
        go_wp2_with fail
        refine (DivSmall_u ((sa0.below b2 (Nat.le_refl _)).more b2.size) (Nat.le_refl _) hx hd (by omega)).mono ?_
        rintro e w3 ⟨qs, Aq, nq, cq, r, er, hq, rfl, hoq, b3⟩
        have b13 := b2.trans (b3.mono b2.size)
        go_wp2_with fail
        refine (refDivSmall_u ((sx0.below b13 (Nat.le_refl _)).more b13.size) (Nat.le_refl _) hx hd (by omega)).mono ?_
        rintro e w4 ⟨ks, Ak, nk, ck, s, f, hk, rfl, hok, b4⟩
        obtain ⟨rfl, rfl, rfl⟩ := hq.uniq hk
        have b14 := b13.trans (b4.mono b13.size)
        go_wp2_with fail
        refine (refMulSmall_any ((sx0.below b14 (Nat.le_refl _)).more b14.size) (Nat.le_refl _) hx hd (by omega)).mono ?_
        rintro e w5 ⟨ms, hms, Am, nm, cm, rfl, hom, b5⟩
        obtain rfl := hp.uniq (by decide) hms
        have b15 := b14.trans (b5.mono b14.size)
        have hop5 := ((hop.below b3).below b4).below b5
        have hoq5 := ((hoq.below b4).below b5).lower b2.size
        have hok5 := hok.below b5
        have hap := hop.apart hoq (Nat.le_refl _)
        clear hp hms hq hk b2 b3 b4 b5 b13 b14 hop hoq hok sa0 sx0
        go_wp2_with fail
        refine (same_b hop5.sl hom.sl).mono ?_
        rintro e w6 ⟨rfl, b6⟩
        go_wp2_with fail
        refine (same_b (hoq5.below b6).sl (hok5.below b6).sl).mono ?_
        rintro e w7 ⟨rfl, b7⟩
        have hop7 := (hop5.below b6).below b7
        have hoq7 := (hoq5.below b6).below b7
        have b17 := (b15.trans (b6.mono b15.size)).trans (b7.mono (b15.trans (b6.mono b15.size)).size)
        clear hop5 hoq5 hok5 hom b6 b7 b15
        go_wp2_with fail
        refine (spoil_any ⟨_, hop7⟩).mono ?_
        rintro e w8 ⟨rfl, g8⟩
        have hoq8 := hoq7.keep g8 hap
        have b18 := b17.trans (grown_below g8 b17.size (fun g h => (hop7.blk_ g h).1))
        clear hop7 hoq7 g8 b17 hap
        go_wp2_with fail
        refine (spoil_any ⟨_, hoq8⟩).mono ?_
        rintro e w9 ⟨rfl, g9⟩
        have b19 := b18.trans (grown_below g9 b18.size (fun g h => (hoq8.blk_ g h).1))
        have bw9 := bw.trans (b19.mono bw.size)
        clear g9 b18 b19 hoq8 bw
        go_wp2_with fail
        go_roundw
        case rel => exact ⟨t + 1, by omega, by go_num, bw9⟩
        case measure => simp [intOf] <;> omega
      · have sa0 := (sa.below bw (Nat.le_refl _)).more bw.size
        have sx0 := (sx.below bw (Nat.le_refl _)).more bw.size
        go_wp2_with fail
        refine (same_b sa0 sx0).mono ?_
        rintro e w6 ⟨rfl, b6⟩
        have b06 := b1.trans ((bw.trans (b6.mono bw.size)).mono b1.size)
        go_wp2_with fail
        refine (works_any _ (HT.out.below b06 h0) (Nat.lt_of_lt_of_le h0 b06.size)).mono ?_
        rintro e w7 ⟨rfl, b7⟩
        have b07 := b06.trans (b7.mono b06.size)
        clear b06 b6 b7 bw
        go_wp2
        go_ret
        exact ⟨rfl, b07⟩

/-- What addings up answer, told in whatever world: 'Trim' too. -/
theorem Trim_u {w : World} {B : Nat} {A : Option Addr} {n c : Nat} {xs : List Int} (hs : Sl .u32 w B A n c xs) (hx : Dg 4294967296 xs) (hn : n ≤ 1000000000) :
    Calls Tryd.prog 13 #[.slice A n c] w (NewN w (val 4294967296 xs)) := by
  refine (Trim_any hs hn).mono ?_
  rintro e w' h
  exact ⟨_, Row.of_tl hx, h⟩

set_option maxRecDepth 100000 in
set_option maxHeartbeats 8000000 in
theorem LimbSums_any {w : World} {B : Nat} {A A2 A3 : Option Addr} {n c m c2 k c3 : Nat} {xs ys : List Int} {xss : List (List Int)} (hs : Sl .u32 w B A n c xs) (ht : Sl .u32 w B A2 m c2 ys) (hl : SlS w B A3 k c3 xss) (hB : B ≤ w.heap.size)
    (hx : Dg 4294967296 xs) (hy : Dg 4294967296 ys) (hz : ∀ zs ∈ xss, Dg 4294967296 zs) (hT : HalfT w) (h0 : 0 < w.heap.size) :
    Calls Tryd.prog 3 #[.slice A n c, .slice A2 m c2, .slice A3 k c3] w fun e w' => e = .returned (.bool true) ∧ Below w.heap.size w w' := by
  have HT := Lib.hid hT
  clear hT
  have hkm := hl.lenMax
  by_cases e1 : 60 < n
  · go_enter Tryd.func3, Tryd.ntmps3
    go_wp2_with fail
    refine (works_any w HT.out h0).mono ?_
    rintro e w' ⟨rfl, hb⟩
    go_wp2
    go_ret
    exact ⟨rfl, hb⟩
  by_cases e2 : 60 < m
  · go_enter Tryd.func3, Tryd.ntmps3
    go_wp2_with fail
    refine (works_any w HT.out h0).mono ?_
    rintro e w' ⟨rfl, hb⟩
    go_wp2
    go_ret
    exact ⟨rfl, hb⟩
  by_cases e3 : 10 < k
  · go_enter Tryd.func3, Tryd.ntmps3
    go_wp2_with fail
    refine (works_any w HT.out h0).mono ?_
    rintro e w' ⟨rfl, hb⟩
    go_wp2
    go_ret
    exact ⟨rfl, hb⟩
  have hn : n ≤ 60 := by omega
  have hm : m ≤ 60 := by omega
  have hk : k ≤ 10 := by omega
  clear e1 e2 e3
  go_enter Tryd.func3, Tryd.ntmps3
  go_wp2_with fail
  go_loop [7] (fun iv => ∃ i : Nat, i ≤ k ∧ iv = .int .i64 i ∧ ∀ j zs, j < i → xss[j]? = some zs → zs.length ≤ 60) (fun iv => k - (intOf iv).toNat)
  case atStart => exact ⟨0, by omega, rfl, fun j zs h => absurd h (by omega)⟩
  case round =>
    obtain ⟨i, hi, rfl, hall⟩ := hrel
    by_cases hlt : i < k
    · obtain ⟨b, off, zs, A', n', c', rfl, _, ez, hcell, hsl⟩ := hl.at_ hlt
      by_cases hbig : 60 < n'
      · clear hall
        go_wp2_with fail
        refine (works_any w HT.out h0).mono ?_
        rintro e w' ⟨rfl, hb⟩
        go_wp2
        go_ret
        exact ⟨rfl, hb⟩
      · have hnx := Lib.hid (show ∀ j zs, j < i + 1 → xss[j]? = some zs → zs.length ≤ 60 by
          intro j ws hj hw
          rcases Nat.lt_or_ge j i with h | h
          · exact hall j ws h hw
          · obtain rfl : j = i := by omega
            rw [ez] at hw
            injection hw with hw
            subst hw
            have := hsl.len
            omega)
        clear hall
        go_wp2
        go_round
        case rel => exact ⟨i + 1, by omega, by go_num, hnx.out⟩
        case measure => simp [intOf] <;> omega
    · have hL := Lib.hid (show ∀ zs ∈ xss, zs.length ≤ 60 from fun zs hz => by
        obtain ⟨j, hj⟩ := List.mem_iff_getElem?.1 hz
        exact hall j zs (by have := (List.getElem?_eq_some_iff.1 hj).1; have := hl.1; omega) hj)
      clear hall
      go_wp2_with (first | (at_builtin; refine wpList_app elemU rfl _ _ rfl (Own.nil (B := w.heap.size)) rfl hs rfl (by omega) (by unfold maxLen; omega) (Nat.le_refl _) ?_; intro Ax cx w1 hx1 hg1) | (at_builtin; refine wpList_app elemU rfl _ _ rfl (Own.nil (B := w.heap.size)) rfl (ht.grown hg1 hB (fun g h => by cases h)) rfl (by omega) (by unfold maxLen; omega) hg1.size ?_; intro Ay cy w2 hy2 hg2))
      rw [Nat.zero_add, List.nil_append] at hx1 hy2
      have b1 : Below w.heap.size w w1 := grown_below hg1 (Nat.le_refl _) (fun g h => by cases h)
      have b2 : Below w1.heap.size w1 w2 := grown_below hg2 (Nat.le_refl _) (fun g h => by cases h)
      clear hg1 hg2
      have b02 := b1.trans (b2.mono b1.size)
      have sa := (hs.below b02 hB).more (Nat.le_trans hB b02.size)
      have sb := (ht.below b02 hB).more (Nat.le_trans hB b02.size)
      have sl := hl.below b02 hB
      have hB2 := Nat.le_trans hB b02.size
      have sx := (hx1.below b2).sl
      have sy := hy2.sl
      clear hs ht hl hx1 hy2 b1 b2
      go_loopw [10] (fun tv wr => ∃ t : Nat, t ≤ 2 ∧ tv = .int .i64 t ∧ Below w2.heap.size w2 wr) (fun tv _ => 2 - (intOf tv).toNat)
      case atStart => exact ⟨0, by omega, rfl, Below.refl _ _⟩
      case round =>
        obtain ⟨t, ht, rfl, bw⟩ := hrel
        have sa0 := (sa.below bw (Nat.le_refl _)).more bw.size
        have sb0 := (sb.below bw (Nat.le_refl _)).more bw.size
        have sx0 := (sx.below bw (Nat.le_refl _)).more bw.size
        have sy0 := (sy.below bw (Nat.le_refl _)).more bw.size
        by_cases htl : t < 2
        · have sl0 := sl.below bw hB2
          have hB0 := Nat.le_trans hB2 bw.size
          go_wp2_with fail
          refine (Sub_u sa0 sb0 (Nat.le_refl _) hx hy (by omega)).mono ?_
          rintro e w3 ⟨ds, Ad, nd, cd, er, hd, rfl, hod, b3⟩
          go_wp2_with fail
          refine (refSub_u ((sx0.below b3 (Nat.le_refl _)).more b3.size) ((sy0.below b3 (Nat.le_refl _)).more b3.size) (Nat.le_refl _) hx hy (by omega) (by omega)).mono ?_
          rintro e w4 ⟨ws, Aw, nw, cw, f, hw, rfl, how, b4⟩
          obtain ⟨rfl, rfl⟩ := hd.uniq hw
          have b04 := b3.trans (b4.mono b3.size)
          go_wp2_with fail
          refine (Add_any ((sa0.below b04 (Nat.le_refl _)).more b04.size) ((sb0.below b04 (Nat.le_refl _)).more b04.size) (Nat.le_refl _) hx hy (by omega) (by omega)).mono ?_
          rintro e w5 ⟨ss, hss, As, ns, cs, rfl, hos, b5⟩
          have b05 := b04.trans (b5.mono b04.size)
          go_wp2_with fail
          refine (Sum_any (sl0.below b05 hB0) (Nat.le_trans hB0 b05.size) hz (fun zs h => by have := hL.out zs h; omega)).mono ?_
          rintro e w6 ⟨ms, hms, Am, nm, cm, rfl, hom, b6⟩
          have b06 := b05.trans (b6.mono b05.size)
          go_wp2_with fail
          refine (Trim_u ((sa0.below b06 (Nat.le_refl _)).more b06.size) hx (by omega)).mono ?_
          rintro e w7 ⟨cs_, hcs, Ac, nc, cc, rfl, hoc, b7⟩
          have b07 := b06.trans (b7.mono b06.size)
          have b57 := b6.trans (b7.mono b6.size)
          have b47 := b5.trans (b57.mono b5.size)
          have b37 := b4.trans (b47.mono b4.size)
          have apsd := hod.apart hos b4.size
          have apmd := hod.apart hom (Nat.le_trans b4.size b5.size)
          have apcd := hod.apart hoc (Nat.le_trans b4.size (Nat.le_trans b5.size b6.size))
          have apms := hos.apart hom (Nat.le_refl _)
          have apcs := hos.apart hoc b6.size
          have apcm := hom.apart hoc (Nat.le_refl _)
          have od := (hod.below b37)
          have ow := (how.below b47)
          have os := (hos.below b57).lower b04.size
          have om := (hom.below b7).lower b05.size
          have oc := hoc.lower b06.size
          clear hd hw b3 b4 b5 b6 b7 b04 b05 b06 b57 b47 b37 hod how hos hom hoc
          go_wp2_with fail
          refine (same_b od.sl ow.sl).mono ?_
          rintro e w8 ⟨rfl, b8⟩
          have b08 := b07.trans (b8.mono b07.size)
          go_wp2_with fail
          refine (refAdd_any ((sx0.below b08 (Nat.le_refl _)).more b08.size) ((sy0.below b08 (Nat.le_refl _)).more b08.size) (Nat.le_refl _) hx hy (by omega) (by omega)).mono ?_
          rintro e w9 ⟨ss', hss', As', ns', cs', rfl, hos', b9⟩
          obtain rfl := hss.uniq (by decide) hss'
          have os9 := (os.below b8).below b9
          have b09 := b08.trans (b9.mono b08.size)
          go_wp2_with fail
          refine (same_b os9.sl hos'.sl).mono ?_
          rintro e w10 ⟨rfl, b10⟩
          have b010 := b09.trans (b10.mono b09.size)
          go_wp2_with fail
          refine (refSum_any (sl0.below b010 hB0) (Nat.le_trans hB0 b010.size) hz hL.out (by omega) (by omega)).mono ?_
          rintro e w11 ⟨ms', hms', Am', nm', cm', rfl, hom', b11⟩
          obtain rfl := hms.uniq (by decide) hms'
          have b79 := b8.trans (b9.mono b8.size)
          have b710 := b79.trans (b10.mono b79.size)
          have b711 := b710.trans (b11.mono b710.size)
          have b011 := b010.trans (b11.mono b010.size)
          go_wp2_with fail
          refine (same_b (om.below b711).sl hom'.sl).mono ?_
          rintro e w12 ⟨rfl, b12⟩
          have b012 := b011.trans (b12.mono b011.size)
          go_wp2_with fail
          refine (refTrim_any ((sx0.below b012 (Nat.le_refl _)).more b012.size) (Nat.le_refl _) hx (by omega)).mono ?_
          rintro e w13 ⟨cs2, hcs2, Ac', nc', cc', rfl, hoc', b13⟩
          obtain rfl := hcs.uniq (by decide) hcs2
          have b712 := b711.trans (b12.mono b711.size)
          have b713 := b712.trans (b13.mono b712.size)
          have b013 := b012.trans (b13.mono b012.size)
          go_wp2_with fail
          refine (same_b (oc.below b713).sl hoc'.sl).mono ?_
          rintro e w14 ⟨rfl, b14⟩
          have b714 := b713.trans (b14.mono b713.size)
          have b014 := b013.trans (b14.mono b013.size)
          have od' := od.below b714
          have os' := os.below b714
          have om' := om.below b714
          have oc' := oc.below b714
          clear od ow os om oc os9 hos' hom' hoc' b8 b9 b10 b11 b12 b13 b14 b07 b08 b09 b010 b011 b012 b013 b79 b710 b711 b712 b713 b714 hss hss' hms hms' hcs hcs2
          go_wp2_with fail
          refine (spoil_any ⟨_, od'⟩).mono ?_
          rintro e w15 ⟨rfl, g15⟩
          have b015 := b014.trans (grown_below g15 b014.size (fun g h => (od'.blk_ g h).1))
          have os2 := os'.keep g15 apsd
          have om2 := om'.keep g15 apmd
          have oc2 := oc'.keep g15 apcd
          clear od' os' om' oc' g15 b014 apsd apmd apcd
          go_wp2_with fail
          refine (spoil_any ⟨_, os2⟩).mono ?_
          rintro e w16 ⟨rfl, g16⟩
          have b016 := b015.trans (grown_below g16 b015.size (fun g h => (os2.blk_ g h).1))
          have om3 := om2.keep g16 apms
          have oc3 := oc2.keep g16 apcs
          clear os2 om2 oc2 g16 b015 apms apcs
          go_wp2_with fail
          refine (spoil_any ⟨_, om3⟩).mono ?_
          rintro e w17 ⟨rfl, g17⟩
          have b017 := b016.trans (grown_below g17 b016.size (fun g h => (om3.blk_ g h).1))
          have oc4 := oc3.keep g17 apcm
          clear om3 oc3 g17 b016 apcm
          go_wp2_with fail
          refine (spoil_any ⟨_, oc4⟩).mono ?_
          rintro e w18 ⟨rfl, g18⟩
          have b018 := b017.trans (grown_below g18 b017.size (fun g h => (oc4.blk_ g h).1))
          have bw18 := bw.trans (b018.mono bw.size)
          clear oc4 g18 b017 b018 bw
          go_wp2_with fail
          go_roundw
          case rel => exact ⟨t + 1, by omega, by go_num, bw18⟩
          case measure => simp [intOf] <;> omega
        · clear sl
          go_wp2_with fail
          refine (Cmp_any sa0 sb0 hx hy).mono ?_
          rintro e w3 ⟨hr, q, rfl⟩
          unfold CmpR at hr
          subst hr
          have b3 : Below wr.heap.size wr (wr.drewN q) := Below.drewN' (Below.refl _ _) q
          generalize wr.drewN q = w3 at *
          go_wp2_with fail
          refine (refCmp_any ((sx0.below b3 (Nat.le_refl _)).more b3.size) ((sy0.below b3 (Nat.le_refl _)).more b3.size) (Nat.le_refl _) hx hy (by omega) (by omega)).mono ?_
          rintro e w4 ⟨rfl, b4⟩
          have b04 := b3.trans (b4.mono b3.size)
          have b0w := b02.trans ((bw.trans (b04.mono bw.size)).mono b02.size)
          go_wp2_with fail
          refine (Bits_any (sa0.below b04 (Nat.le_refl _)) (HT.out.below b0w h0) hx (by omega)).mono ?_
          rintro e w5 ⟨⟨b, hb, rfl⟩, rfl⟩
          go_wp2_with fail
          refine (refBits_any ((sx0.below b04 (Nat.le_refl _)).more b04.size) (Nat.le_refl _) hx (by omega)).mono ?_
          rintro e w6 ⟨b', hb', rfl, b6⟩
          obtain rfl := hb.uniq hb'
          have b06 := b04.trans (b6.mono b04.size)
          go_wp2_with fail
          refine (same_b (sa0.below b06 (Nat.le_refl _)) (sx0.below b06 (Nat.le_refl _))).mono ?_
          rintro e w7 ⟨rfl, b7⟩
          have b07 := b06.trans (b7.mono b06.size)
          go_wp2_with fail
          refine (same_b (sb0.below b07 (Nat.le_refl _)) (sy0.below b07 (Nat.le_refl _))).mono ?_
          rintro e w8 ⟨rfl, b8⟩
          have b08 := b07.trans (b8.mono b07.size)
          have b0w8 := b02.trans ((bw.trans (b08.mono bw.size)).mono b02.size)
          clear b3 b4 b04 b0w b6 b06 b7 b07 b8 b08
          go_wp2_with fail
          refine (works_any _ (HT.out.below b0w8 h0) (Nat.lt_of_lt_of_le h0 b0w8.size)).mono ?_
          rintro e w9 ⟨rfl, b9⟩
          have b09 := b0w8.trans (b9.mono b0w8.size)
          clear b0w8 b9 bw
          go_wp2
          go_ret
          exact ⟨rfl, b09⟩
end Go.Proofs.YtgdfjfmgcnbdaaaDoor
