/- Kinds of arguments; calls of function values by their contracts; limbs read one by one; fractions and the whole numbers next to them. -/
import Derived.Test.YtngfkjlpgodfhaaGreatDoorGG
import Derived.Test.YtngfkjlpgodfhaaGreatDoorGJ
import Derived.Test.YtngfkjlpgodfhaaGreatDoorGK
import Derived.Test.YtngfkjlpgodfhaaGreatDoorGI
import Derived.Test.YtngfkjlpgodfhaaGreatDoorGB
set_option linter.unusedSimpArgs false
set_option linter.unusedVariables false
namespace Go.Proofs.YtngfkjlpgodfhaaGreatDoor
open Go Go.RowKit
instance {T : VTy} {q : Rat} {L : Nat} [a : AsQ T q L] : AsK 1 T (.qa q L) := ⟨a.ok⟩
instance {T : VTy} {N : Int} {L : Nat} [a : AsN T N L] : AsK 2 T (.na N L) := ⟨a.ok⟩
instance {T : VTy} {q : Rat} {L : Nat} [a : AsC T q L] : AsK 3 T (.qc q L) := ⟨a.ok⟩
instance {T : VTy} {x : RawQ} {L : Nat} [a : AsX T x L] : AsK 4 T (.qx x L) := ⟨a.ok⟩
/-- As a right number; as just this one; whatever fraction. -/
class AsM (T : VTy) (N : outParam Int) (L : outParam Nat) : Prop where
  ok : ∀ {X w v}, T.holds X w v → (VTy.nc N L).holds X w v
instance {N : Int} {L : Nat} : AsM (.nc N L) N L := ⟨fun h => h⟩
instance {N : Int} {L B : Nat} : AsM (.nn N L B) N L := ⟨fun h => nwn_ex h⟩
instance {N : Int} {L B : Nat} {T : VTy} [a : AsM T N L] : AsM (.und B T) N L := ⟨fun h => a.ok (und_weak h)⟩
instance {N : Int} {L B : Nat} {T : VTy} [a : AsN T N L] : AsN (.und B T) N L := ⟨fun h => a.ok (und_weak h)⟩
class AsY (T : VTy) (x : outParam RawI) (L : outParam Nat) : Prop where
  ok : ∀ {X w v}, T.holds X w v → (VTy.nx x L).holds X w v
instance {x : RawI} {L : Nat} : AsY (.nx x L) x L := ⟨fun h => h⟩
instance {x : RawI} {L B : Nat} {T : VTy} [a : AsY T x L] : AsY (.und B T) x L := ⟨fun h => a.ok (und_weak h)⟩
instance {T : VTy} {N : Int} {L : Nat} [a : AsM T N L] : AsK 5 T (.nc N L) := ⟨a.ok⟩
instance {T : VTy} {x : RawI} {L : Nat} [a : AsY T x L] : AsK 6 T (.nx x L) := ⟨a.ok⟩
instance {T : VTy} {x : RawQ} [a : AsZ T x] : AsK 7 T (.qz x) := ⟨a.ok⟩
instance {T : VTy} {K : Nat} {l : List RawQ} [a : AsW T Rp.frac (fewQ K) l] : AsK 8 T (.rq K l) := ⟨a.ok⟩
instance {K : Nat} {l : List RawQ} : AsW (.rq K l) Rp.frac (fewQ K) l := ⟨fun h => h⟩
instance : StabG Tab := ⟨Tab.below⟩
instance {q : Rat} {L : Nat} : DownC fun B => .qn q L B := ⟨fun hB h => nw_le h hB⟩
instance {q : Rat} {L : Nat} : DownC fun B => .qg q L B := ⟨fun hB h => nw_le h hB⟩
instance {N : Int} {L : Nat} : DownC fun B => .nn N L B := ⟨fun hB h => nwn_le h hB⟩
/-- A function's name as an argument. -/
instance OpsK.name {E : List (Nat × VTy)} {f : FuncId} {os : List Operand} {k : Nat} {ks : List Nat} {As : List VTy} [t : OpsK E os ks As] : OpsK E (.func f :: os) (k :: ks) (.fv f [] [] :: As) :=
  ⟨fun hc hf hs => ⟨⟨[], [], hf f, trivial, trivial⟩, t.get hc hf fun p hp hm => hs p hp (List.mem_cons_of_mem _ hm)⟩⟩
section
variable {P : Program} {G : World → Prop} {w00 : World} {N : Nat} {L : List Loc} {E : List (Nat × VTy)} {d : Nat} {t0 : TypeId} {pos : String} {af : Array Edge} {gd : Option (Nat × Bool)} {ats : Array TypeId}
/-- A function value that got nothing ahead is called. -/
theorem scv {f : FuncId} {s : Nat} {os : List Operand} {ks : List Nat} {As : List VTy} {T : Nat → VTy} [hs : Look E s (.fv f [] [])] [k : OpsK E os ks As] [sg : StabG G] (hG : G w00) (h : Ctr P G f ks As T) :
    StepT P w00 N L E ⟨some d, .call { callee := .value (.tmp s), args := os.toArray, argTypes := ats }, t0, pos, af, gd⟩ (T w00.heap.size) := by
  constructor
  intro X ρ w hc hf hN hm hsl
  obtain ⟨vs, us, e0, g1, g2⟩ := hsl _ hs.mem (by simp [Op.operands, Call.operands])
  have e := k.get (X := X) (w := w) hc hf fun p hp he => hsl p hp (by simp [Op.operands, Call.operands, he])
  match vs, us, g1, g2 with
  | [], [], _, _ =>
    have e' : ρ (.tmp s) = .func (.func f) #[] #[] := e0
    have hr : (execOp ρ ⟨some d, .call { callee := .value (.tmp s), args := os.toArray, argTypes := ats }, t0, pos, af, gd⟩).run P w = .ok (.enter f (os.map ρ).toArray) w := by
      have hen := h.ent
      clear hsl h hm hN hc e k hf e0
      go_simp
      exact hen _ _
    unfold Yields
    rw [hr]
    refine (h.run (sg.stab hG hm.below) hm.far e).mono ?_
    rintro e w' ⟨v, rfl, hT, hB⟩
    exact ⟨v, rfl, h.down hm.below.size hT, hB⟩
theorem Ctr.weak {f : FuncId} {ks : List Nat} {As : List VTy} {T T' : Nat → VTy} [dn : DownC T'] (h : Ctr P G f ks As T) (hi : ∀ {B : Nat} {X : List Nat} {w : World} {v : Value}, (T B).holds X w v → (T' B).holds X w v) : Ctr P G f ks As T' :=
  ⟨h.ent, dn.down, fun hG hX ha => (h.run hG hX ha).mono fun _ _ g => g.imp fun _ => hi⟩
/-- By one way for right fractions, another one for all others. -/
theorem ctrQ {f : FuncId} {p : Rat} {L : Nat} {T : Nat → VTy} [dn : DownC T] (he : Enters P f) (h1 : Lq p L → Ctr P G f [3] [.qc p L] T) (h2 : ∀ x, qrt x = false → p = 0 → 0 < L → Ctr P G f [4] [.qx x L] T) : Ctr P G f [1] [.qa p L] T :=
  ⟨he, dn.down, fun hG hX ha => by
    obtain ⟨v, rfl, g⟩ := ha.one
    obtain ⟨x, rfl, g'⟩ := qa_raw g
    cases hq : qrt x with
    | true => have g2 := qx_qc hq g'; exact (h1 (qc_Lq g2)).run hG hX ⟨g2, trivial⟩
    | false => exact (h2 x hq (qv_wrong hq) (qx_pos g')).run hG hX ⟨g', trivial⟩⟩
/-- A right number by its sign and limbs. -/
theorem ctrM {f : FuncId} {N : Int} {L : Nat} {T : Nat → VTy} [dn : DownC T] (he : Enters P f) (h : ∀ x : RawI, Whole N x.1 x.2 → Ctr P G f [6] [.nx x L] T) : Ctr P G f [5] [.nc N L] T :=
  ⟨he, dn.down, fun hG hX ha => by
    obtain ⟨v, rfl, x, ⟨hw, hl⟩, g⟩ := ha.one
    exact (h x hw).run hG hX ⟨⟨x, ⟨rfl, hw.len hl⟩, g⟩, trivial⟩⟩
/-- A limb's address. -/
def VTy.pl (x : Int) : VTy := ⟨fun X w v => ∃ b o, v = .pointer (some ⟨b, o, none⟩) ∧ Free X w b ∧ w.cell? ⟨b, o, none⟩ = some (.int .u32 x), fun ⟨b, o, e, hb, h⟩ hk hX => ⟨b, o, e, Free.mono hk hX b hb, (World.cell?_of_block (hk.block b hb.1 hb.2)).trans h⟩⟩
theorem st_limbAt {o : Operand} {xs : List Int} {x : Int} {ty : TypeId} [ho : OpC E o (.rc Rp.limbs xs)] [ht : SliceC P ty 1] (hx : xs[0]? = some x) : StepT P w00 N L E ⟨some d, .indexAddr ty o (.const (.int .i64 0)), t0, pos, af, gd⟩ (.pl x) := by
  constructor
  intro X ρ w hc _ hN hm hsl
  obtain ⟨A, n, c, e, ⟨hs, hf⟩, _⟩ := ho.get (X := X) (w := w) hc fun p hp e => hsl p hp (by simp [Op.operands, e])
  have e1 : ρ o = .slice A n c := by simpa using e
  have e2 : ρ (.const (.int .i64 0)) = .int .i64 0 := hc _
  have hj : 0 < n := by rw [← hs.1]; exact (List.getElem?_eq_some_iff.1 hx).1
  obtain ⟨b, off, y, rfl, hb, hy, hcell⟩ := hs.at_ hj
  rw [hx] at hy
  injection hy with hy
  subst hy
  obtain ⟨el, hu, hsz⟩ := ht.ok
  have hz : (sizeOf el).run P w = .ok 1 w := by
    cases hq : P.info? el with
    | none => rw [hq] at hsz; cases hsz
    | some q =>
      rw [hq] at hsz
      have : q.size = 1 := by simpa using hsz
      simp [sizeOf, typeInfo, hq, this]
  have hrun : (execOp ρ ⟨some d, .indexAddr ty o (.const (.int .i64 0)), t0, pos, af, gd⟩).run P w = .ok (.value (.pointer (some ⟨b, off + 0 * 1, none⟩))) w := by
    unfold execOp
    have hji : (0 : Int) ≤ 0 ∧ (0 : Int) < (n : Int) := ⟨by omega, by omega⟩
    have hj0 : (0 : Int).toNat = 0 := rfl
    simp only [e1, e2, Instr.indexAt, asIntOf, Sem.run_bind, Sem.run_pure, Result.andThen_ok, run_underlying hu w, hji, and_self, if_true, hz, hj0, Addr.add_mid]
  unfold Yields
  rw [hrun]
  exact ⟨⟨b, _, rfl, hf hj b rfl, hcell⟩, Below.refl _ _⟩
end
section
variable {w00 : World} {N : Nat} {L : List Loc} {E : List (Nat × VTy)} {d : Nat} {t0 : TypeId} {pos : String} {af : Array Edge} {gd : Option (Nat × Bool)} {ats : Array TypeId}
set_option maxRecDepth 20000 in
theorem st_limb {x : Int} {s : Nat} [ho : Look E s (.pl x)] : StepT Tryz.prog w00 N L E ⟨some d, .load 38 (.tmp s), t0, pos, af, gd⟩ (.is (.int .u32 x)) := by
  constructor
  intro X ρ w hc _ hN hm hsl
  obtain ⟨b, o, e, hb, h1⟩ := hsl _ ho.mem (by simp [Op.operands])
  have e' : ρ (.tmp s) = .pointer (some ⟨b, o, none⟩) := e
  clear hc hsl ho hm e
  unfold Yields
  go_simp
  exact ⟨rfl, Below.refl _ _⟩
set_option maxRecDepth 20000 in
theorem st_rem2 {o : Operand} {x : Int} {t1 : TypeId} [h0 : OpC E o (.is (.int .u32 x))] (hx : 0 ≤ x) : StepT Tryz.prog w00 N L E ⟨some d, .binOp .rem 38 o (.const (.int .u32 2)) t1, t0, pos, af, gd⟩ (.is (.int .u32 (x % 2))) := by
  constructor
  intro X ρ w hc _ hN hm hsl
  have e0 : ρ o = .int .u32 x := h0.get (X := X) (w := w) hc fun p hp e => hsl p hp (by simp [Op.operands, e])
  have e1 : ρ (.const (.int .u32 2)) = .int .u32 2 := hc _
  have e2 : x.tmod 2 = x % 2 := Int.tmod_eq_emod_of_nonneg hx
  have hr : IntKind.u32.wrap (x % 2) = x % 2 := by rw [IntKind.wrap_u32]; omega
  clear hc hsl h0
  unfold Yields
  go_simp
  exact ⟨rfl, Below.refl _ _⟩
end
/-- What is above the floor; the ceiling; toward 0; half-even. -/
def fr (q : Rat) : Rat := q - (q.floor : Rat)
def cl (q : Rat) : Int := -(-q).floor
def tz (q : Rat) : Int := bif decide (q < 0) then cl q else q.floor
def hf (q : Rat) : Int := bif decide (2 * fr q < 1) || (decide (2 * fr q = 1) && decide (q.floor % 2 = 0)) then q.floor else q.floor + 1
theorem fl_le (q : Rat) : (q.floor : Rat) ≤ q := Rat.floor_le q
theorem fl_lt (q : Rat) : q < (q.floor : Rat) + 1 := by have := @Rat.lt_floor q; grind
theorem fl_uniq {q : Rat} {n : Int} (h1 : (n : Rat) ≤ q) (h2 : q < (n : Rat) + 1) : q.floor = n := by
  have a := Rat.le_floor_iff.2 h1
  have b : q.floor < n + 1 := Rat.floor_lt_iff.2 (by rw [Rat.intCast_add]; exact h2)
  omega
theorem fr_0 (q : Rat) : 0 ≤ fr q := by have := fl_le q; unfold fr; grind
theorem fr_1 (q : Rat) : fr q < 1 := by have := fl_lt q; unfold fr; grind
theorem cl_fr (q : Rat) : cl q = bif decide (0 < fr q) then q.floor + 1 else q.floor := by
  unfold cl
  have h1 := fr_0 q
  have h2 := fr_1 q
  have e : q = q.floor + fr q := by unfold fr; grind
  by_cases h : 0 < fr q
  · rw [decide_eq_true h, cond_true]
    have : (-q).floor = -q.floor - 1 := fl_uniq (by rw [Rat.intCast_sub, Rat.intCast_neg]; show _ - (1 : Rat) ≤ _; grind) (by rw [Rat.intCast_sub, Rat.intCast_neg]; show _ < _ - (1 : Rat) + 1; grind)
    omega
  · rw [decide_eq_false h, cond_false]
    have : (-q).floor = -q.floor := fl_uniq (by rw [Rat.intCast_neg]; grind) (by rw [Rat.intCast_neg]; grind)
    omega
theorem fl_neg {q : Rat} (h : 0 ≤ q) : 0 ≤ q.floor := Rat.le_floor_iff.2 h
theorem fl_neg' {q : Rat} (h : q < 0) : q.floor < 0 := Rat.floor_lt_iff.2 h
theorem tz_fr (q : Rat) : tz q = bif decide (0 < fr q) && decide (q.floor < 0) then q.floor + 1 else q.floor := by
  unfold tz
  by_cases h : q < 0
  · rw [decide_eq_true h, cond_true, cl_fr, decide_eq_true (fl_neg' h), Bool.and_true]
  · have := fl_neg (Rat.not_lt.1 h)
    rw [decide_eq_false h, cond_false, decide_eq_false (show ¬ q.floor < 0 by omega), Bool.and_false, cond_false]
/-- Half-even as the reference tells it. -/
theorem hf_ref (q : Rat) : hf q = bif decide (q - q.floor < cl q - q) then q.floor else bif decide (cl q - q < q - q.floor) then cl q else bif decide (q.floor % 2 = 0) then q.floor else cl q := by
  have h1 := fr_0 q
  have h2 := fr_1 q
  have e : q = q.floor + fr q := by unfold fr; grind
  have hc := cl_fr q
  unfold hf
  by_cases h : 0 < fr q
  · rw [decide_eq_true h, cond_true] at hc
    have hc' : (cl q : Rat) = q.floor + 1 := by rw [hc, Rat.intCast_add]; rfl
    by_cases h3 : 2 * fr q < 1
    · rw [decide_eq_true h3, decide_eq_true (show q - q.floor < cl q - q by grind)]; rfl
    · rw [decide_eq_false h3, decide_eq_false (show ¬ q - q.floor < cl q - q by grind)]
      by_cases h4 : 2 * fr q = 1
      · rw [decide_eq_true h4, decide_eq_false (show ¬ cl q - q < q - q.floor by grind), hc]
        rfl
      · rw [decide_eq_false h4, decide_eq_true (show cl q - q < q - q.floor by grind), hc]
        rfl
  · rw [decide_eq_false h, cond_false] at hc
    have h0 : fr q = 0 := by grind
    rw [hc, h0, decide_eq_true (show 2 * (0 : Rat) < 1 by grind), decide_eq_false (show ¬ q - q.floor < q.floor - q by grind), decide_eq_false (show ¬ q.floor - q < q - q.floor by grind)]
    cases decide (q.floor % 2 = 0) <;> rfl
theorem hf_bounds (q : Rat) : 2 * ((hf q : Rat) - q) ≤ 1 ∧ 2 * (q - hf q) ≤ 1 := by
  have h1 := fr_0 q
  have h2 := fr_1 q
  have e : q = q.floor + fr q := by unfold fr; grind
  unfold hf
  by_cases h3 : 2 * fr q < 1
  · rw [decide_eq_true h3, Bool.true_or, cond_true]; grind
  · by_cases h4 : 2 * fr q = 1
    · cases h5 : decide (q.floor % 2 = 0)
      · rw [decide_eq_false h3, Bool.and_false, Bool.or_false, cond_false, Rat.intCast_add]; show 2 * (_ + (1 : Rat) - _) ≤ _ ∧ 2 * (_ - (_ + (1 : Rat))) ≤ _; grind
      · rw [decide_eq_true h4, Bool.and_true, Bool.or_true, cond_true]; grind
    · rw [decide_eq_false h3, decide_eq_false h4, Bool.false_and, Bool.or_false, cond_false, Rat.intCast_add]; show 2 * (_ + (1 : Rat) - _) ≤ _ ∧ 2 * (_ - (_ + (1 : Rat))) ≤ _; grind
theorem hf_even {q : Rat} (h : 2 * fr q = 1) : hf q % 2 = 0 := by
  unfold hf
  rw [decide_eq_true h, decide_eq_false (show ¬ 2 * fr q < 1 by grind), Bool.true_and, Bool.false_or]
  by_cases h5 : q.floor % 2 = 0
  · rw [decide_eq_true h5]; exact h5
  · rw [decide_eq_false h5, cond_false]; omega
/-- The nearest whole number is one alone. -/
theorem hf_uniq {q : Rat} {n : Int} (h1 : 2 * ((n : Rat) - q) ≤ 1) (h2 : 2 * (q - n) ≤ 1) (h3 : 2 * ((n : Rat) - q) = 1 ∨ 2 * (q - n) = 1 → n % 2 = 0) : hf q = n := by
  obtain ⟨g1, g2⟩ := hf_bounds q
  have hd : ∀ {a b : Int}, a < b → (a : Rat) + 1 ≤ b := fun {a b} h => by
    have := Rat.intCast_le_intCast.2 (show a + 1 ≤ b by omega)
    rwa [Rat.intCast_add] at this
  have f0 := fr_0 q
  have f1 := fr_1 q
  have hev : 2 * ((hf q : Rat) - q) = 1 ∨ 2 * (q - hf q) = 1 → hf q % 2 = 0 := by
    intro h
    apply hf_even
    have e : q = q.floor + fr q := by unfold fr; grind
    have hh : hf q = q.floor ∨ hf q = q.floor + 1 := by
      unfold hf
      cases (decide (2 * fr q < 1) || (decide (2 * fr q = 1) && decide (q.floor % 2 = 0))) <;> simp
    rcases hh with hh | hh
    · rw [hh] at h; grind
    · rw [hh, Rat.intCast_add] at h
      have : ((1 : Int) : Rat) = 1 := rfl
      rw [this] at h
      grind
  rcases Int.lt_trichotomy (hf q) n with h | h | h
  · have := hd h
    have a1 := h3 (by grind)
    have a2 := hev (by grind)
    have := Rat.intCast_le_intCast.2 (show hf q + 2 ≤ n by omega)
    rw [Rat.intCast_add] at this
    have e2 : ((2 : Int) : Rat) = 2 := rfl
    rw [e2] at this
    grind
  · exact h
  · have := hd h
    have a1 := h3 (by grind)
    have a2 := hev (by grind)
    have := Rat.intCast_le_intCast.2 (show n + 2 ≤ hf q by omega)
    rw [Rat.intCast_add] at this
    have e2 : ((2 : Int) : Rat) = 2 := rfl
    rw [e2] at this
    grind
theorem hf_half {q : Rat} (h : 2 * ((hf q : Rat) - q) = 1 ∨ 2 * (q - hf q) = 1) : hf q % 2 = 0 := by
  have f0 := fr_0 q
  have f1 := fr_1 q
  apply hf_even
  have e : q = q.floor + fr q := by unfold fr; grind
  have hh : hf q = q.floor ∨ hf q = q.floor + 1 := by
    unfold hf
    cases (decide (2 * fr q < 1) || (decide (2 * fr q = 1) && decide (q.floor % 2 = 0))) <;> simp
  rcases hh with hh | hh
  · rw [hh] at h; grind
  · rw [hh, Rat.intCast_add] at h
    have : ((1 : Int) : Rat) = 1 := rfl
    rw [this] at h
    grind
theorem hf_neg (q : Rat) : hf (-q) = -hf q := by
  obtain ⟨g1, g2⟩ := hf_bounds q
  refine hf_uniq (by rw [Rat.intCast_neg]; grind) (by rw [Rat.intCast_neg]; grind) fun h => ?_
  rw [Rat.intCast_neg] at h
  have := hf_half (q := q) (by grind)
  omega
theorem hf_int (n : Int) : hf (n : Rat) = n := hf_uniq (by grind) (by grind) (fun h => by grind)
theorem fl_mono {p q : Rat} (h : p ≤ q) : p.floor ≤ q.floor := Rat.floor_monotone h
theorem cl_mono {p q : Rat} (h : p ≤ q) : cl p ≤ cl q := by
  have := fl_mono (show -q ≤ -p by grind)
  unfold cl; omega
theorem tz_mono {p q : Rat} (h : p ≤ q) : tz p ≤ tz q := by
  unfold tz
  have h1 := cl_mono h
  have h2 := fl_mono h
  by_cases hp : p < 0
  · by_cases hq : q < 0
    · rw [decide_eq_true hp, decide_eq_true hq]; exact h1
    · rw [decide_eq_true hp, decide_eq_false hq]
      have := fl_neg (Rat.not_lt.1 hq)
      have := fl_neg (show 0 ≤ -p by grind)
      show cl p ≤ q.floor
      unfold cl; omega
  · have hq : ¬ q < 0 := by grind
    rw [decide_eq_false hp, decide_eq_false hq]; exact h2
theorem hf_mono {p q : Rat} (h : p ≤ q) : hf p ≤ hf q := by
  refine Int.not_lt.1 fun hlt => ?_
  obtain ⟨g1, g2⟩ := hf_bounds p
  obtain ⟨g3, g4⟩ := hf_bounds q
  have h1 := Rat.intCast_le_intCast.2 (show hf q + 1 ≤ hf p by omega)
  rw [Rat.intCast_add] at h1
  have e1 : ((1 : Int) : Rat) = 1 := rfl
  rw [e1] at h1
  have hpq : p = q := by grind
  rw [hpq] at hlt
  omega
theorem fl_fdiv (q : Rat) : q.num.fdiv (q.den : Int) = q.floor := by rw [Rat.floor_def, Int.fdiv_eq_ediv_of_nonneg _ (Int.natCast_nonneg _)]
theorem fr_parts (q : Rat) : (fr q).num = q.num.fmod (q.den : Int) ∧ (fr q).den = q.den := by
  have hd : (q.den : Int) ≠ 0 := by have := den_pos q; omega
  have hg : (q.num % (q.den : Int)).natAbs.Coprime q.den := by
    have h1 : Int.gcd (q.num % (q.den : Int)) (q.den : Int) = Int.gcd q.num (q.den : Int) := by
      rw [Int.emod_def, Int.gcd_comm, Int.gcd_comm q.num]
      simp [Int.sub_eq_add_neg, ← Int.mul_neg]
    have h2 := q.reduced
    unfold Nat.Coprime at h2 ⊢
    simpa [Int.gcd] using h1.trans (by simpa [Int.gcd] using h2)
  have e : (⟨q.num % (q.den : Int), q.den, q.den_nz, hg⟩ : Rat) = fr q := by
    unfold fr
    rw [Rat.mk_eq_divInt]
    have h1 : ((q.floor : Int) : Rat) = Rat.divInt q.floor 1 := (Rat.num_divInt_den (q.floor : Rat)).symm
    have h2 : Rat.divInt q.num (q.den : Int) - Rat.divInt q.floor 1 = q - (q.floor : Rat) := by rw [Rat.num_divInt_den, h1]
    rw [← h2, Rat.divInt_sub_divInt _ _ hd (by decide), Int.mul_one, Int.mul_one, Rat.floor_def, Int.emod_def, Int.mul_comm]
  rw [← e]
  exact ⟨(Int.fmod_eq_emod_of_nonneg _ (Int.natCast_nonneg _)).symm, rfl⟩
theorem Lq.fr {q : Rat} {L : Nat} (h : Lq q L) : Lq (fr q) L := by
  obtain ⟨e1, e2⟩ := fr_parts q
  have hd : (q.den : Int) ≠ 0 := by have := den_pos q; omega
  exact ⟨by rw [e1]; exact fmod_lt' (den_lt h) hd, by rw [e2]; exact h.2⟩
theorem fl_abs {q : Rat} {L : Nat} (h : Lq q L) : (q.floor.natAbs : Int) < 4294967296 ^ (L + 1) := by
  have hd : (q.den : Int) ≠ 0 := by have := den_pos q; omega
  rw [← fl_fdiv]
  exact fdiv_lt' h.1 hd
/-- Which side of a half: of the parts. -/
theorem side_half (q : Rat) : cmpI ((fr q).num + (fr q).num) ((fr q).den : Int) = cmpQ (2 * fr q) 1 := by
  have h1 : 2 * fr q < 1 ↔ (fr q).num + (fr q).num < ((fr q).den : Int) := by
    have : (2 * fr q < 1) ↔ fr q < 1 / 2 := by constructor <;> intro <;> grind
    rw [this, Rat.lt_iff, show (1 / 2 : Rat).num = 1 by decide +kernel, show (1 / 2 : Rat).den = 2 by decide +kernel]
    omega
  have h2 : 1 < 2 * fr q ↔ ((fr q).den : Int) < (fr q).num + (fr q).num := by
    have : (1 < 2 * fr q) ↔ 1 / 2 < fr q := by constructor <;> intro <;> grind
    rw [this, Rat.lt_iff, show (1 / 2 : Rat).num = 1 by decide +kernel, show (1 / 2 : Rat).den = 2 by decide +kernel]
    omega
  unfold cmpI cmpQ
  by_cases h : 2 * fr q < 1
  · rw [if_pos h, if_pos (h1.1 h)]
  · rw [if_neg h, if_neg (fun g => h (h1.2 g))]
    by_cases e : 2 * fr q = 1
    · rw [if_pos e, if_pos]
      have : ¬ 1 < 2 * fr q := by grind
      have g1 : ¬ ((fr q).den : Int) < (fr q).num + (fr q).num := fun g => this (h2.2 g)
      have g2 : ¬ (fr q).num + (fr q).num < ((fr q).den : Int) := fun g => h (h1.2 g)
      omega
    · rw [if_neg e, if_neg]
      have := h2.1 (by grind)
      omega
theorem pow0 (L : Nat) : ((0 : Int).natAbs : Int) < 4294967296 ^ L := Int.pow_pos (by decide)
theorem si_rightc {w00 : World} {N : Nat} {L : List Loc} {E : List (Nat × VTy)} {d : Nat} {t0 : TypeId} {pos : String} {af : Array Edge} {gd : Option (Nat × Bool)} {ats : Array TypeId} {o0 : Operand} {q : Rat} {L0 : Nat} [OpC E o0 (.qc q L0)] (hE : Tab w00) (hb : L0 ≤ 1000) : StepT Tryz.prog w00 N L E ⟨some d, .call { callee := .value (.func 32), args := #[o0], argTypes := ats }, t0, pos, af, gd⟩ (.is (.bool true)) :=
  sc1 ei_right fun X w v0 hX _ hB h0 => by
    obtain ⟨x, ⟨hf, hl⟩, g⟩ := h0
    have := crn_right (hE.below hB) hX (x := x) (L := L0) ⟨x, ⟨rfl, (hf.len hl).1, (hf.len hl).2, hl.pos⟩, g⟩ hb
    rwa [hf.right] at this
set_option maxRecDepth 20000 in
/-- No limbs at all. -/
theorem sN_zero {w00 : World} {N : Nat} {L : List Loc} {E : List (Nat × VTy)} {d : Nat} {t0 : TypeId} {pos : String} {af : Array Edge} {gd : Option (Nat × Bool)} : StepT Tryz.prog w00 N L E ⟨some d, .build 24 #[], t0, pos, af, gd⟩ (.nn 0 0 w00.heap.size) := by
  constructor
  intro X ρ w hc _ hN hm hsl
  have hT : (VTy.nn 0 0 w00.heap.size).holds X w (.agg #[.bool false, .slice none 0 0]) := ⟨(false, []), ⟨Whole.zero, by decide⟩, [.bool false, .slice none 0 0], rfl, num_rd.2 ⟨none, 0, 0, rfl, ⟨Sl.nil, fun h => by omega⟩, Dg.nil⟩⟩
  have HT := Lib.hid hT
  clear hT hsl hm hc
  unfold Yields
  go_simp
  exact ⟨HT.out, Below.refl _ _⟩
theorem nn_nn {X : List Nat} {w : World} {N M : Int} {L K B : Nat} (e : N = M) (hl : (M.natAbs : Int) < 4294967296 ^ K) (v : Value) (h : (VTy.nn N L B).holds X w v) : (VTy.nn M K B).holds X w v := by
  subst e
  obtain ⟨x, ⟨h1, _⟩, g⟩ := h
  exact ⟨x, ⟨h1, hl⟩, g⟩
theorem nn_fl {X : List Nat} {w : World} {p : Rat} {L B : Nat} {v : Value} (h : (VTy.nn (p.num.fdiv (p.den : Int)) L B).holds X w v) : (VTy.nn p.floor L B).holds X w v := by rw [← fl_fdiv]; exact h
theorem nn_fl0 {X : List Nat} {w : World} {L B : Nat} {v : Value} (h : (VTy.nn 0 0 B).holds X w v) : (VTy.nn (Rat.floor 0) L B).holds X w v := nn_nn (by decide +kernel) (by rw [show Rat.floor 0 = 0 by decide +kernel]; exact pow0 L) v h
theorem nn_eq {X : List Nat} {w : World} {N M : Int} {L B : Nat} (e : N = M) (v : Value) (h : (VTy.nn N L B).holds X w v) : (VTy.nn M L B).holds X w v := by rw [← e]; exact h
theorem nn_nc {X : List Nat} {w : World} {N M : Int} {L K B : Nat} {v : Value} (e : N = M) (hl : (M.natAbs : Int) < 4294967296 ^ K) (h : (VTy.nn N L B).holds X w v) : (VTy.nc M K).holds X w v := by
  subst e
  obtain ⟨x, ⟨h1, _⟩, g⟩ := nwn_ex h
  exact ⟨x, ⟨h1, hl⟩, g⟩
theorem qn_qn {X : List Nat} {w : World} {p q : Rat} {L K B : Nat} (e : p = q) (hl : Lq q K) (v : Value) (h : (VTy.qn p L B).holds X w v) : (VTy.qn q K B).holds X w v := by
  subst e
  obtain ⟨x, ⟨h1, _⟩, g⟩ := h
  exact ⟨x, ⟨h1, hl⟩, g⟩
set_option maxRecDepth 20000 in
set_option maxHeartbeats 4000000 in
theorem c_over {M k : Int} {L : Nat} (hL : L ≤ 400) (hk : -9223372036854775808 ≤ k ∧ k ≤ 9223372036854775807) (h0 : k ≠ 0) : Ctr Tryz.prog Tab 69 [2, 0] [.na M L, .is (.int .i64 k)] (fun B => .qn (Rat.divInt M k) (max L 2) B) := by
  refine ctr Tryz.func69 rfl Tryz.ntmps69 (by simp) (fun _ _ => by kernel_rfl) fun X w hE => ?_
  simp only [argE, Nat.zero_add, Nat.reduceAdd]
  repeat' first|kernel_rfl|apply g_seq|apply g_reg|apply g_nil|apply g_drawE (id:=1) [] [] 8 [6]|apply z_sto|apply z_asg|apply z_cl|apply o_all|apply o_go|exact OpsT.nil|exact GuardC.nil|exact UndefC.nil|apply g_box|apply g_all|apply g_sto|apply g_asg|apply g_st|apply g_skip|apply g_ct|apply g_cf|apply g_ret|refine r_1 rfl ?_|apply g_cl|exact sbn_of hk|exact si_new hE (by omega) h0|exact st_move'|exact st_assign'|exact st_load'|exact st_extract'|exact st_loadE'|exact Cv.rfl'|(intro _;simp only[newX,newL,ptrs,List.map,List.cons_append,List.nil_append])|intro _
theorem c_whole {M : Int} {L : Nat} (hL : L ≤ 400) : Ctr Tryz.prog Tab 26 [2] [.na M L] (fun B => .qn (M : Rat) (max L 2) B) := by
  have e : Rat.divInt M 1 = (M : Rat) := Rat.num_divInt_den (M : Rat)
  refine ctr Tryz.func26 rfl Tryz.ntmps26 (by simp) (fun _ _ => by kernel_rfl) fun X w hE => ?_
  simp only [argE, Nat.zero_add, Nat.reduceAdd]
  repeat' first|kernel_rfl|apply g_seq|apply g_reg|apply g_nil|apply g_box|apply g_all|apply g_sto|apply g_asg|apply g_st|apply g_skip|apply g_ct|apply g_cf|apply g_ret|refine r_1 rfl ?_|apply g_cl|exact sc hE (c_over (by omega) (by decide) (by decide))|exact st_load'|exact st_loadE'|exact ⟨fun _ _ v g=>qn_eq e v g⟩|exact Cv.rfl'|intro _
set_option maxRecDepth 20000 in
set_option maxHeartbeats 4000000 in
theorem c_fromcents {M : Int} {L : Nat} (hL : L ≤ 400) : Ctr Tryz.prog Tab 24 [2] [.na M L] (fun B => .qn (Rat.divInt M 100) (max L 2) B) := by
  refine ctr Tryz.func24 rfl Tryz.ntmps24 (by simp) (fun _ _ => by kernel_rfl) fun X w hE => ?_
  simp only [argE, Nat.zero_add, Nat.reduceAdd]
  repeat' first|kernel_rfl|apply g_seq|apply g_reg|apply g_nil|apply g_box|apply g_all|apply g_sto|apply g_asg|apply g_st|apply g_skip|apply g_ct|apply g_cf|apply g_ret|refine r_1 rfl ?_|apply g_cl|exact sc hE (c_over (by omega) (by decide) (by decide))|exact st_load'|exact st_loadE'|exact Cv.rfl'|intro _
instance {N : Int} {L : Nat} {q : Rat} {K : Nat} : DownC fun B => .tup [.nn N L B, .qn q K B] := ⟨fun hB h => tup_imp (fun _ g => nwn_le g hB) (fun _ g => nw_le g hB) _ h⟩
set_option maxRecDepth 20000 in
set_option maxHeartbeats 4000000 in
theorem c_parts1 {p : Rat} {L : Nat} (hL : L ≤ 400) (hl : Lq p L) : Ctr Tryz.prog Tab 68 [3] [.qc p L] (fun B => .tup [.nn p.floor (L + 1) B, .qn (fr p) L B]) := by
  obtain ⟨en, ed⟩ := fr_parts p
  have hd : (p.den : Int) ≠ 0 := by have := den_pos p; omega
  have ed' : ((fr p).den : Int) = p.den := by rw [ed]
  have hl2 := hl.fr
  refine ctr Tryz.func68 rfl Tryz.ntmps68 (by simp) (fun _ _ => by kernel_rfl) fun X w hE => ?_
  simp only [argE, Nat.zero_add, Nat.reduceAdd]
  repeat' first|kernel_rfl|apply g_drawJ (id:=4) 8|apply j_go|apply j_keep|exact OpsJ.nil|apply keep_store|apply g_seq|apply g_reg|apply g_nil|apply o_all|apply o_go|exact OpsT.nil|exact GuardC.nil|exact UndefC.nil|apply g_box|apply g_all|apply g_sto|apply g_asg|apply g_st|apply g_skip|apply g_ct|apply g_cf|apply g_ret|refine r_2 rfl ?_|apply g_cl|exact sr_rightc hE (by omega)|exact si_rightc hE (by omega)|exact sbn_div hE (by omega) hd|exact sN_one|exact sb_sum1 (by omega)|exact sr_build|exact st_move'|exact st_assign'|exact st_load'|exact st_fieldAddr'|exact st_extract'|exact st_not' (b := true) (u := false) rfl|exact st_not' (b := false) (u := true) rfl|exact st_not' rfl|exact st_loadE'|exact ⟨fun _ _=>tup_imp (fun _ g => nn_fl g) (fun v g => ndn_qn en ed' hl2 v g)⟩|exact Cv.rfl'|(intro _;simp only[newX,newL,ptrs,List.map,List.cons_append,List.nil_append])|intro _
set_option maxRecDepth 20000 in
set_option maxHeartbeats 4000000 in
theorem c_parts0 {x : RawQ} {p : Rat} {L : Nat} (hL : L ≤ 400) (hq : qrt x = false) (hp : p = 0) (h0 : 0 < L) : Ctr Tryz.prog Tab 68 [4] [.qx x L] (fun B => .tup [.nn p.floor (L + 1) B, .qn (fr p) L B]) := by
  subst hp
  have hl2 : Lq (fr 0) L := by rw [show fr 0 = 0 by decide +kernel]; exact Lq.zero.mono h0
  have e : ((0 : Int) : Rat) = fr 0 := by decide +kernel
  refine ctr Tryz.func68 rfl Tryz.ntmps68 (by simp) (fun _ _ => by kernel_rfl) fun X w hE => ?_
  simp only [argE, Nat.zero_add, Nat.reduceAdd]
  repeat' first|kernel_rfl|apply g_drawJ (id:=4) 8|apply j_go|apply j_keep|exact OpsJ.nil|apply keep_store|apply g_seq|apply g_reg|apply g_nil|apply o_all|apply o_go|exact OpsT.nil|exact GuardC.nil|exact UndefC.nil|apply g_box|apply g_all|apply g_sto|apply g_asg|apply g_st|apply g_skip|apply g_ct|apply g_cf|apply g_ret|refine r_2 rfl ?_|apply g_cl|exact si_right hE (by omega) hq|exact sN_zero|exact si_whole hE (by decide)|exact st_move'|exact st_assign'|exact st_load'|exact st_fieldAddr'|exact st_extract'|exact st_not' (b := true) (u := false) rfl|exact st_not' (b := false) (u := true) rfl|exact st_not' rfl|exact st_loadE'|exact ⟨fun _ _=>tup_imp (fun _ g => nn_fl0 g) (fun v g => qn_qn e hl2 v g)⟩|exact Cv.rfl'|(intro _;simp only[newX,newL,ptrs,List.map,List.cons_append,List.nil_append])|intro _
theorem c_parts {p : Rat} {L : Nat} (hL : L ≤ 400) : Ctr Tryz.prog Tab 68 [1] [.qa p L] (fun B => .tup [.nn p.floor (L + 1) B, .qn (fr p) L B]) := ctrQ (fun _ _ => by kernel_rfl) (c_parts1 hL) (fun _ hq hp h0 => c_parts0 hL hq hp h0)
set_option maxRecDepth 20000 in
set_option maxHeartbeats 4000000 in
theorem c_side {q : Rat} {K : Nat} (hK : K ≤ 400) : Ctr Tryz.prog Tab 62 [3] [.qc q K] (fun B => .is (.int .i64 (cmpI (q.num + q.num) (q.den : Int)))) := by
  refine ctr Tryz.func62 rfl Tryz.ntmps62 (by simp) (fun _ _ => by kernel_rfl) fun X w hE => ?_
  simp only [argE, Nat.zero_add, Nat.reduceAdd]
  repeat' first|kernel_rfl|apply g_seq|apply g_reg|apply g_nil|apply g_draw (id:=1) [] [] 8|apply o_all|apply o_go|exact OpsT.nil|exact GuardC.nil|exact UndefC.nil|apply g_box|apply g_all|apply g_sto|apply g_asg|apply g_st|apply g_skip|apply g_ct|apply g_cf|apply g_ret|refine r_1 rfl ?_|apply g_cl|exact sbn_add (by omega)|exact sb_cmp (by omega)|exact st_assign'|exact st_load'|exact st_fieldAddr'|exact st_loadE'|exact Cv.rfl'|(intro _;simp only[newX,newL,ptrs,List.map,List.cons_append,List.nil_append])|intro _
instance : SliceC Tryz.prog 22 1 := ⟨⟨_, Tryz.underlying22, by kernel_rfl⟩⟩
theorem odd_cons {N : Int} {s : Bool} {y : Int} {ys : List Int} (h : Whole N s (y :: ys)) : 0 ≤ y ∧ N % 2 = y % 2 := by
  have hd := h.row.dg
  have hv := h.val
  unfold ival at hv
  rw [h.right, cond_true] at hv
  have e : val 4294967296 (y :: ys) = y + 4294967296 * val 4294967296 ys := rfl
  have h0 : 0 ≤ y := (hd y List.mem_cons_self).1
  refine ⟨h0, ?_⟩
  rw [← hv, e]
  unfold sgv
  cases s <;> simp <;> omega
theorem odd_nil {N : Int} {s : Bool} (h : Whole N s []) : N % 2 = 0 := by
  have hv := h.val
  unfold ival at hv
  rw [h.right, cond_true] at hv
  rw [← hv]
  cases s <;> rfl
set_option maxRecDepth 20000 in
set_option maxHeartbeats 4000000 in
theorem c_oddX {M : Int} {x : RawI} {L : Nat} (hw : Whole M x.1 x.2) : Ctr Tryz.prog Tab 63 [6] [.nx x L] (fun _ => .is (.bool (M % 2 == 1))) := by
  cases hx : x.2 with
  | nil =>
    rw [hx] at hw
    have e : (M % 2 == 1) = false := by rw [odd_nil hw]; rfl
    have hc : decide ((0 : Int) < (x.2.length : Int)) = false := by rw [hx]; rfl
    refine ctr Tryz.func63 rfl Tryz.ntmps63 (by simp) (fun _ _ => by kernel_rfl) fun X w hE => ?_
    simp only [argE, Nat.zero_add, Nat.reduceAdd]
    repeat' first|kernel_rfl|apply g_seq|apply g_reg|apply g_nil|apply g_box|apply g_all|apply g_sto|apply g_asg|refine g_run rfl inferInstance (by first|exact st_limbAt hy|exact st_limb|exact st_rem2 hy0|exact st_load'|exact st_fieldAddr'|exact st_eq' (by first|assumption|rfl)|exact st_indexAddr' (by assumption)|exact st_loadE') (by kernel_rfl) ?_|refine g_sk rfl inferInstance rfl (by kernel_rfl) ?_|refine g_un rfl inferInstance (by kernel_rfl) ?_|apply g_st|apply g_skip|apply g_ct|apply g_cf|apply g_ret|refine r_1 rfl ?_|apply g_cl|exact st_lenL|exact st_limbAt hy|exact st_limb|exact st_rem2 hy0|exact st_move'|exact st_assign'|exact st_load'|exact st_fieldAddr'|exact st_and_t'|exact st_and_f'|exact st_eq' (by first|assumption|rfl)|exact st_gtr' (by first|assumption|rfl)|exact st_len'|exact st_indexAddr' (by assumption)|exact st_loadE'|exact ⟨fun _ _=>(is_is (congrArg Value.bool e.symm))⟩|exact Cv.rfl'|intro _
  | cons y ys =>
    rw [hx] at hw
    obtain ⟨hy0, e0⟩ := odd_cons hw
    have hy : x.2[0]? = some y := by rw [hx]; rfl
    have e : (M % 2 == 1) = (y % 2 == 1) := by rw [e0]
    have hc : decide ((0 : Int) < (x.2.length : Int)) = true := by rw [hx]; exact decide_eq_true (by simp)
    refine ctr Tryz.func63 rfl Tryz.ntmps63 (by simp) (fun _ _ => by kernel_rfl) fun X w hE => ?_
    simp only [argE, Nat.zero_add, Nat.reduceAdd]
    repeat' first|kernel_rfl|apply g_seq|apply g_reg|apply g_nil|apply g_box|apply g_all|apply g_sto|apply g_asg|refine g_run rfl inferInstance (by first|exact st_limbAt hy|exact st_limb|exact st_rem2 hy0|exact st_load'|exact st_fieldAddr'|exact st_eq' (by first|assumption|rfl)|exact st_indexAddr' (by assumption)|exact st_loadE') (by kernel_rfl) ?_|refine g_sk rfl inferInstance rfl (by kernel_rfl) ?_|refine g_un rfl inferInstance (by kernel_rfl) ?_|apply g_st|apply g_skip|apply g_ct|apply g_cf|apply g_ret|refine r_1 rfl ?_|apply g_cl|exact st_lenL|exact st_limbAt hy|exact st_limb|exact st_rem2 hy0|exact st_move'|exact st_assign'|exact st_load'|exact st_fieldAddr'|exact st_and_t'|exact st_and_f'|exact st_eq' (by first|assumption|rfl)|exact st_gtr' (by first|assumption|rfl)|exact st_len'|exact st_indexAddr' (by assumption)|exact st_loadE'|exact ⟨fun _ _=>(is_is (congrArg Value.bool e.symm))⟩|exact Cv.rfl'|intro _
theorem c_odd {M : Int} {L : Nat} : Ctr Tryz.prog Tab 63 [5] [.nc M L] (fun _ => .is (.bool (M % 2 == 1))) := ctrM (fun _ _ => by kernel_rfl) fun _ hw => c_oddX hw
set_option maxRecDepth 20000 in
set_option maxHeartbeats 4000000 in
theorem c_upfloor {M : Int} {K : Nat} {q : Rat} {K2 : Nat} : Ctr Tryz.prog Tab 57 [5, 3] [.nc M K, .qc q K2] (fun B => .is (.bool false)) := by
  refine ctr Tryz.func57 rfl Tryz.ntmps57 (by simp) (fun _ _ => by kernel_rfl) fun X w hE => ?_
  simp only [argE, Nat.zero_add, Nat.reduceAdd]
  repeat' first|kernel_rfl|apply g_seq|apply g_reg|apply g_nil|apply g_box|apply g_all|apply g_sto|apply g_asg|apply g_st|apply g_skip|apply g_ct|apply g_cf|apply g_ret|refine r_1 rfl ?_|apply g_cl|exact st_assign'|exact Cv.rfl'|intro _
set_option maxRecDepth 20000 in
set_option maxHeartbeats 4000000 in
theorem c_upceil {M : Int} {K : Nat} {q : Rat} {K2 : Nat} (hK : K ≤ 90 ∧ K2 ≤ 90) : Ctr Tryz.prog Tab 58 [5, 3] [.nc M K, .qc q K2] (fun B => .is (.bool (decide (0 < cmpQ q 0)))) := by
  refine ctr Tryz.func58 rfl Tryz.ntmps58 (by simp) (fun _ _ => by kernel_rfl) fun X w hE => ?_
  simp only [argE, Nat.zero_add, Nat.reduceAdd]
  repeat' first|kernel_rfl|apply g_seq|apply g_reg|apply g_nil|apply g_box|apply g_all|apply g_sto|apply g_asg|apply g_st|apply g_skip|apply g_ct|apply g_cf|apply g_ret|refine r_1 rfl ?_|apply g_cl|exact si_sign hE (by omega)|exact st_assign'|exact st_load'|exact st_gtr' (by first|assumption|rfl)|exact st_loadE'|exact Cv.rfl'|intro _
set_option maxRecDepth 20000 in
set_option maxHeartbeats 4000000 in
theorem c_uptrunc {M : Int} {K : Nat} {q : Rat} {K2 : Nat} (hK : K ≤ 90 ∧ K2 ≤ 90) : Ctr Tryz.prog Tab 59 [5, 3] [.nc M K, .qc q K2] (fun _ => .is (.bool (decide (0 < cmpQ q 0) && decide (cmpI M 0 < 0)))) := by
  cases e1 : decide (0 < cmpQ q 0) with
  | false =>
    have e : (false && decide (cmpI M 0 < 0)) = false := rfl
    refine ctr Tryz.func59 rfl Tryz.ntmps59 (by simp) (fun _ _ => by kernel_rfl) fun X w hE => ?_
    simp only [argE, Nat.zero_add, Nat.reduceAdd]
    repeat' first|kernel_rfl|apply g_seq|apply g_reg|apply g_nil|apply g_box|apply g_all|apply g_sto|apply g_asg|refine g_run rfl inferInstance (by first|exact sb_sign (by omega)|exact st_load'|exact st_lss' (by first|assumption|rfl)|exact st_loadE') (by kernel_rfl) ?_|refine g_sk rfl inferInstance rfl (by kernel_rfl) ?_|refine g_un rfl inferInstance (by kernel_rfl) ?_|apply g_st|apply g_skip|apply g_ct|apply g_cf|apply g_ret|refine r_1 rfl ?_|apply g_cl|exact si_sign hE (by omega)|exact sb_sign (by omega)|exact st_move'|exact st_assign'|exact st_load'|exact st_and_t'|exact st_and_f'|exact st_lss' (by first|assumption|rfl)|exact st_gtr' (by first|assumption|rfl)|exact st_loadE'|exact ⟨fun _ _=>(is_is (congrArg Value.bool e.symm))⟩|exact Cv.rfl'|intro _
  | true =>
    have e : (true && decide (cmpI M 0 < 0)) = decide (cmpI M 0 < 0) := rfl
    refine ctr Tryz.func59 rfl Tryz.ntmps59 (by simp) (fun _ _ => by kernel_rfl) fun X w hE => ?_
    simp only [argE, Nat.zero_add, Nat.reduceAdd]
    repeat' first|kernel_rfl|apply g_seq|apply g_reg|apply g_nil|apply g_box|apply g_all|apply g_sto|apply g_asg|refine g_run rfl inferInstance (by first|exact sb_sign (by omega)|exact st_load'|exact st_lss' (by first|assumption|rfl)|exact st_loadE') (by kernel_rfl) ?_|refine g_sk rfl inferInstance rfl (by kernel_rfl) ?_|refine g_un rfl inferInstance (by kernel_rfl) ?_|apply g_st|apply g_skip|apply g_ct|apply g_cf|apply g_ret|refine r_1 rfl ?_|apply g_cl|exact si_sign hE (by omega)|exact sb_sign (by omega)|exact st_move'|exact st_assign'|exact st_load'|exact st_and_t'|exact st_and_f'|exact st_lss' (by first|assumption|rfl)|exact st_gtr' (by first|assumption|rfl)|exact st_loadE'|exact ⟨fun _ _=>(is_is (congrArg Value.bool e.symm))⟩|exact Cv.rfl'|intro _
set_option maxRecDepth 20000 in
set_option maxHeartbeats 4000000 in
theorem c_uphalf {M : Int} {K : Nat} {q : Rat} {K2 : Nat} (hK : K ≤ 90 ∧ K2 ≤ 90) : Ctr Tryz.prog Tab 61 [5, 3] [.nc M K, .qc q K2] (fun _ => .is (.bool (decide (0 < cmpI (q.num + q.num) (q.den : Int)) || ((cmpI (q.num + q.num) (q.den : Int) == 0) && (M % 2 == 1))))) := by
  generalize hs : cmpI (q.num + q.num) (q.den : Int) = z
  cases e1 : decide (0 < z) with
  | true =>
    have e : (true || ((z == 0) && (M % 2 == 1))) = true := rfl
    subst hs
    refine ctr Tryz.func61 rfl Tryz.ntmps61 (by simp) (fun _ _ => by kernel_rfl) fun X w hE => ?_
    simp only [argE, Nat.zero_add, Nat.reduceAdd]
    repeat' first|kernel_rfl|apply g_seq|apply g_reg|apply g_nil|apply g_box|apply g_all|apply g_sto|apply g_asg|refine g_run rfl inferInstance (by first|exact sc hE (c_side (by omega))|exact sc hE c_odd|exact st_move'|exact st_load'|exact st_and_t'|exact st_and_f'|exact st_eq' (by first|assumption|rfl)|exact st_loadE') (by kernel_rfl) ?_|refine g_sk rfl inferInstance rfl (by kernel_rfl) ?_|refine g_un rfl inferInstance (by kernel_rfl) ?_|apply g_st|apply g_skip|apply g_ct|apply g_cf|apply g_ret|refine r_1 rfl ?_|apply g_cl|exact sc hE (c_side (by omega))|exact sc hE c_odd|exact st_move'|exact st_assign'|exact st_load'|exact st_and_t'|exact st_and_f'|exact st_or_f'|exact st_or_t'|exact st_eq' (by first|assumption|rfl)|exact st_gtr' (by first|assumption|rfl)|exact st_loadE'|exact ⟨fun _ _=>(is_is (congrArg Value.bool e.symm))⟩|exact Cv.rfl'|intro _
  | false =>
    cases e2 : (z == 0) with
    | false =>
      have e : (false || (false && (M % 2 == 1))) = false := rfl
      subst hs
      refine ctr Tryz.func61 rfl Tryz.ntmps61 (by simp) (fun _ _ => by kernel_rfl) fun X w hE => ?_
      simp only [argE, Nat.zero_add, Nat.reduceAdd]
      repeat' first|kernel_rfl|apply g_seq|apply g_reg|apply g_nil|apply g_box|apply g_all|apply g_sto|apply g_asg|refine g_run rfl inferInstance (by first|exact sc hE (c_side (by omega))|exact sc hE c_odd|exact st_move'|exact st_load'|exact st_and_t'|exact st_and_f'|exact st_eq' (by first|assumption|rfl)|exact st_loadE') (by kernel_rfl) ?_|refine g_sk rfl inferInstance rfl (by kernel_rfl) ?_|refine g_un rfl inferInstance (by kernel_rfl) ?_|apply g_st|apply g_skip|apply g_ct|apply g_cf|apply g_ret|refine r_1 rfl ?_|apply g_cl|exact sc hE (c_side (by omega))|exact sc hE c_odd|exact st_move'|exact st_assign'|exact st_load'|exact st_and_t'|exact st_and_f'|exact st_or_f'|exact st_or_t'|exact st_eq' (by first|assumption|rfl)|exact st_gtr' (by first|assumption|rfl)|exact st_loadE'|exact ⟨fun _ _=>(is_is (congrArg Value.bool e.symm))⟩|exact Cv.rfl'|intro _
    | true =>
      have e : (false || (true && (M % 2 == 1))) = (M % 2 == 1) := rfl
      subst hs
      refine ctr Tryz.func61 rfl Tryz.ntmps61 (by simp) (fun _ _ => by kernel_rfl) fun X w hE => ?_
      simp only [argE, Nat.zero_add, Nat.reduceAdd]
      repeat' first|kernel_rfl|apply g_seq|apply g_reg|apply g_nil|apply g_box|apply g_all|apply g_sto|apply g_asg|refine g_run rfl inferInstance (by first|exact sc hE (c_side (by omega))|exact sc hE c_odd|exact st_move'|exact st_load'|exact st_and_t'|exact st_and_f'|exact st_eq' (by first|assumption|rfl)|exact st_loadE') (by kernel_rfl) ?_|refine g_sk rfl inferInstance rfl (by kernel_rfl) ?_|refine g_un rfl inferInstance (by kernel_rfl) ?_|apply g_st|apply g_skip|apply g_ct|apply g_cf|apply g_ret|refine r_1 rfl ?_|apply g_cl|exact sc hE (c_side (by omega))|exact sc hE c_odd|exact st_move'|exact st_assign'|exact st_load'|exact st_and_t'|exact st_and_f'|exact st_or_f'|exact st_or_t'|exact st_eq' (by first|assumption|rfl)|exact st_gtr' (by first|assumption|rfl)|exact st_loadE'|exact ⟨fun _ _=>(is_is (congrArg Value.bool e.symm))⟩|exact Cv.rfl'|intro _
set_option maxRecDepth 20000 in
set_option maxHeartbeats 4000000 in
theorem c_rounded {f : FuncId} {p : Rat} {L : Nat} {u : Bool} (hL : L ≤ 80) (hf : Ctr Tryz.prog Tab f [5, 3] [.nc p.floor (L + 1), .qc (fr p) L] (fun _ => .is (.bool u))) : Ctr Tryz.prog Tab 56 [1, 0] [.qa p L, .fv f [] []] (fun B => .nn (bif u then p.floor + 1 else p.floor) (L + 2) B) := by
  refine ctrF (F := Lq p L) (fun ha => ?_) (fun _ _ => by kernel_rfl) fun hl => ?_
  · obtain ⟨v, us, rfl, h1, _⟩ := ha.tail
    exact (qa_Lq h1).1
  have ha := fl_abs hl
  have hp : (4294967296 : Int) ^ (L + 2) = 4294967296 * 4294967296 ^ (L + 1) := by rw [Int.pow_succ, Int.mul_comm]
  have hb0 : (p.floor.natAbs : Int) < 4294967296 ^ (L + 2) := by omega
  have hb1 : ((p.floor + 1).natAbs : Int) < 4294967296 ^ (L + 2) := by omega
  cases u with
  | true =>
    refine ctr Tryz.func56 rfl Tryz.ntmps56 (by simp) (fun _ _ => by kernel_rfl) fun X w hE => ?_
    simp only [argE, Nat.zero_add, Nat.reduceAdd]
    repeat' first|kernel_rfl|apply g_seq|apply g_reg|apply g_nil|apply g_draw (id:=3) [] [] 3|apply o_all|apply o_go|exact OpsT.nil|exact GuardC.nil|exact UndefC.nil|apply g_box|apply g_all|apply g_sto|apply g_asg|apply g_st|apply g_skip|apply g_ct|apply g_cf|apply g_ret|refine r_1 rfl ?_|apply g_cl|exact sc hE (c_parts (by omega))|exact scv hE hf|exact sbn_of (by omega)|exact sbn_add (by omega)|exact st_move'|exact st_load'|exact st_extract'|exact st_loadE'|exact ⟨fun _ _=>nn_nn rfl hb1⟩|exact Cv.rfl'|(intro _;simp only[newX,newL,ptrs,List.map,List.cons_append,List.nil_append])|intro _
  | false =>
    refine ctr Tryz.func56 rfl Tryz.ntmps56 (by simp) (fun _ _ => by kernel_rfl) fun X w hE => ?_
    simp only [argE, Nat.zero_add, Nat.reduceAdd]
    repeat' first|kernel_rfl|apply g_seq|apply g_reg|apply g_nil|apply g_draw (id:=3) [] [] 3|apply o_all|apply o_go|exact OpsT.nil|exact GuardC.nil|exact UndefC.nil|apply g_box|apply g_all|apply g_sto|apply g_asg|apply g_st|apply g_skip|apply g_ct|apply g_cf|apply g_ret|refine r_1 rfl ?_|apply g_cl|exact sc hE (c_parts (by omega))|exact scv hE hf|exact sbn_of (by omega)|exact sbn_add (by omega)|exact st_move'|exact st_load'|exact st_extract'|exact st_loadE'|exact ⟨fun _ _=>nn_nn rfl hb0⟩|exact Cv.rfl'|(intro _;simp only[newX,newL,ptrs,List.map,List.cons_append,List.nil_append])|intro _
theorem up_ceil (p : Rat) : (bif decide (0 < cmpQ (fr p) 0) then p.floor + 1 else p.floor) = cl p := by
  rw [cl_fr, show decide (0 < cmpQ (fr p) 0) = decide (0 < fr p) from decide_eq_decide.2 cmpQ_gt]
theorem up_trunc (p : Rat) : (bif decide (0 < cmpQ (fr p) 0) && decide (cmpI p.floor 0 < 0) then p.floor + 1 else p.floor) = tz p := by
  rw [tz_fr, show decide (0 < cmpQ (fr p) 0) = decide (0 < fr p) from decide_eq_decide.2 cmpQ_gt, show decide (cmpI p.floor 0 < 0) = decide (p.floor < 0) from decide_eq_decide.2 (by unfold cmpI; constructor <;> intro h <;> (repeat' split at h) <;> (repeat' split) <;> omega)]
theorem up_half (p : Rat) : (bif decide (0 < cmpI ((fr p).num + (fr p).num) ((fr p).den : Int)) || ((cmpI ((fr p).num + (fr p).num) ((fr p).den : Int) == 0) && (p.floor % 2 == 1)) then p.floor + 1 else p.floor) = hf p := by
  rw [side_half, show decide (0 < cmpQ (2 * fr p) 1) = decide (1 < 2 * fr p) from decide_eq_decide.2 cmpQ_gt, show (cmpQ (2 * fr p) 1 == 0) = decide (2 * fr p = 1) from by rw [Bool.eq_iff_iff, beq_iff_eq, decide_eq_true_eq, cmpQ_zero]]
  unfold hf
  by_cases h : 2 * fr p < 1
  · rw [decide_eq_true h, decide_eq_false (show ¬ 1 < 2 * fr p by grind), decide_eq_false (show ¬ 2 * fr p = 1 by grind)]; rfl
  · by_cases h2 : 2 * fr p = 1
    · rw [decide_eq_false h, decide_eq_true h2, decide_eq_false (show ¬ 1 < 2 * fr p by grind)]
      by_cases h3 : p.floor % 2 = 0
      · rw [decide_eq_true h3, show (p.floor % 2 == 1) = false by rw [h3]; rfl]; rfl
      · rw [decide_eq_false h3, show (p.floor % 2 == 1) = true by rw [beq_iff_eq]; omega]; rfl
    · rw [decide_eq_false h, decide_eq_false h2, decide_eq_true (show 1 < 2 * fr p by grind)]; rfl
set_option maxRecDepth 20000 in
set_option maxHeartbeats 4000000 in
theorem c_floor {p : Rat} {L : Nat} (hL : L ≤ 80) : Ctr Tryz.prog Tab 15 [1] [.qa p L] (fun B => .nn (p.floor) (L + 2) B) := by
  refine ctr Tryz.func15 rfl Tryz.ntmps15 (by simp) (fun _ _ => by kernel_rfl) fun X w hE => ?_
  simp only [argE, Nat.zero_add, Nat.reduceAdd]
  repeat' first|kernel_rfl|apply g_seq|apply g_reg|apply g_nil|apply g_box|apply g_all|apply g_sto|apply g_asg|apply g_st|apply g_skip|apply g_ct|apply g_cf|apply g_ret|refine r_1 rfl ?_|apply g_cl|exact sc hE (c_rounded (by omega) (c_upfloor))|exact st_load'|exact st_loadE'|exact ⟨fun _ _=>nn_eq rfl⟩|exact Cv.rfl'|intro _
set_option maxRecDepth 20000 in
set_option maxHeartbeats 4000000 in
theorem c_ceil {p : Rat} {L : Nat} (hL : L ≤ 80) : Ctr Tryz.prog Tab 16 [1] [.qa p L] (fun B => .nn (cl p) (L + 2) B) := by
  refine ctr Tryz.func16 rfl Tryz.ntmps16 (by simp) (fun _ _ => by kernel_rfl) fun X w hE => ?_
  simp only [argE, Nat.zero_add, Nat.reduceAdd]
  repeat' first|kernel_rfl|apply g_seq|apply g_reg|apply g_nil|apply g_box|apply g_all|apply g_sto|apply g_asg|apply g_st|apply g_skip|apply g_ct|apply g_cf|apply g_ret|refine r_1 rfl ?_|apply g_cl|exact sc hE (c_rounded (by omega) (c_upceil (by omega)))|exact st_load'|exact st_loadE'|exact ⟨fun _ _=>nn_eq (up_ceil p)⟩|exact Cv.rfl'|intro _
set_option maxRecDepth 20000 in
set_option maxHeartbeats 4000000 in
theorem c_trunc {p : Rat} {L : Nat} (hL : L ≤ 80) : Ctr Tryz.prog Tab 17 [1] [.qa p L] (fun B => .nn (tz p) (L + 2) B) := by
  refine ctr Tryz.func17 rfl Tryz.ntmps17 (by simp) (fun _ _ => by kernel_rfl) fun X w hE => ?_
  simp only [argE, Nat.zero_add, Nat.reduceAdd]
  repeat' first|kernel_rfl|apply g_seq|apply g_reg|apply g_nil|apply g_box|apply g_all|apply g_sto|apply g_asg|apply g_st|apply g_skip|apply g_ct|apply g_cf|apply g_ret|refine r_1 rfl ?_|apply g_cl|exact sc hE (c_rounded (by omega) (c_uptrunc (by omega)))|exact st_load'|exact st_loadE'|exact ⟨fun _ _=>nn_eq (up_trunc p)⟩|exact Cv.rfl'|intro _
set_option maxRecDepth 20000 in
set_option maxHeartbeats 4000000 in
theorem c_half {p : Rat} {L : Nat} (hL : L ≤ 80) : Ctr Tryz.prog Tab 18 [1] [.qa p L] (fun B => .nn (hf p) (L + 2) B) := by
  refine ctr Tryz.func18 rfl Tryz.ntmps18 (by simp) (fun _ _ => by kernel_rfl) fun X w hE => ?_
  simp only [argE, Nat.zero_add, Nat.reduceAdd]
  repeat' first|kernel_rfl|apply g_seq|apply g_reg|apply g_nil|apply g_box|apply g_all|apply g_sto|apply g_asg|apply g_st|apply g_skip|apply g_ct|apply g_cf|apply g_ret|refine r_1 rfl ?_|apply g_cl|exact sc hE (c_rounded (by omega) (c_uphalf (by omega)))|exact st_load'|exact st_loadE'|exact ⟨fun _ _=>nn_eq (up_half p)⟩|exact Cv.rfl'|intro _
set_option maxRecDepth 20000 in
set_option maxHeartbeats 4000000 in
theorem c_frac {p : Rat} {L : Nat} (hL : L ≤ 400) : Ctr Tryz.prog Tab 22 [1] [.qa p L] (fun B => .qn (fr p) L B) := by
  refine ctr Tryz.func22 rfl Tryz.ntmps22 (by simp) (fun _ _ => by kernel_rfl) fun X w hE => ?_
  simp only [argE, Nat.zero_add, Nat.reduceAdd]
  repeat' first|kernel_rfl|apply g_seq|apply g_reg|apply g_nil|apply g_box|apply g_all|apply g_sto|apply g_asg|apply g_st|apply g_skip|apply g_ct|apply g_cf|apply g_ret|refine r_1 rfl ?_|apply g_cl|exact sc hE (c_parts (by omega))|exact st_move'|exact st_load'|exact st_extract'|exact st_loadE'|exact Cv.rfl'|intro _
set_option maxRecDepth 20000 in
set_option maxHeartbeats 4000000 in
theorem c_cents {p : Rat} {L : Nat} (hL : L ≤ 70) : Ctr Tryz.prog Tab 19 [1] [.qa p L] (fun B => .nn (hf (p * 100)) (L + 2 + 2) B) := by
  refine ctr Tryz.func19 rfl Tryz.ntmps19 (by simp) (fun _ _ => by kernel_rfl) fun X w hE => ?_
  simp only [argE, Nat.zero_add, Nat.reduceAdd]
  repeat' first|kernel_rfl|apply g_seq|apply g_reg|apply g_nil|apply g_draw (id:=1) [] [] 4|apply o_all|apply o_go|exact OpsT.nil|exact GuardC.nil|exact UndefC.nil|apply g_box|apply g_all|apply g_sto|apply g_asg|apply g_st|apply g_skip|apply g_ct|apply g_cf|apply g_ret|refine r_1 rfl ?_|apply g_cl|exact si_whole hE (by decide)|exact si_mul hE (by omega)|exact sc hE (c_half (by omega))|exact st_load'|exact st_loadE'|exact Cv.rfl'|(intro _;simp only[newX,newL,ptrs,List.map,List.cons_append,List.nil_append])|intro _
theorem pow10 {n : Nat} (h : n ≤ 40) : (((10 : Int) ^ n).natAbs : Int) < 4294967296 ^ 5 := by
  have h1 : (10 : Int) ^ n ≤ 10 ^ 40 := pow_mono (by decide) h
  have h2 : (0 : Int) < 10 ^ n := Int.pow_pos (by decide)
  have h3 : (10 : Int) ^ 40 < 4294967296 ^ 5 := by decide
  omega
set_option maxRecDepth 20000 in
set_option maxHeartbeats 4000000 in
theorem c_tens {n : Nat} (hn : n ≤ 40) : Ctr Tryz.prog Tab 72 [0] [.is (.int .i64 (n : Int))] (fun _ => .nc (10 ^ n) 5) := by
  refine ctr Tryz.func72 rfl Tryz.ntmps72 (by simp) (fun _ _ => by kernel_rfl) fun X w hE => ?_
  simp only [argE, Nat.zero_add, Nat.reduceAdd]
  repeat' first|kernel_rfl|apply g_seq|apply g_reg|apply g_nil|apply o_all|apply o_go|exact OpsT.nil|exact GuardC.nil|exact UndefC.nil|apply g_box|apply g_all|apply g_sto|apply g_asg|apply g_st|apply g_skip|apply g_ct|apply g_cf|apply g_ret|refine r_1 rfl ?_|apply g_cl|exact sbn_of (by omega)|exact sbn_mul (by omega)|exact st_add' hw|exact st_lss' hc|exact st_move'|exact st_load'|exact st_lss' (by first|assumption|rfl)|exact st_loadE'|exact Cv.rfl'|(intro _;simp only[newX,newL,ptrs,List.map,List.cons_append,List.nil_append])|intro _
  refine g_stop fun a w h => ?_
  refine cw_block ?_
  refine cw_loop (fun k a w => ∃ i : Nat, i + k = n ∧ TS _ _ [(_, VTy.nc (10 ^ i) 5), (_, VTy.na 0 0)] [(6, .is (.int .i64 (i : Int))), (5, .is (.int .i64 (n : Int))), (3, .is (.pointer (some ⟨_, 0, none⟩))), (2, .is (.pointer (some ⟨_, 0, none⟩)))] 13 a w) n ⟨0, by omega, (h.keep [6, 5, 3, 2]).locs (.cons (fun _ _ _ => nn_nc rfl (by decide)) (.same .nil))⟩ ?_
  clear h
  rintro k a w ⟨i, hi, h⟩
  by_cases hlt : i < n
  · have hc : decide ((i : Int) < (n : Int)) = true := decide_eq_true (by omega)
    have hw := i64_next hlt (by omega)
    refine g_of h ?_
    clear h
    repeat' first|kernel_rfl|exact g_done fun _ _ h=>⟨k - 1, by omega, i + 1, by omega, (h.keep [6, 5, 3, 2]).locs (.cons (fun _ _ _ => nn_nc (Int.pow_succ ..).symm (pow10 (by omega))) (.same .nil))⟩|apply g_seq|apply g_reg|apply g_nil|apply g_mv (s:=6)|apply g_draw (id:=4) [] [] 3|apply o_all|apply o_go|exact OpsT.nil|exact GuardC.nil|exact UndefC.nil|apply g_box|apply g_all|apply g_sto|apply g_asg|apply g_st|apply g_skip|apply g_ct|apply g_cf|apply g_ret|refine r_1 rfl ?_|apply g_blk|apply g_eb|apply g_ex|apply e_t|apply e_h|refine e_o rfl ?_|apply r_t|apply r_b|apply g_cl|exact sbn_of (by omega)|exact sbn_mul (by omega)|exact st_add' hw|exact st_lss' hc|exact st_move'|exact st_load'|exact st_lss' (by first|assumption|rfl)|exact st_loadE'|exact Cv.rfl'|(intro _;simp only[newX,newL,ptrs,List.map,List.cons_append,List.nil_append])|intro _
  · have hc : decide ((i : Int) < (n : Int)) = false := decide_eq_false (by omega)
    obtain rfl : i = n := by omega
    refine g_of h ?_
    clear h
    repeat' first|kernel_rfl|apply g_seq|apply g_reg|apply g_nil|apply g_mv (s:=6)|apply g_draw (id:=4) [] [] 3|apply o_all|apply o_go|exact OpsT.nil|exact GuardC.nil|exact UndefC.nil|apply g_box|apply g_all|apply g_sto|apply g_asg|apply g_st|apply g_skip|apply g_ct|apply g_cf|apply g_ret|refine r_1 rfl ?_|apply g_blk|apply g_eb|apply g_ex|apply e_t|apply e_h|refine e_o rfl ?_|apply r_t|apply r_b|apply g_cl|exact sbn_of (by omega)|exact sbn_mul (by omega)|exact st_add' hw|exact st_lss' hc|exact st_move'|exact st_load'|exact st_lss' (by first|assumption|rfl)|exact st_loadE'|exact Cv.rfl'|(intro _;simp only[newX,newL,ptrs,List.map,List.cons_append,List.nil_append])|intro _
instance {N : Int} {L : Nat} {c : Value} : DownC fun B => .tup [.nn N L B, .is c] := ⟨fun hB h => tup_imp (fun _ g => nwn_le g hB) (fun _ g => g) _ h⟩
set_option maxRecDepth 20000 in
set_option maxHeartbeats 4000000 in
theorem c_placesA {p : Rat} {L : Nat} {n : Int} (hL : L ≤ 60) (hn : n < 0) : Ctr Tryz.prog Tab 30 [1, 0] [.qa p L, .is (.int .i64 n)] (fun B => .tup [.nn 0 0 B, .is (.int .i64 2)]) := by
  have hc1 : decide (n < 0) = true := decide_eq_true hn
  refine ctr Tryz.func30 rfl Tryz.ntmps30 (by simp) (fun _ _ => by kernel_rfl) fun X w hE => ?_
  simp only [argE, Nat.zero_add, Nat.reduceAdd]
  repeat' first|kernel_rfl|apply g_seq|apply g_reg|apply g_nil|apply o_all|apply o_go|exact OpsT.nil|exact GuardC.nil|exact UndefC.nil|apply g_box|apply g_all|apply g_sto|apply g_asg|apply g_st|apply g_skip|apply g_ct|apply g_cf|apply g_ret|refine r_2 rfl ?_|apply g_blk|apply g_eb|apply g_ex|apply e_t|apply e_h|refine e_o rfl ?_|apply r_t|apply r_b|apply g_cl|exact sN_zero|exact st_lss' hc1|exact st_gtr' hc2|exact st_move'|exact st_assign'|exact st_load'|exact st_lss' (by first|assumption|rfl)|exact st_gtr' (by first|assumption|rfl)|exact st_loadE'|exact Cv.rfl'|(intro _;simp only[newX,newL,ptrs,List.map,List.cons_append,List.nil_append])|intro _
set_option maxRecDepth 20000 in
set_option maxHeartbeats 4000000 in
theorem c_placesL {p : Rat} {L : Nat} {n : Int} (hL : L ≤ 60) (hn : 40 < n) : Ctr Tryz.prog Tab 30 [1, 0] [.qa p L, .is (.int .i64 n)] (fun B => .tup [.nn 0 0 B, .is (.int .i64 3)]) := by
  have hc1 : decide (n < 0) = false := decide_eq_false (by omega)
  have hc2 : decide ((40 : Int) < n) = true := decide_eq_true hn
  refine ctr Tryz.func30 rfl Tryz.ntmps30 (by simp) (fun _ _ => by kernel_rfl) fun X w hE => ?_
  simp only [argE, Nat.zero_add, Nat.reduceAdd]
  repeat' first|kernel_rfl|apply g_seq|apply g_reg|apply g_nil|apply o_all|apply o_go|exact OpsT.nil|exact GuardC.nil|exact UndefC.nil|apply g_box|apply g_all|apply g_sto|apply g_asg|apply g_st|apply g_skip|apply g_ct|apply g_cf|apply g_ret|refine r_2 rfl ?_|apply g_blk|apply g_eb|apply g_ex|apply e_t|apply e_h|refine e_o rfl ?_|apply r_t|apply r_b|apply g_cl|exact sN_zero|exact st_lss' hc1|exact st_gtr' hc2|exact st_move'|exact st_assign'|exact st_load'|exact st_lss' (by first|assumption|rfl)|exact st_gtr' (by first|assumption|rfl)|exact st_loadE'|exact Cv.rfl'|(intro _;simp only[newX,newL,ptrs,List.map,List.cons_append,List.nil_append])|intro _
set_option maxRecDepth 20000 in
set_option maxHeartbeats 4000000 in
theorem c_places {p : Rat} {L n : Nat} (hL : L ≤ 60) (hn : n ≤ 40) : Ctr Tryz.prog Tab 30 [1, 0] [.qa p L, .is (.int .i64 (n : Int))] (fun B => .tup [.nn (hf (p * ((10 ^ n : Int) : Rat))) (L + 5 + 2) B, .is (.int .i64 0)]) := by
  have hc1 : decide ((n : Int) < 0) = false := decide_eq_false (by omega)
  have hc2 : decide ((40 : Int) < (n : Int)) = false := decide_eq_false (by omega)
  refine ctr Tryz.func30 rfl Tryz.ntmps30 (by simp) (fun _ _ => by kernel_rfl) fun X w hE => ?_
  simp only [argE, Nat.zero_add, Nat.reduceAdd]
  repeat' first|kernel_rfl|apply g_seq|apply g_reg|apply g_nil|apply g_draw (id:=5) [] [] 6|apply o_all|apply o_go|exact OpsT.nil|exact GuardC.nil|exact UndefC.nil|apply g_box|apply g_all|apply g_sto|apply g_asg|apply g_st|apply g_skip|apply g_ct|apply g_cf|apply g_ret|refine r_2 rfl ?_|apply g_blk|apply g_eb|apply g_ex|apply e_t|apply e_h|refine e_o rfl ?_|apply r_t|apply r_b|apply g_cl|exact st_lss' hc1|exact st_gtr' hc2|exact sc hE (c_tens hn)|exact sc hE (c_whole (by omega))|exact si_mul hE (by omega)|exact sc hE (c_half (by omega))|exact st_move'|exact st_assign'|exact st_load'|exact st_lss' (by first|assumption|rfl)|exact st_gtr' (by first|assumption|rfl)|exact st_loadE'|exact Cv.rfl'|(intro _;simp only[newX,newL,ptrs,List.map,List.cons_append,List.nil_append])|intro _
/-- Is it right, and a whole number? -/
def whq (x : RawQ) : Bool := qrt x && decide ((qv x).den = 1)
instance {L : Nat} {x : RawQ} : AsX (.el Rp.frac (fewQ L) x) x L := ⟨fun ⟨y, h, g⟩ => ⟨y, ⟨h.1, by rw [← h.1]; exact h.2⟩, g⟩⟩
instance {L : Nat} {x : RawQ} : PartC (.el Rp.frac (fewQ L) x) 2 2 true (.nx x.2 L) := .snd fun y h => ⟨by rw [h.1], by rw [← h.1]; exact h.2.2.1⟩
theorem rq_den {X : List Nat} {w : World} {v : Value} {L : Nat} {l : List RawQ} (h : (VTy.rq L l).holds X w v) : l.length ≤ 9223372036854775807 ∧ ∀ x ∈ l, qrt x = true → ((qv x).den : Int) = iv x.2 := by
  refine ⟨(rq_max h).1, fun x hx hq => ?_⟩
  obtain ⟨hp, A, n, c, _, hs⟩ := h
  have h2 := hs.1
  obtain ⟨j, hj⟩ := List.mem_iff_getElem?.1 hx
  have hjl := (List.getElem?_eq_some_iff.1 hj).1
  obtain ⟨b, off, _, _, hc⟩ := hs.2.2.2.2 (by omega)
  obtain ⟨cs, _, g⟩ := hc j x hj
  obtain ⟨c1, c2, rfl, g1, g2⟩ := frac_rd.1 g
  obtain ⟨_, _, _, _, _, d1⟩ := num_rd.1 g1
  obtain ⟨_, _, _, _, _, d2⟩ := num_rd.1 g2
  exact (Frac.of d1 d2 hq).2.2
theorem all_take {l : List RawQ} {i : Nat} {x : RawQ} {f : RawQ → Bool} (hx : l[i]? = some x) (h : (l.take i).all f = true) (hf : f x = true) : (l.take (i + 1)).all f = true := by
  rw [take_one hx, List.all_append, h]
  simp [hf]
theorem all_false {l : List RawQ} {i : Nat} {x : RawQ} {f : RawQ → Bool} (hx : l[i]? = some x) (hf : f x = false) : l.all f = false := List.all_eq_false.2 ⟨x, List.mem_of_getElem? hx, by rw [hf]; exact Bool.false_ne_true⟩
theorem si_rightX {w00 : World} {N : Nat} {L : List Loc} {E : List (Nat × VTy)} {d : Nat} {t0 : TypeId} {pos : String} {af : Array Edge} {gd : Option (Nat × Bool)} {ats : Array TypeId} {o0 : Operand} {T0 : VTy} {x : RawQ} {L0 : Nat} {u : Bool} [OpC E o0 T0] [a0 : AsX T0 x L0] (hE : Tab w00) (hb : L0 ≤ 1000) (hu : qrt x = u) :
    StepT Tryz.prog w00 N L E ⟨some d, .call { callee := .value (.func 32), args := #[o0], argTypes := ats }, t0, pos, af, gd⟩ (.is (.bool u)) := by
  rw [← hu]
  exact sc1 ei_right fun X w v0 hX _ hB h0 => crn_right (hE.below hB) hX (a0.ok h0) hb
set_option maxRecDepth 20000 in
set_option maxHeartbeats 4000000 in
theorem c_iswhole {l : List RawQ} {K : Nat} (hK : K ≤ 400) : Ctr Tryz.prog Tab 28 [8] [.rq K l] (fun _ => .is (.bool (l.all whq))) := by
  refine ctrF (F := l.length ≤ 9223372036854775807 ∧ ∀ x ∈ l, qrt x = true → ((qv x).den : Int) = iv x.2) (fun ha => ?_) (fun _ _ => by kernel_rfl) fun ⟨hmx, hfd⟩ => ?_
  · obtain ⟨v, rfl, g⟩ := ha.one
    exact rq_den g
  refine ctr Tryz.func28 rfl Tryz.ntmps28 (by simp) (fun _ _ => by kernel_rfl) fun X w hE => ?_
  simp only [argE, Nat.zero_add, Nat.reduceAdd]
  repeat' first|kernel_rfl|apply g_seq|apply g_reg|apply g_nil|apply o_all|apply o_go|exact OpsT.nil|exact GuardC.nil|exact UndefC.nil|refine @GuardC.cons _ _ _ _ inferInstance ?_|refine @UndefC.cons _ _ _ inferInstance ?_|apply g_box|apply g_all|apply g_sto|apply g_asg|refine g_run rfl inferInstance (by first|fail) (by kernel_rfl) ?_|refine g_sk rfl inferInstance rfl (by kernel_rfl) ?_|refine g_un rfl inferInstance (by kernel_rfl) ?_|apply g_st|apply g_skip|apply g_ct|apply g_cf|apply g_ret|refine r_1 rfl ?_|apply g_cl|exact st_len'|exact st_lss' hc|exact st_indexAddr' hx|exact st_loadE'|exact st_add' hw|exact sbn_of (by omega)|exact sb_cmp (by omega)|exact si_rightX hE (by omega) hq|exact st_move'|exact st_assign'|exact st_load'|exact st_fieldAddr'|exact st_or_f'|exact st_or_t'|exact st_not' (b := true) (u := false) rfl|exact st_not' (b := false) (u := true) rfl|exact st_not' rfl|exact st_neq' (by first|assumption|rfl)|exact st_lss' (by first|assumption|rfl)|exact st_len'|exact st_indexAddr' (by assumption)|exact st_loadE'|exact Cv.rfl'|(intro _;simp only[newX,newL,ptrs,List.map,List.cons_append,List.nil_append])|intro _
  refine g_stop fun a w h => ?_
  refine cw_block ?_
  refine cw_loop (fun k a w => ∃ i : Nat, i + k = l.length ∧ (l.take i).all whq = true ∧ TS _ X [] [(7, .is (.int .i64 (i : Int))), (6, .is (.int .i64 l.length)), (5, .rq K l), (2, .is (.bool false)), (0, .rq K l)] 22 a w) l.length ⟨0, by omega, rfl, h.keep [7, 6, 5, 2, 0]⟩ ?_
  clear h
  rintro k a w ⟨i, hi, hall, h⟩
  by_cases hlt : i < l.length
  · obtain ⟨x, hx⟩ : ∃ x, l[i]? = some x := ⟨_, List.getElem?_eq_getElem hlt⟩
    have hc : decide ((i : Int) < (l.length : Int)) = true := decide_eq_true (by omega)
    have hw := i64_next hlt hmx
    have hd := hfd x (List.mem_of_getElem? hx)
    clear hfd
    cases hq : qrt x with
    | false =>
      have hr : l.all whq = false := all_false hx (by unfold whq; rw [hq]; rfl)
      refine g_of h ?_
      clear h
      repeat' first|kernel_rfl|apply g_seq|apply g_reg|apply g_nil|apply g_mv (s:=7)|apply g_draw (id:=4) [(14, true)] [] 9|(apply o_sk;(focus rfl);(focus kernel_rfl))|apply o_all|apply o_go|exact OpsT.nil|exact GuardC.nil|exact UndefC.nil|refine @GuardC.cons _ _ _ _ inferInstance ?_|refine @UndefC.cons _ _ _ inferInstance ?_|apply g_box|apply g_all|apply g_sto|apply g_asg|refine g_run rfl inferInstance (by first|fail) (by kernel_rfl) ?_|refine g_sk rfl inferInstance rfl (by kernel_rfl) ?_|refine g_un rfl inferInstance (by kernel_rfl) ?_|apply g_st|apply g_skip|apply g_ct|apply g_cf|apply g_ret|refine r_1 rfl ?_|apply g_blk|apply g_eb|apply g_ex|apply e_t|apply e_h|refine e_o rfl ?_|apply r_t|apply r_b|apply g_cl|exact st_len'|exact st_lss' hc|exact st_indexAddr' hx|exact st_loadE'|exact st_add' hw|exact sbn_of (by omega)|exact sb_cmp (by omega)|exact si_rightX hE (by omega) hq|exact st_move'|exact st_assign'|exact st_load'|exact st_fieldAddr'|exact st_or_f'|exact st_or_t'|exact st_not' (b := true) (u := false) rfl|exact st_not' (b := false) (u := true) rfl|exact st_not' rfl|exact st_neq' (by first|assumption|rfl)|exact st_lss' (by first|assumption|rfl)|exact st_len'|exact st_indexAddr' (by assumption)|exact st_loadE'|exact ⟨fun _ _=>(is_is (congrArg Value.bool hr.symm))⟩|exact Cv.rfl'|(intro _;simp only[newX,newL,ptrs,List.map,List.cons_append,List.nil_append])|intro _
    | true =>
      replace hd := hd hq
      cases hc1 : (cmpI (iv x.2) 1 != 0) with
      | true =>
        have hr : l.all whq = false := all_false hx (by
          unfold whq
          rw [hq, decide_eq_false fun e => ?_]; rfl
          rw [← hd, e] at hc1
          exact absurd hc1 (by decide))
        refine g_of h ?_
        clear h
        repeat' first|kernel_rfl|apply g_seq|apply g_reg|apply g_nil|apply g_mv (s:=7)|apply g_draw (id:=4) [(14, false)] [] 9|apply o_all|apply o_go|exact OpsT.nil|exact GuardC.nil|exact UndefC.nil|refine @GuardC.cons _ _ _ _ inferInstance ?_|refine @UndefC.cons _ _ _ inferInstance ?_|apply g_box|apply g_all|apply g_sto|apply g_asg|refine g_run rfl inferInstance (by first|fail) (by kernel_rfl) ?_|refine g_sk rfl inferInstance rfl (by kernel_rfl) ?_|refine g_un rfl inferInstance (by kernel_rfl) ?_|apply g_st|apply g_skip|apply g_ct|apply g_cf|apply g_ret|refine r_1 rfl ?_|apply g_blk|apply g_eb|apply g_ex|apply e_t|apply e_h|refine e_o rfl ?_|apply r_t|apply r_b|apply g_cl|exact st_len'|exact st_lss' hc|exact st_indexAddr' hx|exact st_loadE'|exact st_add' hw|exact sbn_of (by omega)|exact sb_cmp (by omega)|exact si_rightX hE (by omega) hq|exact st_move'|exact st_assign'|exact st_load'|exact st_fieldAddr'|exact st_or_f'|exact st_or_t'|exact st_not' (b := true) (u := false) rfl|exact st_not' (b := false) (u := true) rfl|exact st_not' rfl|exact st_neq' (by first|assumption|rfl)|exact st_lss' (by first|assumption|rfl)|exact st_len'|exact st_indexAddr' (by assumption)|exact st_loadE'|exact ⟨fun _ _=>(is_is (congrArg Value.bool hr.symm))⟩|exact Cv.rfl'|(intro _;simp only[newX,newL,ptrs,List.map,List.cons_append,List.nil_append])|intro _
      | false =>
        have hq2 : (l.take (i + 1)).all whq = true := all_take hx hall (by
          unfold whq
          have : cmpI (iv x.2) 1 = 0 := by simpa using hc1
          rw [cmpI_zero] at this
          rw [hq, decide_eq_true (by omega)]; rfl)
        refine g_of h ?_
        clear h
        repeat' first|kernel_rfl|exact g_done fun _ _ h=>⟨k - 1, by omega, i + 1, by omega, hq2, ((h.keep [7, 6, 5, 2, 0]).tail).less (fun b hb => List.mem_cons_of_mem _ hb) (by simp)⟩|apply g_seq|apply g_reg|apply g_nil|apply g_mv (s:=7)|apply g_draw (id:=4) [(14, false)] [] 9|apply o_all|apply o_go|exact OpsT.nil|exact GuardC.nil|exact UndefC.nil|refine @GuardC.cons _ _ _ _ inferInstance ?_|refine @UndefC.cons _ _ _ inferInstance ?_|apply g_box|apply g_all|apply g_sto|apply g_asg|refine g_run rfl inferInstance (by first|fail) (by kernel_rfl) ?_|refine g_sk rfl inferInstance rfl (by kernel_rfl) ?_|refine g_un rfl inferInstance (by kernel_rfl) ?_|apply g_st|apply g_skip|apply g_ct|apply g_cf|apply g_ret|refine r_1 rfl ?_|apply g_blk|apply g_eb|apply g_ex|apply e_t|apply e_h|refine e_o rfl ?_|apply r_t|apply r_b|apply g_cl|exact st_len'|exact st_lss' hc|exact st_indexAddr' hx|exact st_loadE'|exact st_add' hw|exact sbn_of (by omega)|exact sb_cmp (by omega)|exact si_rightX hE (by omega) hq|exact st_move'|exact st_assign'|exact st_load'|exact st_fieldAddr'|exact st_or_f'|exact st_or_t'|exact st_not' (b := true) (u := false) rfl|exact st_not' (b := false) (u := true) rfl|exact st_not' rfl|exact st_neq' (by first|assumption|rfl)|exact st_lss' (by first|assumption|rfl)|exact st_len'|exact st_indexAddr' (by assumption)|exact st_loadE'|exact Cv.rfl'|(intro _;simp only[newX,newL,ptrs,List.map,List.cons_append,List.nil_append])|intro _
  · have hc : decide ((i : Int) < (l.length : Int)) = false := decide_eq_false (by omega)
    have hr : l.all whq = true := by rw [List.take_of_length_le (by omega)] at hall; exact hall
    refine g_of h ?_
    clear h
    repeat' first|kernel_rfl|apply g_seq|apply g_reg|apply g_nil|apply g_mv (s:=7)|apply g_draw (id:=4) [(14, false)] [] 9|apply o_all|apply o_go|exact OpsT.nil|exact GuardC.nil|exact UndefC.nil|refine @GuardC.cons _ _ _ _ inferInstance ?_|refine @UndefC.cons _ _ _ inferInstance ?_|apply g_box|apply g_all|apply g_sto|apply g_asg|refine g_run rfl inferInstance (by first|fail) (by kernel_rfl) ?_|refine g_sk rfl inferInstance rfl (by kernel_rfl) ?_|refine g_un rfl inferInstance (by kernel_rfl) ?_|apply g_st|apply g_skip|apply g_ct|apply g_cf|apply g_ret|refine r_1 rfl ?_|apply g_blk|apply g_eb|apply g_ex|apply e_t|apply e_h|refine e_o rfl ?_|apply r_t|apply r_b|apply g_cl|exact st_len'|exact st_lss' hc|exact st_indexAddr' hx|exact st_loadE'|exact st_add' hw|exact sbn_of (by omega)|exact sb_cmp (by omega)|exact si_rightX hE (by omega) hq|exact st_move'|exact st_assign'|exact st_load'|exact st_fieldAddr'|exact st_or_f'|exact st_or_t'|exact st_not' (b := true) (u := false) rfl|exact st_not' (b := false) (u := true) rfl|exact st_not' rfl|exact st_neq' (by first|assumption|rfl)|exact st_lss' (by first|assumption|rfl)|exact st_len'|exact st_indexAddr' (by assumption)|exact st_loadE'|exact ⟨fun _ _=>(is_is (congrArg Value.bool hr.symm))⟩|exact Cv.rfl'|(intro _;simp only[newX,newL,ptrs,List.map,List.cons_append,List.nil_append])|intro _
theorem s4_rightc {w00 : World} {N : Nat} {L : List Loc} {E : List (Nat × VTy)} {d : Nat} {t0 : TypeId} {pos : String} {af : Array Edge} {gd : Option (Nat × Bool)} {ats : Array TypeId} {o0 : Operand} {q : Rat} {L0 : Nat} [OpC E o0 (.qc q L0)] (hb : L0 ≤ 1000) : StepT Tryz.prog w00 N L E ⟨some d, .call { callee := .value (.func 46), args := #[o0], argTypes := ats }, t0, pos, af, gd⟩ (.is (.bool true)) :=
  sc1 e4_right fun X w v0 hX _ hB h0 => by
    obtain ⟨x, ⟨hf, hl⟩, g⟩ := h0
    have := c4_right hX (x := x) (L := L0) ⟨x, ⟨rfl, (hf.len hl).1, (hf.len hl).2, hl.pos⟩, g⟩ hb
    rwa [hf.right] at this
theorem s4_rightU {w00 : World} {N : Nat} {L : List Loc} {E : List (Nat × VTy)} {d : Nat} {t0 : TypeId} {pos : String} {af : Array Edge} {gd : Option (Nat × Bool)} {ats : Array TypeId} {o0 : Operand} {T0 : VTy} {x : RawQ} {L0 : Nat} {u : Bool} [OpC E o0 T0] [a0 : AsX T0 x L0] (hb : L0 ≤ 1000) (hu : qrt x = u) : StepT Tryz.prog w00 N L E ⟨some d, .call { callee := .value (.func 46), args := #[o0], argTypes := ats }, t0, pos, af, gd⟩ (.is (.bool u)) := by
  rw [← hu]
  exact s4_rightX hb
set_option maxRecDepth 20000 in
theorem s3_none {w00 : World} {N : Nat} {L : List Loc} {E : List (Nat × VTy)} {d : Nat} {t0 : TypeId} {pos : String} {af : Array Edge} {gd : Option (Nat × Bool)} : StepT Tryz.prog w00 N L E ⟨some d, .build 29 #[], t0, pos, af, gd⟩ (.nc 0 0) := by
  constructor
  intro X ρ w hc _ hN hm hsl
  have hT : (VTy.nc 0 0).holds X w (.agg #[.bool false, .slice none 0 0]) := ⟨(false, []), ⟨Whole.zero, by decide⟩, [.bool false, .slice none 0 0], rfl, num_rd.2 ⟨none, 0, 0, rfl, ⟨Sl.nil, fun h => by omega⟩, Dg.nil⟩⟩
  have HT := Lib.hid hT
  clear hT hsl hm hc
  unfold Yields
  go_simp
  exact ⟨HT.out, Below.refl _ _⟩
theorem nc_nc {X : List Nat} {w : World} {N M : Int} {L K : Nat} (e : N = M) (hl : (M.natAbs : Int) < 4294967296 ^ K) (v : Value) (h : (VTy.nc N L).holds X w v) : (VTy.nc M K).holds X w v := by
  subst e
  obtain ⟨x, ⟨h1, _⟩, g⟩ := h
  exact ⟨x, ⟨h1, hl⟩, g⟩
theorem nc_eq {X : List Nat} {w : World} {N M : Int} {L : Nat} (e : N = M) (v : Value) (h : (VTy.nc N L).holds X w v) : (VTy.nc M L).holds X w v := by rw [← e]; exact h
theorem qc_eq {X : List Nat} {w : World} {p q : Rat} {L : Nat} (e : p = q) (v : Value) (h : (VTy.qc p L).holds X w v) : (VTy.qc q L).holds X w v := by rw [← e]; exact h
set_option maxRecDepth 20000 in
set_option maxHeartbeats 4000000 in
theorem c5_floor1 {p : Rat} {L : Nat} (hL : L ≤ 400) : Ctr Tryz.prog Tab 10 [3] [.qc p L] (fun _ => .nc p.floor (L + 1)) := by
  have hd : (p.den : Int) ≠ 0 := by have := den_pos p; omega
  refine ctr Tryz.func10 rfl Tryz.ntmps10 (by simp) (fun _ _ => by kernel_rfl) fun X w hE => ?_
  simp only [argE, Nat.zero_add, Nat.reduceAdd]
  repeat' first|kernel_rfl|apply g_seq|apply g_reg|apply g_nil|apply g_box|apply g_all|apply g_sto|apply g_asg|apply g_st|apply g_skip|apply g_ct|apply g_cf|apply g_ret|refine r_1 rfl ?_|apply g_cl|exact s4_rightc (by omega)|exact s3_div (by omega) hd|exact s3_none|exact st_move'|exact st_assign'|exact st_load'|exact st_fieldAddr'|exact st_extract'|exact st_not' (b := true) (u := false) rfl|exact st_not' (b := false) (u := true) rfl|exact st_not' rfl|exact st_loadE'|exact ⟨fun _ _=>nc_eq (fl_fdiv p)⟩|exact Cv.rfl'|intro _
set_option maxRecDepth 20000 in
set_option maxHeartbeats 4000000 in
theorem c5_floor0 {x : RawQ} {L : Nat} (hL : L ≤ 400) (hq : qrt x = false) : Ctr Tryz.prog Tab 10 [4] [.qx x L] (fun _ => .nc (Rat.floor 0) (L + 1)) := by
  have e0 : Rat.floor 0 = 0 := by decide +kernel
  refine ctr Tryz.func10 rfl Tryz.ntmps10 (by simp) (fun _ _ => by kernel_rfl) fun X w hE => ?_
  simp only [argE, Nat.zero_add, Nat.reduceAdd]
  repeat' first|kernel_rfl|apply g_seq|apply g_reg|apply g_nil|apply g_box|apply g_all|apply g_sto|apply g_asg|apply g_st|apply g_skip|apply g_ct|apply g_cf|apply g_ret|refine r_1 rfl ?_|apply g_cl|exact s4_rightU (by omega) hq|exact s3_none|exact st_move'|exact st_assign'|exact st_load'|exact st_fieldAddr'|exact st_extract'|exact st_not' (b := true) (u := false) rfl|exact st_not' (b := false) (u := true) rfl|exact st_not' rfl|exact st_loadE'|exact ⟨fun _ _=>nc_nc e0.symm (by rw [e0]; exact pow0 _)⟩|exact Cv.rfl'|intro _
theorem c5_floor {p : Rat} {L : Nat} (hL : L ≤ 400) : Ctr Tryz.prog Tab 10 [1] [.qa p L] (fun _ => .nc p.floor (L + 1)) := ctrQ (fun _ _ => by kernel_rfl) (fun _ => c5_floor1 hL) (fun _ hq hp _ => by rw [hp]; exact c5_floor0 hL hq)
set_option maxRecDepth 20000 in
set_option maxHeartbeats 4000000 in
theorem c5_whole {M : Int} {L : Nat} (hL : L ≤ 400) : Ctr Tryz.prog Tab 27 [2] [.na M L] (fun _ => .qc (M : Rat) (max L 2)) := by
  have e : Rat.divInt M 1 = (M : Rat) := Rat.num_divInt_den (M : Rat)
  refine ctr Tryz.func27 rfl Tryz.ntmps27 (by simp) (fun _ _ => by kernel_rfl) fun X w hE => ?_
  simp only [argE, Nat.zero_add, Nat.reduceAdd]
  repeat' first|kernel_rfl|apply g_seq|apply g_reg|apply g_nil|apply g_drawE (id:=1) [] [] 7 [5]|apply z_sto|apply z_asg|apply z_cl|apply o_all|apply o_go|exact OpsT.nil|exact GuardC.nil|exact UndefC.nil|apply g_box|apply g_all|apply g_sto|apply g_asg|apply g_st|apply g_skip|apply g_ct|apply g_cf|apply g_ret|refine r_1 rfl ?_|apply g_cl|exact s3_of (by omega)|exact s4_new (by omega) (by decide)|exact st_move'|exact st_assign'|exact st_load'|exact st_extract'|exact st_loadE'|exact ⟨fun _ _=>qc_eq e⟩|exact Cv.rfl'|(intro _;simp only[newX,newL,ptrs,List.map,List.cons_append,List.nil_append])|intro _
set_option maxRecDepth 20000 in
set_option maxHeartbeats 4000000 in
theorem c5_one : Ctr Tryz.prog Tab 71 [] [] (fun _ => .qc 1 2) := by
  refine ctr Tryz.func71 rfl Tryz.ntmps71 (by simp) (fun _ _ => by kernel_rfl) fun X w hE => ?_
  simp only [argE, Nat.zero_add, Nat.reduceAdd]
  repeat' first|kernel_rfl|apply g_seq|apply g_reg|apply g_nil|apply g_box|apply g_all|apply g_sto|apply g_asg|apply g_st|apply g_skip|apply g_ct|apply g_cf|apply g_ret|refine r_1 rfl ?_|apply g_cl|exact sc hE (c5_whole (by omega))|exact s3_of (by omega)|exact Cv.rfl'|intro _
set_option maxRecDepth 20000 in
set_option maxHeartbeats 4000000 in
theorem c5_fromcents {M : Int} {L : Nat} (hL : L ≤ 400) : Ctr Tryz.prog Tab 25 [2] [.na M L] (fun _ => .qc (Rat.divInt M 100) (max L 2)) := by
  refine ctr Tryz.func25 rfl Tryz.ntmps25 (by simp) (fun _ _ => by kernel_rfl) fun X w hE => ?_
  simp only [argE, Nat.zero_add, Nat.reduceAdd]
  repeat' first|kernel_rfl|apply g_seq|apply g_reg|apply g_nil|apply g_drawE (id:=1) [] [] 7 [5]|apply z_sto|apply z_asg|apply z_cl|apply o_all|apply o_go|exact OpsT.nil|exact GuardC.nil|exact UndefC.nil|apply g_box|apply g_all|apply g_sto|apply g_asg|apply g_st|apply g_skip|apply g_ct|apply g_cf|apply g_ret|refine r_1 rfl ?_|apply g_cl|exact s3_of (by omega)|exact s4_new (by omega) (by decide)|exact st_move'|exact st_assign'|exact st_load'|exact st_extract'|exact st_loadE'|exact Cv.rfl'|(intro _;simp only[newX,newL,ptrs,List.map,List.cons_append,List.nil_append])|intro _
set_option maxRecDepth 20000 in
set_option maxHeartbeats 4000000 in
theorem c5_ceil {p : Rat} {L : Nat} (hL : L ≤ 180) : Ctr Tryz.prog Tab 11 [1] [.qa p L] (fun _ => .nc (cl p) (L + 1)) := by
  refine ctr Tryz.func11 rfl Tryz.ntmps11 (by simp) (fun _ _ => by kernel_rfl) fun X w hE => ?_
  simp only [argE, Nat.zero_add, Nat.reduceAdd]
  repeat' first|kernel_rfl|apply g_seq|apply g_reg|apply g_nil|apply g_box|apply g_all|apply g_sto|apply g_asg|apply g_st|apply g_skip|apply g_ct|apply g_cf|apply g_ret|refine r_1 rfl ?_|apply g_cl|exact sc hE (c5_floor (by omega))|exact s4_neg (by omega)|exact s3_neg (by omega)|exact st_load'|exact st_loadE'|exact Cv.rfl'|intro _
set_option maxRecDepth 20000 in
set_option maxHeartbeats 4000000 in
theorem c5_trunc {p : Rat} {L : Nat} (hL : L ≤ 180) : Ctr Tryz.prog Tab 12 [1] [.qa p L] (fun _ => .nc (tz p) (L + 1)) := by
  have e : decide (cmpQ p 0 < 0) = decide (p < 0) := decide_eq_decide.2 cmpQ_lt
  cases hc : decide (cmpQ p 0 < 0) with
  | true =>
    have e2 : cl p = tz p := by unfold tz; rw [← e, hc]; rfl
    refine ctr Tryz.func12 rfl Tryz.ntmps12 (by simp) (fun _ _ => by kernel_rfl) fun X w hE => ?_
    simp only [argE, Nat.zero_add, Nat.reduceAdd]
    repeat' first|kernel_rfl|apply g_seq|apply g_reg|apply g_nil|apply g_box|apply g_all|apply g_sto|apply g_asg|apply g_st|apply g_skip|apply g_ct|apply g_cf|apply g_ret|refine r_1 rfl ?_|apply g_cl|exact sc hE (c5_floor (by omega))|exact sc hE (c5_ceil (by omega))|exact s4_sign (by omega)|exact st_load'|exact st_lss' (by first|assumption|rfl)|exact st_loadE'|exact ⟨fun _ _=>nc_eq e2⟩|exact Cv.rfl'|intro _
  | false =>
    have e2 : p.floor = tz p := by unfold tz; rw [← e, hc]; rfl
    refine ctr Tryz.func12 rfl Tryz.ntmps12 (by simp) (fun _ _ => by kernel_rfl) fun X w hE => ?_
    simp only [argE, Nat.zero_add, Nat.reduceAdd]
    repeat' first|kernel_rfl|apply g_seq|apply g_reg|apply g_nil|apply g_box|apply g_all|apply g_sto|apply g_asg|apply g_st|apply g_skip|apply g_ct|apply g_cf|apply g_ret|refine r_1 rfl ?_|apply g_cl|exact sc hE (c5_floor (by omega))|exact sc hE (c5_ceil (by omega))|exact s4_sign (by omega)|exact st_load'|exact st_lss' (by first|assumption|rfl)|exact st_loadE'|exact ⟨fun _ _=>nc_eq e2⟩|exact Cv.rfl'|intro _
set_option maxRecDepth 20000 in
set_option maxHeartbeats 4000000 in
theorem c5_frac {p : Rat} {L : Nat} (hL : L ≤ 180) : Ctr Tryz.prog Tab 23 [1] [.qa p L] (fun _ => .qc (fr p) L) := by
  refine ctrF (F := Lq p L) (fun ha => ?_) (fun _ _ => by kernel_rfl) fun hl => ?_
  · obtain ⟨v, rfl, h1⟩ := ha.one
    exact (qa_Lq h1).1
  have hl2 := hl.fr
  refine ctr Tryz.func23 rfl Tryz.ntmps23 (by simp) (fun _ _ => by kernel_rfl) fun X w hE => ?_
  simp only [argE, Nat.zero_add, Nat.reduceAdd]
  repeat' first|kernel_rfl|apply g_seq|apply g_reg|apply g_nil|apply g_draw (id:=1) [] [] 5|apply o_all|apply o_go|exact OpsT.nil|exact GuardC.nil|exact UndefC.nil|apply g_box|apply g_all|apply g_sto|apply g_asg|apply g_st|apply g_skip|apply g_ct|apply g_cf|apply g_ret|refine r_1 rfl ?_|apply g_cl|exact sc hE (c5_floor (by omega))|exact sc hE (c5_whole (by omega))|exact s4_sub (by omega)|exact st_load'|exact st_loadE'|exact ⟨fun _ _=>qc_qc rfl hl2⟩|exact Cv.rfl'|(intro _;simp only[newX,newL,ptrs,List.map,List.cons_append,List.nil_append])|intro _
set_option maxRecDepth 20000 in
set_option maxHeartbeats 4000000 in
theorem c5_half {p : Rat} {L : Nat} (hL : L ≤ 40) : Ctr Tryz.prog Tab 13 [1] [.qa p L] (fun _ => .nc (hf p) (L + 1)) := by
  have e := hf_ref p
  have e1 : decide (cmpQ (p - p.floor) (cl p - p) < 0) = decide (p - p.floor < cl p - p) := decide_eq_decide.2 cmpQ_lt
  have e2 : decide (0 < cmpQ (p - p.floor) (cl p - p)) = decide (cl p - p < p - p.floor) := decide_eq_decide.2 cmpQ_gt
  rw [← e1, ← e2] at e
  clear e1 e2
  have e3 : (cmpI (p.floor.fmod 2) 0 == 0) = decide (p.floor % 2 = 0) := by
    rw [Bool.eq_iff_iff, beq_iff_eq, decide_eq_true_eq, cmpI_zero, Int.fmod_eq_emod_of_nonneg _ (by decide)]
  rw [← e3] at e
  clear e3
  cases c1 : decide (cmpQ (p - p.floor) (cl p - p) < 0) with
  | true =>
    rw [c1] at e
    refine ctr Tryz.func13 rfl Tryz.ntmps13 (by simp) (fun _ _ => by kernel_rfl) fun X w hE => ?_
    simp only [argE, Nat.zero_add, Nat.reduceAdd]
    repeat' first|kernel_rfl|apply g_drawE (id:=8) [] [] 9 [5, 6]|apply z_sto|apply z_asg|apply z_cl|apply g_seq|apply g_reg|apply g_nil|apply g_draw (id:=1) [] [] 6|apply g_draw (id:=2) [] [] 10|apply o_all|apply o_go|exact OpsT.nil|exact GuardC.nil|exact UndefC.nil|apply g_box|apply g_all|apply g_sto|apply g_asg|apply g_st|apply g_skip|apply g_ct|apply g_cf|apply g_ret|refine r_1 rfl ?_|apply g_blk|apply g_eb|apply g_ex|apply e_t|apply e_h|refine e_o rfl ?_|apply r_t|apply r_b|apply g_cl|exact sc hE (c5_floor (by omega))|exact sc hE (c5_ceil (by omega))|exact sc hE (c5_whole (by omega))|exact s3_div (by omega) (by decide)|exact s4_sub (by omega)|exact s4_cmp (by omega)|exact s3_of (by omega)|exact s3_sign (by omega)|exact st_move'|exact st_assign'|exact st_load'|exact st_extract'|exact st_eq' (by first|assumption|rfl)|exact st_lss' (by first|assumption|rfl)|exact st_gtr' (by first|assumption|rfl)|exact st_loadE'|exact ⟨fun _ _=>nc_eq e.symm⟩|exact Cv.rfl'|(intro _;simp only[newX,newL,ptrs,List.map,List.cons_append,List.nil_append])|intro _
  | false =>
    cases c2 : decide (0 < cmpQ (p - p.floor) (cl p - p)) with
    | true =>
      rw [c1, c2] at e
      refine ctr Tryz.func13 rfl Tryz.ntmps13 (by simp) (fun _ _ => by kernel_rfl) fun X w hE => ?_
      simp only [argE, Nat.zero_add, Nat.reduceAdd]
      repeat' first|kernel_rfl|apply g_drawE (id:=8) [] [] 9 [5, 6]|apply z_sto|apply z_asg|apply z_cl|apply g_seq|apply g_reg|apply g_nil|apply g_draw (id:=1) [] [] 6|apply g_draw (id:=2) [] [] 10|apply o_all|apply o_go|exact OpsT.nil|exact GuardC.nil|exact UndefC.nil|apply g_box|apply g_all|apply g_sto|apply g_asg|apply g_st|apply g_skip|apply g_ct|apply g_cf|apply g_ret|refine r_1 rfl ?_|apply g_blk|apply g_eb|apply g_ex|apply e_t|apply e_h|refine e_o rfl ?_|apply r_t|apply r_b|apply g_cl|exact sc hE (c5_floor (by omega))|exact sc hE (c5_ceil (by omega))|exact sc hE (c5_whole (by omega))|exact s3_div (by omega) (by decide)|exact s4_sub (by omega)|exact s4_cmp (by omega)|exact s3_of (by omega)|exact s3_sign (by omega)|exact st_move'|exact st_assign'|exact st_load'|exact st_extract'|exact st_eq' (by first|assumption|rfl)|exact st_lss' (by first|assumption|rfl)|exact st_gtr' (by first|assumption|rfl)|exact st_loadE'|exact ⟨fun _ _=>nc_eq e.symm⟩|exact Cv.rfl'|(intro _;simp only[newX,newL,ptrs,List.map,List.cons_append,List.nil_append])|intro _
    | false =>
      cases c3 : (cmpI (p.floor.fmod 2) 0 == 0) with
      | true =>
        rw [c1, c2, c3] at e
        refine ctr Tryz.func13 rfl Tryz.ntmps13 (by simp) (fun _ _ => by kernel_rfl) fun X w hE => ?_
        simp only [argE, Nat.zero_add, Nat.reduceAdd]
        repeat' first|kernel_rfl|apply g_drawE (id:=8) [] [] 9 [5, 6]|apply z_sto|apply z_asg|apply z_cl|apply g_seq|apply g_reg|apply g_nil|apply g_draw (id:=1) [] [] 6|apply g_draw (id:=2) [] [] 10|apply o_all|apply o_go|exact OpsT.nil|exact GuardC.nil|exact UndefC.nil|apply g_box|apply g_all|apply g_sto|apply g_asg|apply g_st|apply g_skip|apply g_ct|apply g_cf|apply g_ret|refine r_1 rfl ?_|apply g_blk|apply g_eb|apply g_ex|apply e_t|apply e_h|refine e_o rfl ?_|apply r_t|apply r_b|apply g_cl|exact sc hE (c5_floor (by omega))|exact sc hE (c5_ceil (by omega))|exact sc hE (c5_whole (by omega))|exact s3_div (by omega) (by decide)|exact s4_sub (by omega)|exact s4_cmp (by omega)|exact s3_of (by omega)|exact s3_sign (by omega)|exact st_move'|exact st_assign'|exact st_load'|exact st_extract'|exact st_eq' (by first|assumption|rfl)|exact st_lss' (by first|assumption|rfl)|exact st_gtr' (by first|assumption|rfl)|exact st_loadE'|exact ⟨fun _ _=>nc_eq e.symm⟩|exact Cv.rfl'|(intro _;simp only[newX,newL,ptrs,List.map,List.cons_append,List.nil_append])|intro _
      | false =>
        rw [c1, c2, c3] at e
        refine ctr Tryz.func13 rfl Tryz.ntmps13 (by simp) (fun _ _ => by kernel_rfl) fun X w hE => ?_
        simp only [argE, Nat.zero_add, Nat.reduceAdd]
        repeat' first|kernel_rfl|apply g_drawE (id:=8) [] [] 9 [5, 6]|apply z_sto|apply z_asg|apply z_cl|apply g_seq|apply g_reg|apply g_nil|apply g_draw (id:=1) [] [] 6|apply g_draw (id:=2) [] [] 10|apply o_all|apply o_go|exact OpsT.nil|exact GuardC.nil|exact UndefC.nil|apply g_box|apply g_all|apply g_sto|apply g_asg|apply g_st|apply g_skip|apply g_ct|apply g_cf|apply g_ret|refine r_1 rfl ?_|apply g_blk|apply g_eb|apply g_ex|apply e_t|apply e_h|refine e_o rfl ?_|apply r_t|apply r_b|apply g_cl|exact sc hE (c5_floor (by omega))|exact sc hE (c5_ceil (by omega))|exact sc hE (c5_whole (by omega))|exact s3_div (by omega) (by decide)|exact s4_sub (by omega)|exact s4_cmp (by omega)|exact s3_of (by omega)|exact s3_sign (by omega)|exact st_move'|exact st_assign'|exact st_load'|exact st_extract'|exact st_eq' (by first|assumption|rfl)|exact st_lss' (by first|assumption|rfl)|exact st_gtr' (by first|assumption|rfl)|exact st_loadE'|exact ⟨fun _ _=>nc_eq e.symm⟩|exact Cv.rfl'|(intro _;simp only[newX,newL,ptrs,List.map,List.cons_append,List.nil_append])|intro _
set_option maxRecDepth 20000 in
set_option maxHeartbeats 4000000 in
theorem c5_cents {p : Rat} {L : Nat} (hL : L ≤ 38) : Ctr Tryz.prog Tab 14 [1] [.qa p L] (fun _ => .nc (hf (p * 100)) (L + 2 + 1)) := by
  refine ctr Tryz.func14 rfl Tryz.ntmps14 (by simp) (fun _ _ => by kernel_rfl) fun X w hE => ?_
  simp only [argE, Nat.zero_add, Nat.reduceAdd]
  repeat' first|kernel_rfl|apply g_seq|apply g_reg|apply g_nil|apply g_draw (id:=1) [] [] 5|apply o_all|apply o_go|exact OpsT.nil|exact GuardC.nil|exact UndefC.nil|apply g_box|apply g_all|apply g_sto|apply g_asg|apply g_st|apply g_skip|apply g_ct|apply g_cf|apply g_ret|refine r_1 rfl ?_|apply g_cl|exact sc hE (c5_whole (by omega))|exact sc hE (c5_half (by omega))|exact s4_mul (by omega)|exact s3_of (by omega)|exact st_load'|exact st_loadE'|exact Cv.rfl'|(intro _;simp only[newX,newL,ptrs,List.map,List.cons_append,List.nil_append])|intro _
set_option maxRecDepth 20000 in
set_option maxHeartbeats 4000000 in
theorem c5_placesA {p : Rat} {L : Nat} {n : Int} (hn : n < 0) : Ctr Tryz.prog Tab 31 [1, 0] [.qa p L, .is (.int .i64 n)] (fun _ => .tup [.nc 0 0, .is (.int .i64 2)]) := by
  have hc1 : decide (n < 0) = true := decide_eq_true hn
  refine ctr Tryz.func31 rfl Tryz.ntmps31 (by simp) (fun _ _ => by kernel_rfl) fun X w hE => ?_
  simp only [argE, Nat.zero_add, Nat.reduceAdd]
  repeat' first|kernel_rfl|apply g_seq|apply g_reg|apply g_nil|apply o_all|apply o_go|exact OpsT.nil|exact GuardC.nil|exact UndefC.nil|apply g_box|apply g_all|apply g_sto|apply g_asg|apply g_st|apply g_skip|apply g_ct|apply g_cf|apply g_ret|refine r_2 rfl ?_|apply g_blk|apply g_eb|apply g_ex|apply e_t|apply e_h|refine e_o rfl ?_|apply r_t|apply r_b|apply g_cl|exact st_lss' hc1|exact st_gtr' hc2|exact s4_mul (by omega)|exact s3_of (by omega)|exact s3_none|exact st_move'|exact st_assign'|exact st_load'|exact st_lss' (by first|assumption|rfl)|exact st_gtr' (by first|assumption|rfl)|exact st_loadE'|exact Cv.rfl'|(intro _;simp only[newX,newL,ptrs,List.map,List.cons_append,List.nil_append])|intro _
set_option maxRecDepth 20000 in
set_option maxHeartbeats 4000000 in
theorem c5_placesL {p : Rat} {L : Nat} {n : Int} (hn : 40 < n) : Ctr Tryz.prog Tab 31 [1, 0] [.qa p L, .is (.int .i64 n)] (fun _ => .tup [.nc 0 0, .is (.int .i64 3)]) := by
  have hc1 : decide (n < 0) = false := decide_eq_false (by omega)
  have hc2 : decide ((40 : Int) < n) = true := decide_eq_true hn
  refine ctr Tryz.func31 rfl Tryz.ntmps31 (by simp) (fun _ _ => by kernel_rfl) fun X w hE => ?_
  simp only [argE, Nat.zero_add, Nat.reduceAdd]
  repeat' first|kernel_rfl|apply g_seq|apply g_reg|apply g_nil|apply o_all|apply o_go|exact OpsT.nil|exact GuardC.nil|exact UndefC.nil|apply g_box|apply g_all|apply g_sto|apply g_asg|apply g_st|apply g_skip|apply g_ct|apply g_cf|apply g_ret|refine r_2 rfl ?_|apply g_blk|apply g_eb|apply g_ex|apply e_t|apply e_h|refine e_o rfl ?_|apply r_t|apply r_b|apply g_cl|exact st_lss' hc1|exact st_gtr' hc2|exact s4_mul (by omega)|exact s3_of (by omega)|exact s3_none|exact st_move'|exact st_assign'|exact st_load'|exact st_lss' (by first|assumption|rfl)|exact st_gtr' (by first|assumption|rfl)|exact st_loadE'|exact Cv.rfl'|(intro _;simp only[newX,newL,ptrs,List.map,List.cons_append,List.nil_append])|intro _
theorem qc_qa {X : List Nat} {w : World} {p q : Rat} {L M : Nat} {v : Value} (hq : p = q) (hL : Lq q M) (h : (VTy.qc p L).holds X w v) : (VTy.qa q M).holds X w v := (inferInstance : AsQ (.qc q M) q M).ok (qc_qc hq hL v h)
theorem pow_next (p : Rat) (i : Nat) : p * ((10 ^ i : Int) : Rat) * ((10 : Int) : Rat) = p * ((10 ^ (i + 1) : Int) : Rat) := by
  rw [Rat.mul_assoc, ← Rat.intCast_mul, ← Int.pow_succ]
theorem pow_Lq {p : Rat} {L : Nat} (h : Lq p L) {i : Nat} (hi : i ≤ 40) : Lq (p * ((10 ^ i : Int) : Rat)) (L + 5) :=
  h.mul ⟨pow10 hi, by show (1 : Int) < _; decide⟩
set_option maxRecDepth 20000 in
set_option maxHeartbeats 4000000 in
theorem c5_places {p : Rat} {L n : Nat} (hL : L ≤ 30) (hn : n ≤ 40) : Ctr Tryz.prog Tab 31 [1, 0] [.qa p L, .is (.int .i64 (n : Int))] (fun _ => .tup [.nc (hf (p * ((10 ^ n : Int) : Rat))) (L + 5 + 1), .is (.int .i64 0)]) := by
  refine ctrF (F := Lq p L) (fun ha => ?_) (fun _ _ => by kernel_rfl) fun hl => ?_
  · obtain ⟨v, us, rfl, h1, _⟩ := ha.tail
    exact (qa_Lq h1).1
  have hc1 : decide ((n : Int) < 0) = false := decide_eq_false (by omega)
  have hc2 : decide ((40 : Int) < (n : Int)) = false := decide_eq_false (by omega)
  refine ctr Tryz.func31 rfl Tryz.ntmps31 (by simp) (fun _ _ => by kernel_rfl) fun X w hE => ?_
  simp only [argE, Nat.zero_add, Nat.reduceAdd]
  repeat' first|kernel_rfl|apply g_seq|apply g_reg|apply g_nil|apply o_all|apply o_go|exact OpsT.nil|exact GuardC.nil|exact UndefC.nil|apply g_box|apply g_all|apply g_sto|apply g_asg|apply g_st|apply g_skip|apply g_ct|apply g_cf|apply g_ret|refine r_2 rfl ?_|apply g_blk|apply g_eb|apply g_ex|apply e_t|apply e_h|refine e_o rfl ?_|apply r_t|apply r_b|apply g_cl|exact st_lss' hc1|exact st_gtr' hc2|exact st_lss' hc|exact st_add' hw|exact sc hE (c5_whole (by omega))|exact sc hE (c5_half (by omega))|exact s4_mul (by omega)|exact s3_of (by omega)|exact s3_none|exact st_move'|exact st_assign'|exact st_load'|exact st_lss' (by first|assumption|rfl)|exact st_gtr' (by first|assumption|rfl)|exact st_loadE'|exact Cv.rfl'|(intro _;simp only[newX,newL,ptrs,List.map,List.cons_append,List.nil_append])|intro _
  refine g_stop fun a w h => ?_
  have hq0 : p = p * ((10 ^ 0 : Int) : Rat) := (Rat.mul_one p).symm
  refine cw_loop (fun k a w => ∃ i : Nat, i + k = n ∧ TS _ _ [(_, VTy.na 0 0), (_, VTy.qa (p * ((10 ^ i : Int) : Rat)) (L + 5))] [(6, .is (.int .i64 (i : Int))), (5, .is (.int .i64 0)), (4, .is (.pointer (some ⟨_, 0, none⟩))), (2, .is (.pointer (some ⟨_, 0, none⟩))), (1, .is (.int .i64 (n : Int)))] 24 a w) n ⟨0, by omega, (h.keep [6, 5, 4, 2, 1]).locs (.same (.cons (fun _ _ _ g => hq0 ▸ qa_mono (by omega) g) .nil))⟩ ?_
  clear h
  rintro k a w ⟨i, hi, h⟩
  by_cases hlt : i < n
  · have hc : decide ((i : Int) < (n : Int)) = true := decide_eq_true (by omega)
    have hw := i64_next hlt (by omega)
    refine g_of h ?_
    clear h
    repeat' first|kernel_rfl|exact g_done fun _ _ h=>⟨k - 1, by omega, i + 1, by omega, (h.keep [6, 5, 4, 2, 1]).locs (.same (.cons (fun _ _ _ => qc_qa (pow_next p i) (pow_Lq hl (by omega))) .nil))⟩|apply g_seq|apply g_reg|apply g_nil|apply g_draw (id:=8) [] [] 4|apply o_all|apply o_go|exact OpsT.nil|exact GuardC.nil|exact UndefC.nil|apply g_box|apply g_all|apply g_sto|apply g_asg|apply g_st|apply g_skip|apply g_ct|apply g_cf|apply g_ret|refine r_2 rfl ?_|apply g_blk|apply g_eb|apply g_ex|apply e_t|apply e_h|refine e_o rfl ?_|apply r_t|apply r_b|apply g_cl|exact st_lss' hc1|exact st_gtr' hc2|exact st_lss' hc|exact st_add' hw|exact sc hE (c5_whole (by omega))|exact sc hE (c5_half (by omega))|exact s4_mul (by omega)|exact s3_of (by omega)|exact s3_none|exact st_move'|exact st_assign'|exact st_load'|exact st_lss' (by first|assumption|rfl)|exact st_gtr' (by first|assumption|rfl)|exact st_loadE'|exact Cv.rfl'|(intro _;simp only[newX,newL,ptrs,List.map,List.cons_append,List.nil_append])|intro _
  · have hc : decide ((i : Int) < (n : Int)) = false := decide_eq_false (by omega)
    obtain rfl : i = n := by omega
    refine g_of h ?_
    clear h
    repeat' first|kernel_rfl|apply g_seq|apply g_reg|apply g_nil|apply g_draw (id:=8) [] [] 4|apply o_all|apply o_go|exact OpsT.nil|exact GuardC.nil|exact UndefC.nil|apply g_box|apply g_all|apply g_sto|apply g_asg|apply g_st|apply g_skip|apply g_ct|apply g_cf|apply g_ret|refine r_2 rfl ?_|apply g_blk|apply g_eb|apply g_ex|apply e_t|apply e_h|refine e_o rfl ?_|apply r_t|apply r_b|apply g_cl|exact st_lss' hc1|exact st_gtr' hc2|exact st_lss' hc|exact st_add' hw|exact sc hE (c5_whole (by omega))|exact sc hE (c5_half (by omega))|exact s4_mul (by omega)|exact s3_of (by omega)|exact s3_none|exact st_move'|exact st_assign'|exact st_load'|exact st_lss' (by first|assumption|rfl)|exact st_gtr' (by first|assumption|rfl)|exact st_loadE'|exact Cv.rfl'|(intro _;simp only[newX,newL,ptrs,List.map,List.cons_append,List.nil_append])|intro _
theorem fr_zero {q : Rat} : fr q = 0 ↔ q.den = 1 := by
  obtain ⟨e1, e2⟩ := fr_parts q
  constructor
  · intro h
    rw [← e2, h]; rfl
  · intro h
    refine Rat.num_eq_zero.1 ?_
    rw [e1, h]
    simp
theorem whq_ref {x : RawQ} (h : qrt x = true) : whq x = (cmpQ (fr (qv x)) (1 - 1) == 0) := by
  unfold whq
  rw [h, Bool.true_and, Bool.eq_iff_iff, decide_eq_true_eq, beq_iff_eq, cmpQ_zero, ← fr_zero, Rat.sub_self]
set_option maxRecDepth 20000 in
set_option maxHeartbeats 4000000 in
theorem c5_iswhole {l : List RawQ} {K : Nat} (hK : K ≤ 40) : Ctr Tryz.prog Tab 29 [8] [.rq K l] (fun _ => .is (.bool (l.all whq))) := by
  refine ctrF (F := l.length ≤ 9223372036854775807) (fun ha => ?_) (fun _ _ => by kernel_rfl) fun hmx => ?_
  · obtain ⟨v, rfl, g⟩ := ha.one
    exact (rq_max g).1
  refine ctr Tryz.func29 rfl Tryz.ntmps29 (by simp) (fun _ _ => by kernel_rfl) fun X w hE => ?_
  simp only [argE, Nat.zero_add, Nat.reduceAdd]
  repeat' first|kernel_rfl|apply g_seq|apply g_reg|apply g_nil|apply g_box|apply g_all|apply g_sto|apply g_asg|refine g_run rfl inferInstance (by first|exact st_indexAddr' hx|exact st_loadE'|exact sc hE (c5_frac (by omega))|exact sc hE c5_one|exact s4_sub (by omega)|exact s4_cmp (by omega)|exact st_move'|exact st_load'|exact st_neq' (by first|assumption|rfl)|exact st_indexAddr' (by assumption)|exact st_loadE') (by kernel_rfl) ?_|refine g_sk rfl inferInstance rfl (by kernel_rfl) ?_|refine g_un rfl inferInstance (by kernel_rfl) ?_|apply g_st|apply g_skip|apply g_ct|apply g_cf|apply g_ret|refine r_1 rfl ?_|apply g_blk|apply g_eb|apply g_ex|apply e_t|apply e_h|refine e_o rfl ?_|apply r_t|apply r_b|apply g_cl|exact st_len'|exact st_lss' hc|exact st_indexAddr' hx|exact st_loadE'|exact st_add' hw|exact s4_rightU (by omega) hq|exact sc hE (c5_frac (by omega))|exact sc hE c5_one|exact s4_sub (by omega)|exact s4_cmp (by omega)|exact st_move'|exact st_assign'|exact st_load'|exact st_or_f'|exact st_or_t'|exact st_not' (b := true) (u := false) rfl|exact st_not' (b := false) (u := true) rfl|exact st_not' rfl|exact st_neq' (by first|assumption|rfl)|exact st_lss' (by first|assumption|rfl)|exact st_len'|exact st_indexAddr' (by assumption)|exact st_loadE'|exact Cv.rfl'|intro _
  refine g_stop fun a w h => ?_
  refine cw_loop (fun k a w => ∃ i : Nat, i + k = l.length ∧ (l.take i).all whq = true ∧ TS _ X [] [(3, .is (.int .i64 (i : Int))), (2, .is (.bool false)), (0, .rq K l)] 28 a w) l.length ⟨0, by omega, rfl, h.keep [3, 2, 0]⟩ ?_
  clear h
  rintro k a w ⟨i, hi, hall, h⟩
  by_cases hlt : i < l.length
  · obtain ⟨x, hx⟩ : ∃ x, l[i]? = some x := ⟨_, List.getElem?_eq_getElem hlt⟩
    have hc : decide ((i : Int) < (l.length : Int)) = true := decide_eq_true (by omega)
    have hw := i64_next hlt hmx
    cases hq : qrt x with
    | false =>
      have hr : l.all whq = false := all_false hx (by unfold whq; rw [hq]; rfl)
      refine g_of h ?_
      clear h
      repeat' first|kernel_rfl|apply g_seq|apply g_reg|apply g_nil|apply g_box|apply g_all|apply g_sto|apply g_asg|refine g_run rfl inferInstance (by first|exact st_indexAddr' hx|exact st_loadE'|exact sc hE (c5_frac (by omega))|exact sc hE c5_one|exact s4_sub (by omega)|exact s4_cmp (by omega)|exact st_move'|exact st_load'|exact st_neq' (by first|assumption|rfl)|exact st_indexAddr' (by assumption)|exact st_loadE') (by kernel_rfl) ?_|refine g_sk rfl inferInstance rfl (by kernel_rfl) ?_|refine g_un rfl inferInstance (by kernel_rfl) ?_|apply g_st|apply g_skip|apply g_ct|apply g_cf|apply g_ret|refine r_1 rfl ?_|apply g_blk|apply g_eb|apply g_ex|apply e_t|apply e_h|refine e_o rfl ?_|apply r_t|apply r_b|apply g_cl|exact st_len'|exact st_lss' hc|exact st_indexAddr' hx|exact st_loadE'|exact st_add' hw|exact s4_rightU (by omega) hq|exact sc hE (c5_frac (by omega))|exact sc hE c5_one|exact s4_sub (by omega)|exact s4_cmp (by omega)|exact st_move'|exact st_assign'|exact st_load'|exact st_or_f'|exact st_or_t'|exact st_not' (b := true) (u := false) rfl|exact st_not' (b := false) (u := true) rfl|exact st_not' rfl|exact st_neq' (by first|assumption|rfl)|exact st_lss' (by first|assumption|rfl)|exact st_len'|exact st_indexAddr' (by assumption)|exact st_loadE'|exact ⟨fun _ _=>(is_is (congrArg Value.bool hr.symm))⟩|exact Cv.rfl'|intro _
    | true =>
      have hwr := whq_ref hq
      cases hc1 : (cmpQ (fr (qv x)) (1 - 1) != 0) with
      | true =>
        have hr : l.all whq = false := all_false hx (by rw [hwr]; simpa [bne] using hc1)
        refine g_of h ?_
        clear h
        repeat' first|kernel_rfl|apply g_seq|apply g_reg|apply g_nil|apply g_box|apply g_all|apply g_sto|apply g_asg|refine g_run rfl inferInstance (by first|exact st_indexAddr' hx|exact st_loadE'|exact sc hE (c5_frac (by omega))|exact sc hE c5_one|exact s4_sub (by omega)|exact s4_cmp (by omega)|exact st_move'|exact st_load'|exact st_neq' (by first|assumption|rfl)|exact st_indexAddr' (by assumption)|exact st_loadE') (by kernel_rfl) ?_|refine g_sk rfl inferInstance rfl (by kernel_rfl) ?_|refine g_un rfl inferInstance (by kernel_rfl) ?_|apply g_st|apply g_skip|apply g_ct|apply g_cf|apply g_ret|refine r_1 rfl ?_|apply g_blk|apply g_eb|apply g_ex|apply e_t|apply e_h|refine e_o rfl ?_|apply r_t|apply r_b|apply g_cl|exact st_len'|exact st_lss' hc|exact st_indexAddr' hx|exact st_loadE'|exact st_add' hw|exact s4_rightU (by omega) hq|exact sc hE (c5_frac (by omega))|exact sc hE c5_one|exact s4_sub (by omega)|exact s4_cmp (by omega)|exact st_move'|exact st_assign'|exact st_load'|exact st_or_f'|exact st_or_t'|exact st_not' (b := true) (u := false) rfl|exact st_not' (b := false) (u := true) rfl|exact st_not' rfl|exact st_neq' (by first|assumption|rfl)|exact st_lss' (by first|assumption|rfl)|exact st_len'|exact st_indexAddr' (by assumption)|exact st_loadE'|exact ⟨fun _ _=>(is_is (congrArg Value.bool hr.symm))⟩|exact Cv.rfl'|intro _
      | false =>
        have hq2 : (l.take (i + 1)).all whq = true := all_take hx hall (by rw [hwr]; simpa [bne] using hc1)
        refine g_of h ?_
        clear h
        repeat' first|kernel_rfl|exact g_done fun _ _ h=>⟨k - 1, by omega, i + 1, by omega, hq2, h.keep [3, 2, 0]⟩|apply g_seq|apply g_reg|apply g_nil|apply g_box|apply g_all|apply g_sto|apply g_asg|refine g_run rfl inferInstance (by first|exact st_indexAddr' hx|exact st_loadE'|exact sc hE (c5_frac (by omega))|exact sc hE c5_one|exact s4_sub (by omega)|exact s4_cmp (by omega)|exact st_move'|exact st_load'|exact st_neq' (by first|assumption|rfl)|exact st_indexAddr' (by assumption)|exact st_loadE') (by kernel_rfl) ?_|refine g_sk rfl inferInstance rfl (by kernel_rfl) ?_|refine g_un rfl inferInstance (by kernel_rfl) ?_|apply g_st|apply g_skip|apply g_ct|apply g_cf|apply g_ret|refine r_1 rfl ?_|apply g_blk|apply g_eb|apply g_ex|apply e_t|apply e_h|refine e_o rfl ?_|apply r_t|apply r_b|apply g_cl|exact st_len'|exact st_lss' hc|exact st_indexAddr' hx|exact st_loadE'|exact st_add' hw|exact s4_rightU (by omega) hq|exact sc hE (c5_frac (by omega))|exact sc hE c5_one|exact s4_sub (by omega)|exact s4_cmp (by omega)|exact st_move'|exact st_assign'|exact st_load'|exact st_or_f'|exact st_or_t'|exact st_not' (b := true) (u := false) rfl|exact st_not' (b := false) (u := true) rfl|exact st_not' rfl|exact st_neq' (by first|assumption|rfl)|exact st_lss' (by first|assumption|rfl)|exact st_len'|exact st_indexAddr' (by assumption)|exact st_loadE'|exact Cv.rfl'|intro _
  · have hc : decide ((i : Int) < (l.length : Int)) = false := decide_eq_false (by omega)
    have hr : l.all whq = true := by rw [List.take_of_length_le (by omega)] at hall; exact hall
    refine g_of h ?_
    clear h
    repeat' first|kernel_rfl|apply g_seq|apply g_reg|apply g_nil|apply g_box|apply g_all|apply g_sto|apply g_asg|refine g_run rfl inferInstance (by first|exact st_indexAddr' hx|exact st_loadE'|exact sc hE (c5_frac (by omega))|exact sc hE c5_one|exact s4_sub (by omega)|exact s4_cmp (by omega)|exact st_move'|exact st_load'|exact st_neq' (by first|assumption|rfl)|exact st_indexAddr' (by assumption)|exact st_loadE') (by kernel_rfl) ?_|refine g_sk rfl inferInstance rfl (by kernel_rfl) ?_|refine g_un rfl inferInstance (by kernel_rfl) ?_|apply g_st|apply g_skip|apply g_ct|apply g_cf|apply g_ret|refine r_1 rfl ?_|apply g_blk|apply g_eb|apply g_ex|apply e_t|apply e_h|refine e_o rfl ?_|apply r_t|apply r_b|apply g_cl|exact st_len'|exact st_lss' hc|exact st_indexAddr' hx|exact st_loadE'|exact st_add' hw|exact s4_rightU (by omega) hq|exact sc hE (c5_frac (by omega))|exact sc hE c5_one|exact s4_sub (by omega)|exact s4_cmp (by omega)|exact st_move'|exact st_assign'|exact st_load'|exact st_or_f'|exact st_or_t'|exact st_not' (b := true) (u := false) rfl|exact st_not' (b := false) (u := true) rfl|exact st_not' rfl|exact st_neq' (by first|assumption|rfl)|exact st_lss' (by first|assumption|rfl)|exact st_len'|exact st_indexAddr' (by assumption)|exact st_loadE'|exact ⟨fun _ _=>(is_is (congrArg Value.bool hr.symm))⟩|exact Cv.rfl'|intro _
set_option maxRecDepth 20000 in
set_option maxHeartbeats 1000000 in
theorem num5_any {w : World} {B : Nat} {s : Bool} {A : Option Addr} {n c : Nat} {xs : List Int} (hs : Sl .u32 w B A n c xs) (hB : B ≤ w.heap.size) (hn : n ≤ 400000000) :
    Calls Tryz.prog 45 #[.agg #[.bool s, .slice A n c]] w (RefOf w s xs) := by
  obtain ⟨bR, bY, hlt, _⟩ := box_new2 (w := w.alloc (.cells #[.bool s, .slice A n c] 24)) (v0 := .bool false) (v1 := .slice none 0 0) (u0 := .bool s) (u1 := .slice none 0 0) (t := 29) (t2 := 29) (Below.refl _ _)
  have hb0 : Below w.heap.size w (((w.alloc (.cells #[.bool s, .slice A n c] 24)).alloc (.cells #[.bool false, .slice none 0 0] 29)).alloc (.cells #[.bool s, .slice none 0 0] 29)) :=
    (((Below.refl _ _).alloc (Nat.le_refl _) _).alloc (by rw [size_one]; omega) _).alloc (by rw [size_two]; omega) _
  rw [size_one] at bR bY hlt
  have HS := Lib.hid (hs.below hb0 hB)
  have BR := Lib.hid bR
  have BY := Lib.hid bY
  have B0 := Lib.hid hb0
  have HL := Lib.hid hlt
  have hlen := hs.len
  clear hs bR bY hb0 hlt
  go_enter Tryz.func45, Tryz.ntmps45
  go_wp2_with (at_builtin; (refine wpList_app elemU rfl _ _ rfl (Own.nil (k := .u32) (e := 38) (w := (((w.alloc (.cells #[.bool s, .slice A n c] 24)).alloc (.cells #[.bool false, .slice none 0 0] 29)).alloc (.cells #[.bool s, .slice none 0 0] 29))) (B := w.heap.size + 3)) rfl HS.out rfl (by omega) (by unfold maxLen; omega) (by have := HL.out; omega) ?_); intro A5 c5 w5 h5 hg; go_must (have hb5 := app_on hg; obtain ⟨p0, p1, p2, p3⟩ := Boxed.below BR.out hb5 (by have := HL.out; omega); obtain ⟨r0, r1, r2, r3⟩ := Boxed.below BY.out hb5 HL.out; have H5 := Lib.hid h5; have HB5 := Lib.hid (B0.out.trans (hb5.mono B0.out.size)); clear h5 hg hb5))
  have ho := H5.out
  rw [Nat.zero_add, List.nil_append] at ho
  have HO := Lib.hid ((((ho.box (r := w.heap.size + 1 + 1) (by omega) 1 (.slice A5 n c5)).box (r := w.heap.size + 1) (by omega) 0 (.bool s)).box (r := w.heap.size + 1) (by omega) 1 (.slice A5 n c5)).lower (show w.heap.size ≤ w.heap.size + 3 by omega))
  have HB := Lib.hid (((HB5.out.setCell (p := ⟨w.heap.size + 1 + 1, 1, none⟩) (by show w.heap.size ≤ w.heap.size + 1 + 1; omega) (.slice A5 n c5)).setCell (p := ⟨w.heap.size + 1, 0, none⟩) (Nat.le_succ _) (.bool s)).setCell (p := ⟨w.heap.size + 1, 1, none⟩) (Nat.le_succ _) (.slice A5 n c5))
  clear ho
  refine bodyPost_ret (v := .agg #[.bool s, .slice A5 n c5]) ?_ rfl ⟨A5, n, c5, rfl, HO.out, HB.out⟩
  simp only [results, Tryz.results45]
  go_simp
theorem l_num {x : RawI} {L : Nat} (hL : L ≤ 1000) : Ctr Tryz.prog Tab 45 [6] [.nx x L] (fun _ => .kn x L) :=
  ⟨fun _ _ => by kernel_rfl, fun _ h => h, fun {X w vs} hG hX ha => by
    obtain ⟨v, rfl, y, ⟨rfl, hl⟩, cs, rfl, hr⟩ := ha.one
    obtain ⟨A, n, c, rfl, hs, hd⟩ := num_rd.1 hr
    have hn := hs.1.len
    refine (num5_any (s := y.1) hs.1 (Nat.le_refl _) (by omega)).mono ?_
    rintro e w' ⟨A5, n5, c5, rfl, ho, hb⟩
    refine ⟨_, rfl, ⟨hl, [.bool y.1, .slice A5 n5 c5], rfl, num_rd.2 ⟨A5, n5, c5, rfl, ⟨ho.sl, fun hn b hb' => ?_⟩, hd⟩⟩, hb⟩
    obtain ⟨g1, g2⟩ := ho.blk_ b hb'
    obtain ⟨cur, hcur⟩ := ho.cellsAt hb'
    exact ⟨⟨g2, fun hx => by have := hX b hx; omega⟩, cur, _, _, hcur, by decide⟩⟩
instance {x : RawI} {L : Nat} : AsY (.kn x L) x L := ⟨fun h => by obtain ⟨y, ⟨e, h⟩, g⟩ := kx_ex h; exact ⟨y, ⟨e, by rw [← e]; exact h⟩, g⟩⟩
instance {x : RawI} {L : Nat} : AsN (.kn x L) (iv x) L := ⟨fun h => by obtain ⟨y, ⟨e, h⟩, g⟩ := kx_ex h; exact ⟨y, ⟨by rw [e], h⟩, g⟩⟩
instance {x : RawQ} {L : Nat} : AsX (.kq x L) x L := ⟨fun h => by obtain ⟨y, ⟨e, h⟩, g⟩ := kx_ex h; exact ⟨y, ⟨e, by rw [← e]; exact h⟩, g⟩⟩
instance {x : RawQ} {L : Nat} : AsQ (.kq x L) (qv x) L := ⟨fun h => by obtain ⟨y, ⟨e, h⟩, g⟩ := kx_ex h; exact ⟨y, ⟨by rw [e], h⟩, g⟩⟩
set_option maxRecDepth 20000 in
theorem sL_buildK5 {w00 : World} {N : Nat} {L : List Loc} {E : List (Nat × VTy)} {d : Nat} {t0 : TypeId} {pos : String} {af : Array Edge} {gd : Option (Nat × Bool)} {o0 o1 : Operand} {a b : RawI} {L0 : Nat} [h0 : OpC E o0 (.kn a L0)] [h1 : OpC E o1 (.kn b L0)] (hl : 0 < L0) : StepT Tryz.prog w00 N L E ⟨some d, .build 31 #[(0, o0), (1, o1)], t0, pos, af, gd⟩ (.kq (a, b) L0) := by
  constructor
  intro X ρ w hc _ hN hm hsl
  obtain ⟨a2, cs, e0, g0⟩ := h0.get (X := X) (w := w) hc fun p hp e => hsl p hp (by simp [Op.operands, e])
  obtain ⟨b2, ds, e1, g1⟩ := h1.get (X := X) (w := w) hc fun p hp e => hsl p hp (by simp [Op.operands, e])
  obtain ⟨A, n, c, rfl, _⟩ := num_rd.1 g0
  obtain ⟨A2, n2, c2, rfl, _⟩ := num_rd.1 g1
  have hT : (VTy.kq (a, b) L0).holds X w (.agg #[.bool a.1, .slice A n c, .bool b.1, .slice A2 n2 c2]) :=
    ⟨⟨a2, b2, hl⟩, [.bool a.1, .slice A n c] ++ [.bool b.1, .slice A2 n2 c2], rfl, _, _, rfl, g0, g1⟩
  have HT := Lib.hid hT
  clear hT hsl hm hc a2 b2 g0 g1 h0 h1
  unfold Yields
  go_simp
  exact ⟨HT.out, Below.refl _ _⟩
theorem sb_int64 {w00 : World} {N : Nat} {L : List Loc} {E : List (Nat × VTy)} {d : Nat} {t0 : TypeId} {pos : String} {af : Array Edge} {gd : Option (Nat × Bool)} {ats : Array TypeId} {o0 : Operand} {T0 : VTy} {M : Int} {L0 : Nat} [OpC E o0 T0] [a0 : AsN T0 M L0] (hE : Tab w00) (hM : -9223372036854775808 ≤ M ∧ M ≤ 9223372036854775807) (hL : L0 ≤ 1000) : StepT Tryz.prog w00 N L E ⟨some d, .call { callee := .value (.func 88), args := #[o0], argTypes := ats }, t0, pos, af, gd⟩ (.tup [.is (.int .i64 M), .is (.bool true)]) :=
  sc1 (fun _ _ => by kernel_rfl) fun X w v0 hX _ hB h0 => by
    obtain ⟨s, A, n, c, xs, rfl, s0, d0, e0, n0⟩ := na_open (a0.ok h0)
    have hE' := hE.below hB
    have := bint64_any (s := s) s0 (Nat.le_refl _) hE'.half hE'.hz d0 (by omega)
    rw [e0] at this
    refine this.mono ?_
    rintro e w' ⟨rfl, hb⟩
    have e1 : fits64 M = true := decide_eq_true hM
    have e2 : in64 M = M := by unfold in64; rw [e1]; rfl
    rw [e1, e2]
    exact ⟨_, rfl, ⟨[_, _], rfl, rfl, rfl, trivial⟩, hb⟩
set_option maxRecDepth 20000 in
set_option maxHeartbeats 4000000 in
theorem l_ref {x : RawQ} {L : Nat} (hL : L ≤ 1000) (h0 : 0 < L) : Ctr Tryz.prog Tab 9 [4] [.qx x L] (fun _ => .kq x L) := by
  refine ctr Tryz.func9 rfl Tryz.ntmps9 (by simp) (fun _ _ => by kernel_rfl) fun X w hE => ?_
  simp only [argE, Nat.zero_add, Nat.reduceAdd]
  repeat' first|kernel_rfl|apply g_seq|apply g_reg|apply g_nil|apply g_draw (id:=1) [] [] 7|apply o_all|apply o_go|exact OpsT.nil|exact GuardC.nil|exact UndefC.nil|apply g_box|apply g_all|apply g_sto|apply g_asg|apply g_st|apply g_skip|apply g_ct|apply g_cf|apply g_ret|refine r_1 rfl ?_|apply g_cl|exact sc hE (l_num (by omega))|exact sL_buildK5 h0|exact st_load'|exact st_fieldAddr'|exact st_loadE'|exact Cv.rfl'|(intro _;simp only[newX,newL,ptrs,List.map,List.cons_append,List.nil_append])|intro _
set_option maxRecDepth 20000 in
set_option maxHeartbeats 4000000 in
theorem l_few {x : RawQ} {m : Int} : Ctr Tryz.prog Tab 7 [7, 0] [.qz x, .is (.int .i64 m)] (fun _ => .is (.bool (decide ((x.1.2.length : Int) ≤ m) && decide ((x.2.2.length : Int) ≤ m)))) := by
  cases e1 : decide ((x.1.2.length : Int) ≤ m) with
  | false =>
    have e : (false && decide ((x.2.2.length : Int) ≤ m)) = false := rfl
    refine ctr Tryz.func7 rfl Tryz.ntmps7 (by simp) (fun _ _ => by kernel_rfl) fun X w hE => ?_
    simp only [argE, Nat.zero_add, Nat.reduceAdd]
    repeat' first|kernel_rfl|apply g_seq|apply g_reg|apply g_nil|apply g_box|apply g_all|apply g_sto|apply g_asg|refine g_run rfl inferInstance (by first|exact st_lenL|exact st_move'|exact st_load'|exact st_fieldAddr'|exact st_leq' (by first|assumption|rfl)|exact st_len'|exact st_loadE') (by kernel_rfl) ?_|refine g_sk rfl inferInstance rfl (by kernel_rfl) ?_|refine g_un rfl inferInstance (by kernel_rfl) ?_|apply g_st|apply g_skip|apply g_ct|apply g_cf|apply g_ret|refine r_1 rfl ?_|apply g_cl|exact st_lenL|exact st_move'|exact st_assign'|exact st_load'|exact st_fieldAddr'|exact st_and_t'|exact st_and_f'|exact st_leq' (by first|assumption|rfl)|exact st_len'|exact st_loadE'|exact ⟨fun _ _=>is_is (congrArg Value.bool e.symm)⟩|exact Cv.rfl'|intro _
  | true =>
    have e : (true && decide ((x.2.2.length : Int) ≤ m)) = decide ((x.2.2.length : Int) ≤ m) := rfl
    refine ctr Tryz.func7 rfl Tryz.ntmps7 (by simp) (fun _ _ => by kernel_rfl) fun X w hE => ?_
    simp only [argE, Nat.zero_add, Nat.reduceAdd]
    repeat' first|kernel_rfl|apply g_seq|apply g_reg|apply g_nil|apply g_box|apply g_all|apply g_sto|apply g_asg|refine g_run rfl inferInstance (by first|exact st_lenL|exact st_move'|exact st_load'|exact st_fieldAddr'|exact st_leq' (by first|assumption|rfl)|exact st_len'|exact st_loadE') (by kernel_rfl) ?_|refine g_sk rfl inferInstance rfl (by kernel_rfl) ?_|refine g_un rfl inferInstance (by kernel_rfl) ?_|apply g_st|apply g_skip|apply g_ct|apply g_cf|apply g_ret|refine r_1 rfl ?_|apply g_cl|exact st_lenL|exact st_move'|exact st_assign'|exact st_load'|exact st_fieldAddr'|exact st_and_t'|exact st_and_f'|exact st_leq' (by first|assumption|rfl)|exact st_len'|exact st_loadE'|exact ⟨fun _ _=>is_is (congrArg Value.bool e.symm)⟩|exact Cv.rfl'|intro _
theorem l_fewT {x : RawQ} {m : Int} {u : Bool} (hu : (decide ((x.1.2.length : Int) ≤ m) && decide ((x.2.2.length : Int) ≤ m)) = u) : Ctr Tryz.prog Tab 7 [7, 0] [.qz x, .is (.int .i64 m)] (fun _ => .is (.bool u)) := by rw [← hu]; exact l_few
set_option maxRecDepth 20000 in
set_option maxHeartbeats 4000000 in
theorem l_of {n d : Int} (hn : -9223372036854775808 ≤ n ∧ n ≤ 9223372036854775807) (hd : -9223372036854775808 ≤ d ∧ d ≤ 9223372036854775807) (h0 : d ≠ 0) : Ctr Tryz.prog Tab 37 [0, 0] [.is (.int .i64 n), .is (.int .i64 d)] (fun _ => .qc (Rat.divInt n d) 2) := by
  refine ctr Tryz.func37 rfl Tryz.ntmps37 (by simp) (fun _ _ => by kernel_rfl) fun X w hE => ?_
  simp only [argE, Nat.zero_add, Nat.reduceAdd]
  repeat' first|kernel_rfl|apply g_seq|apply g_reg|apply g_nil|apply g_box|apply g_all|apply g_sto|apply g_asg|apply g_st|apply g_skip|apply g_ct|apply g_cf|apply g_ret|refine r_1 rfl ?_|apply g_cl|exact si_of hE hn hd h0|exact st_move'|exact st_assign'|exact st_load'|exact st_extract'|exact st_loadE'|exact ⟨fun _ _=>fun _ g => nw_ex g⟩|exact Cv.rfl'|intro _
set_option maxRecDepth 20000 in
set_option maxHeartbeats 4000000 in
theorem l_whole {M k : Int} {L : Nat} (hL : L ≤ 1000) (hk : -9223372036854775808 ≤ k ∧ k ≤ 9223372036854775807) (he : M = k) : Ctr Tryz.prog Tab 44 [2, 0] [.na M L, .is (.int .i64 k)] (fun _ => .is (.bool true)) := by
  subst he
  have hc : (M == M) = true := by simp
  refine ctr Tryz.func44 rfl Tryz.ntmps44 (by simp) (fun _ _ => by kernel_rfl) fun X w hE => ?_
  simp only [argE, Nat.zero_add, Nat.reduceAdd]
  repeat' first|kernel_rfl|apply g_seq|apply g_reg|apply g_nil|apply g_box|apply g_all|apply g_sto|apply g_asg|refine g_run rfl inferInstance (by first|exact st_move'|exact st_eq' (by first|assumption|rfl)) (by kernel_rfl) ?_|refine g_sk rfl inferInstance rfl (by kernel_rfl) ?_|refine g_un rfl inferInstance (by kernel_rfl) ?_|apply g_st|apply g_skip|apply g_ct|apply g_cf|apply g_ret|refine r_1 rfl ?_|apply g_cl|exact sb_int64 hE hk hL|exact st_move'|exact st_assign'|exact st_load'|exact st_extract'|exact st_and_t'|exact st_and_f'|exact st_eq' (by first|assumption|rfl)|exact st_loadE'|exact Cv.rfl'|intro _
set_option maxRecDepth 20000 in
set_option maxHeartbeats 4000000 in
theorem l_sameX {M : Int} {x : RawI} {L K : Nat} (hL : L ≤ 1000 ∧ K ≤ 1000) (hw : Whole M x.1 x.2) : Ctr Tryz.prog Tab 20 [6, 5] [.nx x L, .nc M K] (fun _ => .is (.bool true)) := by
  have hr := hw.right
  have hv : iv x = M := hw.val
  have hc : (cmpI (iv x) M == 0) = true := by rw [hv, beq_iff_eq, cmpI_zero]
  refine ctr Tryz.func20 rfl Tryz.ntmps20 (by simp) (fun _ _ => by kernel_rfl) fun X w hE => ?_
  simp only [argE, Nat.zero_add, Nat.reduceAdd]
  repeat' first|kernel_rfl|apply g_seq|apply g_reg|apply g_nil|apply g_draw (id:=1) [(7, true)] [] 9|apply o_all|apply o_go|exact OpsT.nil|exact GuardC.nil|exact UndefC.nil|refine @GuardC.cons _ _ _ _ inferInstance ?_|refine @UndefC.cons _ _ _ inferInstance ?_|apply g_box|apply g_all|apply g_sto|apply g_asg|refine g_run rfl inferInstance (by first|fail) (by kernel_rfl) ?_|refine g_sk rfl inferInstance rfl (by kernel_rfl) ?_|refine g_un rfl inferInstance (by kernel_rfl) ?_|apply g_st|apply g_skip|apply g_ct|apply g_cf|apply g_ret|refine r_1 rfl ?_|apply g_cl|exact sb_right hr|exact sc hE (l_num (by omega))|exact s3_cmp (by omega)|exact st_move'|exact st_assign'|exact st_load'|exact st_and_t'|exact st_and_f'|exact st_eq' (by first|assumption|rfl)|exact st_loadE'|exact Cv.rfl'|(intro _;simp only[newX,newL,ptrs,List.map,List.cons_append,List.nil_append])|intro _
theorem l_same {M : Int} {L K : Nat} (hL : L ≤ 1000 ∧ K ≤ 1000) : Ctr Tryz.prog Tab 20 [5, 5] [.nc M L, .nc M K] (fun _ => .is (.bool true)) :=
  ⟨fun _ _ => by kernel_rfl, fun _ h => h, fun {X w vs} hG hX ha => by
    obtain ⟨v, u, rfl, ⟨x, ⟨hw, hl⟩, g⟩, h2⟩ := ha.two
    exact (l_sameX hL hw).run hG hX (vs := [v, u]) ⟨⟨x, ⟨rfl, hw.len hl⟩, g⟩, h2, trivial⟩⟩
set_option maxRecDepth 20000 in
set_option maxHeartbeats 4000000 in
theorem l_isX {q : Rat} {x : RawQ} {L K : Nat} (hL : L ≤ 90 ∧ K ≤ 90) (h0 : 0 < L) (hf : Frac q x) : Ctr Tryz.prog Tab 21 [4, 3] [.qx x L, .qc q K] (fun _ => .is (.bool true)) := by
  have hq := hf.right
  have hc : (cmpQ (qv x) q == 0) = true := cmpQ_eq hf.val
  refine ctr Tryz.func21 rfl Tryz.ntmps21 (by simp) (fun _ _ => by kernel_rfl) fun X w hE => ?_
  simp only [argE, Nat.zero_add, Nat.reduceAdd]
  repeat' first|kernel_rfl|apply g_seq|apply g_reg|apply g_nil|apply g_draw (id:=1) [(7, true)] [] 9|apply o_all|apply o_go|exact OpsT.nil|exact GuardC.nil|exact UndefC.nil|refine @GuardC.cons _ _ _ _ inferInstance ?_|refine @UndefC.cons _ _ _ inferInstance ?_|apply g_box|apply g_all|apply g_sto|apply g_asg|refine g_run rfl inferInstance (by first|fail) (by kernel_rfl) ?_|refine g_sk rfl inferInstance rfl (by kernel_rfl) ?_|refine g_un rfl inferInstance (by kernel_rfl) ?_|apply g_st|apply g_skip|apply g_ct|apply g_cf|apply g_ret|refine r_1 rfl ?_|apply g_cl|exact si_rightX hE (by omega) hq|exact sc hE (l_ref (by omega) h0)|exact s4_cmp (by omega)|exact st_move'|exact st_assign'|exact st_load'|exact st_and_t'|exact st_and_f'|exact st_eq' (by first|assumption|rfl)|exact st_loadE'|exact Cv.rfl'|(intro _;simp only[newX,newL,ptrs,List.map,List.cons_append,List.nil_append])|intro _
theorem l_is {q : Rat} {L K : Nat} (hL : L ≤ 90 ∧ K ≤ 90) : Ctr Tryz.prog Tab 21 [3, 3] [.qc q L, .qc q K] (fun _ => .is (.bool true)) :=
  ⟨fun _ _ => by kernel_rfl, fun _ h => h, fun {X w vs} hG hX ha => by
    obtain ⟨v, u, rfl, ⟨x, ⟨hf, hl⟩, g⟩, h2⟩ := ha.two
    exact (l_isX hL hl.pos hf).run hG hX (vs := [v, u]) ⟨⟨x, ⟨rfl, (hf.len hl).1, (hf.len hl).2, hl.pos⟩, g⟩, h2, trivial⟩⟩
set_option synthInstance.maxSize 4000 in
set_option synthInstance.maxHeartbeats 400000 in
set_option maxRecDepth 20000 in
set_option maxHeartbeats 4000000 in
theorem l_works : Ctr Tryz.prog Tab 8 [] [] (fun _ => .is (.bool true)) := by
  refine ctr Tryz.func8 rfl Tryz.ntmps8 (by simp) (fun _ _ => by kernel_rfl) fun X w hE => ?_
  simp only [argE, Nat.zero_add, Nat.reduceAdd]
  repeat' first|kernel_rfl|apply g_seq|apply g_reg|apply g_nil|apply g_box|apply g_all|apply g_sto|apply g_asg|refine g_run rfl inferInstance (by first|exact sc hE (l_of (by decide) (by decide) (by decide))|exact sc hE (l_whole (by omega) (by decide) (by decide +kernel))|exact sc hE (c_floor (by omega))|exact sc hE (c_ceil (by omega))|exact sc hE (c_trunc (by omega))|exact sc hE (c_half (by omega))|exact sc hE (c_cents (by omega))|exact sc hE (c_frac (by omega))|exact sc hE (c_fromcents (by omega))|exact sr_sameU (u := true) hE (by omega) (by decide +kernel)|exact sbn_of (by omega)|exact sc hE (c_places (n := 3) (by omega) (by omega))|exact sc hE (c_placesA (by omega) (by decide))|exact st_move'|exact st_load'|exact st_eq' (by first|assumption|rfl)|exact st_loadE') (by kernel_rfl) ?_|refine g_sk rfl inferInstance rfl (by kernel_rfl) ?_|refine g_un rfl inferInstance (by kernel_rfl) ?_|apply g_st|apply g_skip|apply g_ct|apply g_cf|apply g_ret|refine r_1 rfl ?_|apply g_cl|exact sc hE (l_of (by decide) (by decide) (by decide))|exact sc hE (l_whole (by omega) (by decide) (by decide +kernel))|exact sc hE (c_floor (by omega))|exact sc hE (c_ceil (by omega))|exact sc hE (c_trunc (by omega))|exact sc hE (c_half (by omega))|exact sc hE (c_cents (by omega))|exact sc hE (c_frac (by omega))|exact sc hE (c_fromcents (by omega))|exact sr_sameU (u := true) hE (by omega) (by decide +kernel)|exact sbn_of (by omega)|exact sc hE (c_places (n := 3) (by omega) (by omega))|exact sc hE (c_placesA (by omega) (by decide))|exact st_move'|exact st_assign'|exact st_load'|exact st_extract'|exact st_and_t'|exact st_and_f'|exact st_eq' (by first|assumption|rfl)|exact st_loadE'|exact Cv.rfl'|intro _
section
variable {w00 : World} {N : Nat} {L : List Loc} {E : List (Nat × VTy)} {d : Nat} {t0 : TypeId} {pos : String} {af : Array Edge} {gd : Option (Nat × Bool)} {ats : Array TypeId}
set_option maxRecDepth 20000 in
theorem sR_oneQ {o0 : Operand} {T0 : VTy} {q : Rat} {L0 : Nat} [h0 : OpC E o0 T0] [a0 : AsQ T0 q L0] : StepT Tryz.prog w00 N L E ⟨some d, .buildSlice 48 1 #[(0, o0)], t0, pos, af, gd⟩ (.rv [q] L0) := by
  constructor
  intro X ρ w hc _ hN hm hsl
  have g := a0.ok (h0.get (X := X) (w := w) hc fun p hp e => hsl p hp (by simp [Op.operands, e]))
  obtain ⟨x, A, n, c, A2, n2, c2, e0, rfl, f0, g0⟩ := ra_cells g (Nat.le_refl L0)
  have hR := rv_new (X := X) (w := w) (T := 26) (L := L0) hm.far [(x, [.bool x.1.1, .slice A n c, .bool x.2.1, .slice A2 n2 c2])] (by
    intro p hp
    rw [List.mem_singleton.1 hp]; exact ⟨f0, g0⟩) (by simp)
  have HR := Lib.hid hR
  clear hR hsl hm hc f0 g0 h0 a0 g
  unfold Yields
  go_simp
  exact ⟨⟨[x], rfl, HR.out⟩, (Below.refl _ _).alloc (Nat.le_refl _) _⟩
set_option maxRecDepth 20000 in
theorem sR_oneX {o0 : Operand} {T0 : VTy} {x : RawQ} {L0 : Nat} [h0 : OpC E o0 T0] [a0 : AsX T0 x L0] : StepT Tryz.prog w00 N L E ⟨some d, .buildSlice 48 1 #[(0, o0)], t0, pos, af, gd⟩ (.rq L0 [x]) := by
  constructor
  intro X ρ w hc _ hN hm hsl
  have g := a0.ok (h0.get (X := X) (w := w) hc fun p hp e => hsl p hp (by simp [Op.operands, e]))
  obtain ⟨y, ⟨rfl, f0⟩, cs, e, g0⟩ := g
  obtain ⟨c1, c2, rfl, r1, r2⟩ := frac_rd.1 g0
  obtain ⟨A, n, c, rfl, _⟩ := num_rd.1 r1
  obtain ⟨A2, n2, c2, rfl, _⟩ := num_rd.1 r2
  obtain ⟨x, hx⟩ : ∃ x, x = y := ⟨_, rfl⟩
  subst hx
  have e0 : ρ o0 = .agg #[.bool x.1.1, .slice A n c, .bool x.2.1, .slice A2 n2 c2] := e
  have hR := rv_new (X := X) (w := w) (T := 26) (L := L0) hm.far [(x, [.bool x.1.1, .slice A n c, .bool x.2.1, .slice A2 n2 c2])] (by
    intro p hp
    rw [List.mem_singleton.1 hp]; exact ⟨f0, g0⟩) (by simp)
  have HR := Lib.hid hR
  clear hR hsl hm hc f0 g0 h0 a0
  unfold Yields
  go_simp
  exact ⟨HR.out, (Below.refl _ _).alloc (Nat.le_refl _) _⟩
set_option maxRecDepth 20000 in
theorem sQ_oneX {o0 : Operand} {T0 : VTy} {x : RawQ} {L0 : Nat} [h0 : OpC E o0 T0] [a0 : AsX T0 x L0] : StepT Tryz.prog w00 N L E ⟨some d, .buildSlice 46 1 #[(0, o0)], t0, pos, af, gd⟩ (.rq L0 [x]) := by
  constructor
  intro X ρ w hc _ hN hm hsl
  have g := a0.ok (h0.get (X := X) (w := w) hc fun p hp e => hsl p hp (by simp [Op.operands, e]))
  obtain ⟨y, ⟨rfl, f0⟩, cs, e, g0⟩ := g
  obtain ⟨c1, c2, rfl, r1, r2⟩ := frac_rd.1 g0
  obtain ⟨A, n, c, rfl, _⟩ := num_rd.1 r1
  obtain ⟨A2, n2, c2, rfl, _⟩ := num_rd.1 r2
  obtain ⟨x, hx⟩ : ∃ x, x = y := ⟨_, rfl⟩
  subst hx
  have e0 : ρ o0 = .agg #[.bool x.1.1, .slice A n c, .bool x.2.1, .slice A2 n2 c2] := e
  have hR := rv_new (X := X) (w := w) (T := 31) (L := L0) hm.far [(x, [.bool x.1.1, .slice A n c, .bool x.2.1, .slice A2 n2 c2])] (by
    intro p hp
    rw [List.mem_singleton.1 hp]; exact ⟨f0, g0⟩) (by simp)
  have HR := Lib.hid hR
  clear hR hsl hm hc f0 g0 h0 a0
  unfold Yields
  go_simp
  exact ⟨HR.out, (Below.refl _ _).alloc (Nat.le_refl _) _⟩
set_option maxRecDepth 20000 in
theorem st_eqB' {o0 o1 : Operand} {x y : Bool} {t1 : TypeId} {u : Bool} [h0 : OpC E o0 (.is (.bool x))] [h1 : OpC E o1 (.is (.bool y))] (hu : (x == y) = u) : StepT Tryz.prog w00 N L E ⟨some d, .binOp .eql 4 o0 o1 t1, t0, pos, af, gd⟩ (.is (.bool u)) := by
  constructor
  intro X ρ w hc _ hN hm hsl
  have e0 : ρ o0 = .bool x := h0.get (X := X) (w := w) hc fun p hp e => hsl p hp (by simp [Op.operands, e])
  have e1 : ρ o1 = .bool y := h1.get (X := X) (w := w) hc fun p hp e => hsl p hp (by simp [Op.operands, e])
  clear hc hsl h0 h1
  unfold Yields
  have hb := Tryz.underlying4
  subst hu
  cases x <;> cases y <;> go_simp <;> exact ⟨rfl, Below.refl _ _⟩
end
/-- One variable is seen closer. -/
theorem TS.openL {w00 w : World} {X : List Nat} {L : List Loc} {E : List (Nat × VTy)} {n : Nat} {a : Act} {r : Nat} {T : VTy} (h : TS w00 X L E n a w) (hL : (r, T) ∈ L) : ∃ v, T.holds X w v ∧ ∀ {T' : VTy} {L' : List Loc}, T'.holds X w v → UpdL L r T T' L' → TS w00 X L' E n a w := by
  obtain ⟨g1, g2, v, ty, g3, g4⟩ := h.mem.loc _ hL
  refine ⟨v, g3, fun {T' L'} hT' hu => ⟨h.size, h.df, h.slots, ⟨fun p hp => ?_, h.mem.far, by rw [hu.map]; exact h.mem.nodup, h.mem.below⟩⟩⟩
  rcases hu.of h.mem.nodup p hp with rfl | ⟨hp, _⟩
  · exact ⟨g1, g2, v, ty, hT', g4⟩
  · exact h.mem.loc p hp
end Go.Proofs.YtngfkjlpgodfhaaGreatDoor
