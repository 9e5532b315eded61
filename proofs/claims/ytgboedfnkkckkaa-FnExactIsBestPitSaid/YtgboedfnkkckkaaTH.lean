/-
Contracts: BestValue and IsBestPit, in the program and in the model.
Contracts: IsBestPit, in the program and in the model.
-/
import Derived.Test.YtgboedfnkkckkaaTD
namespace Go.Proofs.Ytgboedfnkkckkaa
open Go.RowKit
set_option linter.unusedVariables false

theorem bpL_ris (xss : List (List Int)) (vs : List Int) : risB (xss.length : Int) (bpL xss vs) = true := sel_risB _ rfl
theorem bpL_short (xss : List (List Int)) (vs : List Int) (h : arcB xss = true) : (bpL xss vs).length ≤ 120 := by
  have h1 := arc_len h
  have h2 := sel_len (fun i => lcP (xss.length + 2) (pN xss vs xss.length) (pE xss vs xss.length) (i + 1)) xss.length
  unfold bpL
  omega
/-- The value of a best pit. -/
noncomputable def bvV (xss : List (List Int)) (vs : List Int) : Int := sumN (valF vs (bpL xss vs)) (bpL xss vs).length
noncomputable def bvA (xss : List (List Int)) (vs : List Int) : Int := if pgB xss vs then bvV xss vs else 0
theorem sumv_at_pg {xss : List (List Int)} {vs bs : List Int} (h : pgB xss vs = true) : sumvB vs bs = risB (xss.length : Int) bs := by
  have hv := (pg_true h).2
  have e := (val_yes hv).1
  unfold sumvB
  rw [e, hv]
  rfl

set_option maxHeartbeats 1000000 in
theorem c_BestValueS (xss : List (List Int)) (vs : List Int) (v u : Value) (w : World) (hs : ShortL xss) (hl : vs.length ≤ 4000000) (h : SeenL w v xss) (hu : Seen w u vs) :
    Calls Try.prog 48 #[v, u] w fun e w' => e = .returned (.tuple #[.int .i64 (bvA xss vs), .bool (pgB xss vs)]) ∧ Below w.heap.size w w' := by
  have C0 := Lib.hid (c_paGood xss vs v u w hs hl h hu)
  have HS := Lib.hid h
  have HU := Lib.hid hu
  obtain ⟨A, c, rfl, hm⟩ := h.shape
  obtain ⟨A2, c2, rfl⟩ := hu.shape
  unfold bvA
  clear h hu hs
  cases hp : pgB xss vs
  · rw [hp] at C0
    rw [if_neg (by simp)]
    clear hp
    go_enter Try.func48, Try.ntmps48
    go_wp2_with fail
    refine C0.out.mono ?_
    rintro e w1 ⟨rfl, rfl⟩
    go_wp2
    go_ret2
    exact ⟨rfl, Below.refl _ _⟩
  · rw [hp] at C0
    have C1 := Lib.hid (c_paFind xss vs _ _ w (PitOk.of hp) HS.out HU.out)
    have HV := Lib.hid (pg_true hp).2
    have HR := Lib.hid (bpL_ris xss vs)
    have hbl := bpL_short xss vs (pg_true hp).1
    rw [if_pos rfl]
    clear hp
    have HX : Hid (bvV xss vs = sumN (valF vs (bpL xss vs)) (bpL xss vs).length) := rfl
    generalize bvV xss vs = x at *
    generalize bpL xss vs = X at *
    go_enter Try.func48, Try.ntmps48
    go_wp2_with fail
    refine C0.out.mono ?_
    rintro e w1 ⟨rfl, rfl⟩
    go_wp2_with fail
    refine C1.out.mono ?_
    rintro e w1 ⟨v1, rfl, hr, hb⟩
    have CA := Lib.hid (c_vaSum vs _ X v1 (xss.length : Int) w1 hl (by omega) (HU.out.below hb) hr.seen HV.out HR.out)
    rw [← HX.out] at CA
    have HB := Lib.hid hb
    obtain ⟨A3, c3, rfl⟩ := hr.shape
    clear hr hb
    go_wp2_with fail
    refine CA.out.mono ?_
    rintro e w2 ⟨rfl, rfl⟩
    go_wp2
    go_ret2
    exact ⟨rfl, HB.out⟩

set_option maxHeartbeats 1000000 in
theorem c_BestValue (xss : List (List Int)) (vs : List Int) (v u : Value) (w : World) (hs : ShortL xss) (hl : vs.length ≤ 4000000) (h : SeenL w v xss) (hu : Seen w u vs) :
    Calls Try.prog 49 #[v, u] w fun e w' => e = .returned (.tuple #[.int .i64 (bvA xss vs), .bool (pgB xss vs)]) ∧ Below w.heap.size w w' := by
  have C0 := Lib.hid (c_BestPit xss vs v u w hs hl h hu)
  have HU := Lib.hid hu
  obtain ⟨A, c, rfl, hm⟩ := h.shape
  obtain ⟨A2, c2, rfl⟩ := hu.shape
  unfold bvA
  clear h hu hs
  cases hp : pgB xss vs
  · rw [hp] at C0
    rw [if_neg (by simp)]
    clear hp
    generalize bpA xss vs = X at *
    go_enter Try.func49, Try.ntmps49
    go_wp2_with fail
    refine C0.out.mono ?_
    rintro e w1 ⟨v1, rfl, hr, hb⟩
    have HB := Lib.hid hb
    obtain ⟨A3, c3, rfl⟩ := hr.shape
    clear hr hb
    go_wp2
    go_ret2
    exact ⟨rfl, HB.out⟩
  · rw [hp] at C0
    have HA : bpA xss vs = bpL xss vs := by unfold bpA; rw [hp]; rfl
    rw [HA] at C0
    have HS9 : Hid (sumvB vs (bpL xss vs) = true) := (sumv_at_pg hp).trans (bpL_ris xss vs)
    have HX : Hid (sumvV vs (bpL xss vs) = bvV xss vs) := by show _ = _; unfold sumvV; rw [HS9.out]; rfl
    have hbl := bpL_short xss vs (pg_true hp).1
    rw [if_pos rfl]
    clear hp HA
    generalize bvV xss vs = x at *
    generalize bpL xss vs = X at *
    go_enter Try.func49, Try.ntmps49
    go_wp2_with fail
    refine C0.out.mono ?_
    rintro e w1 ⟨v1, rfl, hr, hb⟩
    have CA := Lib.hid (c_SumOfValues vs _ X v1 w1 hl (by omega) (HU.out.below hb) hr.seen)
    rw [HX.out, HS9.out] at CA
    have HB := Lib.hid hb
    obtain ⟨A3, c3, rfl⟩ := hr.shape
    clear hr hb
    go_wp2_with fail
    refine CA.out.mono ?_
    rintro e w2 ⟨rfl, hb⟩
    have HB2 : Hid (Below w.heap.size w w2) := HB.out.trans (hb.mono HB.out.size)
    clear hb
    go_wp2
    go_ret2
    exact ⟨rfl, HB2.out⟩
end Go.Proofs.Ytgboedfnkkckkaa

namespace Go.Proofs.Ytgboedfnkkckkaa
open Go.RowKit
set_option linter.unusedVariables false

theorem beq_dec (x y : Int) : (y == x) = decide (y = x) := by
  by_cases h : y = x
  · subst h; simp
  · rw [decide_eq_false h, beq_eq_false_iff_ne.2 h]
noncomputable def ibA (xss : List (List Int)) (vs bs : List Int) : Bool := if ptB xss vs bs then decide (sumN (valF vs bs) bs.length = bvV xss vs) else false

set_option maxHeartbeats 1000000 in
theorem c_IsBestPitS (xss : List (List Int)) (vs bs : List Int) (v u t : Value) (w : World) (hs : ShortL xss) (hl : vs.length ≤ 4000000) (hl2 : bs.length ≤ 4000000) (h : SeenL w v xss) (hu : Seen w u vs) (ht : Seen w t bs) :
    Calls Try.prog 54 #[v, u, t] w fun e w' => e = .returned (.tuple #[.bool (ibA xss vs bs), .bool (ptB xss vs bs)]) ∧ Below w.heap.size w w' := by
  have C0 := Lib.hid (c_paPit xss vs bs v u t w hs hl hl2 h hu ht)
  have HS := Lib.hid h
  have HU := Lib.hid hu
  have HT := Lib.hid ht
  obtain ⟨A, c, rfl, hm⟩ := h.shape
  obtain ⟨A2, c2, rfl⟩ := hu.shape
  obtain ⟨A3, c3, rfl⟩ := ht.shape
  unfold ibA
  clear h hu ht hs
  cases hp : ptB xss vs bs
  · rw [hp] at C0
    rw [if_neg (by simp)]
    clear hp
    go_enter Try.func54, Try.ntmps54
    go_wp2_with fail
    refine C0.out.mono ?_
    rintro e w1 ⟨rfl, hb⟩
    have HB := Lib.hid hb
    clear hb
    go_wp2
    go_ret2
    exact ⟨rfl, HB.out⟩
  · rw [hp] at C0
    obtain ⟨hg, ha, hv, hr, _⟩ := pt_true hp
    have HG := Lib.hid (PitOk.of hg)
    have HV := Lib.hid hv
    have HR := Lib.hid hr
    have HR2 := Lib.hid (bpL_ris xss vs)
    have hbl := bpL_short xss vs ha
    rw [if_pos rfl]
    have HX : Hid (bvV xss vs = sumN (valF vs (bpL xss vs)) (bpL xss vs).length) := rfl
    obtain ⟨y, hy⟩ : ∃ y, y = sumN (valF vs bs) bs.length := ⟨_, rfl⟩
    rw [← hy]
    have HY := Lib.hid hy
    clear hp hg ha hv hr hy
    have CF : Hid (∀ w1 : World, Below w.heap.size w w1 → Calls Try.prog 81 #[.slice A xss.length c, .slice A2 vs.length c2] w1 (GivesRow w1 (bpL xss vs))) := fun w1 hb => c_paFind xss vs _ _ w1 HG.out (HS.out.below hb) (HU.out.below hb)
    generalize bvV xss vs = x at *
    generalize bpL xss vs = X at *
    go_enter Try.func54, Try.ntmps54
    go_wp2_with fail
    refine C0.out.mono ?_
    rintro e w1 ⟨rfl, hb⟩
    have HB := Lib.hid hb
    have CB := Lib.hid (c_vaSum vs _ bs _ (xss.length : Int) w1 hl hl2 (HU.out.below hb) (HT.out.below hb) HV.out HR.out)
    rw [← HY.out] at CB
    clear hb
    go_wp2_with fail
    refine CB.out.mono ?_
    rintro e w2 ⟨rfl, rfl⟩
    go_wp2_with fail
    refine (CF.out _ HB.out).mono ?_
    rintro e w2 ⟨v2, rfl, hr, hb⟩
    have HB2 : Hid (Below w.heap.size w w2) := HB.out.trans (hb.mono HB.out.size)
    have CA := Lib.hid (c_vaSum vs _ X v2 (xss.length : Int) w2 hl (by omega) (HU.out.below HB2.out) hr.seen HV.out HR2.out)
    rw [← HX.out] at CA
    obtain ⟨A4, c4, rfl⟩ := hr.shape
    clear hr hb
    go_wp2_with fail
    refine CA.out.mono ?_
    rintro e w3 ⟨rfl, rfl⟩
    go_wp2
    go_ret2
    exact ⟨by simp; exact beq_dec _ _, HB2.out⟩

set_option maxHeartbeats 1000000 in
theorem c_IsBestPit (xss : List (List Int)) (vs bs : List Int) (v u t : Value) (w : World) (hs : ShortL xss) (hl : vs.length ≤ 4000000) (hl2 : bs.length ≤ 4000000) (h : SeenL w v xss) (hu : Seen w u vs) (ht : Seen w t bs) :
    Calls Try.prog 55 #[v, u, t] w fun e w' => e = .returned (.tuple #[.bool (ibA xss vs bs), .bool (ptB xss vs bs)]) ∧ Below w.heap.size w w' := by
  have C0 := Lib.hid (c_BestValue xss vs v u w hs hl h hu)
  have CI : Hid (∀ w1 : World, Below w.heap.size w w1 → Calls Try.prog 94 #[v, t] w1 fun e w' => e = .returned (.bool (gB xss bs)) ∧ Below w1.heap.size w1 w') := fun w1 hb => c_isClosed xss bs v t w1 hs hl2 (h.below hb) (ht.below hb)
  have CS : Hid (∀ w1 : World, Below w.heap.size w w1 → Calls Try.prog 87 #[u, t] w1 fun e w' => e = .returned (.tuple #[.int .i64 (sumvV vs bs), .bool (sumvB vs bs)]) ∧ Below w1.heap.size w1 w') := fun w1 hb => c_SumOfValues vs u bs t w1 hl hl2 (hu.below hb) (ht.below hb)
  obtain ⟨A, c, rfl, hm⟩ := h.shape
  obtain ⟨A2, c2, rfl⟩ := hu.shape
  obtain ⟨A3, c3, rfl⟩ := ht.shape
  unfold ibA
  clear h hu ht hs
  cases hg : pgB xss vs
  · have hp : ptB xss vs bs = false := by unfold ptB; rw [hg]; rfl
    rw [hg] at C0
    rw [hp, if_neg (by simp)]
    clear hp hg CI CS
    generalize bvA xss vs = x at *
    go_enter Try.func55, Try.ntmps55
    go_wp2_with fail
    refine C0.out.mono ?_
    rintro e w1 ⟨rfl, hb⟩
    have HB := Lib.hid hb
    clear hb
    go_wp2
    go_ret2
    exact ⟨rfl, HB.out⟩
  · have hp : ptB xss vs bs = gB xss bs := by unfold ptB gB vB; rw [hg, (pg_true hg).1]; simp
    have HXv : bvA xss vs = bvV xss vs := by unfold bvA; rw [hg]; rfl
    rw [hg, HXv] at C0
    rw [hp]
    cases hq : gB xss bs
    · rw [hq] at CI
      rw [if_neg (by simp)]
      clear hp hg hq CS HXv
      generalize bvV xss vs = x at *
      go_enter Try.func55, Try.ntmps55
      go_wp2_with fail
      refine C0.out.mono ?_
      rintro e w1 ⟨rfl, hb⟩
      have HB := Lib.hid hb
      clear hb
      go_wp2_with fail
      refine (CI.out _ HB.out).mono ?_
      rintro e w2 ⟨rfl, hb⟩
      have HB2 : Hid (Below w.heap.size w w2) := HB.out.trans (hb.mono HB.out.size)
      clear hb
      go_wp2
      go_ret2
      exact ⟨rfl, HB2.out⟩
    · obtain ⟨_, ha, hv, hr, _⟩ := pt_true (hp.trans hq)
      have h9 : sumvB vs bs = true := (sumv_at_pg hg).trans hr
      have h8 : sumvV vs bs = sumN (valF vs bs) bs.length := by unfold sumvV; rw [h9]; rfl
      rw [hq] at CI
      rw [h8, h9] at CS
      rw [if_pos rfl]
      clear hp hg hq ha hv hr h8 h9 HXv
      generalize bvV xss vs = x at *
      generalize sumN (valF vs bs) bs.length = y at *
      go_enter Try.func55, Try.ntmps55
      go_wp2_with fail
      refine C0.out.mono ?_
      rintro e w1 ⟨rfl, hb⟩
      have HB := Lib.hid hb
      clear hb
      go_wp2_with fail
      refine (CI.out _ HB.out).mono ?_
      rintro e w2 ⟨rfl, hb⟩
      have HB2 : Hid (Below w.heap.size w w2) := HB.out.trans (hb.mono HB.out.size)
      clear hb
      go_wp2_with fail
      refine (CS.out _ HB2.out).mono ?_
      rintro e w3 ⟨rfl, hb⟩
      have HB3 : Hid (Below w.heap.size w w3) := HB2.out.trans (hb.mono HB2.out.size)
      clear hb
      go_wp2
      go_ret2
      exact ⟨by simp; exact beq_dec _ _, HB3.out⟩
end Go.Proofs.Ytgboedfnkkckkaa
