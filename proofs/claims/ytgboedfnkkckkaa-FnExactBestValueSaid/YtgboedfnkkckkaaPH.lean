/-
  Contracts: BestValue and IsBestPit, in the program and in the model.
-/
import Derived.Test.YtgboedfnkkckkaaTD
namespace Go.Proofs.Ytgboedfnkkckkaa
open Go.RowKit
set_option linter.unusedVariables false

theorem bpL_ris (xss : List (List Int)) (vs : List Int) : risB (xss.length : Int) (bpL xss vs) = true := sel_risB _ rfl
theorem bpL_short (xss : List (List Int)) (vs : List Int) (h : arcB xss = true) : (bpL xss vs).length ≤ 120 := by
  have h1 := arc_len h
  have h2 := sel_len (fun i => lcP (xss.length + 2) (pN xss vs xss.length) (pE xss vs xss.length) (i + 1)) xss.length
  unfold bpL
  omega
/-- The value of a best pit. -/
noncomputable def bvV (xss : List (List Int)) (vs : List Int) : Int := sumN (valF vs (bpL xss vs)) (bpL xss vs).length
noncomputable def bvA (xss : List (List Int)) (vs : List Int) : Int := if pgB xss vs then bvV xss vs else 0
theorem sumv_at_pg {xss : List (List Int)} {vs bs : List Int} (h : pgB xss vs = true) : sumvB vs bs = risB (xss.length : Int) bs := by
  have hv := (pg_true h).2
  have e := (val_yes hv).1
  unfold sumvB
  rw [e, hv]
  rfl

set_option maxHeartbeats 1000000 in
theorem c_BestValueS (xss : List (List Int)) (vs : List Int) (v u : Value) (w : World) (hs : ShortL xss) (hl : vs.length ≤ 4000000) (h : SeenL w v xss) (hu : Seen w u vs) :
    Calls Try.prog 48 #[v, u] w fun e w' => e = .returned (.tuple #[.int .i64 (bvA xss vs), .bool (pgB xss vs)]) ∧ Below w.heap.size w w' := by
  have C0 := Lib.hid (c_paGood xss vs v u w hs hl h hu)
  have HS := Lib.hid h
  have HU := Lib.hid hu
  obtain ⟨A, c, rfl, hm⟩ := h.shape
  obtain ⟨A2, c2, rfl⟩ := hu.shape
  unfold bvA
  clear h hu hs
  cases hp : pgB xss vs
  · rw [hp] at C0
    rw [if_neg (by simp)]
    clear hp
    go_enter Try.func48, Try.ntmps48
    go_wp2_with fail
    refine C0.out.mono ?_
    rintro e w1 ⟨rfl, rfl⟩
    go_wp2
    go_ret2
    exact ⟨rfl, Below.refl _ _⟩
  · rw [hp] at C0
    have C1 := Lib.hid (c_paFind xss vs _ _ w (PitOk.of hp) HS.out HU.out)
    have HV := Lib.hid (pg_true hp).2
    have HR := Lib.hid (bpL_ris xss vs)
    have hbl := bpL_short xss vs (pg_true hp).1
    rw [if_pos rfl]
    clear hp
    have HX : Hid (bvV xss vs = sumN (valF vs (bpL xss vs)) (bpL xss vs).length) := rfl
    generalize bvV xss vs = x at *
    generalize bpL xss vs = X at *
    go_enter Try.func48, Try.ntmps48
    go_wp2_with fail
    refine C0.out.mono ?_
    rintro e w1 ⟨rfl, rfl⟩
    go_wp2_with fail
    refine C1.out.mono ?_
    rintro e w1 ⟨v1, rfl, hr, hb⟩
    have CA := Lib.hid (c_vaSum vs _ X v1 (xss.length : Int) w1 hl (by omega) (HU.out.below hb) hr.seen HV.out HR.out)
    rw [← HX.out] at CA
    have HB := Lib.hid hb
    obtain ⟨A3, c3, rfl⟩ := hr.shape
    clear hr hb
    go_wp2_with fail
    refine CA.out.mono ?_
    rintro e w2 ⟨rfl, rfl⟩
    go_wp2
    go_ret2
    exact ⟨rfl, HB.out⟩

set_option maxHeartbeats 1000000 in
theorem c_BestValue (xss : List (List Int)) (vs : List Int) (v u : Value) (w : World) (hs : ShortL xss) (hl : vs.length ≤ 4000000) (h : SeenL w v xss) (hu : Seen w u vs) :
    Calls Try.prog 49 #[v, u] w fun e w' => e = .returned (.tuple #[.int .i64 (bvA xss vs), .bool (pgB xss vs)]) ∧ Below w.heap.size w w' := by
  have C0 := Lib.hid (c_BestPit xss vs v u w hs hl h hu)
  have HU := Lib.hid hu
  obtain ⟨A, c, rfl, hm⟩ := h.shape
  obtain ⟨A2, c2, rfl⟩ := hu.shape
  unfold bvA
  clear h hu hs
  cases hp : pgB xss vs
  · rw [hp] at C0
    rw [if_neg (by simp)]
    clear hp
    generalize bpA xss vs = X at *
    go_enter Try.func49, Try.ntmps49
    go_wp2_with fail
    refine C0.out.mono ?_
    rintro e w1 ⟨v1, rfl, hr, hb⟩
    have HB := Lib.hid hb
    obtain ⟨A3, c3, rfl⟩ := hr.shape
    clear hr hb
    go_wp2
    go_ret2
    exact ⟨rfl, HB.out⟩
  · rw [hp] at C0
    have HA : bpA xss vs = bpL xss vs := by unfold bpA; rw [hp]; rfl
    rw [HA] at C0
    have HS9 : Hid (sumvB vs (bpL xss vs) = true) := (sumv_at_pg hp).trans (bpL_ris xss vs)
    have HX : Hid (sumvV vs (bpL xss vs) = bvV xss vs) := by show _ = _; unfold sumvV; rw [HS9.out]; rfl
    have hbl := bpL_short xss vs (pg_true hp).1
    rw [if_pos rfl]
    clear hp HA
    generalize bvV xss vs = x at *
    generalize bpL xss vs = X at *
    go_enter Try.func49, Try.ntmps49
    go_wp2_with fail
    refine C0.out.mono ?_
    rintro e w1 ⟨v1, rfl, hr, hb⟩
    have CA := Lib.hid (c_SumOfValues vs _ X v1 w1 hl (by omega) (HU.out.below hb) hr.seen)
    rw [HX.out, HS9.out] at CA
    have HB := Lib.hid hb
    obtain ⟨A3, c3, rfl⟩ := hr.shape
    clear hr hb
    go_wp2_with fail
    refine CA.out.mono ?_
    rintro e w2 ⟨rfl, hb⟩
    have HB2 : Hid (Below w.heap.size w w2) := HB.out.trans (hb.mono HB.out.size)
    clear hb
    go_wp2
    go_ret2
    exact ⟨rfl, HB2.out⟩
end Go.Proofs.Ytgboedfnkkckkaa
