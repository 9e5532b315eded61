/-
  The law FnExactAreGains holds: for all arguments, AreGains answers as its model does, and the arguments read as they did. No conditions.
-/
import Derived.Test.YtoakpepoopjlaaaRows
import Derived.Test.YtoakpepoopjlaaaGA
import Derived.Test.YtoakpepoopjlaaaN0
import Derived.Test.YtoakpepoopjlaaaN2
import Derived.Test.YtoakpepoopjlaaaTR
import Derived.Test.YtoakpepoopjlaaaJF
import Derived.WalkKit
import Derived.Lib.Hide
import Derived.Deep.DeepCutAuto
import Derived.ProofKit
import Derived.OpenShut
import Derived.ShutString
import Derived.ChangeOld
import Derived.Below
import Derived.Carry
import Derived.Deep.RegionWith
import Derived.Lib.SmallJoins
namespace Go.Proofs.Ytoakpepoopjlaaa.fnExactAreGainsProof
open Go.ChangeShapes Go.WideShapes Go.ChangeAt Go.RowKit Go.Joins
set_option linter.unusedVariables false

theorem own : ownKnob Try.prog.godebug = none := by kernel_rfl

/-! ### The walk -/
set_option maxHeartbeats 4000000 in
set_option maxRecDepth 100000 in
theorem walk (bs : List Int) (v0 : Value) (es : List Int) (v1 : Value) (a2 : Int) (w : World) (hL : Seen w v0 bs) (hL2 : Seen w v1 es) (wf2 : (Lit.int .i64 a2).wf = true) :
    Calls Try.prog 3 #[v0, v1, .int .i64 a2] w fun e w' => e = .returned (.bool true) ∧ Below w.heap.size w w' := by
  have HLi := Lib.hid hL
  obtain ⟨AV, cV, rfl, t4, _⟩ := hL
  have b4 : bs.length ≤ 9223372036854775807 := by unfold maxLen at t4; omega
  clear t4
  have HLj := Lib.hid hL2
  obtain ⟨AW, cW, rfl, t5, _⟩ := hL2
  have b5 : es.length ≤ 9223372036854775807 := by unfold maxLen at t5; omega
  clear t5
  have HB0 : Hid (Below w.heap.size w w) := Below.refl _ _
  by_cases l4 : bs.length ≤ 1048576
  case neg =>
    go_enter Try.func3, Try.ntmps3
    go_wp2
    go_ret
    exact ⟨rfl, HB0.out⟩
  case pos =>
    have l5 : bs.length ≤ 4000000 := by omega
    by_cases l6 : es.length ≤ 1048576
    case neg =>
      go_enter Try.func3, Try.ntmps3
      go_wp2
      go_ret
      exact ⟨rfl, HB0.out⟩
    case pos =>
      have l7 : es.length ≤ 4000000 := by omega
      have hne0 : (gnB bs es a2 != gnB bs es a2) = false := by simp
      go_enter Try.func3, Try.ntmps3
      have CS : Hid (∀  (pl : Value) (Bl : Nat) (pm : Value) (u : World), Row u Bl pl bs → Seen u pm es → Calls Try.prog 13 #[pl, pm, .int .i64 a2] u (fun e u' => e = .returned (.bool (gnB bs es a2)) ∧ Below u.heap.size u u')) := fun pl Bl pm u hul hum => (c_AreGainsS bs es pl pm a2 u l5 l7 hul.seen hum).mono fun e u' h => ⟨h.1, by rw [← h.2]; exact Below.refl _ _⟩
      have CI : Hid (∀  (pl : Value) (Bl : Nat) (pm : Value) (u : World), Row u Bl pl bs → Seen u pm es → Calls Try.prog 15 #[pl, pm, .int .i64 a2] u (fun e u' => e = .returned (.bool (gnB bs es a2)) ∧ Below u.heap.size u u')) := fun pl Bl pm u hul hum => (c_AreGains bs es pl pm a2 u l5 l7 hul.seen hum).mono fun e u' h => ⟨h.1, by rw [← h.2]; exact Below.refl _ _⟩
      go_wp2_with fail
      refine (c_toIntS bs _ _ l5 (HLi.out.below HB0.out)).mono ?_
      rintro e w1 ⟨Spl, rfl, hs, hb1⟩
      have HB1 : Hid (Below w.heap.size w w1) := HB0.out.trans (hb1.mono HB0.out.size)
      have SpL_1 := Lib.hid hs
      clear hs
      clear hb1
      go_wp2_with fail
      refine (c_toIntS es _ _ l7 (HLj.out.below HB1.out)).mono ?_
      rintro e w2 ⟨Spm, rfl, hs, hb2⟩
      have HB2 : Hid (Below w.heap.size w w2) := HB1.out.trans (hb2.mono HB1.out.size)
      have SpL_2 := Lib.hid (SpL_1.out.below hb2)
      have SpM_2 := Lib.hid hs
      clear hs
      clear hb2
      go_wp2_with fail
      refine (CS.out _ _ _ _ SpL_2.out SpM_2.out.seen).mono ?_
      rintro e w3 ⟨rfl, hb3⟩
      have HB3 : Hid (Below w.heap.size w w3) := HB2.out.trans (hb3.mono HB2.out.size)
      have SpL_3 := Lib.hid (SpL_2.out.below hb3)
      have SpM_3 := Lib.hid (SpM_2.out.below hb3)
      clear hb3
      go_wp2_with fail
      refine (c_toIntS bs _ _ l5 (HLi.out.below HB3.out)).mono ?_
      rintro e w4 ⟨Xl, rfl, hs, hb4⟩
      have HB4 : Hid (Below w.heap.size w w4) := HB3.out.trans (hb4.mono HB3.out.size)
      have XL_4 := Lib.hid hs
      clear hs
      clear hb4
      go_wp2_with fail
      refine (c_toIntS es _ _ l7 (HLj.out.below HB4.out)).mono ?_
      rintro e w5 ⟨Xm, rfl, hs, hb5⟩
      have HB5 : Hid (Below w.heap.size w w5) := HB4.out.trans (hb5.mono HB4.out.size)
      have XL_5 := Lib.hid (XL_4.out.below hb5)
      have XM_5 := Lib.hid hs
      clear hs
      clear hb5
      go_wp2_with fail
      refine (CI.out _ _ _ _ XL_5.out XM_5.out.seen).mono ?_
      rintro e w6 ⟨rfl, hb6⟩
      have HB6 : Hid (Below w.heap.size w w6) := HB5.out.trans (hb6.mono HB5.out.size)
      have XL_6 := Lib.hid (XL_5.out.below hb6)
      have XM_6 := Lib.hid (XM_5.out.below hb6)
      clear hb6
      go_wp2_with fail
      refine (c_toIntS bs _ _ l5 (HLi.out.below HB6.out)).mono ?_
      rintro e w7 ⟨Yl, rfl, hs, hb7⟩
      have HB7 : Hid (Below w.heap.size w w7) := HB6.out.trans (hb7.mono HB6.out.size)
      have XL_7 := Lib.hid (XL_6.out.below hb7)
      have XM_7 := Lib.hid (XM_6.out.below hb7)
      have YL_7 := Lib.hid hs
      clear hs
      clear hb7
      go_wp2_with fail
      refine (c_eqIntS bs _ _ _ _ _ l5 XL_7.out YL_7.out).mono ?_
      rintro e w8 ⟨rfl, hb8⟩
      have HB8 : Hid (Below w.heap.size w w8) := HB7.out.trans (hb8.mono HB7.out.size)
      have XL_8 := Lib.hid (XL_7.out.below hb8)
      have XM_8 := Lib.hid (XM_7.out.below hb8)
      have YL_8 := Lib.hid (YL_7.out.below hb8)
      clear hb8
      go_wp2_with fail
      refine (c_toIntS es _ _ l7 (HLj.out.below HB8.out)).mono ?_
      rintro e w9 ⟨Ym, rfl, hs, hb9⟩
      have HB9 : Hid (Below w.heap.size w w9) := HB8.out.trans (hb9.mono HB8.out.size)
      have XL_9 := Lib.hid (XL_8.out.below hb9)
      have XM_9 := Lib.hid (XM_8.out.below hb9)
      have YM_9 := Lib.hid hs
      clear hs
      clear hb9
      go_wp2_with fail
      refine (c_eqIntS es _ _ _ _ _ l7 XM_9.out YM_9.out).mono ?_
      rintro e w10 ⟨rfl, hb10⟩
      have HB10 : Hid (Below w.heap.size w w10) := HB9.out.trans (hb10.mono HB9.out.size)
      have XL_10 := Lib.hid (XL_9.out.below hb10)
      have XM_10 := Lib.hid (XM_9.out.below hb10)
      have YM_10 := Lib.hid (YM_9.out.below hb10)
      clear hb10
      go_wp2
      go_ret
      exact ⟨rfl, HB10.out⟩

/-! ### The row's step -/
theorem laid : laidOutB Try.prog = true := by kernel_rfl
set_option maxRecDepth 100000 in
set_option maxHeartbeats 8000000 in
theorem lifted (os : Os) (started : os.Started) (H : Type) (enc : TypeId × Value → H) :
    ReturnsInHanded {} Try.checked os 3 .any (Rows.fnExactAreGainsSpec.pre6 enc Try.prog Try.f3 Rows.fnExactAreGainsRow.domain false) (Rows.fnExactAreGainsSpec.post enc Try.prog Try.f3 false true false false) := by
  refine returnsInHanded_of_change (C := Try.checked) own started (by kernel_rfl) Try.func3
    (ChangeSpec.witness6 (enc := enc) (C := Try.checked) false ⟨#[], #[.slice none 0 0, .slice none 0 0, .int .i64 0], []⟩ 8 (by kernel_rfl) (by kernel_rfl) (by kernel_rfl) (by kernel_rfl)) ?_
  intro W base args ds gs before hval0 hW hcnd _
  have hval : ∀ (j : Nat) t v, Try.f3.params[j]? = some t → args[j]? = some v → Value.okWide Try.prog W .any base t v := hval0
  have hW' := hW
  have lts : ∀ x ∈ before, x.block < W.heap.size := fun x hx => by simpa using hW'.lt x hx
  obtain ⟨p, q, hA0, hV, rfl, hfz, hnd⟩ := hW
  have hA : DataW.TrodAll enc Try.prog W 0 (fun _ => true) true Try.f3.params.toList args.toList ds p := hA0
  rw [Try.params3] at hA hval
  obtain ⟨v0, vs0, d0, ds0, p0, q0, hargs, rfl, rfl, h0, r0⟩ := trodAll_cons hA
  obtain ⟨v1, vs1, d1, ds1, p1, q1, rfl, rfl, rfl, h1, r1⟩ := trodAll_cons r0
  obtain ⟨v2, vs2, d2, ds2, p2, q2, rfl, rfl, rfl, h2, r2⟩ := trodAll_cons r1
  obtain ⟨rfl, rfl, rfl⟩ := trodAll_nil r2
  obtain rfl : args = #[v0, v1, v2] := by cases args; simp_all
  obtain ⟨rfl, rfl⟩ := trodVars_none hV
  have k0 := h0
  obtain ⟨bs, hL⟩ := open_list (hval 0 22 v0 rfl rfl) h0
  have k1 := h1
  obtain ⟨es, hL2⟩ := open_list (hval 1 22 v1 rfl rfl) h1
  have k2 := h2
  obtain ⟨a2, rfl, _, _, w2⟩ := open_int Try.underlying3 (hval 2 3 v2 rfl rfl) h2
  clear hA0 hval0
  simp only [List.append_nil] at hW' lts
  refine (walk bs v0 es v1 a2 W hL hL2 w2).mono fun e W' ⟨he, bel⟩ => ?_
  subst he
  exact ⟨_, rfl, _, _, _, [], _, [], hW', trodAll_mk1 (shut_bool Try.underlying4 _), (trodAll_cons_mk (Below.trod laid (by kernel_rfl) (of_decide_eq_true (by kernel_rfl)) k0 bel (fun x hx => lts x (by simp [hx]))) (trodAll_cons_mk (Below.trod laid (by kernel_rfl) (of_decide_eq_true (by kernel_rfl)) k1 bel (fun x hx => lts x (by simp [hx]))) (trodAll_cons_mk (Below.trod laid (by kernel_rfl) (of_decide_eq_true (by kernel_rfl)) k2 bel (fun x hx => lts x (by simp [hx]))) trodAll_mk0))), rfl, bel.frame _, fun h => by cases h⟩

set_option maxHeartbeats 8000000 in
theorem closed : joinedFacts Try.prog 3 Try.f3 Rows.fnExactAreGainsSpec Rows.fnExactAreGainsRow = true := by
  unfold joinedFacts
  simp only [Bool.and_eq_true]
  refine ⟨⟨⟨⟨⟨⟨⟨⟨⟨⟨⟨⟨⟨⟨⟨⟨⟨⟨⟨⟨⟨⟨⟨⟨⟨⟨⟨⟨⟨⟨⟨?_, ?_⟩, ?_⟩, ?_⟩, ?_⟩, ?_⟩, ?_⟩, ?_⟩, ?_⟩, ?_⟩, ?_⟩, ?_⟩, ?_⟩, ?_⟩, ?_⟩, ?_⟩, ?_⟩, ?_⟩, ?_⟩, ?_⟩, ?_⟩, ?_⟩, ?_⟩, ?_⟩, ?_⟩, ?_⟩, ?_⟩, ?_⟩, ?_⟩, ?_⟩, ?_⟩, ?_⟩
  · as_aux_lemma => kernel_rfl
  · as_aux_lemma => kernel_rfl
  · as_aux_lemma => kernel_rfl
  · as_aux_lemma => kernel_rfl
  · as_aux_lemma => kernel_rfl
  · as_aux_lemma => kernel_rfl
  · as_aux_lemma => kernel_rfl
  · as_aux_lemma => kernel_rfl
  · as_aux_lemma => kernel_rfl
  · as_aux_lemma => kernel_rfl
  · as_aux_lemma => kernel_rfl
  · as_aux_lemma => kernel_rfl
  · as_aux_lemma => kernel_rfl
  · as_aux_lemma => kernel_rfl
  · as_aux_lemma => kernel_rfl
  · as_aux_lemma => kernel_rfl
  · as_aux_lemma => kernel_rfl
  · as_aux_lemma => kernel_rfl
  · as_aux_lemma => kernel_rfl
  · as_aux_lemma => kernel_rfl
  · as_aux_lemma => kernel_rfl
  · as_aux_lemma => kernel_rfl
  · as_aux_lemma => kernel_rfl
  · as_aux_lemma => kernel_rfl
  · as_aux_lemma => kernel_rfl
  · exact jf_may
  · exact (congrArg (fun b => (Rows.fnExactAreGainsRow.lifted == b)) jf_lifts).trans (by kernel_rfl)
  · exact (congrArg (fun o => (o == some Rows.fnExactAreGainsRow.make)) jf_make).trans (by kernel_rfl)
  · as_aux_lemma => kernel_rfl
  · as_aux_lemma => kernel_rfl
  · as_aux_lemma => kernel_rfl
  · as_aux_lemma => kernel_rfl

set_option maxHeartbeats 8000000 in
theorem over : Rows.fnExactAreGainsRow.holds Try.pinned (OpenSpec.ofChange Rows.fnExactAreGainsSpec) :=
  OpenClaim.holds_of_wide 3 Try.f3 rfl rfl rfl rfl rfl rfl rfl ⟨rfl, rfl, rfl, rfl, rfl⟩ rfl rfl rfl rfl rfl (by kernel_rfl) Try.func3 closed
    (of_decide_eq_true (by kernel_rfl)) (by unfold Func.isWrapper; first | (rw [if_pos (by decide +kernel)]; kernel_rfl) | (rw [if_neg (by decide +kernel)]; exact ⟨rfl, rfl⟩))
    (fun os started H enc _ => lifted os started H enc)
end Go.Proofs.Ytoakpepoopjlaaa.fnExactAreGainsProof
namespace Go.Proofs.Ytoakpepoopjlaaa
theorem fnExactAreGains_holds : Rows.FnExactAreGainsSaid := fnExactAreGainsProof.over
#print axioms fnExactAreGains_holds
end Go.Proofs.Ytoakpepoopjlaaa
