/-
  The law FnExactIsWide holds: for all arguments, IsWide answers as its model does, and the arguments read as they did. No conditions.
-/
import Derived.Test.YtlgbhemjckahhaaRows
import Derived.Test.YtlgbhemjckahhaaTPb
import Derived.Test.YtlgbhemjckahhaaN0
import Derived.Test.YtlgbhemjckahhaaN2
import Derived.Test.YtlgbhemjckahhaaR2
import Derived.Test.YtlgbhemjckahhaaR3
import Derived.Test.YtlgbhemjckahhaaR4
import Derived.Test.YtlgbhemjckahhaaOG
import Derived.Test.YtlgbhemjckahhaaJF
import Derived.WalkKit
import Derived.Lib.Hide
import Derived.Deep.DeepCutAuto
import Derived.ProofKit
import Derived.OpenShut
import Derived.ShutString
import Derived.ChangeOld
import Derived.Below
import Derived.Carry
import Derived.Deep.RegionWith
import Derived.Lib.SmallJoins
namespace Go.Proofs.Ytlgbhemjckahhaa.fnExactIsWideProof
open Go.ChangeShapes Go.WideShapes Go.ChangeAt Go.RowKit Go.Joins
set_option linter.unusedVariables false

theorem own : ownKnob Try.prog.godebug = none := by kernel_rfl

/-! ### The walk -/
set_option maxHeartbeats 4000000 in
set_option maxRecDepth 100000 in
theorem walk (x y z : Int) (bs : List Int) (v1 : Value) (a2 : Int) (w : World) (hL : Seen w v1 bs) (wf2 : (Lit.int .i64 a2).wf = true) :
    Calls Try.prog 7 #[.agg #[.int .i64 x, .int .i64 y, .int .i64 z], v1, .int .i64 a2] w fun e w' => e = .returned (.bool true) ∧ Below w.heap.size w w' := by
  have HLi := Lib.hid hL
  obtain ⟨AV, cV, rfl, t4, _⟩ := hL
  have b4 : bs.length ≤ 9223372036854775807 := by unfold maxLen at t4; omega
  clear t4
  obtain ⟨wg, hwg⟩ : ∃ wg, w.alloc (.cells #[.int .i64 x, .int .i64 y, .int .i64 z] 34) = wg := ⟨_, rfl⟩
  have HB0 : Hid (Below w.heap.size w wg) := by rw [← hwg]; exact (Below.refl _ _).alloc (Nat.le_refl _) _
  have GX_0 : Hid (Box3 wg w.heap.size x y z) := by rw [← hwg]; exact Box3.new w x y z _
  have HC0 : Hid (Below wg.heap.size wg wg) := Below.refl _ _
  obtain ⟨cG0, cG1, cG2⟩ : _ ∧ _ ∧ _ := ⟨(GX_0.out.below HC0.out).c0, (GX_0.out.below HC0.out).c1, (GX_0.out.below HC0.out).c2⟩
  have zwg : w.heap.size < wg.heap.size := by rw [← hwg]; simp
  by_cases l4 : bs.length ≤ 1048576
  case neg =>
    go_enter Try.func7, Try.ntmps7
    go_wp2
    go_ret
    exact ⟨rfl, HB0.out⟩
  case pos =>
    have l5 : bs.length ≤ 4000000 := by omega
    have hne0 : ((asW x y z a2 bs && decide ((wiA x y z a2 bs).length = bs.length)) != (asW x y z a2 bs && decide ((wiA x y z a2 bs).length = bs.length))) = false := by simp
    have hne1 : (asW x y z a2 bs != asW x y z a2 bs) = false := by simp
    go_enter Try.func7, Try.ntmps7
    have CS : Hid (∀  (pl : Value) (Bl : Nat) (u : World), Row u Bl pl bs → Calls Try.prog 30 #[.agg #[.int .i64 x, .int .i64 y, .int .i64 z], pl, .int .i64 a2] u (Two (asW x y z a2 bs && decide ((wiA x y z a2 bs).length = bs.length)) (asW x y z a2 bs) u)) := fun pl Bl u hul => c_IsWideS x y z a2 bs pl u l5 hul.seen
    have CI : Hid (∀  (pl : Value) (Bl : Nat) (u : World), Row u Bl pl bs → Calls Try.prog 31 #[.agg #[.int .i64 x, .int .i64 y, .int .i64 z], pl, .int .i64 a2] u (Two (asW x y z a2 bs && decide ((wiA x y z a2 bs).length = bs.length)) (asW x y z a2 bs) u)) := fun pl Bl u hul => c_IsWide x y z a2 bs pl u l5 hul.seen
    go_wp2_with fail
    refine (c_toGrid x y z _).mono ?_
    rintro e w1 ⟨rfl, hb1⟩
    have HB1 : Hid (Below w.heap.size w w1) := HB0.out.trans (hb1.mono HB0.out.size)
    have HC1 : Hid (Below wg.heap.size wg w1) := HC0.out.trans (hb1.mono HC0.out.size)
    clear cG0 cG1 cG2
    obtain ⟨cG0, cG1, cG2⟩ : _ ∧ _ ∧ _ := ⟨(GX_0.out.below HC1.out).c0, (GX_0.out.below HC1.out).c1, (GX_0.out.below HC1.out).c2⟩
    clear hb1
    go_wp2_with fail
    refine (c_toIntS bs _ _ l5 (HLi.out.below HB1.out)).mono ?_
    rintro e w2 ⟨Spl, rfl, hs, hb2⟩
    have HB2 : Hid (Below w.heap.size w w2) := HB1.out.trans (hb2.mono HB1.out.size)
    have HC2 : Hid (Below wg.heap.size wg w2) := HC1.out.trans (hb2.mono HC1.out.size)
    clear cG0 cG1 cG2
    obtain ⟨cG0, cG1, cG2⟩ : _ ∧ _ ∧ _ := ⟨(GX_0.out.below HC2.out).c0, (GX_0.out.below HC2.out).c1, (GX_0.out.below HC2.out).c2⟩
    have SpL_2 := Lib.hid hs
    clear hs
    clear hb2
    go_wp2_with fail
    refine (CS.out _ _ _ SpL_2.out).mono ?_
    rintro e w3 ⟨rfl, hb3⟩
    have HB3 : Hid (Below w.heap.size w w3) := HB2.out.trans (hb3.mono HB2.out.size)
    have HC3 : Hid (Below wg.heap.size wg w3) := HC2.out.trans (hb3.mono HC2.out.size)
    clear cG0 cG1 cG2
    obtain ⟨cG0, cG1, cG2⟩ : _ ∧ _ ∧ _ := ⟨(GX_0.out.below HC3.out).c0, (GX_0.out.below HC3.out).c1, (GX_0.out.below HC3.out).c2⟩
    have SpL_3 := Lib.hid (SpL_2.out.below hb3)
    clear hb3
    go_wp2_with fail
    refine (c_toIntS bs _ _ l5 (HLi.out.below HB3.out)).mono ?_
    rintro e w4 ⟨Xl, rfl, hs, hb4⟩
    have HB4 : Hid (Below w.heap.size w w4) := HB3.out.trans (hb4.mono HB3.out.size)
    have HC4 : Hid (Below wg.heap.size wg w4) := HC3.out.trans (hb4.mono HC3.out.size)
    clear cG0 cG1 cG2
    obtain ⟨cG0, cG1, cG2⟩ : _ ∧ _ ∧ _ := ⟨(GX_0.out.below HC4.out).c0, (GX_0.out.below HC4.out).c1, (GX_0.out.below HC4.out).c2⟩
    have XL_4 := Lib.hid hs
    clear hs
    clear hb4
    go_wp2_with fail
    refine (c_toGrid x y z _).mono ?_
    rintro e w5 ⟨rfl, hb5⟩
    have HB5 : Hid (Below w.heap.size w w5) := HB4.out.trans (hb5.mono HB4.out.size)
    have HC5 : Hid (Below wg.heap.size wg w5) := HC4.out.trans (hb5.mono HC4.out.size)
    clear cG0 cG1 cG2
    obtain ⟨cG0, cG1, cG2⟩ : _ ∧ _ ∧ _ := ⟨(GX_0.out.below HC5.out).c0, (GX_0.out.below HC5.out).c1, (GX_0.out.below HC5.out).c2⟩
    have XL_5 := Lib.hid (XL_4.out.below hb5)
    clear hb5
    go_wp2_with fail
    refine (CI.out _ _ _ XL_5.out).mono ?_
    rintro e w6 ⟨rfl, hb6⟩
    have HB6 : Hid (Below w.heap.size w w6) := HB5.out.trans (hb6.mono HB5.out.size)
    have HC6 : Hid (Below wg.heap.size wg w6) := HC5.out.trans (hb6.mono HC5.out.size)
    clear cG0 cG1 cG2
    obtain ⟨cG0, cG1, cG2⟩ : _ ∧ _ ∧ _ := ⟨(GX_0.out.below HC6.out).c0, (GX_0.out.below HC6.out).c1, (GX_0.out.below HC6.out).c2⟩
    have XL_6 := Lib.hid (XL_5.out.below hb6)
    clear hb6
    go_wp2_with fail
    refine (c_toIntS bs _ _ l5 (HLi.out.below HB6.out)).mono ?_
    rintro e w7 ⟨Yl, rfl, hs, hb7⟩
    have HB7 : Hid (Below w.heap.size w w7) := HB6.out.trans (hb7.mono HB6.out.size)
    have HC7 : Hid (Below wg.heap.size wg w7) := HC6.out.trans (hb7.mono HC6.out.size)
    clear cG0 cG1 cG2
    obtain ⟨cG0, cG1, cG2⟩ : _ ∧ _ ∧ _ := ⟨(GX_0.out.below HC7.out).c0, (GX_0.out.below HC7.out).c1, (GX_0.out.below HC7.out).c2⟩
    have XL_7 := Lib.hid (XL_6.out.below hb7)
    have YL_7 := Lib.hid hs
    clear hs
    clear hb7
    go_wp2_with fail
    refine (c_eqIntS bs _ _ _ _ _ l5 XL_7.out YL_7.out).mono ?_
    rintro e w8 ⟨rfl, hb8⟩
    have HB8 : Hid (Below w.heap.size w w8) := HB7.out.trans (hb8.mono HB7.out.size)
    have HC8 : Hid (Below wg.heap.size wg w8) := HC7.out.trans (hb8.mono HC7.out.size)
    clear cG0 cG1 cG2
    obtain ⟨cG0, cG1, cG2⟩ : _ ∧ _ ∧ _ := ⟨(GX_0.out.below HC8.out).c0, (GX_0.out.below HC8.out).c1, (GX_0.out.below HC8.out).c2⟩
    have XL_8 := Lib.hid (XL_7.out.below hb8)
    have YL_8 := Lib.hid (YL_7.out.below hb8)
    clear hb8
    go_wp2
    go_ret
    exact ⟨rfl, HB8.out⟩

/-! ### The row's step -/
theorem laid : laidOutB Try.prog = true := by kernel_rfl
set_option maxRecDepth 100000 in
set_option maxHeartbeats 8000000 in
theorem lifted (os : Os) (started : os.Started) (H : Type) (enc : TypeId × Value → H) :
    ReturnsInHanded {} Try.checked os 7 .any (Rows.fnExactIsWideSpec.pre6 enc Try.prog Try.f7 Rows.fnExactIsWideRow.domain false) (Rows.fnExactIsWideSpec.post enc Try.prog Try.f7 false true false false) := by
  refine returnsInHanded_of_change (C := Try.checked) own started (by kernel_rfl) Try.func7
    (ChangeSpec.witness6 (enc := enc) (C := Try.checked) false ⟨#[], #[.agg #[.int .i64 0, .int .i64 0, .int .i64 0], .slice none 0 0, .int .i64 0], []⟩ 8 (by kernel_rfl) (by kernel_rfl) (by kernel_rfl) (by kernel_rfl)) ?_
  intro W base args ds gs before hval0 hW hcnd _
  have hval : ∀ (j : Nat) t v, Try.f7.params[j]? = some t → args[j]? = some v → Value.okWide Try.prog W .any base t v := hval0
  have hW' := hW
  have lts : ∀ x ∈ before, x.block < W.heap.size := fun x hx => by simpa using hW'.lt x hx
  obtain ⟨p, q, hA0, hV, rfl, hfz, hnd⟩ := hW
  have hA : DataW.TrodAll enc Try.prog W 0 (fun _ => true) true Try.f7.params.toList args.toList ds p := hA0
  rw [Try.params7] at hA hval
  obtain ⟨v0, vs0, d0, ds0, p0, q0, hargs, rfl, rfl, h0, r0⟩ := trodAll_cons hA
  obtain ⟨v1, vs1, d1, ds1, p1, q1, rfl, rfl, rfl, h1, r1⟩ := trodAll_cons r0
  obtain ⟨v2, vs2, d2, ds2, p2, q2, rfl, rfl, rfl, h2, r2⟩ := trodAll_cons r1
  obtain ⟨rfl, rfl, rfl⟩ := trodAll_nil r2
  obtain rfl : args = #[v0, v1, v2] := by cases args; simp_all
  obtain ⟨rfl, rfl⟩ := trodVars_none hV
  have k0 := h0
  obtain ⟨x, y, z, rfl⟩ := open_grid (hval 0 34 v0 rfl rfl) h0
  have k1 := h1
  obtain ⟨bs, hL⟩ := open_list (hval 1 35 v1 rfl rfl) h1
  have k2 := h2
  obtain ⟨a2, rfl, _, _, w2⟩ := open_int Try.underlying3 (hval 2 3 v2 rfl rfl) h2
  clear hA0 hval0
  simp only [List.append_nil] at hW' lts
  refine (walk x y z bs v1 a2 W hL w2).mono fun e W' ⟨he, bel⟩ => ?_
  subst he
  exact ⟨_, rfl, _, _, _, [], _, [], hW', trodAll_mk1 (shut_bool Try.underlying4 _), (trodAll_cons_mk (Below.trod laid (by kernel_rfl) (of_decide_eq_true (by kernel_rfl)) k0 bel (fun x hx => lts x (by simp [hx]))) (trodAll_cons_mk (Below.trod laid (by kernel_rfl) (of_decide_eq_true (by kernel_rfl)) k1 bel (fun x hx => lts x (by simp [hx]))) (trodAll_cons_mk (Below.trod laid (by kernel_rfl) (of_decide_eq_true (by kernel_rfl)) k2 bel (fun x hx => lts x (by simp [hx]))) trodAll_mk0))), rfl, bel.frame _, fun h => by cases h⟩

set_option maxHeartbeats 8000000 in
theorem closed : joinedFacts Try.prog 7 Try.f7 Rows.fnExactIsWideSpec Rows.fnExactIsWideRow = true := by
  unfold joinedFacts
  simp only [Bool.and_eq_true]
  refine ⟨⟨⟨⟨⟨⟨⟨⟨⟨⟨⟨⟨⟨⟨⟨⟨⟨⟨⟨⟨⟨⟨⟨⟨⟨⟨⟨⟨⟨⟨⟨?_, ?_⟩, ?_⟩, ?_⟩, ?_⟩, ?_⟩, ?_⟩, ?_⟩, ?_⟩, ?_⟩, ?_⟩, ?_⟩, ?_⟩, ?_⟩, ?_⟩, ?_⟩, ?_⟩, ?_⟩, ?_⟩, ?_⟩, ?_⟩, ?_⟩, ?_⟩, ?_⟩, ?_⟩, ?_⟩, ?_⟩, ?_⟩, ?_⟩, ?_⟩, ?_⟩, ?_⟩
  · as_aux_lemma => kernel_rfl
  · as_aux_lemma => kernel_rfl
  · as_aux_lemma => kernel_rfl
  · as_aux_lemma => kernel_rfl
  · as_aux_lemma => kernel_rfl
  · as_aux_lemma => kernel_rfl
  · as_aux_lemma => kernel_rfl
  · as_aux_lemma => kernel_rfl
  · as_aux_lemma => kernel_rfl
  · as_aux_lemma => kernel_rfl
  · as_aux_lemma => kernel_rfl
  · as_aux_lemma => kernel_rfl
  · as_aux_lemma => kernel_rfl
  · as_aux_lemma => kernel_rfl
  · as_aux_lemma => kernel_rfl
  · as_aux_lemma => kernel_rfl
  · as_aux_lemma => kernel_rfl
  · as_aux_lemma => kernel_rfl
  · as_aux_lemma => kernel_rfl
  · as_aux_lemma => kernel_rfl
  · as_aux_lemma => kernel_rfl
  · as_aux_lemma => kernel_rfl
  · as_aux_lemma => kernel_rfl
  · as_aux_lemma => kernel_rfl
  · as_aux_lemma => kernel_rfl
  · exact jf_may
  · exact (congrArg (fun b => (Rows.fnExactIsWideRow.lifted == b)) jf_lifts).trans (by kernel_rfl)
  · exact (congrArg (fun o => (o == some Rows.fnExactIsWideRow.make)) jf_make).trans (by kernel_rfl)
  · as_aux_lemma => kernel_rfl
  · as_aux_lemma => kernel_rfl
  · as_aux_lemma => kernel_rfl
  · as_aux_lemma => kernel_rfl

set_option maxHeartbeats 8000000 in
theorem over : Rows.fnExactIsWideRow.holds Try.pinned (OpenSpec.ofChange Rows.fnExactIsWideSpec) :=
  OpenClaim.holds_of_wide 7 Try.f7 rfl rfl rfl rfl rfl rfl rfl ⟨rfl, rfl, rfl, rfl, rfl⟩ rfl rfl rfl rfl rfl (by kernel_rfl) Try.func7 closed
    (of_decide_eq_true (by kernel_rfl)) (by unfold Func.isWrapper; first | (rw [if_pos (by decide +kernel)]; kernel_rfl) | (rw [if_neg (by decide +kernel)]; exact ⟨rfl, rfl⟩))
    (fun os started H enc _ => lifted os started H enc)
end Go.Proofs.Ytlgbhemjckahhaa.fnExactIsWideProof
namespace Go.Proofs.Ytlgbhemjckahhaa
theorem fnExactIsWide_holds : Rows.FnExactIsWideSaid := fnExactIsWideProof.over
#print axioms fnExactIsWide_holds
end Go.Proofs.Ytlgbhemjckahhaa
