/-
  The law FnExactIsChain holds: for all arguments, IsChain answers as its model does, and the arguments read as they did. No conditions.
-/
import Derived.Test.YtoakpepoopjlaaaRows
import Derived.Test.YtoakpepoopjlaaaGI
import Derived.Test.YtoakpepoopjlaaaN0
import Derived.Test.YtoakpepoopjlaaaN2
import Derived.Test.YtoakpepoopjlaaaTR
import Derived.Test.YtoakpepoopjlaaaJF
import Derived.WalkKit
import Derived.Lib.Hide
import Derived.Deep.DeepCutAuto
import Derived.ProofKit
import Derived.OpenShut
import Derived.ShutString
import Derived.ChangeOld
import Derived.Below
import Derived.Carry
import Derived.Deep.RegionWith
import Derived.Lib.SmallJoins
namespace Go.Proofs.Ytoakpepoopjlaaa.fnExactIsChainProof
open Go.ChangeShapes Go.WideShapes Go.ChangeAt Go.RowKit Go.Joins
set_option linter.unusedVariables false

theorem own : ownKnob Try.prog.godebug = none := by kernel_rfl

/-! ### The walk -/
set_option maxHeartbeats 4000000 in
set_option maxRecDepth 100000 in
theorem walk (xss : List (List Int)) (v0 : Value) (w : World) (hR : SeenL w v0 xss) :
    Calls Try.prog 11 #[v0] w fun e w' => e = .returned (.bool true) ∧ Below w.heap.size w w' := by
  have HS := Lib.hid hR
  obtain ⟨A, c, rfl, hm⟩ := hR.shape
  clear hR hm
  have HB0 : Hid (Below w.heap.size w w) := Below.refl _ _
  have hne0 : (chV xss != chV xss) = false := by simp
  have hne1 : (chB xss != chB xss) = false := by simp
  go_enter Try.func11, Try.ntmps11
  go_wp2_with fail
  refine (c_szIntSS xss _ 1048576 _ (by omega) (by omega) HS.out).mono ?_
  rintro e w' ⟨⟨r, rfl, hsz⟩, rfl⟩
  rcases hsz with rfl | ⟨hsz, hr⟩
  case inl =>
    go_wp2
    go_ret
    exact ⟨rfl, HB0.out⟩
  case inr =>
    have hr0 : ¬ r < 0 := by omega
    have hsh : Hid (ShortL xss) := shortL_of hsz (by omega)
    have hsl : xss.length ≤ 1048576 := by omega
    have hss : Hid (Short xss) := hsh.out.2
    have htt : totN xss xss.length ≤ 1048576 := by omega
    clear hr hsz
    have CS : Hid (∀ (p : Value) (u : World), SeenL u p xss → Calls Try.prog 38 #[p] u (fun e u' => e = .returned (.tuple #[.bool (chV xss), .bool (chB xss)]) ∧ Below u.heap.size u u')) := fun p u hu => c_IsChainS xss p u hsh.out hu
    have CI : Hid (∀ (p : Value) (u : World), SeenL u p xss → Calls Try.prog 39 #[p] u (fun e u' => e = .returned (.tuple #[.bool (chV xss), .bool (chB xss)]) ∧ Below u.heap.size u u')) := fun p u hu => c_IsChain xss p u hsh.out hu
    go_wp2_with fail
    refine (c_toIntSS xss _ _ hsh.out (HS.out.below HB0.out)).mono ?_
    rintro e w1 ⟨Spv, rfl, hs, hb1⟩
    have HB1 : Hid (Below w.heap.size w w1) := HB0.out.trans (hb1.mono HB0.out.size)
    have SpP_1 := Lib.hid hs
    have USpP_1 : Hid (_ ≤ _) := Nat.le_refl w1.heap.size
    clear hs
    clear hb1
    go_wp2_with fail
    refine (CS.out _ _ SpP_1.out.seen).mono ?_
    rintro e w2 ⟨rfl, hb2⟩
    have HB2 : Hid (Below w.heap.size w w2) := HB1.out.trans (hb2.mono HB1.out.size)
    have SpP_2 := Lib.hid (SpP_1.out.below hb2 USpP_1.out)
    have USpP_2 := Lib.hid (Nat.le_trans USpP_1.out hb2.size)
    clear hb2
    go_wp2_with fail
    refine (c_toIntSS xss _ _ hsh.out (HS.out.below HB2.out)).mono ?_
    rintro e w3 ⟨Xv, rfl, hs, hb3⟩
    have HB3 : Hid (Below w.heap.size w w3) := HB2.out.trans (hb3.mono HB2.out.size)
    have XP_3 := Lib.hid hs
    have UXP_3 : Hid (_ ≤ _) := Nat.le_refl w3.heap.size
    clear hs
    clear hb3
    go_wp2_with fail
    refine (CI.out _ _ XP_3.out.seen).mono ?_
    rintro e w4 ⟨rfl, hb4⟩
    have HB4 : Hid (Below w.heap.size w w4) := HB3.out.trans (hb4.mono HB3.out.size)
    have XP_4 := Lib.hid (XP_3.out.below hb4 UXP_3.out)
    have UXP_4 := Lib.hid (Nat.le_trans UXP_3.out hb4.size)
    clear hb4
    go_wp2_with fail
    refine (c_toIntSS xss _ _ hsh.out (HS.out.below HB4.out)).mono ?_
    rintro e w5 ⟨Yv, rfl, hs, hb5⟩
    have HB5 : Hid (Below w.heap.size w w5) := HB4.out.trans (hb5.mono HB4.out.size)
    have XP_5 := Lib.hid (XP_4.out.below hb5 UXP_4.out)
    have UXP_5 := Lib.hid (Nat.le_trans UXP_4.out hb5.size)
    have YP_5 := Lib.hid hs
    have UYP_5 : Hid (_ ≤ _) := Nat.le_refl w5.heap.size
    clear hs
    clear hb5
    go_wp2_with fail
    refine (c_eqIntSS xss _ _ _ _ _ _ _ hsl hss.out XP_5.out YP_5.out UXP_5.out UYP_5.out).mono ?_
    rintro e w6 ⟨rfl, hb6⟩
    have HB6 : Hid (Below w.heap.size w w6) := HB5.out.trans (hb6.mono HB5.out.size)
    have XP_6 := Lib.hid (XP_5.out.below hb6 UXP_5.out)
    have UXP_6 := Lib.hid (Nat.le_trans UXP_5.out hb6.size)
    have YP_6 := Lib.hid (YP_5.out.below hb6 UYP_5.out)
    have UYP_6 := Lib.hid (Nat.le_trans UYP_5.out hb6.size)
    clear hb6
    go_wp2
    go_ret
    exact ⟨rfl, HB6.out⟩

/-! ### The row's step -/
theorem laid : laidOutB Try.prog = true := by kernel_rfl
set_option maxRecDepth 100000 in
set_option maxHeartbeats 8000000 in
theorem lifted (os : Os) (started : os.Started) (H : Type) (enc : TypeId × Value → H) :
    ReturnsInHanded {} Try.checked os 11 .any (Rows.fnExactIsChainSpec.pre6 enc Try.prog Try.f11 Rows.fnExactIsChainRow.domain false) (Rows.fnExactIsChainSpec.post enc Try.prog Try.f11 false true false false) := by
  refine returnsInHanded_of_change (C := Try.checked) own started (by kernel_rfl) Try.func11
    (ChangeSpec.witness6 (enc := enc) (C := Try.checked) false ⟨#[], #[.slice none 0 0], []⟩ 8 (by kernel_rfl) (by kernel_rfl) (by kernel_rfl) (by kernel_rfl)) ?_
  intro W base args ds gs before hval0 hW hcnd _
  have hval : ∀ (j : Nat) t v, Try.f11.params[j]? = some t → args[j]? = some v → Value.okWide Try.prog W .any base t v := hval0
  have hW' := hW
  have lts : ∀ x ∈ before, x.block < W.heap.size := fun x hx => by simpa using hW'.lt x hx
  obtain ⟨p, q, hA0, hV, rfl, hfz, hnd⟩ := hW
  have hA : DataW.TrodAll enc Try.prog W 0 (fun _ => true) true Try.f11.params.toList args.toList ds p := hA0
  rw [Try.params11] at hA hval
  obtain ⟨v0, vs0, d0, ds0, p0, q0, hargs, rfl, rfl, h0, r0⟩ := trodAll_cons hA
  obtain ⟨rfl, rfl, rfl⟩ := trodAll_nil r0
  obtain rfl : args = #[v0] := by cases args; simp_all
  obtain ⟨rfl, rfl⟩ := trodVars_none hV
  have k0 := h0
  obtain ⟨xss, hR⟩ := open_rows (hval 0 29 v0 rfl rfl) h0
  clear hA0 hval0
  simp only [List.append_nil] at hW' lts
  refine (walk xss v0 W hR).mono fun e W' ⟨he, bel⟩ => ?_
  subst he
  exact ⟨_, rfl, _, _, _, [], _, [], hW', trodAll_mk1 (shut_bool Try.underlying4 _), (trodAll_cons_mk (Below.trod laid (by kernel_rfl) (of_decide_eq_true (by kernel_rfl)) k0 bel (fun x hx => lts x (by simp [hx]))) trodAll_mk0), rfl, bel.frame _, fun h => by cases h⟩

set_option maxHeartbeats 8000000 in
theorem closed : joinedFacts Try.prog 11 Try.f11 Rows.fnExactIsChainSpec Rows.fnExactIsChainRow = true := by
  unfold joinedFacts
  simp only [Bool.and_eq_true]
  refine ⟨⟨⟨⟨⟨⟨⟨⟨⟨⟨⟨⟨⟨⟨⟨⟨⟨⟨⟨⟨⟨⟨⟨⟨⟨⟨⟨⟨⟨⟨⟨?_, ?_⟩, ?_⟩, ?_⟩, ?_⟩, ?_⟩, ?_⟩, ?_⟩, ?_⟩, ?_⟩, ?_⟩, ?_⟩, ?_⟩, ?_⟩, ?_⟩, ?_⟩, ?_⟩, ?_⟩, ?_⟩, ?_⟩, ?_⟩, ?_⟩, ?_⟩, ?_⟩, ?_⟩, ?_⟩, ?_⟩, ?_⟩, ?_⟩, ?_⟩, ?_⟩, ?_⟩
  · as_aux_lemma => kernel_rfl
  · as_aux_lemma => kernel_rfl
  · as_aux_lemma => kernel_rfl
  · as_aux_lemma => kernel_rfl
  · as_aux_lemma => kernel_rfl
  · as_aux_lemma => kernel_rfl
  · as_aux_lemma => kernel_rfl
  · as_aux_lemma => kernel_rfl
  · as_aux_lemma => kernel_rfl
  · as_aux_lemma => kernel_rfl
  · as_aux_lemma => kernel_rfl
  · as_aux_lemma => kernel_rfl
  · as_aux_lemma => kernel_rfl
  · as_aux_lemma => kernel_rfl
  · as_aux_lemma => kernel_rfl
  · as_aux_lemma => kernel_rfl
  · as_aux_lemma => kernel_rfl
  · as_aux_lemma => kernel_rfl
  · as_aux_lemma => kernel_rfl
  · as_aux_lemma => kernel_rfl
  · as_aux_lemma => kernel_rfl
  · as_aux_lemma => kernel_rfl
  · as_aux_lemma => kernel_rfl
  · as_aux_lemma => kernel_rfl
  · as_aux_lemma => kernel_rfl
  · exact jf_may
  · exact (congrArg (fun b => (Rows.fnExactIsChainRow.lifted == b)) jf_lifts).trans (by kernel_rfl)
  · exact (congrArg (fun o => (o == some Rows.fnExactIsChainRow.make)) jf_make).trans (by kernel_rfl)
  · as_aux_lemma => kernel_rfl
  · as_aux_lemma => kernel_rfl
  · as_aux_lemma => kernel_rfl
  · as_aux_lemma => kernel_rfl

set_option maxHeartbeats 8000000 in
theorem over : Rows.fnExactIsChainRow.holds Try.pinned (OpenSpec.ofChange Rows.fnExactIsChainSpec) :=
  OpenClaim.holds_of_wide 11 Try.f11 rfl rfl rfl rfl rfl rfl rfl ⟨rfl, rfl, rfl, rfl, rfl⟩ rfl rfl rfl rfl rfl (by kernel_rfl) Try.func11 closed
    (of_decide_eq_true (by kernel_rfl)) (by unfold Func.isWrapper; first | (rw [if_pos (by decide +kernel)]; kernel_rfl) | (rw [if_neg (by decide +kernel)]; exact ⟨rfl, rfl⟩))
    (fun os started H enc _ => lifted os started H enc)
end Go.Proofs.Ytoakpepoopjlaaa.fnExactIsChainProof
namespace Go.Proofs.Ytoakpepoopjlaaa
theorem fnExactIsChain_holds : Rows.FnExactIsChainSaid := fnExactIsChainProof.over
#print axioms fnExactIsChain_holds
end Go.Proofs.Ytoakpepoopjlaaa
