/-
  The law FnExactAreValues holds: for all arguments, AreValues answers as its model does, and the arguments read as they did. No conditions.
-/
import Derived.Test.YtcmdnpablnihmaaRows
import Derived.Test.YtcmdnpablnihmaaW1
import Derived.Test.YtcmdnpablnihmaaOpen
import Derived.WalkKit
import Derived.Lib.Hide
import Derived.Deep.DeepCutAuto
import Derived.ProofKit
import Derived.OpenShut
import Derived.ShutString
import Derived.ChangeOld
import Derived.Below
import Derived.Carry
import Derived.Deep.RegionWith
import Derived.Lib.SmallJoins
namespace Go.Proofs.Ytcmdnpablnihmaa.fnExactAreValuesProof
open Go.ChangeShapes Go.WideShapes Go.ChangeAt Go.RowKit Go.Joins
open Go.ChangeMaps (open_string shut_string)
set_option linter.unusedVariables false

theorem own : ownKnob Try.prog.godebug = none := by kernel_rfl

/-! ### The walk -/
set_option maxHeartbeats 4000000 in
set_option maxRecDepth 100000 in
theorem walk (u0 : Value) (bs0 : List Int) (a1 : Int) (w : World) (hS0 : Seen w u0 bs0) (wf1 : (Lit.int .i64 a1).wf = true) :
    Calls Try.prog 3 #[u0, .int .i64 a1] w fun e w' => e = .returned (.bool true) ∧ Below w.heap.size w w' := by
  have HS0 := Lib.hid hS0
  obtain ⟨AV0, cV0, rfl, tv0, _⟩ := hS0
  have bv0 : bs0.length ≤ 9223372036854775807 := by unfold maxLen at tv0; omega
  clear tv0
  have hne0 : (valB a1 bs0 != valB a1 bs0) = false := by simp
  have HB0 : Hid (Below w.heap.size w w) := Below.refl _ _
  by_cases lv0 : bs0.length ≤ 1048576
  case neg =>
    go_enter Try.func3, Try.ntmps3
    go_wp2
    go_ret
    exact ⟨rfl, HB0.out⟩
  case pos =>
    have lw0 : bs0.length ≤ 4000000 := by omega
    have CS : Hid (∀ (q0 : Value) (u : World), Seen u q0 bs0 → Calls Try.prog 14 #[q0, .int .i64 a1] u (fun e u' => e = .returned (.bool (valB a1 bs0)) ∧ Below u.heap.size u u')) := fun q0 u hq0 => (c_AreValuesS bs0 q0 a1 u lw0 hq0).mono (fun e w' h => ⟨h.1, h.2 ▸ Below.refl _ _⟩)
    have CI : Hid (∀ (q0 : Value) (u : World), Seen u q0 bs0 → Calls Try.prog 16 #[q0, .int .i64 a1] u (fun e u' => e = .returned (.bool (valB a1 bs0)) ∧ Below u.heap.size u u')) := fun q0 u hq0 => (c_AreValues bs0 q0 a1 u lw0 hq0).mono (fun e w' h => ⟨h.1, h.2 ▸ Below.refl _ _⟩)
    go_enter Try.func3, Try.ntmps3
    go_wp2_with fail
    refine (c_toIntS bs0 _ _ lw0 (HS0.out.below HB0.out)).mono ?_
    rintro e w1 ⟨Sv0, rfl, hs, hb1⟩
    have HB1 : Hid (Below w.heap.size w w1) := HB0.out.trans (hb1.mono HB0.out.size)
    have SS0_1 := Lib.hid hs
    clear hs
    clear hb1
    go_wp2_with fail
    refine (CS.out _ _ SS0_1.out.seen).mono ?_
    rintro e w2 ⟨rfl, hb2⟩
    have HB2 : Hid (Below w.heap.size w w2) := HB1.out.trans (hb2.mono HB1.out.size)
    have SS0_2 := Lib.hid (SS0_1.out.below hb2)
    clear hb2
    go_wp2_with fail
    refine (c_toIntS bs0 _ _ lw0 (HS0.out.below HB2.out)).mono ?_
    rintro e w3 ⟨Xv0, rfl, hs, hb3⟩
    have HB3 : Hid (Below w.heap.size w w3) := HB2.out.trans (hb3.mono HB2.out.size)
    have XS0_3 := Lib.hid hs
    clear hs
    clear hb3
    go_wp2_with fail
    refine (CI.out _ _ XS0_3.out.seen).mono ?_
    rintro e w4 ⟨rfl, hb4⟩
    have HB4 : Hid (Below w.heap.size w w4) := HB3.out.trans (hb4.mono HB3.out.size)
    have XS0_4 := Lib.hid (XS0_3.out.below hb4)
    clear hb4
    go_wp2_with fail
    refine (c_toIntS bs0 _ _ lw0 (HS0.out.below HB4.out)).mono ?_
    rintro e w5 ⟨Yv0, rfl, hs, hb5⟩
    have HB5 : Hid (Below w.heap.size w w5) := HB4.out.trans (hb5.mono HB4.out.size)
    have XS0_5 := Lib.hid (XS0_4.out.below hb5)
    have YS0_5 := Lib.hid hs
    clear hs
    clear hb5
    go_wp2_with fail
    refine (c_eqIntS bs0 _ _ _ _ _ lw0 XS0_5.out YS0_5.out).mono ?_
    rintro e w6 ⟨rfl, hb6⟩
    have HB6 : Hid (Below w.heap.size w w6) := HB5.out.trans (hb6.mono HB5.out.size)
    have XS0_6 := Lib.hid (XS0_5.out.below hb6)
    have YS0_6 := Lib.hid (YS0_5.out.below hb6)
    clear hb6
    go_wp2
    go_ret
    exact ⟨rfl, HB6.out⟩

/-! ### The row's step -/
theorem laid : laidOutB Try.prog = true := by kernel_rfl
set_option maxRecDepth 100000 in
theorem lifted (os : Os) (started : os.Started) (H : Type) (enc : TypeId × Value → H) :
    ReturnsInHanded {} Try.checked os 3 .any (Rows.fnExactAreValuesSpec.pre6 enc Try.prog Try.f3 Rows.fnExactAreValuesRow.domain false) (Rows.fnExactAreValuesSpec.post enc Try.prog Try.f3 false true false false) := by
  refine returnsInHanded_of_change (C := Try.checked) own started (by kernel_rfl) Try.func3
    (ChangeSpec.witness6 (enc := enc) (C := Try.checked) false ⟨#[], #[.slice none 0 0, .int .i64 0], []⟩ 8 (by kernel_rfl) (by kernel_rfl) (by kernel_rfl) (by kernel_rfl)) ?_
  intro W base args ds gs before hval0 hW hcnd _
  have hval : ∀ (j : Nat) t v, Try.f3.params[j]? = some t → args[j]? = some v → Value.okWide Try.prog W .any base t v := hval0
  have hW' := hW
  have lts : ∀ x ∈ before, x.block < W.heap.size := fun x hx => by simpa using hW'.lt x hx
  obtain ⟨p, q, hA0, hV, rfl, hfz, hnd⟩ := hW
  have hA : DataW.TrodAll enc Try.prog W 0 (fun _ => true) true Try.f3.params.toList args.toList ds p := hA0
  rw [Try.params3] at hA hval
  obtain ⟨v0, vs0, d0, ds0, p0, q0, hargs, rfl, rfl, h0, r0⟩ := trodAll_cons hA
  obtain ⟨v1, vs1, d1, ds1, p1, q1, rfl, rfl, rfl, h1, r1⟩ := trodAll_cons r0
  obtain ⟨rfl, rfl, rfl⟩ := trodAll_nil r1
  obtain rfl : args = #[v0, v1] := by cases args; simp_all
  obtain ⟨rfl, rfl⟩ := trodVars_none hV
  have k0 := h0
  obtain ⟨bs0, hS0⟩ := open_list (hval 0 22 v0 rfl rfl) h0
  have k1 := h1
  obtain ⟨a1, rfl, _, _, w1⟩ := open_int Try.underlying3 (hval 1 3 v1 rfl rfl) h1
  clear hA0 hval0
  simp only [List.append_nil] at hW' lts
  refine (walk v0 bs0 a1 W hS0 w1).mono fun e W' ⟨he, bel⟩ => ?_
  subst he
  exact ⟨_, rfl, _, _, _, [], _, [], hW', trodAll_mk1 (shut_bool Try.underlying4 _), (trodAll_cons_mk (Below.trod laid (by kernel_rfl) (of_decide_eq_true (by kernel_rfl)) k0 bel (fun x hx => lts x (by simp [hx]))) (trodAll_cons_mk (Below.trod laid (by kernel_rfl) (of_decide_eq_true (by kernel_rfl)) k1 bel (fun x hx => lts x (by simp [hx]))) trodAll_mk0)), rfl, bel.frame _, fun h => by cases h⟩

theorem over : Rows.fnExactAreValuesRow.holds Try.pinned (OpenSpec.ofChange Rows.fnExactAreValuesSpec) :=
  OpenClaim.holds_of_wide 3 Try.f3 rfl rfl rfl rfl rfl rfl rfl ⟨rfl, rfl, rfl, rfl, rfl⟩ rfl rfl rfl rfl rfl (by kernel_rfl) Try.func3 (by kernel_rfl)
    (of_decide_eq_true (by kernel_rfl)) (by unfold Func.isWrapper; first | (rw [if_pos (by decide +kernel)]; kernel_rfl) | (rw [if_neg (by decide +kernel)]; exact ⟨rfl, rfl⟩))
    (fun os started H enc _ => lifted os started H enc)

end Go.Proofs.Ytcmdnpablnihmaa.fnExactAreValuesProof
namespace Go.Proofs.Ytcmdnpablnihmaa
theorem fnExactAreValues_holds : Rows.FnExactAreValuesSaid := fnExactAreValuesProof.over
#print axioms fnExactAreValues_holds
end Go.Proofs.Ytcmdnpablnihmaa
