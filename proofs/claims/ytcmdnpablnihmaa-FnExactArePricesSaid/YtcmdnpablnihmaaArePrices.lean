/-
  The law FnExactArePrices holds: for all arguments, ArePrices answers as its model does, and the arguments read as they did. No conditions.
-/
import Derived.Test.YtcmdnpablnihmaaRows
import Derived.Test.YtcmdnpablnihmaaW2
import Derived.Test.YtcmdnpablnihmaaOpenR
import Derived.Test.YtcmdnpablnihmaaOpen
import Derived.WalkKit
import Derived.Lib.Hide
import Derived.Deep.DeepCutAuto
import Derived.ProofKit
import Derived.OpenShut
import Derived.ShutString
import Derived.ChangeOld
import Derived.Below
import Derived.Carry
import Derived.Deep.RegionWith
import Derived.Lib.SmallJoins
namespace Go.Proofs.Ytcmdnpablnihmaa.fnExactArePricesProof
open Go.ChangeShapes Go.WideShapes Go.ChangeAt Go.RowKit Go.Joins
open Go.ChangeMaps (open_string shut_string)
set_option linter.unusedVariables false

theorem own : ownKnob Try.prog.godebug = none := by kernel_rfl

/-! ### The walk -/
set_option maxHeartbeats 4000000 in
set_option maxRecDepth 100000 in
theorem walk (p q r s : Int) (w : World)  :
    Calls Try.prog 4 #[.agg #[.int .i64 p, .int .i64 q, .int .i64 r, .int .i64 s]] w fun e w' => e = .returned (.bool true) ∧ Below w.heap.size w w' := by
  have hne0 : (priB p q r s != priB p q r s) = false := by simp
  have HB0 : Hid (Below w.heap.size w (w.alloc (.cells #[.int .i64 p, .int .i64 q, .int .i64 r, .int .i64 s] 27))) := (Below.refl _ _).alloc (Nat.le_refl _) _
  have AR_0 : Hid (Box4 (w.alloc (.cells #[.int .i64 p, .int .i64 q, .int .i64 r, .int .i64 s] 27)) w.heap.size p q r s) := Box4.new _ _ _ _ _ _
  have CS : Hid (∀ (u : World), Calls Try.prog 18 #[.agg #[.int .i64 p, .int .i64 q, .int .i64 r, .int .i64 s]] u (fun e u' => e = .returned (.bool (priB p q r s)) ∧ Below u.heap.size u u')) := fun u => c_ArePricesS p q r s u
  have CI : Hid (∀ (u : World), Calls Try.prog 20 #[.agg #[.int .i64 p, .int .i64 q, .int .i64 r, .int .i64 s]] u (fun e u' => e = .returned (.bool (priB p q r s)) ∧ Below u.heap.size u u')) := fun u => c_ArePrices p q r s u
  go_enter Try.func4, Try.ntmps4
  go_wp2_with fail
  refine (c_toPrices p q r s _).mono ?_
  rintro e w1 ⟨rfl, hb1⟩
  have HB1 : Hid (Below w.heap.size w w1) := HB0.out.trans (hb1.mono HB0.out.size)
  have AR_1 := Lib.hid (AR_0.out.below hb1)
  have lt_ar_1 := AR_1.out.lt
  have ar_1c0 := AR_1.out.c0
  have ar_1c1 := AR_1.out.c1
  have ar_1c2 := AR_1.out.c2
  have ar_1c3 := AR_1.out.c3
  clear hb1
  go_wp2_with fail
  refine (CS.out _).mono ?_
  rintro e w2 ⟨rfl, hb2⟩
  have HB2 : Hid (Below w.heap.size w w2) := HB1.out.trans (hb2.mono HB1.out.size)
  have AR_2 := Lib.hid (AR_1.out.below hb2)
  have lt_ar_2 := AR_2.out.lt
  have ar_2c0 := AR_2.out.c0
  have ar_2c1 := AR_2.out.c1
  have ar_2c2 := AR_2.out.c2
  have ar_2c3 := AR_2.out.c3
  clear hb2
  go_wp2_with fail
  refine (c_toPrices p q r s _).mono ?_
  rintro e w3 ⟨rfl, hb3⟩
  have HB3 : Hid (Below w.heap.size w w3) := HB2.out.trans (hb3.mono HB2.out.size)
  have AR_3 := Lib.hid (AR_2.out.below hb3)
  have lt_ar_3 := AR_3.out.lt
  have ar_3c0 := AR_3.out.c0
  have ar_3c1 := AR_3.out.c1
  have ar_3c2 := AR_3.out.c2
  have ar_3c3 := AR_3.out.c3
  clear hb3
  go_wp2_with fail
  refine (CI.out _).mono ?_
  rintro e w4 ⟨rfl, hb4⟩
  have HB4 : Hid (Below w.heap.size w w4) := HB3.out.trans (hb4.mono HB3.out.size)
  have AR_4 := Lib.hid (AR_3.out.below hb4)
  have lt_ar_4 := AR_4.out.lt
  have ar_4c0 := AR_4.out.c0
  have ar_4c1 := AR_4.out.c1
  have ar_4c2 := AR_4.out.c2
  have ar_4c3 := AR_4.out.c3
  clear hb4
  go_wp2
  go_ret
  exact ⟨rfl, HB4.out⟩

/-! ### The row's step -/
theorem laid : laidOutB Try.prog = true := by kernel_rfl
set_option maxRecDepth 100000 in
theorem lifted (os : Os) (started : os.Started) (H : Type) (enc : TypeId × Value → H) :
    ReturnsInHanded {} Try.checked os 4 .any (Rows.fnExactArePricesSpec.pre6 enc Try.prog Try.f4 Rows.fnExactArePricesRow.domain false) (Rows.fnExactArePricesSpec.post enc Try.prog Try.f4 false true false false) := by
  refine returnsInHanded_of_change (C := Try.checked) own started (by kernel_rfl) Try.func4
    (ChangeSpec.witness6 (enc := enc) (C := Try.checked) false ⟨#[], #[.agg #[.int .i64 0, .int .i64 0, .int .i64 0, .int .i64 0]], []⟩ 8 (by kernel_rfl) (by kernel_rfl) (by kernel_rfl) (by kernel_rfl)) ?_
  intro W base args ds gs before hval0 hW hcnd _
  have hval : ∀ (j : Nat) t v, Try.f4.params[j]? = some t → args[j]? = some v → Value.okWide Try.prog W .any base t v := hval0
  have hW' := hW
  have lts : ∀ x ∈ before, x.block < W.heap.size := fun x hx => by simpa using hW'.lt x hx
  obtain ⟨p, q, hA0, hV, rfl, hfz, hnd⟩ := hW
  have hA : DataW.TrodAll enc Try.prog W 0 (fun _ => true) true Try.f4.params.toList args.toList ds p := hA0
  rw [Try.params4] at hA hval
  obtain ⟨v0, vs0, d0, ds0, p0, q0, hargs, rfl, rfl, h0, r0⟩ := trodAll_cons hA
  obtain ⟨rfl, rfl, rfl⟩ := trodAll_nil r0
  obtain rfl : args = #[v0] := by cases args; simp_all
  obtain ⟨rfl, rfl⟩ := trodVars_none hV
  have k0 := h0
  obtain ⟨p, q, r, s, rfl⟩ := open_prices (hval 0 27 v0 rfl rfl) h0
  clear hA0 hval0
  simp only [List.append_nil] at hW' lts
  refine (walk p q r s W ).mono fun e W' ⟨he, bel⟩ => ?_
  subst he
  exact ⟨_, rfl, _, _, _, [], _, [], hW', trodAll_mk1 (shut_bool Try.underlying4 _), (trodAll_cons_mk (Below.trod laid (by kernel_rfl) (of_decide_eq_true (by kernel_rfl)) k0 bel (fun x hx => lts x (by simp [hx]))) trodAll_mk0), rfl, bel.frame _, fun h => by cases h⟩

theorem over : Rows.fnExactArePricesRow.holds Try.pinned (OpenSpec.ofChange Rows.fnExactArePricesSpec) :=
  OpenClaim.holds_of_wide 4 Try.f4 rfl rfl rfl rfl rfl rfl rfl ⟨rfl, rfl, rfl, rfl, rfl⟩ rfl rfl rfl rfl rfl (by kernel_rfl) Try.func4 (by kernel_rfl)
    (of_decide_eq_true (by kernel_rfl)) (by unfold Func.isWrapper; first | (rw [if_pos (by decide +kernel)]; kernel_rfl) | (rw [if_neg (by decide +kernel)]; exact ⟨rfl, rfl⟩))
    (fun os started H enc _ => lifted os started H enc)

end Go.Proofs.Ytcmdnpablnihmaa.fnExactArePricesProof
namespace Go.Proofs.Ytcmdnpablnihmaa
theorem fnExactArePrices_holds : Rows.FnExactArePricesSaid := fnExactArePricesProof.over
#print axioms fnExactArePrices_holds
end Go.Proofs.Ytcmdnpablnihmaa
