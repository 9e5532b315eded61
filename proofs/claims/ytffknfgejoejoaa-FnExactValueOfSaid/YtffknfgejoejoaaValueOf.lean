/-
  The law FnExactValueOf holds: for all arguments, ValueOf answers as its model does, and the arguments read as they did. No conditions.
-/
import Derived.Test.YtffknfgejoejoaaRows
import Derived.Test.YtffknfgejoejoaaNV
import Derived.Test.YtffknfgejoejoaaOpenL
import Derived.WalkKit
import Derived.Lib.Hide
import Derived.Deep.DeepCutAuto
import Derived.Deep.RegionHeld3
import Derived.ProofKit
import Derived.OpenShut
import Derived.ShutString
import Derived.ChangeOld
import Derived.Below
import Derived.Carry
import Derived.Deep.RegionWith
import Derived.Lib.SmallJoins
namespace Go.Proofs.Ytffknfgejoejoaa.fnExactValueOfProof
open Go.ChangeShapes Go.WideShapes Go.ChangeAt Go.RowKit Go.Joins
open Go.ChangeMaps (open_string shut_string)
set_option linter.unusedVariables false

theorem own : ownKnob Try.prog.godebug = none := by kernel_rfl

/-! ### The walk -/
set_option maxHeartbeats 4000000 in
set_option maxRecDepth 100000 in
theorem walk (u0 : Value) (bs0 : List Int) (u1 : Value) (bs1 : List Int) (w : World) (hS0 : Seen w u0 bs0) (hS1 : Seen w u1 bs1) :
    Calls Try.prog 15 #[u0, u1] w fun e w' => e = .returned (.bool true) ∧ Below w.heap.size w w' := by
  have HS0 := Lib.hid hS0
  obtain ⟨AV0, cV0, rfl, tv0, _⟩ := hS0
  have bv0 : bs0.length ≤ 9223372036854775807 := by unfold maxLen at tv0; omega
  clear tv0
  have HS1 := Lib.hid hS1
  obtain ⟨AV1, cV1, rfl, tv1, _⟩ := hS1
  have bv1 : bs1.length ≤ 9223372036854775807 := by unfold maxLen at tv1; omega
  clear tv1
  have hne0 : (sumvV bs0 bs1 != sumvV bs0 bs1) = false := by simp
  have hne1 : (sumvB bs0 bs1 != sumvB bs0 bs1) = false := by simp
  have HB0 : Hid (Below w.heap.size w w) := Below.refl _ _
  by_cases lv0 : bs0.length ≤ 1048576
  case neg =>
    go_enter Try.func15, Try.ntmps15
    go_wp2
    go_ret
    exact ⟨rfl, HB0.out⟩
  case pos =>
    by_cases lv1 : bs1.length ≤ 1048576
    case neg =>
      go_enter Try.func15, Try.ntmps15
      go_wp2
      go_ret
      exact ⟨rfl, HB0.out⟩
    case pos =>
      have lw0 : bs0.length ≤ 4000000 := by omega
      have lw1 : bs1.length ≤ 4000000 := by omega
      have CS : Hid (∀ (q0 : Value) (q1 : Value) (u : World), Seen u q0 bs0 → Seen u q1 bs1 → Calls Try.prog 49 #[q0, q1] u (fun e u' => e = .returned (.tuple #[.int .i64 (sumvV bs0 bs1), .bool (sumvB bs0 bs1)]) ∧ Below u.heap.size u u')) := fun q0 q1 u hq0 hq1 => c_ValueOfS bs0 q0 bs1 q1 u lw0 lw1 hq0 hq1
      have CI : Hid (∀ (q0 : Value) (q1 : Value) (u : World), Seen u q0 bs0 → Seen u q1 bs1 → Calls Try.prog 50 #[q0, q1] u (fun e u' => e = .returned (.tuple #[.int .i64 (sumvV bs0 bs1), .bool (sumvB bs0 bs1)]) ∧ Below u.heap.size u u')) := fun q0 q1 u hq0 hq1 => c_ValueOf bs0 q0 bs1 q1 u lw0 lw1 hq0 hq1
      go_enter Try.func15, Try.ntmps15
      go_wp2_with fail
      refine (c_toIntS bs0 _ _ lw0 (HS0.out.below HB0.out)).mono ?_
      rintro e w1 ⟨Sv0, rfl, hs, hb1⟩
      have HB1 : Hid (Below w.heap.size w w1) := HB0.out.trans (hb1.mono HB0.out.size)
      have SS0_1 := Lib.hid hs
      clear hs
      clear hb1
      go_wp2_with fail
      refine (c_toIntS bs1 _ _ lw1 (HS1.out.below HB1.out)).mono ?_
      rintro e w2 ⟨Sv1, rfl, hs, hb2⟩
      have HB2 : Hid (Below w.heap.size w w2) := HB1.out.trans (hb2.mono HB1.out.size)
      have SS0_2 := Lib.hid (SS0_1.out.below hb2)
      have SS1_2 := Lib.hid hs
      clear hs
      clear hb2
      go_wp2_with fail
      refine (CS.out _ _ _ SS0_2.out.seen SS1_2.out.seen).mono ?_
      rintro e w3 ⟨rfl, hb3⟩
      have HB3 : Hid (Below w.heap.size w w3) := HB2.out.trans (hb3.mono HB2.out.size)
      have SS0_3 := Lib.hid (SS0_2.out.below hb3)
      have SS1_3 := Lib.hid (SS1_2.out.below hb3)
      clear hb3
      go_wp2_with fail
      refine (c_toIntS bs0 _ _ lw0 (HS0.out.below HB3.out)).mono ?_
      rintro e w4 ⟨Xv0, rfl, hs, hb4⟩
      have HB4 : Hid (Below w.heap.size w w4) := HB3.out.trans (hb4.mono HB3.out.size)
      have XS0_4 := Lib.hid hs
      clear hs
      clear hb4
      go_wp2_with fail
      refine (c_toIntS bs1 _ _ lw1 (HS1.out.below HB4.out)).mono ?_
      rintro e w5 ⟨Xv1, rfl, hs, hb5⟩
      have HB5 : Hid (Below w.heap.size w w5) := HB4.out.trans (hb5.mono HB4.out.size)
      have XS0_5 := Lib.hid (XS0_4.out.below hb5)
      have XS1_5 := Lib.hid hs
      clear hs
      clear hb5
      go_wp2_with fail
      refine (CI.out _ _ _ XS0_5.out.seen XS1_5.out.seen).mono ?_
      rintro e w6 ⟨rfl, hb6⟩
      have HB6 : Hid (Below w.heap.size w w6) := HB5.out.trans (hb6.mono HB5.out.size)
      have XS0_6 := Lib.hid (XS0_5.out.below hb6)
      have XS1_6 := Lib.hid (XS1_5.out.below hb6)
      clear hb6
      go_wp2_with fail
      refine (c_toIntS bs0 _ _ lw0 (HS0.out.below HB6.out)).mono ?_
      rintro e w7 ⟨Yv0, rfl, hs, hb7⟩
      have HB7 : Hid (Below w.heap.size w w7) := HB6.out.trans (hb7.mono HB6.out.size)
      have XS0_7 := Lib.hid (XS0_6.out.below hb7)
      have XS1_7 := Lib.hid (XS1_6.out.below hb7)
      have YS0_7 := Lib.hid hs
      clear hs
      clear hb7
      go_wp2_with fail
      refine (c_eqIntS bs0 _ _ _ _ _ lw0 XS0_7.out YS0_7.out).mono ?_
      rintro e w8 ⟨rfl, hb8⟩
      have HB8 : Hid (Below w.heap.size w w8) := HB7.out.trans (hb8.mono HB7.out.size)
      have XS0_8 := Lib.hid (XS0_7.out.below hb8)
      have XS1_8 := Lib.hid (XS1_7.out.below hb8)
      have YS0_8 := Lib.hid (YS0_7.out.below hb8)
      clear hb8
      go_wp2_with fail
      refine (c_toIntS bs1 _ _ lw1 (HS1.out.below HB8.out)).mono ?_
      rintro e w9 ⟨Yv1, rfl, hs, hb9⟩
      have HB9 : Hid (Below w.heap.size w w9) := HB8.out.trans (hb9.mono HB8.out.size)
      have XS0_9 := Lib.hid (XS0_8.out.below hb9)
      have XS1_9 := Lib.hid (XS1_8.out.below hb9)
      have YS1_9 := Lib.hid hs
      clear hs
      clear hb9
      go_wp2_with fail
      refine (c_eqIntS bs1 _ _ _ _ _ lw1 XS1_9.out YS1_9.out).mono ?_
      rintro e w10 ⟨rfl, hb10⟩
      have HB10 : Hid (Below w.heap.size w w10) := HB9.out.trans (hb10.mono HB9.out.size)
      have XS0_10 := Lib.hid (XS0_9.out.below hb10)
      have XS1_10 := Lib.hid (XS1_9.out.below hb10)
      have YS1_10 := Lib.hid (YS1_9.out.below hb10)
      clear hb10
      go_wp2
      go_ret
      exact ⟨rfl, HB10.out⟩

/-! ### The row's step -/
theorem laid : laidOutB Try.prog = true := by kernel_rfl
set_option maxRecDepth 100000 in
theorem lifted (os : Os) (started : os.Started) (H : Type) (enc : TypeId × Value → H) :
    ReturnsInHanded {} Try.checked os 15 .any (Rows.fnExactValueOfSpec.pre6 enc Try.prog Try.f15 Rows.fnExactValueOfRow.domain false) (Rows.fnExactValueOfSpec.post enc Try.prog Try.f15 false true false false) := by
  refine returnsInHanded_of_change (C := Try.checked) own started (by kernel_rfl) Try.func15
    (ChangeSpec.witness6 (enc := enc) (C := Try.checked) false ⟨#[], #[.slice none 0 0, .slice none 0 0], []⟩ 8 (by kernel_rfl) (by kernel_rfl) (by kernel_rfl) (by kernel_rfl)) ?_
  intro W base args ds gs before hval0 hW hcnd _
  have hval : ∀ (j : Nat) t v, Try.f15.params[j]? = some t → args[j]? = some v → Value.okWide Try.prog W .any base t v := hval0
  have hW' := hW
  have lts : ∀ x ∈ before, x.block < W.heap.size := fun x hx => by simpa using hW'.lt x hx
  obtain ⟨p, q, hA0, hV, rfl, hfz, hnd⟩ := hW
  have hA : DataW.TrodAll enc Try.prog W 0 (fun _ => true) true Try.f15.params.toList args.toList ds p := hA0
  rw [Try.params15] at hA hval
  obtain ⟨v0, vs0, d0, ds0, p0, q0, hargs, rfl, rfl, h0, r0⟩ := trodAll_cons hA
  obtain ⟨v1, vs1, d1, ds1, p1, q1, rfl, rfl, rfl, h1, r1⟩ := trodAll_cons r0
  obtain ⟨rfl, rfl, rfl⟩ := trodAll_nil r1
  obtain rfl : args = #[v0, v1] := by cases args; simp_all
  obtain ⟨rfl, rfl⟩ := trodVars_none hV
  have k0 := h0
  obtain ⟨bs0, hS0⟩ := open_list (hval 0 27 v0 rfl rfl) h0
  have k1 := h1
  obtain ⟨bs1, hS1⟩ := open_list (hval 1 27 v1 rfl rfl) h1
  clear hA0 hval0
  simp only [List.append_nil] at hW' lts
  refine (walk v0 bs0 v1 bs1 W hS0 hS1).mono fun e W' ⟨he, bel⟩ => ?_
  subst he
  exact ⟨_, rfl, _, _, _, [], _, [], hW', trodAll_mk1 (shut_bool Try.underlying4 _), (trodAll_cons_mk (Below.trod laid (by kernel_rfl) (of_decide_eq_true (by kernel_rfl)) k0 bel (fun x hx => lts x (by simp [hx]))) (trodAll_cons_mk (Below.trod laid (by kernel_rfl) (of_decide_eq_true (by kernel_rfl)) k1 bel (fun x hx => lts x (by simp [hx]))) trodAll_mk0)), rfl, bel.frame _, fun h => by cases h⟩

theorem over : Rows.fnExactValueOfRow.holds Try.pinned (OpenSpec.ofChange Rows.fnExactValueOfSpec) :=
  OpenClaim.holds_of_wide 15 Try.f15 rfl rfl rfl rfl rfl rfl rfl ⟨rfl, rfl, rfl, rfl, rfl⟩ rfl rfl rfl rfl rfl (by kernel_rfl) Try.func15 (by kernel_rfl)
    (of_decide_eq_true (by kernel_rfl)) (by unfold Func.isWrapper; first | (rw [if_pos (by decide +kernel)]; kernel_rfl) | (rw [if_neg (by decide +kernel)]; exact ⟨rfl, rfl⟩))
    (fun os started H enc _ => lifted os started H enc)

end Go.Proofs.Ytffknfgejoejoaa.fnExactValueOfProof
namespace Go.Proofs.Ytffknfgejoejoaa
theorem fnExactValueOf_holds : Rows.FnExactValueOfSaid := fnExactValueOfProof.over
#print axioms fnExactValueOf_holds
end Go.Proofs.Ytffknfgejoejoaa
