/-
  The law FnExactIsSteeper holds: for all arguments, IsSteeper answers as its model does, and the arguments read as they did. No conditions.
-/
import Derived.Test.YthdbcncdihcggaaRows
import Derived.Test.YthdbcncdihcggaaO8
import Derived.Test.YthdbcncdihcggaaO4
import Derived.Test.YthdbcncdihcggaaOpenL
import Derived.WalkKit
import Derived.Lib.Hide
import Derived.Deep.DeepCutAuto
import Derived.ProofKit
import Derived.OpenShut
import Derived.ShutString
import Derived.ChangeOld
import Derived.Below
import Derived.Carry
import Derived.Deep.RegionWith
import Derived.Lib.SmallJoins
namespace Go.Proofs.Ythdbcncdihcggaa.fnExactIsSteeperProof
open Go.ChangeShapes Go.WideShapes Go.ChangeAt Go.RowKit Go.Joins
open Go.ChangeMaps (open_string shut_string)
set_option linter.unusedVariables false

theorem own : ownKnob Try.prog.godebug = none := by kernel_rfl


/-! ### The walk -/
set_option maxHeartbeats 4000000 in
set_option maxRecDepth 100000 in
theorem walk (n : Nat) (xs : List Int) (v0 : Value) (n2 : Nat) (xs2 : List Int) (v1 : Value) (w : World) (hS : SeenP w v0 n xs) (hS2 : SeenP w v1 n2 xs2) :
    Calls Try.prog 5 #[v0, v1] w fun e w' => e = .returned (.bool true) ∧ Below w.heap.size w w' := by
  have HS := Lib.hid hS
  obtain ⟨A, c, rfl, hm, hx, _⟩ := hS
  have b1 : n ≤ 9223372036854775807 := by unfold maxLen at hm; omega
  clear hm hx
  have HS2 := Lib.hid hS2
  obtain ⟨A2, c2, rfl, hm2, hx2, _⟩ := hS2
  have b2 : n2 ≤ 9223372036854775807 := by unfold maxLen at hm2; omega
  clear hm2 hx2
  have HB0 : Hid (Below w.heap.size w w) := Below.refl _ _
  have hne0 : (steV n xs n2 xs2 != steV n xs n2 xs2) = false := by simp
  have hne1 : (steB n xs n2 xs2 != steB n xs n2 xs2) = false := by simp
  by_cases l1 : n ≤ 1048576
  case neg =>
    go_enter Try.func5, Try.ntmps5
    go_wp2_with fail
    refine (c_szOffsetS A n c 1048576 _ (by omega) (by omega) b1).mono ?_
    rintro e w' ⟨rfl, rfl⟩
    rw [if_neg (by omega)]
    go_wp2
    go_ret
    exact ⟨rfl, HB0.out⟩
  case pos =>
    have q1 : ¬ (1048576 - (n : Int)) < 0 := by omega
    by_cases l2 : (n2 : Int) ≤ 1048576 - (n : Int)
    case neg =>
      go_enter Try.func5, Try.ntmps5
      go_wp2_with fail
      refine (c_szOffsetS A n c 1048576 _ (by omega) (by omega) b1).mono ?_
      rintro e w' ⟨rfl, rfl⟩
      rw [if_pos (by omega)]
      go_wp2_with fail
      refine (c_szOffsetS A2 n2 c2 (1048576 - (n : Int)) _ (by omega) (by omega) b2).mono ?_
      rintro e w' ⟨rfl, rfl⟩
      rw [if_neg (by omega)]
      go_wp2
      go_ret
      exact ⟨rfl, HB0.out⟩
    case pos =>
      have q2 : ¬ (1048576 - (n : Int) - (n2 : Int)) < 0 := by omega
      have l2n : n2 ≤ 1048576 := by omega
      have CS : Hid (∀ (p : Value) (p2 : Value) (u : World), SeenP u p n xs → SeenP u p2 n2 xs2 → Calls Try.prog 21 #[p, p2] u (fun e u' => e = .returned (.tuple #[.bool (steV n xs n2 xs2), .bool (steB n xs n2 xs2)]) ∧ Below u.heap.size u u')) := fun p p2 u hu hu2 => c_IsSteeperS n xs p n2 xs2 p2 u l1 l2n hu hu2
      have CI : Hid (∀ (p : Value) (p2 : Value) (u : World), SeenP u p n xs → SeenP u p2 n2 xs2 → Calls Try.prog 22 #[p, p2] u (fun e u' => e = .returned (.tuple #[.bool (steV n xs n2 xs2), .bool (steB n xs n2 xs2)]) ∧ Below u.heap.size u u')) := fun p p2 u hu hu2 => c_IsSteeper n xs p n2 xs2 p2 u l1 l2n hu hu2
      have hkq : ¬ (1 + (n : Int) * 3) < 0 := by omega
      have hkq2 : ¬ (1 + (n : Int) * 3 + (n2 : Int) * 3) < 0 := by omega
      go_enter Try.func5, Try.ntmps5
      go_wp2_with fail
      refine (c_szOffsetS A n c 1048576 _ (by omega) (by omega) b1).mono ?_
      rintro e w' ⟨rfl, rfl⟩
      rw [if_pos (by omega)]
      go_wp2_with fail
      refine (c_szOffsetS A2 n2 c2 (1048576 - (n : Int)) _ (by omega) (by omega) b2).mono ?_
      rintro e w' ⟨rfl, rfl⟩
      rw [if_pos (by omega)]
      go_wp2_with fail
      refine (c_toOffsetS n xs _ _ l1 (HS.out.below HB0.out)).mono ?_
      rintro e w1 ⟨Sv, rfl, hs, hb1⟩
      have HB1 : Hid (Below w.heap.size w w1) := HB0.out.trans (hb1.mono HB0.out.size)
      have SP_1 := Lib.hid hs
      clear hs
      clear hb1
      go_wp2_with fail
      refine (c_toOffsetS n2 xs2 _ _ l2n (HS2.out.below HB1.out)).mono ?_
      rintro e w2 ⟨Su, rfl, hs, hb2⟩
      have HB2 : Hid (Below w.heap.size w w2) := HB1.out.trans (hb2.mono HB1.out.size)
      have SP_2 := Lib.hid (SP_1.out.below hb2)
      have SQ_2 := Lib.hid hs
      clear hs
      clear hb2
      go_wp2_with fail
      refine (CS.out _ _ _ SP_2.out.seen SQ_2.out.seen).mono ?_
      rintro e w3 ⟨rfl, hb3⟩
      have HB3 : Hid (Below w.heap.size w w3) := HB2.out.trans (hb3.mono HB2.out.size)
      have SP_3 := Lib.hid (SP_2.out.below hb3)
      have SQ_3 := Lib.hid (SQ_2.out.below hb3)
      clear hb3
      go_wp2_with fail
      refine (c_toOffsetS n xs _ _ l1 (HS.out.below HB3.out)).mono ?_
      rintro e w4 ⟨Xv, rfl, hs, hb4⟩
      have HB4 : Hid (Below w.heap.size w w4) := HB3.out.trans (hb4.mono HB3.out.size)
      have XP_4 := Lib.hid hs
      clear hs
      clear hb4
      go_wp2_with fail
      refine (c_toOffsetS n2 xs2 _ _ l2n (HS2.out.below HB4.out)).mono ?_
      rintro e w5 ⟨Xu, rfl, hs, hb5⟩
      have HB5 : Hid (Below w.heap.size w w5) := HB4.out.trans (hb5.mono HB4.out.size)
      have XP_5 := Lib.hid (XP_4.out.below hb5)
      have XQ_5 := Lib.hid hs
      clear hs
      clear hb5
      go_wp2_with fail
      refine (CI.out _ _ _ XP_5.out.seen XQ_5.out.seen).mono ?_
      rintro e w6 ⟨rfl, hb6⟩
      have HB6 : Hid (Below w.heap.size w w6) := HB5.out.trans (hb6.mono HB5.out.size)
      have XP_6 := Lib.hid (XP_5.out.below hb6)
      have XQ_6 := Lib.hid (XQ_5.out.below hb6)
      clear hb6
      go_wp2_with fail
      refine (c_toOffsetS n xs _ _ l1 (HS.out.below HB6.out)).mono ?_
      rintro e w7 ⟨Yv, rfl, hs, hb7⟩
      have HB7 : Hid (Below w.heap.size w w7) := HB6.out.trans (hb7.mono HB6.out.size)
      have XP_7 := Lib.hid (XP_6.out.below hb7)
      have XQ_7 := Lib.hid (XQ_6.out.below hb7)
      have YP_7 := Lib.hid hs
      clear hs
      clear hb7
      go_wp2_with fail
      refine (c_eqOffsetS n xs _ _ _ _ _ l1 XP_7.out YP_7.out).mono ?_
      rintro e w8 ⟨rfl, hb8⟩
      have HB8 : Hid (Below w.heap.size w w8) := HB7.out.trans (hb8.mono HB7.out.size)
      have XP_8 := Lib.hid (XP_7.out.below hb8)
      have XQ_8 := Lib.hid (XQ_7.out.below hb8)
      have YP_8 := Lib.hid (YP_7.out.below hb8)
      clear hb8
      go_wp2_with fail
      refine (c_toOffsetS n2 xs2 _ _ l2n (HS2.out.below HB8.out)).mono ?_
      rintro e w9 ⟨Yu, rfl, hs, hb9⟩
      have HB9 : Hid (Below w.heap.size w w9) := HB8.out.trans (hb9.mono HB8.out.size)
      have XP_9 := Lib.hid (XP_8.out.below hb9)
      have XQ_9 := Lib.hid (XQ_8.out.below hb9)
      have YQ_9 := Lib.hid hs
      clear hs
      clear hb9
      go_wp2_with fail
      refine (c_eqOffsetS n2 xs2 _ _ _ _ _ l2n XQ_9.out YQ_9.out).mono ?_
      rintro e w10 ⟨rfl, hb10⟩
      have HB10 : Hid (Below w.heap.size w w10) := HB9.out.trans (hb10.mono HB9.out.size)
      have XP_10 := Lib.hid (XP_9.out.below hb10)
      have XQ_10 := Lib.hid (XQ_9.out.below hb10)
      have YQ_10 := Lib.hid (YQ_9.out.below hb10)
      clear hb10
      go_wp2
      go_ret
      exact ⟨rfl, HB10.out⟩

/-! ### The row's step -/
theorem laid : laidOutB Try.prog = true := by kernel_rfl
set_option maxRecDepth 100000 in
theorem lifted (os : Os) (started : os.Started) (H : Type) (enc : TypeId × Value → H) :
    ReturnsInHanded {} Try.checked os 5 .any (Rows.fnExactIsSteeperSpec.pre6 enc Try.prog Try.f5 Rows.fnExactIsSteeperRow.domain false) (Rows.fnExactIsSteeperSpec.post enc Try.prog Try.f5 false true false false) := by
  refine returnsInHanded_of_change (C := Try.checked) own started (by kernel_rfl) Try.func5
    (ChangeSpec.witness6 (enc := enc) (C := Try.checked) false ⟨#[], #[.slice none 0 0, .slice none 0 0], []⟩ 8 (by kernel_rfl) (by kernel_rfl) (by kernel_rfl) (by kernel_rfl)) ?_
  intro W base args ds gs before hval0 hW hcnd _
  have hval : ∀ (j : Nat) t v, Try.f5.params[j]? = some t → args[j]? = some v → Value.okWide Try.prog W .any base t v := hval0
  have hW' := hW
  have lts : ∀ x ∈ before, x.block < W.heap.size := fun x hx => by simpa using hW'.lt x hx
  obtain ⟨p, q, hA0, hV, rfl, hfz, hnd⟩ := hW
  have hA : DataW.TrodAll enc Try.prog W 0 (fun _ => true) true Try.f5.params.toList args.toList ds p := hA0
  rw [Try.params5] at hA hval
  obtain ⟨v0, vs0, d0, ds0, p0, q0, hargs, rfl, rfl, h0, r0⟩ := trodAll_cons hA
  obtain ⟨v1, vs1, d1, ds1, p1, q1, rfl, rfl, rfl, h1, r1⟩ := trodAll_cons r0
  obtain ⟨rfl, rfl, rfl⟩ := trodAll_nil r1
  obtain rfl : args = #[v0, v1] := by cases args; simp_all
  obtain ⟨rfl, rfl⟩ := trodVars_none hV
  have k0 := h0
  obtain ⟨n, xs, hS⟩ := open_pieces (hval 0 22 v0 rfl rfl) h0
  have k1 := h1
  obtain ⟨n2, xs2, hS2⟩ := open_pieces (hval 1 22 v1 rfl rfl) h1
  clear hA0 hval0
  simp only [List.append_nil] at hW' lts
  refine (walk n xs v0 n2 xs2 v1 W hS hS2).mono fun e W' ⟨he, bel⟩ => ?_
  subst he
  exact ⟨_, rfl, _, _, _, [], _, [], hW', trodAll_mk1 (shut_bool Try.underlying4 _), (trodAll_cons_mk (Below.trod laid (by kernel_rfl) (of_decide_eq_true (by kernel_rfl)) k0 bel (fun x hx => lts x (by simp [hx]))) (trodAll_cons_mk (Below.trod laid (by kernel_rfl) (of_decide_eq_true (by kernel_rfl)) k1 bel (fun x hx => lts x (by simp [hx]))) trodAll_mk0)), rfl, bel.frame _, fun h => by cases h⟩

theorem over : Rows.fnExactIsSteeperRow.holds Try.pinned (OpenSpec.ofChange Rows.fnExactIsSteeperSpec) :=
  OpenClaim.holds_of_wide 5 Try.f5 rfl rfl rfl rfl rfl rfl rfl ⟨rfl, rfl, rfl, rfl, rfl⟩ rfl rfl rfl rfl rfl (by kernel_rfl) Try.func5 (by kernel_rfl)
    (of_decide_eq_true (by kernel_rfl)) (by unfold Func.isWrapper; first | (rw [if_pos (by decide +kernel)]; kernel_rfl) | (rw [if_neg (by decide +kernel)]; exact ⟨rfl, rfl⟩))
    (fun os started H enc _ => lifted os started H enc)

end Go.Proofs.Ythdbcncdihcggaa.fnExactIsSteeperProof
namespace Go.Proofs.Ythdbcncdihcggaa
theorem fnExactIsSteeper_holds : Rows.FnExactIsSteeperSaid := fnExactIsSteeperProof.over
#print axioms fnExactIsSteeper_holds
end Go.Proofs.Ythdbcncdihcggaa
