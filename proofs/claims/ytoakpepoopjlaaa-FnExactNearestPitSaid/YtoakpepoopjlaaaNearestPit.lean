/-
  The law FnExactNearestPit holds: for all arguments, NearestPit answers as its model does, and the arguments read as they did. No conditions.
-/
import Derived.Test.YtoakpepoopjlaaaRows
import Derived.Test.YtoakpepoopjlaaaTG2
import Derived.Test.YtoakpepoopjlaaaN0
import Derived.Test.YtoakpepoopjlaaaN2
import Derived.Test.YtoakpepoopjlaaaTR
import Derived.Test.YtoakpepoopjlaaaJF
import Derived.WalkKit
import Derived.Lib.Hide
import Derived.Deep.DeepCutAuto
import Derived.ProofKit
import Derived.OpenShut
import Derived.ShutString
import Derived.ChangeOld
import Derived.Below
import Derived.Carry
import Derived.Deep.RegionWith
import Derived.Lib.SmallJoins
namespace Go.Proofs.Ytoakpepoopjlaaa.fnExactNearestPitProof
open Go.ChangeShapes Go.WideShapes Go.ChangeAt Go.RowKit Go.Joins
set_option linter.unusedVariables false

theorem own : ownKnob Try.prog.godebug = none := by kernel_rfl

/-! ### The walk -/
set_option maxHeartbeats 4000000 in
set_option maxRecDepth 100000 in
theorem walk (xss : List (List Int)) (v0 : Value) (bs : List Int) (v1 : Value) (es : List Int) (v2 : Value) (a3 : Int) (a4 : Int) (w : World) (hR : SeenL w v0 xss) (hL : Seen w v1 bs) (hL2 : Seen w v2 es) (wf3 : (Lit.int .i64 a3).wf = true) (wf4 : (Lit.int .i64 a4).wf = true) :
    Calls Try.prog 12 #[v0, v1, v2, .int .i64 a3, .int .i64 a4] w fun e w' => e = .returned (.bool true) ∧ Below w.heap.size w w' := by
  have HS := Lib.hid hR
  obtain ⟨A, c, rfl, hm⟩ := hR.shape
  clear hR hm
  have HLi := Lib.hid hL
  obtain ⟨AV, cV, rfl, t4, _⟩ := hL
  have b4 : bs.length ≤ 9223372036854775807 := by unfold maxLen at t4; omega
  clear t4
  have HLj := Lib.hid hL2
  obtain ⟨AW, cW, rfl, t5, _⟩ := hL2
  have b5 : es.length ≤ 9223372036854775807 := by unfold maxLen at t5; omega
  clear t5
  have HB0 : Hid (Below w.heap.size w w) := Below.refl _ _
  by_cases l4 : bs.length ≤ 1048576
  case neg =>
    go_enter Try.func12, Try.ntmps12
    go_wp2
    go_ret
    exact ⟨rfl, HB0.out⟩
  case pos =>
    have l5 : bs.length ≤ 4000000 := by omega
    by_cases l6 : es.length ≤ 1048576
    case neg =>
      go_enter Try.func12, Try.ntmps12
      go_wp2
      go_ret
      exact ⟨rfl, HB0.out⟩
    case pos =>
      have l7 : es.length ≤ 4000000 := by omega
      have hne0 : (npA xss bs es a3 a4 != npA xss bs es a3 a4) = false := by simp
      have hne1 : (npB xss bs es a3 a4 != npB xss bs es a3 a4) = false := by simp
      go_enter Try.func12, Try.ntmps12
      go_wp2_with fail
      refine (c_szIntSS xss _ 1048576 _ (by omega) (by omega) HS.out).mono ?_
      rintro e w' ⟨⟨r, rfl, hsz⟩, rfl⟩
      rcases hsz with rfl | ⟨hsz, hr⟩
      case inl =>
        go_wp2
        go_ret
        exact ⟨rfl, HB0.out⟩
      case inr =>
        have hr0 : ¬ r < 0 := by omega
        have hsh : Hid (ShortL xss) := shortL_of hsz (by omega)
        have hsl : xss.length ≤ 1048576 := by omega
        have hss : Hid (Short xss) := hsh.out.2
        have htt : totN xss xss.length ≤ 1048576 := by omega
        clear hr hsz
        have CS : Hid (∀ (p : Value) (pl : Value) (Bl : Nat) (pm : Value) (u : World), SeenL u p xss → Row u Bl pl bs → Seen u pm es → Calls Try.prog 40 #[p, pl, pm, .int .i64 a3, .int .i64 a4] u (fun e u' => e = .returned (.tuple #[.int .i64 (npA xss bs es a3 a4), .bool (npB xss bs es a3 a4)]) ∧ Below u.heap.size u u')) := fun p pl Bl pm u hu hul hum => c_NearestPitS xss bs es a3 a4 p pl pm u hsh.out l5 l7 hu hul.seen hum
        have CI : Hid (∀ (p : Value) (pl : Value) (Bl : Nat) (pm : Value) (u : World), SeenL u p xss → Row u Bl pl bs → Seen u pm es → Calls Try.prog 41 #[p, pl, pm, .int .i64 a3, .int .i64 a4] u (fun e u' => e = .returned (.tuple #[.int .i64 (npA xss bs es a3 a4), .bool (npB xss bs es a3 a4)]) ∧ Below u.heap.size u u')) := fun p pl Bl pm u hu hul hum => c_NearestPit xss bs es a3 a4 p pl pm u hsh.out l5 l7 hu hul.seen hum
        go_wp2_with fail
        refine (c_toIntSS xss _ _ hsh.out (HS.out.below HB0.out)).mono ?_
        rintro e w1 ⟨Spv, rfl, hs, hb1⟩
        have HB1 : Hid (Below w.heap.size w w1) := HB0.out.trans (hb1.mono HB0.out.size)
        have SpP_1 := Lib.hid hs
        have USpP_1 : Hid (_ ≤ _) := Nat.le_refl w1.heap.size
        clear hs
        clear hb1
        go_wp2_with fail
        refine (c_toIntS bs _ _ l5 (HLi.out.below HB1.out)).mono ?_
        rintro e w2 ⟨Spl, rfl, hs, hb2⟩
        have HB2 : Hid (Below w.heap.size w w2) := HB1.out.trans (hb2.mono HB1.out.size)
        have SpP_2 := Lib.hid (SpP_1.out.below hb2 USpP_1.out)
        have USpP_2 := Lib.hid (Nat.le_trans USpP_1.out hb2.size)
        have SpL_2 := Lib.hid hs
        clear hs
        clear hb2
        go_wp2_with fail
        refine (c_toIntS es _ _ l7 (HLj.out.below HB2.out)).mono ?_
        rintro e w3 ⟨Spm, rfl, hs, hb3⟩
        have HB3 : Hid (Below w.heap.size w w3) := HB2.out.trans (hb3.mono HB2.out.size)
        have SpP_3 := Lib.hid (SpP_2.out.below hb3 USpP_2.out)
        have USpP_3 := Lib.hid (Nat.le_trans USpP_2.out hb3.size)
        have SpL_3 := Lib.hid (SpL_2.out.below hb3)
        have SpM_3 := Lib.hid hs
        clear hs
        clear hb3
        go_wp2_with fail
        refine (CS.out _ _ _ _ _ SpP_3.out.seen SpL_3.out SpM_3.out.seen).mono ?_
        rintro e w4 ⟨rfl, hb4⟩
        have HB4 : Hid (Below w.heap.size w w4) := HB3.out.trans (hb4.mono HB3.out.size)
        have SpP_4 := Lib.hid (SpP_3.out.below hb4 USpP_3.out)
        have USpP_4 := Lib.hid (Nat.le_trans USpP_3.out hb4.size)
        have SpL_4 := Lib.hid (SpL_3.out.below hb4)
        have SpM_4 := Lib.hid (SpM_3.out.below hb4)
        clear hb4
        go_wp2_with fail
        refine (c_toIntSS xss _ _ hsh.out (HS.out.below HB4.out)).mono ?_
        rintro e w5 ⟨Xv, rfl, hs, hb5⟩
        have HB5 : Hid (Below w.heap.size w w5) := HB4.out.trans (hb5.mono HB4.out.size)
        have XP_5 := Lib.hid hs
        have UXP_5 : Hid (_ ≤ _) := Nat.le_refl w5.heap.size
        clear hs
        clear hb5
        go_wp2_with fail
        refine (c_toIntS bs _ _ l5 (HLi.out.below HB5.out)).mono ?_
        rintro e w6 ⟨Xl, rfl, hs, hb6⟩
        have HB6 : Hid (Below w.heap.size w w6) := HB5.out.trans (hb6.mono HB5.out.size)
        have XP_6 := Lib.hid (XP_5.out.below hb6 UXP_5.out)
        have UXP_6 := Lib.hid (Nat.le_trans UXP_5.out hb6.size)
        have XL_6 := Lib.hid hs
        clear hs
        clear hb6
        go_wp2_with fail
        refine (c_toIntS es _ _ l7 (HLj.out.below HB6.out)).mono ?_
        rintro e w7 ⟨Xm, rfl, hs, hb7⟩
        have HB7 : Hid (Below w.heap.size w w7) := HB6.out.trans (hb7.mono HB6.out.size)
        have XP_7 := Lib.hid (XP_6.out.below hb7 UXP_6.out)
        have UXP_7 := Lib.hid (Nat.le_trans UXP_6.out hb7.size)
        have XL_7 := Lib.hid (XL_6.out.below hb7)
        have XM_7 := Lib.hid hs
        clear hs
        clear hb7
        go_wp2_with fail
        refine (CI.out _ _ _ _ _ XP_7.out.seen XL_7.out XM_7.out.seen).mono ?_
        rintro e w8 ⟨rfl, hb8⟩
        have HB8 : Hid (Below w.heap.size w w8) := HB7.out.trans (hb8.mono HB7.out.size)
        have XP_8 := Lib.hid (XP_7.out.below hb8 UXP_7.out)
        have UXP_8 := Lib.hid (Nat.le_trans UXP_7.out hb8.size)
        have XL_8 := Lib.hid (XL_7.out.below hb8)
        have XM_8 := Lib.hid (XM_7.out.below hb8)
        clear hb8
        go_wp2_with fail
        refine (c_toIntSS xss _ _ hsh.out (HS.out.below HB8.out)).mono ?_
        rintro e w9 ⟨Yv, rfl, hs, hb9⟩
        have HB9 : Hid (Below w.heap.size w w9) := HB8.out.trans (hb9.mono HB8.out.size)
        have XP_9 := Lib.hid (XP_8.out.below hb9 UXP_8.out)
        have UXP_9 := Lib.hid (Nat.le_trans UXP_8.out hb9.size)
        have XL_9 := Lib.hid (XL_8.out.below hb9)
        have XM_9 := Lib.hid (XM_8.out.below hb9)
        have YP_9 := Lib.hid hs
        have UYP_9 : Hid (_ ≤ _) := Nat.le_refl w9.heap.size
        clear hs
        clear hb9
        go_wp2_with fail
        refine (c_eqIntSS xss _ _ _ _ _ _ _ hsl hss.out XP_9.out YP_9.out UXP_9.out UYP_9.out).mono ?_
        rintro e w10 ⟨rfl, hb10⟩
        have HB10 : Hid (Below w.heap.size w w10) := HB9.out.trans (hb10.mono HB9.out.size)
        have XP_10 := Lib.hid (XP_9.out.below hb10 UXP_9.out)
        have UXP_10 := Lib.hid (Nat.le_trans UXP_9.out hb10.size)
        have XL_10 := Lib.hid (XL_9.out.below hb10)
        have XM_10 := Lib.hid (XM_9.out.below hb10)
        have YP_10 := Lib.hid (YP_9.out.below hb10 UYP_9.out)
        have UYP_10 := Lib.hid (Nat.le_trans UYP_9.out hb10.size)
        clear hb10
        go_wp2_with fail
        refine (c_toIntS bs _ _ l5 (HLi.out.below HB10.out)).mono ?_
        rintro e w11 ⟨Yl, rfl, hs, hb11⟩
        have HB11 : Hid (Below w.heap.size w w11) := HB10.out.trans (hb11.mono HB10.out.size)
        have XP_11 := Lib.hid (XP_10.out.below hb11 UXP_10.out)
        have UXP_11 := Lib.hid (Nat.le_trans UXP_10.out hb11.size)
        have XL_11 := Lib.hid (XL_10.out.below hb11)
        have XM_11 := Lib.hid (XM_10.out.below hb11)
        have YL_11 := Lib.hid hs
        clear hs
        clear hb11
        go_wp2_with fail
        refine (c_eqIntS bs _ _ _ _ _ l5 XL_11.out YL_11.out).mono ?_
        rintro e w12 ⟨rfl, hb12⟩
        have HB12 : Hid (Below w.heap.size w w12) := HB11.out.trans (hb12.mono HB11.out.size)
        have XP_12 := Lib.hid (XP_11.out.below hb12 UXP_11.out)
        have UXP_12 := Lib.hid (Nat.le_trans UXP_11.out hb12.size)
        have XL_12 := Lib.hid (XL_11.out.below hb12)
        have XM_12 := Lib.hid (XM_11.out.below hb12)
        have YL_12 := Lib.hid (YL_11.out.below hb12)
        clear hb12
        go_wp2_with fail
        refine (c_toIntS es _ _ l7 (HLj.out.below HB12.out)).mono ?_
        rintro e w13 ⟨Ym, rfl, hs, hb13⟩
        have HB13 : Hid (Below w.heap.size w w13) := HB12.out.trans (hb13.mono HB12.out.size)
        have XP_13 := Lib.hid (XP_12.out.below hb13 UXP_12.out)
        have UXP_13 := Lib.hid (Nat.le_trans UXP_12.out hb13.size)
        have XL_13 := Lib.hid (XL_12.out.below hb13)
        have XM_13 := Lib.hid (XM_12.out.below hb13)
        have YM_13 := Lib.hid hs
        clear hs
        clear hb13
        go_wp2_with fail
        refine (c_eqIntS es _ _ _ _ _ l7 XM_13.out YM_13.out).mono ?_
        rintro e w14 ⟨rfl, hb14⟩
        have HB14 : Hid (Below w.heap.size w w14) := HB13.out.trans (hb14.mono HB13.out.size)
        have XP_14 := Lib.hid (XP_13.out.below hb14 UXP_13.out)
        have UXP_14 := Lib.hid (Nat.le_trans UXP_13.out hb14.size)
        have XL_14 := Lib.hid (XL_13.out.below hb14)
        have XM_14 := Lib.hid (XM_13.out.below hb14)
        have YM_14 := Lib.hid (YM_13.out.below hb14)
        clear hb14
        go_wp2
        go_ret
        exact ⟨rfl, HB14.out⟩

/-! ### The row's step -/
theorem laid : laidOutB Try.prog = true := by kernel_rfl
set_option maxRecDepth 100000 in
set_option maxHeartbeats 8000000 in
theorem lifted (os : Os) (started : os.Started) (H : Type) (enc : TypeId × Value → H) :
    ReturnsInHanded {} Try.checked os 12 .any (Rows.fnExactNearestPitSpec.pre6 enc Try.prog Try.f12 Rows.fnExactNearestPitRow.domain false) (Rows.fnExactNearestPitSpec.post enc Try.prog Try.f12 false true false false) := by
  refine returnsInHanded_of_change (C := Try.checked) own started (by kernel_rfl) Try.func12
    (ChangeSpec.witness6 (enc := enc) (C := Try.checked) false ⟨#[], #[.slice none 0 0, .slice none 0 0, .slice none 0 0, .int .i64 0, .int .i64 0], []⟩ 8 (by kernel_rfl) (by kernel_rfl) (by kernel_rfl) (by kernel_rfl)) ?_
  intro W base args ds gs before hval0 hW hcnd _
  have hval : ∀ (j : Nat) t v, Try.f12.params[j]? = some t → args[j]? = some v → Value.okWide Try.prog W .any base t v := hval0
  have hW' := hW
  have lts : ∀ x ∈ before, x.block < W.heap.size := fun x hx => by simpa using hW'.lt x hx
  obtain ⟨p, q, hA0, hV, rfl, hfz, hnd⟩ := hW
  have hA : DataW.TrodAll enc Try.prog W 0 (fun _ => true) true Try.f12.params.toList args.toList ds p := hA0
  rw [Try.params12] at hA hval
  obtain ⟨v0, vs0, d0, ds0, p0, q0, hargs, rfl, rfl, h0, r0⟩ := trodAll_cons hA
  obtain ⟨v1, vs1, d1, ds1, p1, q1, rfl, rfl, rfl, h1, r1⟩ := trodAll_cons r0
  obtain ⟨v2, vs2, d2, ds2, p2, q2, rfl, rfl, rfl, h2, r2⟩ := trodAll_cons r1
  obtain ⟨v3, vs3, d3, ds3, p3, q3, rfl, rfl, rfl, h3, r3⟩ := trodAll_cons r2
  obtain ⟨v4, vs4, d4, ds4, p4, q4, rfl, rfl, rfl, h4, r4⟩ := trodAll_cons r3
  obtain ⟨rfl, rfl, rfl⟩ := trodAll_nil r4
  obtain rfl : args = #[v0, v1, v2, v3, v4] := by cases args; simp_all
  obtain ⟨rfl, rfl⟩ := trodVars_none hV
  have k0 := h0
  obtain ⟨xss, hR⟩ := open_rows (hval 0 29 v0 rfl rfl) h0
  have k1 := h1
  obtain ⟨bs, hL⟩ := open_list (hval 1 22 v1 rfl rfl) h1
  have k2 := h2
  obtain ⟨es, hL2⟩ := open_list (hval 2 22 v2 rfl rfl) h2
  have k3 := h3
  obtain ⟨a3, rfl, _, _, w3⟩ := open_int Try.underlying3 (hval 3 3 v3 rfl rfl) h3
  have k4 := h4
  obtain ⟨a4, rfl, _, _, w4⟩ := open_int Try.underlying3 (hval 4 3 v4 rfl rfl) h4
  clear hA0 hval0
  simp only [List.append_nil] at hW' lts
  refine (walk xss v0 bs v1 es v2 a3 a4 W hR hL hL2 w3 w4).mono fun e W' ⟨he, bel⟩ => ?_
  subst he
  exact ⟨_, rfl, _, _, _, [], _, [], hW', trodAll_mk1 (shut_bool Try.underlying4 _), (trodAll_cons_mk (Below.trod laid (by kernel_rfl) (of_decide_eq_true (by kernel_rfl)) k0 bel (fun x hx => lts x (by simp [hx]))) (trodAll_cons_mk (Below.trod laid (by kernel_rfl) (of_decide_eq_true (by kernel_rfl)) k1 bel (fun x hx => lts x (by simp [hx]))) (trodAll_cons_mk (Below.trod laid (by kernel_rfl) (of_decide_eq_true (by kernel_rfl)) k2 bel (fun x hx => lts x (by simp [hx]))) (trodAll_cons_mk (Below.trod laid (by kernel_rfl) (of_decide_eq_true (by kernel_rfl)) k3 bel (fun x hx => lts x (by simp [hx]))) (trodAll_cons_mk (Below.trod laid (by kernel_rfl) (of_decide_eq_true (by kernel_rfl)) k4 bel (fun x hx => lts x (by simp [hx]))) trodAll_mk0))))), rfl, bel.frame _, fun h => by cases h⟩

set_option maxHeartbeats 8000000 in
theorem closed : joinedFacts Try.prog 12 Try.f12 Rows.fnExactNearestPitSpec Rows.fnExactNearestPitRow = true := by
  unfold joinedFacts
  simp only [Bool.and_eq_true]
  refine ⟨⟨⟨⟨⟨⟨⟨⟨⟨⟨⟨⟨⟨⟨⟨⟨⟨⟨⟨⟨⟨⟨⟨⟨⟨⟨⟨⟨⟨⟨⟨?_, ?_⟩, ?_⟩, ?_⟩, ?_⟩, ?_⟩, ?_⟩, ?_⟩, ?_⟩, ?_⟩, ?_⟩, ?_⟩, ?_⟩, ?_⟩, ?_⟩, ?_⟩, ?_⟩, ?_⟩, ?_⟩, ?_⟩, ?_⟩, ?_⟩, ?_⟩, ?_⟩, ?_⟩, ?_⟩, ?_⟩, ?_⟩, ?_⟩, ?_⟩, ?_⟩, ?_⟩
  · as_aux_lemma => kernel_rfl
  · as_aux_lemma => kernel_rfl
  · as_aux_lemma => kernel_rfl
  · as_aux_lemma => kernel_rfl
  · as_aux_lemma => kernel_rfl
  · as_aux_lemma => kernel_rfl
  · as_aux_lemma => kernel_rfl
  · as_aux_lemma => kernel_rfl
  · as_aux_lemma => kernel_rfl
  · as_aux_lemma => kernel_rfl
  · as_aux_lemma => kernel_rfl
  · as_aux_lemma => kernel_rfl
  · as_aux_lemma => kernel_rfl
  · as_aux_lemma => kernel_rfl
  · as_aux_lemma => kernel_rfl
  · as_aux_lemma => kernel_rfl
  · as_aux_lemma => kernel_rfl
  · as_aux_lemma => kernel_rfl
  · as_aux_lemma => kernel_rfl
  · as_aux_lemma => kernel_rfl
  · as_aux_lemma => kernel_rfl
  · as_aux_lemma => kernel_rfl
  · as_aux_lemma => kernel_rfl
  · as_aux_lemma => kernel_rfl
  · as_aux_lemma => kernel_rfl
  · exact jf_may
  · exact (congrArg (fun b => (Rows.fnExactNearestPitRow.lifted == b)) jf_lifts).trans (by kernel_rfl)
  · exact (congrArg (fun o => (o == some Rows.fnExactNearestPitRow.make)) jf_make).trans (by kernel_rfl)
  · as_aux_lemma => kernel_rfl
  · as_aux_lemma => kernel_rfl
  · as_aux_lemma => kernel_rfl
  · as_aux_lemma => kernel_rfl

set_option maxHeartbeats 8000000 in
theorem over : Rows.fnExactNearestPitRow.holds Try.pinned (OpenSpec.ofChange Rows.fnExactNearestPitSpec) :=
  OpenClaim.holds_of_wide 12 Try.f12 rfl rfl rfl rfl rfl rfl rfl ⟨rfl, rfl, rfl, rfl, rfl⟩ rfl rfl rfl rfl rfl (by kernel_rfl) Try.func12 closed
    (of_decide_eq_true (by kernel_rfl)) (by unfold Func.isWrapper; first | (rw [if_pos (by decide +kernel)]; kernel_rfl) | (rw [if_neg (by decide +kernel)]; exact ⟨rfl, rfl⟩))
    (fun os started H enc _ => lifted os started H enc)
end Go.Proofs.Ytoakpepoopjlaaa.fnExactNearestPitProof
namespace Go.Proofs.Ytoakpepoopjlaaa
theorem fnExactNearestPit_holds : Rows.FnExactNearestPitSaid := fnExactNearestPitProof.over
#print axioms fnExactNearestPit_holds
end Go.Proofs.Ytoakpepoopjlaaa
