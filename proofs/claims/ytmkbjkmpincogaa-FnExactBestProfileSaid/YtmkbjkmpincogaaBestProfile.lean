/-
  The law FnExactBestProfile holds: for all arguments, BestProfile answers as its model does, its answer owns its memory, and the arguments read as they did. No conditions.
-/
import Derived.Test.YtmkbjkmpincogaaRows
import Derived.Test.YtmkbjkmpincogaaTK
import Derived.Test.YtmkbjkmpincogaaN0
import Derived.Test.YtmkbjkmpincogaaN2
import Derived.Test.YtmkbjkmpincogaaR2
import Derived.Test.YtmkbjkmpincogaaR3
import Derived.Test.YtmkbjkmpincogaaR4
import Derived.Test.YtmkbjkmpincogaaJF
import Derived.WalkKit
import Derived.Lib.Hide
import Derived.Deep.DeepCutAuto
import Derived.ProofKit
import Derived.OpenShut
import Derived.ShutString
import Derived.ChangeOld
import Derived.Below
import Derived.Carry
import Derived.Deep.RegionWith
import Derived.Lib.SmallJoins
namespace Go.Proofs.Ytmkbjkmpincogaa.fnExactBestProfileProof
open Go.ChangeShapes Go.WideShapes Go.ChangeAt Go.RowKit Go.Joins
set_option linter.unusedVariables false

theorem own : ownKnob Try.prog.godebug = none := by kernel_rfl

/-! ### The walk -/
set_option maxHeartbeats 4000000 in
set_option maxRecDepth 100000 in
theorem walk (xss : List (List Int)) (v0 : Value) (w : World) (hR : SeenL w v0 xss) :
    Calls Try.prog 6 #[v0] w fun e w' => e = .returned (.bool true) ∧ Below w.heap.size w w' := by
  have HS := Lib.hid hR
  obtain ⟨A, c, rfl, hm⟩ := hR.shape
  clear hR hm
  have HB0 : Hid (Below w.heap.size w w) := Below.refl _ _
  go_enter Try.func6, Try.ntmps6
  go_wp2_with fail
  refine (c_szIntSS xss _ 1048576 _ (by omega) (by omega) HS.out).mono ?_
  rintro e w' ⟨⟨r, rfl, hsz⟩, rfl⟩
  rcases hsz with rfl | ⟨hsz, hr⟩
  case inl =>
    go_wp2
    go_ret
    exact ⟨rfl, HB0.out⟩
  case inr =>
    have hr0 : ¬ r < 0 := by omega
    have hsh : Hid (ShortL xss) := shortL_of hsz (by omega)
    have hsl : xss.length ≤ 1048576 := by omega
    have hss : Hid (Short xss) := hsh.out.2
    have htt : totN xss xss.length ≤ 1048576 := by omega
    clear hr hsz
    obtain ⟨aa, ys, bb, hyl, CS, CI⟩ : ∃ (aa : Int) (ys : List Int) (bb : Bool), ys.length ≤ 4000000 ∧ Hid (∀ (p : Value) (u : World), SeenC u p xss → Calls Try.prog 25 #[p] u (GivesRI u ys aa bb)) ∧ Hid (∀ (p : Value) (u : World), SeenC u p xss → Calls Try.prog 26 #[p] u (GivesRI u ys aa bb)) :=
      ⟨bbV xss (fullP xss), bbL xss (fullP xss), secB xss, bb_len xss _, fun p u hu => c_BestProfileS xss p u hsh.out hu, fun p u hu => c_BestProfile xss p u hsh.out hu⟩
    have hnb : (bb != bb) = false := by simp
    have hna : (aa != aa) = false := by simp
    have hnq : ((1 + (ys.length : Int)) != (1 + (ys.length : Int))) = false := by simp
    have hpq : ¬ (1 + (ys.length : Int)) < 0 := by omega
    have hkq : ¬ (1 + (totN xss xss.length : Int)) < 0 := by omega
    go_wp2_with fail
    refine (c_toIntSS xss _ _ hsh.out (HS.out.below HB0.out)).mono ?_
    rintro e w1 ⟨Spv, rfl, hs, hb1⟩
    have HB1 : Hid (Below w.heap.size w w1) := HB0.out.trans (hb1.mono HB0.out.size)
    have SpP_1 := Lib.hid hs
    have USpP_1 : Hid (_ ≤ _) := Nat.le_refl w1.heap.size
    clear hs
    clear hb1
    go_wp2_with fail
    refine (CS.out _ _ SpP_1.out.seenC).mono ?_
    rintro e w2 ⟨Wv, rfl, hs, hb2⟩
    have HB2 : Hid (Below w.heap.size w w2) := HB1.out.trans (hb2.mono HB1.out.size)
    have SpP_2 := Lib.hid (SpP_1.out.below hb2 USpP_1.out)
    have USpP_2 := Lib.hid (Nat.le_trans USpP_1.out hb2.size)
    have WS_2 := Lib.hid hs
    clear hs
    clear hb2
    have XB_2 : Hid (w2.heap.size ≤ w2.heap.size) := Nat.le_refl _
    go_wp2_with fail
    refine (c_toIntSS xss _ _ hsh.out (HS.out.below HB2.out)).mono ?_
    rintro e w3 ⟨Xv, rfl, hs, hb3⟩
    have HB3 : Hid (Below w.heap.size w w3) := HB2.out.trans (hb3.mono HB2.out.size)
    have WS_3 := Lib.hid (WS_2.out.below hb3)
    have XB_3 := Lib.hid (Nat.le_trans XB_2.out hb3.size)
    have XP_3 := Lib.hid hs
    have UXP_3 : Hid (_ ≤ _) := Nat.le_refl w3.heap.size
    clear hs
    clear hb3
    have GZ_3 : Hid (w3.heap.size ≤ w3.heap.size) := Nat.le_refl _
    go_wp2_with fail
    refine (CI.out _ _ XP_3.out.seenC).mono ?_
    rintro e w4 ⟨Gv, rfl, hs, hb4⟩
    have HB4 : Hid (Below w.heap.size w w4) := HB3.out.trans (hb4.mono HB3.out.size)
    have WS_4 := Lib.hid (WS_3.out.below hb4)
    have XB_4 := Lib.hid (Nat.le_trans XB_3.out hb4.size)
    have XP_4 := Lib.hid (XP_3.out.below hb4 UXP_3.out)
    have UXP_4 := Lib.hid (Nat.le_trans UXP_3.out hb4.size)
    have GZ_4 := Lib.hid (Nat.le_trans GZ_3.out hb4.size)
    have GS_4 := Lib.hid hs
    clear hs
    clear hb4
    go_wp2_with fail
    refine (c_eqIntS ys _ _ _ _ _ hyl GS_4.out WS_4.out).mono ?_
    rintro e w5 ⟨rfl, hb5⟩
    have HB5 : Hid (Below w.heap.size w w5) := HB4.out.trans (hb5.mono HB4.out.size)
    have WS_5 := Lib.hid (WS_4.out.below hb5)
    have XB_5 := Lib.hid (Nat.le_trans XB_4.out hb5.size)
    have XP_5 := Lib.hid (XP_4.out.below hb5 UXP_4.out)
    have UXP_5 := Lib.hid (Nat.le_trans UXP_4.out hb5.size)
    have GZ_5 := Lib.hid (Nat.le_trans GZ_4.out hb5.size)
    have GS_5 := Lib.hid (GS_4.out.below hb5)
    clear hb5
    go_wp2_with fail
    refine (c_toIntSS xss _ _ hsh.out (HS.out.below HB5.out)).mono ?_
    rintro e w6 ⟨Yv, rfl, hs, hb6⟩
    have HB6 : Hid (Below w.heap.size w w6) := HB5.out.trans (hb6.mono HB5.out.size)
    have WS_6 := Lib.hid (WS_5.out.below hb6)
    have XB_6 := Lib.hid (Nat.le_trans XB_5.out hb6.size)
    have XP_6 := Lib.hid (XP_5.out.below hb6 UXP_5.out)
    have UXP_6 := Lib.hid (Nat.le_trans UXP_5.out hb6.size)
    have GZ_6 := Lib.hid (Nat.le_trans GZ_5.out hb6.size)
    have GS_6 := Lib.hid (GS_5.out.below hb6)
    have YP_6 := Lib.hid hs
    have UYP_6 : Hid (_ ≤ _) := Nat.le_refl w6.heap.size
    clear hs
    clear hb6
    go_wp2_with fail
    refine (c_eqIntSS xss _ _ _ _ _ _ _ hsl hss.out XP_6.out YP_6.out UXP_6.out UYP_6.out).mono ?_
    rintro e w7 ⟨rfl, hb7⟩
    have HB7 : Hid (Below w.heap.size w w7) := HB6.out.trans (hb7.mono HB6.out.size)
    have WS_7 := Lib.hid (WS_6.out.below hb7)
    have XB_7 := Lib.hid (Nat.le_trans XB_6.out hb7.size)
    have XP_7 := Lib.hid (XP_6.out.below hb7 UXP_6.out)
    have UXP_7 := Lib.hid (Nat.le_trans UXP_6.out hb7.size)
    have GZ_7 := Lib.hid (Nat.le_trans GZ_6.out hb7.size)
    have GS_7 := Lib.hid (GS_6.out.below hb7)
    have YP_7 := Lib.hid (YP_6.out.below hb7 UYP_6.out)
    have UYP_7 := Lib.hid (Nat.le_trans UYP_6.out hb7.size)
    clear hb7
    go_wp2_with fail
    refine (c_markIntSS2 xss _ _ _ 1 _ hsl htt (by omega) (by omega) XP_7.out XB_7.out).mono ?_
    rintro e w8 ⟨rfl, _, hbm, ham⟩
    have HB8 : Hid (Below w.heap.size w w8) := HB7.out.trans (hbm.mono HB2.out.size)
    have XB_8 := Lib.hid (Nat.le_trans XB_7.out hbm.size)
    have GZ_8 := Lib.hid (Nat.le_trans GZ_7.out hbm.size)
    have WS_8 : Hid (Row w8 _ Wv ys) := own_stays WS_7.out fun k hk => hbm.block k (World.ownsRow.lt WS_2.out k hk).2
    have GS_8 : Hid (Row w8 _ Gv ys) := own_stays GS_7.out fun k hk => ham k (Nat.le_trans UXP_3.out (World.ownsRow.lt GS_7.out k hk).1) (World.ownsRow.lt GS_7.out k hk).2
    clear hbm ham
    go_wp2_with fail
    refine (c_eqIntS ys _ _ _ _ _ hyl GS_8.out WS_8.out).mono ?_
    rintro e w9 ⟨rfl, hb9⟩
    have HB9 : Hid (Below w.heap.size w w9) := HB8.out.trans (hb9.mono HB8.out.size)
    have WS_9 := Lib.hid (WS_8.out.below hb9)
    have GS_9 := Lib.hid (GS_8.out.below hb9)
    have XB_9 := Lib.hid (Nat.le_trans XB_8.out hb9.size)
    have GZ_9 := Lib.hid (Nat.le_trans GZ_8.out hb9.size)
    clear hb9
    go_wp2_with fail
    have PC : Hid (Apart Wv.ownBlock Gv.ownBlock) := apart_of WS_2.out GS_9.out XB_3.out
    refine (c_markIntS ys _ _ 1 _ hyl (by omega) (by omega) GS_9.out).mono ?_
    rintro e w10 ⟨rfl, hr, hg⟩
    have GS_10 := Lib.hid hr
    have HB10 : Hid (Below w.heap.size w w10) := HB9.out.grown hg HB9.out.size (fun k hk => Nat.le_trans HB3.out.size (World.ownsRow.lt GS_9.out k hk).1)
    have WS_10 : Hid (Row w10 _ Wv ys) := World.ownsRow.kept WS_9.out hg PC.out
    clear hr hg
    go_wp2_with fail
    refine (c_heldIntS Gv _ ys.length 1 _ hyl (by omega) (by omega) GS_10.out).mono ?_
    rintro e w' ⟨rfl, rfl⟩
    go_wp2_with fail
    refine (c_toIntSS xss _ _ hsh.out (HS.out.below HB10.out)).mono ?_
    rintro e w11 ⟨Yv, rfl, hs, hb11⟩
    have HB11 : Hid (Below w.heap.size w w11) := HB10.out.trans (hb11.mono HB10.out.size)
    have WS_11 := Lib.hid (WS_10.out.below hb11)
    have GS_11 := Lib.hid (GS_10.out.below hb11)
    have YP_11 := Lib.hid hs
    have UYP_11 : Hid (_ ≤ _) := Nat.le_refl w11.heap.size
    clear hs
    clear hb11
    go_wp2_with fail
    refine (CI.out _ _ YP_11.out.seenC).mono ?_
    rintro e w12 ⟨Yv, rfl, hs, hb12⟩
    have HB12 : Hid (Below w.heap.size w w12) := HB11.out.trans (hb12.mono HB11.out.size)
    have WS_12 := Lib.hid (WS_11.out.below hb12)
    have GS_12 := Lib.hid (GS_11.out.below hb12)
    have YP_12 := Lib.hid (YP_11.out.below hb12 UYP_11.out)
    have UYP_12 := Lib.hid (Nat.le_trans UYP_11.out hb12.size)
    have YS_12 := Lib.hid hs
    clear hs
    clear hb12
    go_wp2_with fail
    refine (c_eqIntS ys _ _ _ _ _ hyl YS_12.out WS_12.out).mono ?_
    rintro e w13 ⟨rfl, hb13⟩
    have HB13 : Hid (Below w.heap.size w w13) := HB12.out.trans (hb13.mono HB12.out.size)
    have WS_13 := Lib.hid (WS_12.out.below hb13)
    have GS_13 := Lib.hid (GS_12.out.below hb13)
    have YP_13 := Lib.hid (YP_12.out.below hb13 UYP_12.out)
    have UYP_13 := Lib.hid (Nat.le_trans UYP_12.out hb13.size)
    have YS_13 := Lib.hid (YS_12.out.below hb13)
    clear hb13
    go_wp2_with fail
    refine (c_heldIntS Gv _ ys.length 1 _ hyl (by omega) (by omega) GS_13.out).mono ?_
    rintro e w' ⟨rfl, rfl⟩
    go_wp2
    go_ret
    exact ⟨rfl, HB13.out⟩

/-! ### The row's step -/
theorem laid : laidOutB Try.prog = true := by kernel_rfl
set_option maxRecDepth 100000 in
set_option maxHeartbeats 8000000 in
theorem lifted (os : Os) (started : os.Started) (H : Type) (enc : TypeId × Value → H) :
    ReturnsInHanded {} Try.checked os 6 .any (Rows.fnExactBestProfileSpec.pre6 enc Try.prog Try.f6 Rows.fnExactBestProfileRow.domain false) (Rows.fnExactBestProfileSpec.post enc Try.prog Try.f6 false true false false) := by
  refine returnsInHanded_of_change (C := Try.checked) own started (by kernel_rfl) Try.func6
    (ChangeSpec.witness6 (enc := enc) (C := Try.checked) false ⟨#[], #[.slice none 0 0], []⟩ 8 (by kernel_rfl) (by kernel_rfl) (by kernel_rfl) (by kernel_rfl)) ?_
  intro W base args ds gs before hval0 hW hcnd _
  have hval : ∀ (j : Nat) t v, Try.f6.params[j]? = some t → args[j]? = some v → Value.okWide Try.prog W .any base t v := hval0
  have hW' := hW
  have lts : ∀ x ∈ before, x.block < W.heap.size := fun x hx => by simpa using hW'.lt x hx
  obtain ⟨p, q, hA0, hV, rfl, hfz, hnd⟩ := hW
  have hA : DataW.TrodAll enc Try.prog W 0 (fun _ => true) true Try.f6.params.toList args.toList ds p := hA0
  rw [Try.params6] at hA hval
  obtain ⟨v0, vs0, d0, ds0, p0, q0, hargs, rfl, rfl, h0, r0⟩ := trodAll_cons hA
  obtain ⟨rfl, rfl, rfl⟩ := trodAll_nil r0
  obtain rfl : args = #[v0] := by cases args; simp_all
  obtain ⟨rfl, rfl⟩ := trodVars_none hV
  have k0 := h0
  obtain ⟨xss, hR⟩ := open_rows (hval 0 22 v0 rfl rfl) h0
  clear hA0 hval0
  simp only [List.append_nil] at hW' lts
  refine (walk xss v0 W hR).mono fun e W' ⟨he, bel⟩ => ?_
  subst he
  exact ⟨_, rfl, _, _, _, [], _, [], hW', trodAll_mk1 (shut_bool Try.underlying4 _), (trodAll_cons_mk (Below.trod laid (by kernel_rfl) (of_decide_eq_true (by kernel_rfl)) k0 bel (fun x hx => lts x (by simp [hx]))) trodAll_mk0), rfl, bel.frame _, fun h => by cases h⟩

set_option maxHeartbeats 8000000 in
theorem closed : joinedFacts Try.prog 6 Try.f6 Rows.fnExactBestProfileSpec Rows.fnExactBestProfileRow = true := by
  unfold joinedFacts
  simp only [Bool.and_eq_true]
  refine ⟨⟨⟨⟨⟨⟨⟨⟨⟨⟨⟨⟨⟨⟨⟨⟨⟨⟨⟨⟨⟨⟨⟨⟨⟨⟨⟨⟨⟨⟨⟨?_, ?_⟩, ?_⟩, ?_⟩, ?_⟩, ?_⟩, ?_⟩, ?_⟩, ?_⟩, ?_⟩, ?_⟩, ?_⟩, ?_⟩, ?_⟩, ?_⟩, ?_⟩, ?_⟩, ?_⟩, ?_⟩, ?_⟩, ?_⟩, ?_⟩, ?_⟩, ?_⟩, ?_⟩, ?_⟩, ?_⟩, ?_⟩, ?_⟩, ?_⟩, ?_⟩, ?_⟩
  · as_aux_lemma => kernel_rfl
  · as_aux_lemma => kernel_rfl
  · as_aux_lemma => kernel_rfl
  · as_aux_lemma => kernel_rfl
  · as_aux_lemma => kernel_rfl
  · as_aux_lemma => kernel_rfl
  · as_aux_lemma => kernel_rfl
  · as_aux_lemma => kernel_rfl
  · as_aux_lemma => kernel_rfl
  · as_aux_lemma => kernel_rfl
  · as_aux_lemma => kernel_rfl
  · as_aux_lemma => kernel_rfl
  · as_aux_lemma => kernel_rfl
  · as_aux_lemma => kernel_rfl
  · as_aux_lemma => kernel_rfl
  · as_aux_lemma => kernel_rfl
  · as_aux_lemma => kernel_rfl
  · as_aux_lemma => kernel_rfl
  · as_aux_lemma => kernel_rfl
  · as_aux_lemma => kernel_rfl
  · as_aux_lemma => kernel_rfl
  · as_aux_lemma => kernel_rfl
  · as_aux_lemma => kernel_rfl
  · as_aux_lemma => kernel_rfl
  · as_aux_lemma => kernel_rfl
  · exact jf_may
  · exact (congrArg (fun b => (Rows.fnExactBestProfileRow.lifted == b)) jf_lifts).trans (by kernel_rfl)
  · exact (congrArg (fun o => (o == some Rows.fnExactBestProfileRow.make)) jf_make).trans (by kernel_rfl)
  · as_aux_lemma => kernel_rfl
  · as_aux_lemma => kernel_rfl
  · as_aux_lemma => kernel_rfl
  · as_aux_lemma => kernel_rfl

set_option maxHeartbeats 8000000 in
theorem over : Rows.fnExactBestProfileRow.holds Try.pinned (OpenSpec.ofChange Rows.fnExactBestProfileSpec) :=
  OpenClaim.holds_of_wide 6 Try.f6 rfl rfl rfl rfl rfl rfl rfl ⟨rfl, rfl, rfl, rfl, rfl⟩ rfl rfl rfl rfl rfl (by kernel_rfl) Try.func6 closed
    (of_decide_eq_true (by kernel_rfl)) (by unfold Func.isWrapper; first | (rw [if_pos (by decide +kernel)]; kernel_rfl) | (rw [if_neg (by decide +kernel)]; exact ⟨rfl, rfl⟩))
    (fun os started H enc _ => lifted os started H enc)
end Go.Proofs.Ytmkbjkmpincogaa.fnExactBestProfileProof
namespace Go.Proofs.Ytmkbjkmpincogaa
theorem fnExactBestProfile_holds : Rows.FnExactBestProfileSaid := fnExactBestProfileProof.over
#print axioms fnExactBestProfile_holds
end Go.Proofs.Ytmkbjkmpincogaa
