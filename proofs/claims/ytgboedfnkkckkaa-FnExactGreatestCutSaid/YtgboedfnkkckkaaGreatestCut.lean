/-
  The law FnExactGreatestCut holds: for all arguments, GreatestCut answers as its model does, its answer owns its memory, and the arguments read as they did. No conditions.
-/
import Derived.Test.YtgboedfnkkckkaaRows
import Derived.Test.YtgboedfnkkckkaaZC
import Derived.Test.YtgboedfnkkckkaaTC
import Derived.Test.YtgboedfnkkckkaaOpenL
import Derived.Test.YtgboedfnkkckkaaJF
import Derived.WalkKit
import Derived.Lib.Hide
import Derived.Deep.DeepCutAuto
import Derived.ProofKit
import Derived.OpenShut
import Derived.ShutString
import Derived.ChangeOld
import Derived.Below
import Derived.Carry
import Derived.Deep.RegionWith
import Derived.Lib.SmallJoins
namespace Go.Proofs.Ytgboedfnkkckkaa.fnExactGreatestCutProof
open Go.ChangeShapes Go.WideShapes Go.ChangeAt Go.RowKit Go.Joins
open Go.ChangeMaps (open_string shut_string)
set_option linter.unusedVariables false

theorem own : ownKnob Try.prog.godebug = none := by kernel_rfl


/-! ### The walk -/
set_option maxHeartbeats 4000000 in
set_option maxRecDepth 100000 in
theorem walk (a0 : Int) (n : Nat) (xs : List Int) (v1 : Value) (w : World) (wf0 : (Lit.int .i64 a0).wf = true) (hS : SeenP w v1 n xs) :
    Calls Try.prog 5 #[.int .i64 a0, v1] w fun e w' => e = .returned (.bool true) ∧ Below w.heap.size w w' := by
  have HS := Lib.hid hS
  obtain ⟨A, c, rfl, hm, hx, _⟩ := hS
  have b1 : n ≤ 9223372036854775807 := by unfold maxLen at hm; omega
  clear hm hx
  have HB0 : Hid (Below w.heap.size w w) := Below.refl _ _
  have W0 := Lib.hid (bounds_i64 wf0)
  by_cases l1 : n ≤ 1048576
  case neg =>
    go_enter Try.func5, Try.ntmps5
    go_wp2_with fail
    refine (c_szEdgeS A n c 1048576 _ (by omega) (by omega) b1).mono ?_
    rintro e w' ⟨rfl, rfl⟩
    rw [if_neg (by omega)]
    go_wp2
    go_ret
    exact ⟨rfl, HB0.out⟩
  case pos =>
    have q1 : ¬ (1048576 - (n : Int)) < 0 := by omega
    obtain ⟨ys, bb, hyl, CS, CI⟩ : ∃ (ys : List Int) (bb : Bool), ys.length ≤ 4000000 ∧ Hid (∀ (p : Value) (u : World), SeenP u p n xs → Calls Try.prog 30 #[.int .i64 a0, p] u (GivesRow2 u ys bb)) ∧ Hid (∀ (p : Value) (u : World), SeenP u p n xs → Calls Try.prog 31 #[.int .i64 a0, p] u (GivesRow2 u ys bb)) :=
      ⟨gtA a0 n xs, netB a0 n xs, gtA_len a0 n xs, fun p u hu => c_GreatestCutS a0 n xs p u W0.out l1 hu, fun p u hu => c_GreatestCut a0 n xs p u l1 hu⟩
    have hnb : (bb != bb) = false := by simp
    have hnq : ((1 + (ys.length : Int)) != (1 + (ys.length : Int))) = false := by simp
    have hpq : ¬ (1 + (ys.length : Int)) < 0 := by omega
    have hkq : ¬ (1 + (n : Int) * 3) < 0 := by omega
    go_enter Try.func5, Try.ntmps5
    go_wp2_with fail
    refine (c_szEdgeS A n c 1048576 _ (by omega) (by omega) b1).mono ?_
    rintro e w' ⟨rfl, rfl⟩
    rw [if_pos (by omega)]
    go_wp2_with fail
    refine (c_toEdgeS n xs _ _ l1 (HS.out.below HB0.out)).mono ?_
    rintro e w1 ⟨Sv, rfl, hs, hb1⟩
    have HB1 : Hid (Below w.heap.size w w1) := HB0.out.trans (hb1.mono HB0.out.size)
    have SP_1 := Lib.hid hs
    clear hs
    clear hb1
    go_wp2_with fail
    refine (CS.out _ _ SP_1.out.seen).mono ?_
    rintro e w2 ⟨Wv, rfl, hs, hb2⟩
    have HB2 : Hid (Below w.heap.size w w2) := HB1.out.trans (hb2.mono HB1.out.size)
    have SP_2 := Lib.hid (SP_1.out.below hb2)
    have WS_2 := Lib.hid hs
    clear hs
    clear hb2
    go_wp2_with fail
    refine (c_toEdgeS n xs _ _ l1 (HS.out.below HB2.out)).mono ?_
    rintro e w3 ⟨Xv, rfl, hs, hb3⟩
    have HB3 : Hid (Below w.heap.size w w3) := HB2.out.trans (hb3.mono HB2.out.size)
    have WS_3 := Lib.hid (WS_2.out.below hb3)
    have XP_3 := Lib.hid hs
    clear hs
    clear hb3
    go_wp2_with fail
    refine (CI.out _ _ XP_3.out.seen).mono ?_
    rintro e w4 ⟨Gv, rfl, hs, hb4⟩
    have HB4 : Hid (Below w.heap.size w w4) := HB3.out.trans (hb4.mono HB3.out.size)
    have WS_4 := Lib.hid (WS_3.out.below hb4)
    have XP_4 := Lib.hid (XP_3.out.below hb4)
    have GS_4 := Lib.hid hs
    clear hs
    clear hb4
    go_wp2_with fail
    refine (c_eqIntS ys _ _ _ _ _ hyl GS_4.out WS_4.out).mono ?_
    rintro e w5 ⟨rfl, hb5⟩
    have HB5 : Hid (Below w.heap.size w w5) := HB4.out.trans (hb5.mono HB4.out.size)
    have WS_5 := Lib.hid (WS_4.out.below hb5)
    have XP_5 := Lib.hid (XP_4.out.below hb5)
    have GS_5 := Lib.hid (GS_4.out.below hb5)
    clear hb5
    go_wp2_with fail
    refine (c_toEdgeS n xs _ _ l1 (HS.out.below HB5.out)).mono ?_
    rintro e w6 ⟨Yv, rfl, hs, hb6⟩
    have HB6 : Hid (Below w.heap.size w w6) := HB5.out.trans (hb6.mono HB5.out.size)
    have WS_6 := Lib.hid (WS_5.out.below hb6)
    have XP_6 := Lib.hid (XP_5.out.below hb6)
    have GS_6 := Lib.hid (GS_5.out.below hb6)
    have YP_6 := Lib.hid hs
    clear hs
    clear hb6
    go_wp2_with fail
    refine (c_eqEdgeS n xs _ _ _ _ _ l1 XP_6.out YP_6.out).mono ?_
    rintro e w7 ⟨rfl, hb7⟩
    have HB7 : Hid (Below w.heap.size w w7) := HB6.out.trans (hb7.mono HB6.out.size)
    have WS_7 := Lib.hid (WS_6.out.below hb7)
    have XP_7 := Lib.hid (XP_6.out.below hb7)
    have GS_7 := Lib.hid (GS_6.out.below hb7)
    have YP_7 := Lib.hid (YP_6.out.below hb7)
    clear hb7
    have PC : Hid (Apart Wv.ownBlock Gv.ownBlock) := apart_row WS_3.out GS_4.out (Nat.le_refl _)
    have PA1 : Hid (Apart Wv.ownBlock Xv.ownBlock) := apart_row WS_2.out XP_3.out (Nat.le_refl _)
    have PB1 : Hid (Apart Gv.ownBlock Xv.ownBlock) := (apart_row XP_3.out GS_4.out (Nat.le_refl _)).symm
    go_wp2_with fail
    refine (c_markEdgeS n xs _ _ (1) _ l1 (by omega) (by omega) XP_7.out).mono ?_
    rintro e w8 ⟨rfl, _, hg⟩
    have HG8 := Lib.hid hg
    clear hg
    have OX1 : Hid (w.heap.size ≤ w2.heap.size) := HB2.out.size
    have HB8 : Hid (Below w.heap.size w w8) := HB7.out.grown HG8.out HB7.out.size (fun k hk => Nat.le_trans OX1.out (World.ownsRow.lt XP_7.out k hk).1)
    have WS_8 : Hid (Row w8 _ Wv ys) := World.ownsRow.kept WS_7.out HG8.out PA1.out
    have GS_8 : Hid (Row w8 _ Gv ys) := World.ownsRow.kept GS_7.out HG8.out PB1.out
    go_wp2_with fail
    refine (c_eqIntS ys _ _ _ _ _ hyl GS_8.out WS_8.out).mono ?_
    rintro e w9 ⟨rfl, hb9⟩
    have HB9 : Hid (Below w.heap.size w w9) := HB8.out.trans (hb9.mono HB8.out.size)
    have WS_9 := Lib.hid (WS_8.out.below hb9)
    have GS_9 := Lib.hid (GS_8.out.below hb9)
    clear hb9
    go_wp2_with fail
    refine (c_markIntS ys _ _ 1 _ hyl (by omega) (by omega) GS_9.out).mono ?_
    rintro e w10 ⟨rfl, hr, hg⟩
    have GS_10 := Lib.hid hr
    have HG10 := Lib.hid hg
    clear hr hg
    have OG : Hid (w.heap.size ≤ w3.heap.size) := HB3.out.size
    have HB10 : Hid (Below w.heap.size w w10) := HB9.out.grown HG10.out HB9.out.size (fun k hk => Nat.le_trans OG.out (World.ownsRow.lt GS_9.out k hk).1)
    have WS_10 : Hid (Row w10 _ Wv ys) := World.ownsRow.kept WS_9.out HG10.out PC.out
    go_wp2_with fail
    refine (c_heldIntS Gv _ ys.length 1 _ hyl (by omega) (by omega) GS_10.out).mono ?_
    rintro e w' ⟨rfl, rfl⟩
    go_wp2_with fail
    refine (c_toEdgeS n xs _ _ l1 (HS.out.below HB10.out)).mono ?_
    rintro e w11 ⟨Yv, rfl, hs, hb11⟩
    have HB11 : Hid (Below w.heap.size w w11) := HB10.out.trans (hb11.mono HB10.out.size)
    have WS_11 := Lib.hid (WS_10.out.below hb11)
    have GS_11 := Lib.hid (GS_10.out.below hb11)
    have YP_11 := Lib.hid hs
    clear hs
    clear hb11
    go_wp2_with fail
    refine (CI.out _ _ YP_11.out.seen).mono ?_
    rintro e w12 ⟨Yv, rfl, hs, hb12⟩
    have HB12 : Hid (Below w.heap.size w w12) := HB11.out.trans (hb12.mono HB11.out.size)
    have WS_12 := Lib.hid (WS_11.out.below hb12)
    have GS_12 := Lib.hid (GS_11.out.below hb12)
    have YP_12 := Lib.hid (YP_11.out.below hb12)
    have YS_12 := Lib.hid hs
    clear hs
    clear hb12
    go_wp2_with fail
    refine (c_eqIntS ys _ _ _ _ _ hyl YS_12.out WS_12.out).mono ?_
    rintro e w13 ⟨rfl, hb13⟩
    have HB13 : Hid (Below w.heap.size w w13) := HB12.out.trans (hb13.mono HB12.out.size)
    have WS_13 := Lib.hid (WS_12.out.below hb13)
    have GS_13 := Lib.hid (GS_12.out.below hb13)
    have YP_13 := Lib.hid (YP_12.out.below hb13)
    have YS_13 := Lib.hid (YS_12.out.below hb13)
    clear hb13
    go_wp2_with fail
    refine (c_heldIntS Gv _ ys.length 1 _ hyl (by omega) (by omega) GS_13.out).mono ?_
    rintro e w' ⟨rfl, rfl⟩
    go_wp2
    go_ret
    exact ⟨rfl, HB13.out⟩

/-! ### The row's step -/
theorem laid : laidOutB Try.prog = true := by kernel_rfl
set_option maxRecDepth 100000 in
theorem lifted (os : Os) (started : os.Started) (H : Type) (enc : TypeId × Value → H) :
    ReturnsInHanded {} Try.checked os 5 .any (Rows.fnExactGreatestCutSpec.pre6 enc Try.prog Try.f5 Rows.fnExactGreatestCutRow.domain false) (Rows.fnExactGreatestCutSpec.post enc Try.prog Try.f5 false true false false) := by
  refine returnsInHanded_of_change (C := Try.checked) own started (by kernel_rfl) Try.func5
    (ChangeSpec.witness6 (enc := enc) (C := Try.checked) false ⟨#[], #[.int .i64 0, .slice none 0 0], []⟩ 8 (by kernel_rfl) (by kernel_rfl) (by kernel_rfl) (by kernel_rfl)) ?_
  intro W base args ds gs before hval0 hW hcnd _
  have hval : ∀ (j : Nat) t v, Try.f5.params[j]? = some t → args[j]? = some v → Value.okWide Try.prog W .any base t v := hval0
  have hW' := hW
  have lts : ∀ x ∈ before, x.block < W.heap.size := fun x hx => by simpa using hW'.lt x hx
  obtain ⟨p, q, hA0, hV, rfl, hfz, hnd⟩ := hW
  have hA : DataW.TrodAll enc Try.prog W 0 (fun _ => true) true Try.f5.params.toList args.toList ds p := hA0
  rw [Try.params5] at hA hval
  obtain ⟨v0, vs0, d0, ds0, p0, q0, hargs, rfl, rfl, h0, r0⟩ := trodAll_cons hA
  obtain ⟨v1, vs1, d1, ds1, p1, q1, rfl, rfl, rfl, h1, r1⟩ := trodAll_cons r0
  obtain ⟨rfl, rfl, rfl⟩ := trodAll_nil r1
  obtain rfl : args = #[v0, v1] := by cases args; simp_all
  obtain ⟨rfl, rfl⟩ := trodVars_none hV
  have k0 := h0
  obtain ⟨a0, rfl, _, _, w0⟩ := open_int Try.underlying3 (hval 0 3 v0 rfl rfl) h0
  have k1 := h1
  obtain ⟨n, xs, hS⟩ := open_pieces (hval 1 22 v1 rfl rfl) h1
  clear hA0 hval0
  simp only [List.append_nil] at hW' lts
  refine (walk a0 n xs v1 W w0 hS).mono fun e W' ⟨he, bel⟩ => ?_
  subst he
  exact ⟨_, rfl, _, _, _, [], _, [], hW', trodAll_mk1 (shut_bool Try.underlying4 _), (trodAll_cons_mk (Below.trod laid (by kernel_rfl) (of_decide_eq_true (by kernel_rfl)) k0 bel (fun x hx => lts x (by simp [hx]))) (trodAll_cons_mk (Below.trod laid (by kernel_rfl) (of_decide_eq_true (by kernel_rfl)) k1 bel (fun x hx => lts x (by simp [hx]))) trodAll_mk0)), rfl, bel.frame _, fun h => by cases h⟩

theorem closed : joinedFacts Try.prog 5 Try.f5 Rows.fnExactGreatestCutSpec Rows.fnExactGreatestCutRow = true := by
  unfold joinedFacts
  simp only [Bool.and_eq_true]
  refine ⟨⟨⟨⟨⟨⟨⟨⟨⟨⟨⟨⟨⟨⟨⟨⟨⟨⟨⟨⟨⟨⟨⟨⟨⟨⟨⟨⟨⟨⟨⟨?_, ?_⟩, ?_⟩, ?_⟩, ?_⟩, ?_⟩, ?_⟩, ?_⟩, ?_⟩, ?_⟩, ?_⟩, ?_⟩, ?_⟩, ?_⟩, ?_⟩, ?_⟩, ?_⟩, ?_⟩, ?_⟩, ?_⟩, ?_⟩, ?_⟩, ?_⟩, ?_⟩, ?_⟩, ?_⟩, ?_⟩, ?_⟩, ?_⟩, ?_⟩, ?_⟩, ?_⟩
  · as_aux_lemma => kernel_rfl
  · as_aux_lemma => kernel_rfl
  · as_aux_lemma => kernel_rfl
  · as_aux_lemma => kernel_rfl
  · as_aux_lemma => kernel_rfl
  · as_aux_lemma => kernel_rfl
  · as_aux_lemma => kernel_rfl
  · as_aux_lemma => kernel_rfl
  · as_aux_lemma => kernel_rfl
  · as_aux_lemma => kernel_rfl
  · as_aux_lemma => kernel_rfl
  · as_aux_lemma => kernel_rfl
  · as_aux_lemma => kernel_rfl
  · as_aux_lemma => kernel_rfl
  · as_aux_lemma => kernel_rfl
  · as_aux_lemma => kernel_rfl
  · as_aux_lemma => kernel_rfl
  · as_aux_lemma => kernel_rfl
  · as_aux_lemma => kernel_rfl
  · as_aux_lemma => kernel_rfl
  · as_aux_lemma => kernel_rfl
  · as_aux_lemma => kernel_rfl
  · as_aux_lemma => kernel_rfl
  · as_aux_lemma => kernel_rfl
  · as_aux_lemma => kernel_rfl
  · exact jf_may
  · exact (congrArg (fun b => (Rows.fnExactGreatestCutRow.lifted == b)) jf_lifts).trans (by kernel_rfl)
  · exact (congrArg (fun o => (o == some Rows.fnExactGreatestCutRow.make)) jf_make).trans (by kernel_rfl)
  · as_aux_lemma => kernel_rfl
  · as_aux_lemma => kernel_rfl
  · as_aux_lemma => kernel_rfl
  · as_aux_lemma => kernel_rfl

theorem over : Rows.fnExactGreatestCutRow.holds Try.pinned (OpenSpec.ofChange Rows.fnExactGreatestCutSpec) :=
  OpenClaim.holds_of_wide 5 Try.f5 rfl rfl rfl rfl rfl rfl rfl ⟨rfl, rfl, rfl, rfl, rfl⟩ rfl rfl rfl rfl rfl (by kernel_rfl) Try.func5 closed
    (of_decide_eq_true (by kernel_rfl)) (by unfold Func.isWrapper; first | (rw [if_pos (by decide +kernel)]; kernel_rfl) | (rw [if_neg (by decide +kernel)]; exact ⟨rfl, rfl⟩))
    (fun os started H enc _ => lifted os started H enc)

end Go.Proofs.Ytgboedfnkkckkaa.fnExactGreatestCutProof
namespace Go.Proofs.Ytgboedfnkkckkaa
theorem fnExactGreatestCut_holds : Rows.FnExactGreatestCutSaid := fnExactGreatestCutProof.over
#print axioms fnExactGreatestCut_holds
end Go.Proofs.Ytgboedfnkkckkaa
