/-
  The law FnExactPhaseOfBlock holds: for all arguments, PhaseOfBlock answers as its model does, and the arguments read as they did. No conditions.
-/
import Derived.Test.YtlgbhemjckahhaaRows
import Derived.Test.YtlgbhemjckahhaaTP2
import Derived.Test.YtlgbhemjckahhaaN0
import Derived.Test.YtlgbhemjckahhaaN2
import Derived.Test.YtlgbhemjckahhaaR2
import Derived.Test.YtlgbhemjckahhaaR3
import Derived.Test.YtlgbhemjckahhaaR4
import Derived.Test.YtlgbhemjckahhaaOG
import Derived.Test.YtlgbhemjckahhaaJF
import Derived.WalkKit
import Derived.Lib.Hide
import Derived.Deep.DeepCutAuto
import Derived.ProofKit
import Derived.OpenShut
import Derived.ShutString
import Derived.ChangeOld
import Derived.Below
import Derived.Carry
import Derived.Deep.RegionWith
import Derived.Lib.SmallJoins
namespace Go.Proofs.Ytlgbhemjckahhaa.fnExactPhaseOfBlockProof
open Go.ChangeShapes Go.WideShapes Go.ChangeAt Go.RowKit Go.Joins
set_option linter.unusedVariables false

theorem own : ownKnob Try.prog.godebug = none := by kernel_rfl

/-! ### The walk -/
set_option maxHeartbeats 4000000 in
set_option maxRecDepth 100000 in
theorem walk (xss : List (List Int)) (v0 : Value) (pss : List (List Int)) (v1 : Value) (a2 : Int) (w : World) (hR : SeenL w v0 xss) (hR2 : SeenL w v1 pss) (wf2 : (Lit.int .i64 a2).wf = true) :
    Calls Try.prog 5 #[v0, v1, .int .i64 a2] w fun e w' => e = .returned (.bool true) ∧ Below w.heap.size w w' := by
  have HS := Lib.hid hR
  obtain ⟨A, c, rfl, hm⟩ := hR.shape
  clear hR hm
  have HS2 := Lib.hid hR2
  obtain ⟨A9, c9, rfl, hm9⟩ := hR2.shape
  clear hR2 hm9
  have HB0 : Hid (Below w.heap.size w w) := Below.refl _ _
  have hne0 : (poV xss pss a2 != poV xss pss a2) = false := by simp
  have hne1 : (poB xss pss a2 != poB xss pss a2) = false := by simp
  go_enter Try.func5, Try.ntmps5
  go_wp2_with fail
  refine (c_szIntSS xss _ 1048576 _ (by omega) (by omega) (HS.out.below HB0.out)).mono ?_
  rintro e w' ⟨⟨r, rfl, hsz⟩, rfl⟩
  rcases hsz with rfl | ⟨hsz, hr⟩
  case inl =>
    go_wp2
    go_ret
    exact ⟨rfl, HB0.out⟩
  case inr =>
    have hr0 : ¬ r < 0 := by omega
    have hsh : Hid (ShortL xss) := shortL_of hsz (by omega)
    have hsl : xss.length ≤ 1048576 := by omega
    have hss : Hid (Short xss) := hsh.out.2
    have htt : totN xss xss.length ≤ 1048576 := by omega
    have HRr := Lib.hid hr
    have hr1 : r ≤ 1048576 := by omega
    clear hr hsz
    go_wp2_with fail
    refine (c_szIntSS pss _ r _ (by omega) (by omega) (HS2.out.below HB0.out)).mono ?_
    rintro e w' ⟨⟨r2, rfl, hsz2⟩, rfl⟩
    rcases hsz2 with rfl | ⟨hsz2, hr2⟩
    case inl =>
      go_wp2
      go_ret
      exact ⟨rfl, HB0.out⟩
    case inr =>
      have hr20 : ¬ r2 < 0 := by omega
      have hsh2 : Hid (ShortL pss) := shortL_of hsz2 (by omega)
      have hsl2 : pss.length ≤ 1048576 := by omega
      have hss2 : Hid (Short pss) := hsh2.out.2
      have htt2 : totN pss pss.length ≤ 1048576 := by omega
      have htq : totN xss xss.length + totN pss pss.length ≤ 1048576 := by have := HRr.out; omega
      clear hr2 hsz2
      have CS : Hid (∀ (p : Value) (q : Value) (B9 U9 : Nat) (u : World), SeenL u p xss → Rows u B9 U9 q pss → Calls Try.prog 21 #[p, q, .int .i64 a2] u (fun e u' => e = .returned (.tuple #[.int .i64 (poV xss pss a2), .bool (poB xss pss a2)]) ∧ Below u.heap.size u u')) := fun p q B9 U9 u hu hu9 => c_PhaseOfBlockS xss pss a2 p q u hsh.out hsh2.out hu hu9.seen
      have CI : Hid (∀ (p : Value) (q : Value) (B9 U9 : Nat) (u : World), SeenL u p xss → Rows u B9 U9 q pss → Calls Try.prog 22 #[p, q, .int .i64 a2] u (fun e u' => e = .returned (.tuple #[.int .i64 (poV xss pss a2), .bool (poB xss pss a2)]) ∧ Below u.heap.size u u')) := fun p q B9 U9 u hu hu9 => c_PhaseOfBlock xss pss a2 p q u hsh.out hsh2.out hu hu9.seen
      go_wp2_with fail
      refine (c_toIntSS xss _ _ hsh.out (HS.out.below HB0.out)).mono ?_
      rintro e w1 ⟨Spv, rfl, hs, hb1⟩
      have HB1 : Hid (Below w.heap.size w w1) := HB0.out.trans (hb1.mono HB0.out.size)
      have SpP_1 := Lib.hid hs
      have USpP_1 : Hid (_ ≤ _) := Nat.le_refl w1.heap.size
      clear hs
      clear hb1
      go_wp2_with fail
      refine (c_toIntSS pss _ _ hsh2.out (HS2.out.below HB1.out)).mono ?_
      rintro e w2 ⟨Spq, rfl, hs, hb2⟩
      have HB2 : Hid (Below w.heap.size w w2) := HB1.out.trans (hb2.mono HB1.out.size)
      have SpP_2 := Lib.hid (SpP_1.out.below hb2 USpP_1.out)
      have USpP_2 := Lib.hid (Nat.le_trans USpP_1.out hb2.size)
      have SpQ_2 := Lib.hid hs
      have USpQ_2 : Hid (_ ≤ _) := Nat.le_refl w2.heap.size
      clear hs
      clear hb2
      go_wp2_with fail
      refine (CS.out _ _ _ _ _ SpP_2.out.seen SpQ_2.out).mono ?_
      rintro e w3 ⟨rfl, hb3⟩
      have HB3 : Hid (Below w.heap.size w w3) := HB2.out.trans (hb3.mono HB2.out.size)
      have SpP_3 := Lib.hid (SpP_2.out.below hb3 USpP_2.out)
      have USpP_3 := Lib.hid (Nat.le_trans USpP_2.out hb3.size)
      have SpQ_3 := Lib.hid (SpQ_2.out.below hb3 USpQ_2.out)
      have USpQ_3 := Lib.hid (Nat.le_trans USpQ_2.out hb3.size)
      clear hb3
      go_wp2_with fail
      refine (c_toIntSS xss _ _ hsh.out (HS.out.below HB3.out)).mono ?_
      rintro e w4 ⟨Xv, rfl, hs, hb4⟩
      have HB4 : Hid (Below w.heap.size w w4) := HB3.out.trans (hb4.mono HB3.out.size)
      have XP_4 := Lib.hid hs
      have UXP_4 : Hid (_ ≤ _) := Nat.le_refl w4.heap.size
      clear hs
      clear hb4
      go_wp2_with fail
      refine (c_toIntSS pss _ _ hsh2.out (HS2.out.below HB4.out)).mono ?_
      rintro e w5 ⟨Xq, rfl, hs, hb5⟩
      have HB5 : Hid (Below w.heap.size w w5) := HB4.out.trans (hb5.mono HB4.out.size)
      have XP_5 := Lib.hid (XP_4.out.below hb5 UXP_4.out)
      have UXP_5 := Lib.hid (Nat.le_trans UXP_4.out hb5.size)
      have XQ_5 := Lib.hid hs
      have UXQ_5 : Hid (_ ≤ _) := Nat.le_refl w5.heap.size
      clear hs
      clear hb5
      go_wp2_with fail
      refine (CI.out _ _ _ _ _ XP_5.out.seen XQ_5.out).mono ?_
      rintro e w6 ⟨rfl, hb6⟩
      have HB6 : Hid (Below w.heap.size w w6) := HB5.out.trans (hb6.mono HB5.out.size)
      have XP_6 := Lib.hid (XP_5.out.below hb6 UXP_5.out)
      have UXP_6 := Lib.hid (Nat.le_trans UXP_5.out hb6.size)
      have XQ_6 := Lib.hid (XQ_5.out.below hb6 UXQ_5.out)
      have UXQ_6 := Lib.hid (Nat.le_trans UXQ_5.out hb6.size)
      clear hb6
      go_wp2_with fail
      refine (c_toIntSS xss _ _ hsh.out (HS.out.below HB6.out)).mono ?_
      rintro e w7 ⟨Yv, rfl, hs, hb7⟩
      have HB7 : Hid (Below w.heap.size w w7) := HB6.out.trans (hb7.mono HB6.out.size)
      have XP_7 := Lib.hid (XP_6.out.below hb7 UXP_6.out)
      have UXP_7 := Lib.hid (Nat.le_trans UXP_6.out hb7.size)
      have XQ_7 := Lib.hid (XQ_6.out.below hb7 UXQ_6.out)
      have UXQ_7 := Lib.hid (Nat.le_trans UXQ_6.out hb7.size)
      have YP_7 := Lib.hid hs
      have UYP_7 : Hid (_ ≤ _) := Nat.le_refl w7.heap.size
      clear hs
      clear hb7
      go_wp2_with fail
      refine (c_eqIntSS xss _ _ _ _ _ _ _ hsl hss.out XP_7.out YP_7.out UXP_7.out UYP_7.out).mono ?_
      rintro e w8 ⟨rfl, hb8⟩
      have HB8 : Hid (Below w.heap.size w w8) := HB7.out.trans (hb8.mono HB7.out.size)
      have XP_8 := Lib.hid (XP_7.out.below hb8 UXP_7.out)
      have UXP_8 := Lib.hid (Nat.le_trans UXP_7.out hb8.size)
      have XQ_8 := Lib.hid (XQ_7.out.below hb8 UXQ_7.out)
      have UXQ_8 := Lib.hid (Nat.le_trans UXQ_7.out hb8.size)
      have YP_8 := Lib.hid (YP_7.out.below hb8 UYP_7.out)
      have UYP_8 := Lib.hid (Nat.le_trans UYP_7.out hb8.size)
      clear hb8
      go_wp2_with fail
      refine (c_toIntSS pss _ _ hsh2.out (HS2.out.below HB8.out)).mono ?_
      rintro e w9 ⟨Yq, rfl, hs, hb9⟩
      have HB9 : Hid (Below w.heap.size w w9) := HB8.out.trans (hb9.mono HB8.out.size)
      have XP_9 := Lib.hid (XP_8.out.below hb9 UXP_8.out)
      have UXP_9 := Lib.hid (Nat.le_trans UXP_8.out hb9.size)
      have XQ_9 := Lib.hid (XQ_8.out.below hb9 UXQ_8.out)
      have UXQ_9 := Lib.hid (Nat.le_trans UXQ_8.out hb9.size)
      have YQ_9 := Lib.hid hs
      have UYQ_9 : Hid (_ ≤ _) := Nat.le_refl w9.heap.size
      clear hs
      clear hb9
      go_wp2_with fail
      refine (c_eqIntSS pss _ _ _ _ _ _ _ hsl2 hss2.out XQ_9.out YQ_9.out UXQ_9.out UYQ_9.out).mono ?_
      rintro e w10 ⟨rfl, hb10⟩
      have HB10 : Hid (Below w.heap.size w w10) := HB9.out.trans (hb10.mono HB9.out.size)
      have XP_10 := Lib.hid (XP_9.out.below hb10 UXP_9.out)
      have UXP_10 := Lib.hid (Nat.le_trans UXP_9.out hb10.size)
      have XQ_10 := Lib.hid (XQ_9.out.below hb10 UXQ_9.out)
      have UXQ_10 := Lib.hid (Nat.le_trans UXQ_9.out hb10.size)
      have YQ_10 := Lib.hid (YQ_9.out.below hb10 UYQ_9.out)
      have UYQ_10 := Lib.hid (Nat.le_trans UYQ_9.out hb10.size)
      clear hb10
      go_wp2
      go_ret
      exact ⟨rfl, HB10.out⟩

/-! ### The row's step -/
theorem laid : laidOutB Try.prog = true := by kernel_rfl
set_option maxRecDepth 100000 in
set_option maxHeartbeats 8000000 in
theorem lifted (os : Os) (started : os.Started) (H : Type) (enc : TypeId × Value → H) :
    ReturnsInHanded {} Try.checked os 5 .any (Rows.fnExactPhaseOfBlockSpec.pre6 enc Try.prog Try.f5 Rows.fnExactPhaseOfBlockRow.domain false) (Rows.fnExactPhaseOfBlockSpec.post enc Try.prog Try.f5 false true false false) := by
  refine returnsInHanded_of_change (C := Try.checked) own started (by kernel_rfl) Try.func5
    (ChangeSpec.witness6 (enc := enc) (C := Try.checked) false ⟨#[], #[.slice none 0 0, .slice none 0 0, .int .i64 0], []⟩ 8 (by kernel_rfl) (by kernel_rfl) (by kernel_rfl) (by kernel_rfl)) ?_
  intro W base args ds gs before hval0 hW hcnd _
  have hval : ∀ (j : Nat) t v, Try.f5.params[j]? = some t → args[j]? = some v → Value.okWide Try.prog W .any base t v := hval0
  have hW' := hW
  have lts : ∀ x ∈ before, x.block < W.heap.size := fun x hx => by simpa using hW'.lt x hx
  obtain ⟨p, q, hA0, hV, rfl, hfz, hnd⟩ := hW
  have hA : DataW.TrodAll enc Try.prog W 0 (fun _ => true) true Try.f5.params.toList args.toList ds p := hA0
  rw [Try.params5] at hA hval
  obtain ⟨v0, vs0, d0, ds0, p0, q0, hargs, rfl, rfl, h0, r0⟩ := trodAll_cons hA
  obtain ⟨v1, vs1, d1, ds1, p1, q1, rfl, rfl, rfl, h1, r1⟩ := trodAll_cons r0
  obtain ⟨v2, vs2, d2, ds2, p2, q2, rfl, rfl, rfl, h2, r2⟩ := trodAll_cons r1
  obtain ⟨rfl, rfl, rfl⟩ := trodAll_nil r2
  obtain rfl : args = #[v0, v1, v2] := by cases args; simp_all
  obtain ⟨rfl, rfl⟩ := trodVars_none hV
  have k0 := h0
  obtain ⟨xss, hR⟩ := open_rows (hval 0 22 v0 rfl rfl) h0
  have k1 := h1
  obtain ⟨pss, hR2⟩ := open_rows (hval 1 22 v1 rfl rfl) h1
  have k2 := h2
  obtain ⟨a2, rfl, _, _, w2⟩ := open_int Try.underlying3 (hval 2 3 v2 rfl rfl) h2
  clear hA0 hval0
  simp only [List.append_nil] at hW' lts
  refine (walk xss v0 pss v1 a2 W hR hR2 w2).mono fun e W' ⟨he, bel⟩ => ?_
  subst he
  exact ⟨_, rfl, _, _, _, [], _, [], hW', trodAll_mk1 (shut_bool Try.underlying4 _), (trodAll_cons_mk (Below.trod laid (by kernel_rfl) (of_decide_eq_true (by kernel_rfl)) k0 bel (fun x hx => lts x (by simp [hx]))) (trodAll_cons_mk (Below.trod laid (by kernel_rfl) (of_decide_eq_true (by kernel_rfl)) k1 bel (fun x hx => lts x (by simp [hx]))) (trodAll_cons_mk (Below.trod laid (by kernel_rfl) (of_decide_eq_true (by kernel_rfl)) k2 bel (fun x hx => lts x (by simp [hx]))) trodAll_mk0))), rfl, bel.frame _, fun h => by cases h⟩

set_option maxHeartbeats 8000000 in
theorem closed : joinedFacts Try.prog 5 Try.f5 Rows.fnExactPhaseOfBlockSpec Rows.fnExactPhaseOfBlockRow = true := by
  unfold joinedFacts
  simp only [Bool.and_eq_true]
  refine ⟨⟨⟨⟨⟨⟨⟨⟨⟨⟨⟨⟨⟨⟨⟨⟨⟨⟨⟨⟨⟨⟨⟨⟨⟨⟨⟨⟨⟨⟨⟨?_, ?_⟩, ?_⟩, ?_⟩, ?_⟩, ?_⟩, ?_⟩, ?_⟩, ?_⟩, ?_⟩, ?_⟩, ?_⟩, ?_⟩, ?_⟩, ?_⟩, ?_⟩, ?_⟩, ?_⟩, ?_⟩, ?_⟩, ?_⟩, ?_⟩, ?_⟩, ?_⟩, ?_⟩, ?_⟩, ?_⟩, ?_⟩, ?_⟩, ?_⟩, ?_⟩, ?_⟩
  · as_aux_lemma => kernel_rfl
  · as_aux_lemma => kernel_rfl
  · as_aux_lemma => kernel_rfl
  · as_aux_lemma => kernel_rfl
  · as_aux_lemma => kernel_rfl
  · as_aux_lemma => kernel_rfl
  · as_aux_lemma => kernel_rfl
  · as_aux_lemma => kernel_rfl
  · as_aux_lemma => kernel_rfl
  · as_aux_lemma => kernel_rfl
  · as_aux_lemma => kernel_rfl
  · as_aux_lemma => kernel_rfl
  · as_aux_lemma => kernel_rfl
  · as_aux_lemma => kernel_rfl
  · as_aux_lemma => kernel_rfl
  · as_aux_lemma => kernel_rfl
  · as_aux_lemma => kernel_rfl
  · as_aux_lemma => kernel_rfl
  · as_aux_lemma => kernel_rfl
  · as_aux_lemma => kernel_rfl
  · as_aux_lemma => kernel_rfl
  · as_aux_lemma => kernel_rfl
  · as_aux_lemma => kernel_rfl
  · as_aux_lemma => kernel_rfl
  · as_aux_lemma => kernel_rfl
  · exact jf_may
  · exact (congrArg (fun b => (Rows.fnExactPhaseOfBlockRow.lifted == b)) jf_lifts).trans (by kernel_rfl)
  · exact (congrArg (fun o => (o == some Rows.fnExactPhaseOfBlockRow.make)) jf_make).trans (by kernel_rfl)
  · as_aux_lemma => kernel_rfl
  · as_aux_lemma => kernel_rfl
  · as_aux_lemma => kernel_rfl
  · as_aux_lemma => kernel_rfl

set_option maxHeartbeats 8000000 in
theorem over : Rows.fnExactPhaseOfBlockRow.holds Try.pinned (OpenSpec.ofChange Rows.fnExactPhaseOfBlockSpec) :=
  OpenClaim.holds_of_wide 5 Try.f5 rfl rfl rfl rfl rfl rfl rfl ⟨rfl, rfl, rfl, rfl, rfl⟩ rfl rfl rfl rfl rfl (by kernel_rfl) Try.func5 closed
    (of_decide_eq_true (by kernel_rfl)) (by unfold Func.isWrapper; first | (rw [if_pos (by decide +kernel)]; kernel_rfl) | (rw [if_neg (by decide +kernel)]; exact ⟨rfl, rfl⟩))
    (fun os started H enc _ => lifted os started H enc)
end Go.Proofs.Ytlgbhemjckahhaa.fnExactPhaseOfBlockProof
namespace Go.Proofs.Ytlgbhemjckahhaa
theorem fnExactPhaseOfBlock_holds : Rows.FnExactPhaseOfBlockSaid := fnExactPhaseOfBlockProof.over
#print axioms fnExactPhaseOfBlock_holds
end Go.Proofs.Ytlgbhemjckahhaa
