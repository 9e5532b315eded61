/-
  The law FnExactReducedArcs holds: for all arguments, ReducedArcs answers as its model does, its answer owns its memory, and the arguments read as they did. No conditions.
-/
import Derived.Test.YtffknfgejoejoaaRows
import Derived.Test.YtffknfgejoejoaaNI
import Derived.Test.YtffknfgejoejoaaN0
import Derived.Test.YtffknfgejoejoaaN2
import Derived.Test.YtffknfgejoejoaaR2
import Derived.Test.YtffknfgejoejoaaR3
import Derived.Test.YtffknfgejoejoaaR4
import Derived.WalkKit
import Derived.Lib.Hide
import Derived.Deep.DeepCutAuto
import Derived.ProofKit
import Derived.OpenShut
import Derived.ShutString
import Derived.ChangeOld
import Derived.Below
import Derived.Carry
import Derived.Deep.RegionWith
import Derived.Lib.SmallJoins
namespace Go.Proofs.Ytffknfgejoejoaa.fnExactReducedArcsProof
open Go.ChangeShapes Go.WideShapes Go.ChangeAt Go.RowKit Go.Joins
set_option linter.unusedVariables false

theorem own : ownKnob Try.prog.godebug = none := by kernel_rfl

/-! ### The walk -/
set_option maxHeartbeats 4000000 in
set_option maxRecDepth 100000 in
theorem walk (xss : List (List Int)) (v0 : Value) (w : World) (hR : SeenL w v0 xss) :
    Calls Try.prog 14 #[v0] w fun e w' => e = .returned (.bool true) ∧ Below w.heap.size w w' := by
  have HS := Lib.hid hR
  obtain ⟨A, c, rfl, hm⟩ := hR.shape
  clear hR hm
  have HB0 : Hid (Below w.heap.size w w) := Below.refl _ _
  go_enter Try.func14, Try.ntmps14
  go_wp2_with fail
  refine (c_szIntSS xss _ 1048576 _ (by omega) (by omega) HS.out).mono ?_
  rintro e w' ⟨⟨r, rfl, hsz⟩, rfl⟩
  rcases hsz with rfl | ⟨hsz, hr⟩
  case inl =>
    go_wp2
    go_ret
    exact ⟨rfl, HB0.out⟩
  case inr =>
    have hr0 : ¬ r < 0 := by omega
    have hsh : Hid (ShortL xss) := shortL_of hsz (by omega)
    have hsl : xss.length ≤ 1048576 := by omega
    have hss : Hid (Short xss) := hsh.out.2
    have htt : totN xss xss.length ≤ 1048576 := by omega
    clear hr hsz
    obtain ⟨yss, bb, hxl, hxs, hxt, CS, CI⟩ : ∃ (yss : List (List Int)) (bb : Bool), yss.length ≤ 1048576 ∧ Hid (Short yss) ∧ totN yss yss.length ≤ 1048576 ∧ Hid (∀ (p : Value) (u : World), SeenL u p xss → Calls Try.prog 46 #[p] u (GivesRows2 u yss bb)) ∧ Hid (∀ (p : Value) (u : World), SeenL u p xss → Calls Try.prog 47 #[p] u (GivesRows2 u yss bb)) :=
      ⟨reA xss, arcB xss, (re_facts xss).1, (re_facts xss).2.1, (re_facts xss).2.2, fun p u hu => c_ReducedArcsS xss p u hsh.out hu, fun p u hu => c_ReducedArcs xss p u hsh.out hu⟩
    obtain ⟨tt, htq⟩ : ∃ tt, totN yss yss.length = tt := ⟨_, rfl⟩
    have HTT := Lib.hid htq
    rw [htq] at hxt
    clear htq
    have hnb : (bb != bb) = false := by simp
    have hnq : ((1 + (tt : Int)) != (1 + (tt : Int))) = false := by simp
    have hpq : ¬ (1 + (tt : Int)) < 0 := by omega
    have HM : Hid (∀ (v : Value) (B U : Nat) (u : World), Rows u B U v yss → B ≤ u.heap.size → Calls Try.prog 24 #[v, .int .i64 1] u fun e w' => e = .returned (.int .i64 (1 + (tt : Int))) ∧ Rows w' B U v (marksTo 1 yss yss.length) ∧ Below B u w') := fun v B U u h hB => by
      rw [← HTT.out]; exact c_markIntSS yss v B U 1 u hxl (by rw [HTT.out]; exact hxt) (by omega) (by omega) h hB
    have HD : Hid (∀ (v : Value) (B U : Nat) (u : World), Rows u B U v (marksTo 1 yss yss.length) → Calls Try.prog 48 #[v, .int .i64 1] u fun e w' => e = .returned (.int .i64 (1 + (tt : Int))) ∧ u = w') := fun v B U u h => by
      rw [← HTT.out]; exact c_heldIntSS yss v B U 1 u hxl (by rw [HTT.out]; exact hxt) (by omega) (by omega) h
    generalize marksTo 1 yss yss.length = MK at *
    have hkq : ¬ (1 + (totN xss xss.length : Int)) < 0 := by omega
    go_wp2_with fail
    refine (c_toIntSS xss _ _ hsh.out (HS.out.below HB0.out)).mono ?_
    rintro e w1 ⟨Spv, rfl, hs, hb1⟩
    have HB1 : Hid (Below w.heap.size w w1) := HB0.out.trans (hb1.mono HB0.out.size)
    have SpP_1 := Lib.hid hs
    have USpP_1 : Hid (_ ≤ _) := Nat.le_refl w1.heap.size
    clear hs
    clear hb1
    go_wp2_with fail
    refine (CS.out _ _ SpP_1.out.seen).mono ?_
    rintro e w2 ⟨Wv, rfl, hs, hb2⟩
    have HB2 : Hid (Below w.heap.size w w2) := HB1.out.trans (hb2.mono HB1.out.size)
    have SpP_2 := Lib.hid (SpP_1.out.below hb2 USpP_1.out)
    have USpP_2 := Lib.hid (Nat.le_trans USpP_1.out hb2.size)
    have WS_2 := Lib.hid hs
    have UWS_2 : Hid (_ ≤ _) := Nat.le_refl w2.heap.size
    clear hs
    clear hb2
    have XB_2 : Hid (w2.heap.size ≤ w2.heap.size) := Nat.le_refl _
    go_wp2_with fail
    refine (c_toIntSS xss _ _ hsh.out (HS.out.below HB2.out)).mono ?_
    rintro e w3 ⟨Xv, rfl, hs, hb3⟩
    have HB3 : Hid (Below w.heap.size w w3) := HB2.out.trans (hb3.mono HB2.out.size)
    have WS_3 := Lib.hid (WS_2.out.below hb3 UWS_2.out)
    have UWS_3 := Lib.hid (Nat.le_trans UWS_2.out hb3.size)
    have XB_3 := Lib.hid (Nat.le_trans XB_2.out hb3.size)
    have XP_3 := Lib.hid hs
    have UXP_3 : Hid (_ ≤ _) := Nat.le_refl w3.heap.size
    clear hs
    clear hb3
    have GZ_3 : Hid (w3.heap.size ≤ w3.heap.size) := Nat.le_refl _
    go_wp2_with fail
    refine (CI.out _ _ XP_3.out.seen).mono ?_
    rintro e w4 ⟨Gv, rfl, hs, hb4⟩
    have HB4 : Hid (Below w.heap.size w w4) := HB3.out.trans (hb4.mono HB3.out.size)
    have WS_4 := Lib.hid (WS_3.out.below hb4 UWS_3.out)
    have UWS_4 := Lib.hid (Nat.le_trans UWS_3.out hb4.size)
    have XB_4 := Lib.hid (Nat.le_trans XB_3.out hb4.size)
    have XP_4 := Lib.hid (XP_3.out.below hb4 UXP_3.out)
    have UXP_4 := Lib.hid (Nat.le_trans UXP_3.out hb4.size)
    have GZ_4 := Lib.hid (Nat.le_trans GZ_3.out hb4.size)
    have GS_4 := Lib.hid hs
    have UGS_4 : Hid (_ ≤ _) := Nat.le_refl w4.heap.size
    clear hs
    clear hb4
    go_wp2_with fail
    refine (c_eqIntSS yss _ _ _ _ _ _ _ hxl hxs.out GS_4.out WS_4.out UGS_4.out UWS_4.out).mono ?_
    rintro e w5 ⟨rfl, hb5⟩
    have HB5 : Hid (Below w.heap.size w w5) := HB4.out.trans (hb5.mono HB4.out.size)
    have WS_5 := Lib.hid (WS_4.out.below hb5 UWS_4.out)
    have UWS_5 := Lib.hid (Nat.le_trans UWS_4.out hb5.size)
    have XB_5 := Lib.hid (Nat.le_trans XB_4.out hb5.size)
    have XP_5 := Lib.hid (XP_4.out.below hb5 UXP_4.out)
    have UXP_5 := Lib.hid (Nat.le_trans UXP_4.out hb5.size)
    have GZ_5 := Lib.hid (Nat.le_trans GZ_4.out hb5.size)
    have GS_5 := Lib.hid (GS_4.out.below hb5 UGS_4.out)
    have UGS_5 := Lib.hid (Nat.le_trans UGS_4.out hb5.size)
    clear hb5
    go_wp2_with fail
    refine (c_toIntSS xss _ _ hsh.out (HS.out.below HB5.out)).mono ?_
    rintro e w6 ⟨Yv, rfl, hs, hb6⟩
    have HB6 : Hid (Below w.heap.size w w6) := HB5.out.trans (hb6.mono HB5.out.size)
    have WS_6 := Lib.hid (WS_5.out.below hb6 UWS_5.out)
    have UWS_6 := Lib.hid (Nat.le_trans UWS_5.out hb6.size)
    have XB_6 := Lib.hid (Nat.le_trans XB_5.out hb6.size)
    have XP_6 := Lib.hid (XP_5.out.below hb6 UXP_5.out)
    have UXP_6 := Lib.hid (Nat.le_trans UXP_5.out hb6.size)
    have GZ_6 := Lib.hid (Nat.le_trans GZ_5.out hb6.size)
    have GS_6 := Lib.hid (GS_5.out.below hb6 UGS_5.out)
    have UGS_6 := Lib.hid (Nat.le_trans UGS_5.out hb6.size)
    have YP_6 := Lib.hid hs
    have UYP_6 : Hid (_ ≤ _) := Nat.le_refl w6.heap.size
    clear hs
    clear hb6
    go_wp2_with fail
    refine (c_eqIntSS xss _ _ _ _ _ _ _ hsl hss.out XP_6.out YP_6.out UXP_6.out UYP_6.out).mono ?_
    rintro e w7 ⟨rfl, hb7⟩
    have HB7 : Hid (Below w.heap.size w w7) := HB6.out.trans (hb7.mono HB6.out.size)
    have WS_7 := Lib.hid (WS_6.out.below hb7 UWS_6.out)
    have UWS_7 := Lib.hid (Nat.le_trans UWS_6.out hb7.size)
    have XB_7 := Lib.hid (Nat.le_trans XB_6.out hb7.size)
    have XP_7 := Lib.hid (XP_6.out.below hb7 UXP_6.out)
    have UXP_7 := Lib.hid (Nat.le_trans UXP_6.out hb7.size)
    have GZ_7 := Lib.hid (Nat.le_trans GZ_6.out hb7.size)
    have GS_7 := Lib.hid (GS_6.out.below hb7 UGS_6.out)
    have UGS_7 := Lib.hid (Nat.le_trans UGS_6.out hb7.size)
    have YP_7 := Lib.hid (YP_6.out.below hb7 UYP_6.out)
    have UYP_7 := Lib.hid (Nat.le_trans UYP_6.out hb7.size)
    clear hb7
    go_wp2_with fail
    refine (c_markIntSS2 xss _ _ _ 1 _ hsl htt (by omega) (by omega) XP_7.out XB_7.out).mono ?_
    rintro e w8 ⟨rfl, _, hbm, ham⟩
    have HB8 : Hid (Below w.heap.size w w8) := HB7.out.trans (hbm.mono HB2.out.size)
    have XB_8 := Lib.hid (Nat.le_trans XB_7.out hbm.size)
    have GZ_8 := Lib.hid (Nat.le_trans GZ_7.out hbm.size)
    have WS_8 := Lib.hid (WS_7.out.below hbm UWS_2.out)
    have UWS_8 := Lib.hid (Nat.le_trans UWS_7.out hbm.size)
    have GS_8 := Lib.hid (GS_7.out.stays fun k hk hu => ham k (Nat.le_trans UXP_3.out hk) (Nat.lt_of_lt_of_le hu UGS_7.out))
    have UGS_8 := Lib.hid (Nat.le_trans UGS_7.out hbm.size)
    clear hbm ham
    go_wp2_with fail
    refine (c_eqIntSS yss _ _ _ _ _ _ _ hxl hxs.out GS_8.out WS_8.out UGS_8.out UWS_8.out).mono ?_
    rintro e w9 ⟨rfl, hb9⟩
    have HB9 : Hid (Below w.heap.size w w9) := HB8.out.trans (hb9.mono HB8.out.size)
    have WS_9 := Lib.hid (WS_8.out.below hb9 UWS_8.out)
    have UWS_9 := Lib.hid (Nat.le_trans UWS_8.out hb9.size)
    have GS_9 := Lib.hid (GS_8.out.below hb9 UGS_8.out)
    have UGS_9 := Lib.hid (Nat.le_trans UGS_8.out hb9.size)
    have XB_9 := Lib.hid (Nat.le_trans XB_8.out hb9.size)
    have GZ_9 := Lib.hid (Nat.le_trans GZ_8.out hb9.size)
    clear hb9
    go_wp2_with fail
    refine (HM.out _ _ _ _ GS_9.out GZ_9.out).mono ?_
    rintro e w10 ⟨rfl, hr, hbm⟩
    have GS_10 := Lib.hid hr
    have UGS_10 := Lib.hid (Nat.le_trans UGS_9.out hbm.size)
    have HB10 : Hid (Below w.heap.size w w10) := HB9.out.trans (hbm.mono HB3.out.size)
    have WS_10 := Lib.hid (WS_9.out.below hbm (Nat.le_trans UWS_2.out XB_3.out))
    have UWS_10 := Lib.hid (Nat.le_trans UWS_9.out hbm.size)
    clear hr hbm
    go_wp2_with fail
    refine (HD.out _ _ _ _ GS_10.out).mono ?_
    rintro e w' ⟨rfl, rfl⟩
    go_wp2_with fail
    refine (c_toIntSS xss _ _ hsh.out (HS.out.below HB10.out)).mono ?_
    rintro e w11 ⟨Yv, rfl, hs, hb11⟩
    have HB11 : Hid (Below w.heap.size w w11) := HB10.out.trans (hb11.mono HB10.out.size)
    have WS_11 := Lib.hid (WS_10.out.below hb11 UWS_10.out)
    have UWS_11 := Lib.hid (Nat.le_trans UWS_10.out hb11.size)
    have GS_11 := Lib.hid (GS_10.out.below hb11 UGS_10.out)
    have UGS_11 := Lib.hid (Nat.le_trans UGS_10.out hb11.size)
    have YP_11 := Lib.hid hs
    have UYP_11 : Hid (_ ≤ _) := Nat.le_refl w11.heap.size
    clear hs
    clear hb11
    go_wp2_with fail
    refine (CI.out _ _ YP_11.out.seen).mono ?_
    rintro e w12 ⟨Yv, rfl, hs, hb12⟩
    have HB12 : Hid (Below w.heap.size w w12) := HB11.out.trans (hb12.mono HB11.out.size)
    have WS_12 := Lib.hid (WS_11.out.below hb12 UWS_11.out)
    have UWS_12 := Lib.hid (Nat.le_trans UWS_11.out hb12.size)
    have GS_12 := Lib.hid (GS_11.out.below hb12 UGS_11.out)
    have UGS_12 := Lib.hid (Nat.le_trans UGS_11.out hb12.size)
    have YP_12 := Lib.hid (YP_11.out.below hb12 UYP_11.out)
    have UYP_12 := Lib.hid (Nat.le_trans UYP_11.out hb12.size)
    have YS_12 := Lib.hid hs
    have UYS_12 : Hid (_ ≤ _) := Nat.le_refl w12.heap.size
    clear hs
    clear hb12
    go_wp2_with fail
    refine (c_eqIntSS yss _ _ _ _ _ _ _ hxl hxs.out YS_12.out WS_12.out UYS_12.out UWS_12.out).mono ?_
    rintro e w13 ⟨rfl, hb13⟩
    have HB13 : Hid (Below w.heap.size w w13) := HB12.out.trans (hb13.mono HB12.out.size)
    have WS_13 := Lib.hid (WS_12.out.below hb13 UWS_12.out)
    have UWS_13 := Lib.hid (Nat.le_trans UWS_12.out hb13.size)
    have GS_13 := Lib.hid (GS_12.out.below hb13 UGS_12.out)
    have UGS_13 := Lib.hid (Nat.le_trans UGS_12.out hb13.size)
    have YP_13 := Lib.hid (YP_12.out.below hb13 UYP_12.out)
    have UYP_13 := Lib.hid (Nat.le_trans UYP_12.out hb13.size)
    have YS_13 := Lib.hid (YS_12.out.below hb13 UYS_12.out)
    have UYS_13 := Lib.hid (Nat.le_trans UYS_12.out hb13.size)
    clear hb13
    go_wp2_with fail
    refine (HD.out _ _ _ _ GS_13.out).mono ?_
    rintro e w' ⟨rfl, rfl⟩
    go_wp2
    go_ret
    exact ⟨rfl, HB13.out⟩

/-! ### The row's step -/
theorem laid : laidOutB Try.prog = true := by kernel_rfl
set_option maxRecDepth 100000 in
theorem lifted (os : Os) (started : os.Started) (H : Type) (enc : TypeId × Value → H) :
    ReturnsInHanded {} Try.checked os 14 .any (Rows.fnExactReducedArcsSpec.pre6 enc Try.prog Try.f14 Rows.fnExactReducedArcsRow.domain false) (Rows.fnExactReducedArcsSpec.post enc Try.prog Try.f14 false true false false) := by
  refine returnsInHanded_of_change (C := Try.checked) own started (by kernel_rfl) Try.func14
    (ChangeSpec.witness6 (enc := enc) (C := Try.checked) false ⟨#[], #[.slice none 0 0], []⟩ 8 (by kernel_rfl) (by kernel_rfl) (by kernel_rfl) (by kernel_rfl)) ?_
  intro W base args ds gs before hval0 hW hcnd _
  have hval : ∀ (j : Nat) t v, Try.f14.params[j]? = some t → args[j]? = some v → Value.okWide Try.prog W .any base t v := hval0
  have hW' := hW
  have lts : ∀ x ∈ before, x.block < W.heap.size := fun x hx => by simpa using hW'.lt x hx
  obtain ⟨p, q, hA0, hV, rfl, hfz, hnd⟩ := hW
  have hA : DataW.TrodAll enc Try.prog W 0 (fun _ => true) true Try.f14.params.toList args.toList ds p := hA0
  rw [Try.params14] at hA hval
  obtain ⟨v0, vs0, d0, ds0, p0, q0, hargs, rfl, rfl, h0, r0⟩ := trodAll_cons hA
  obtain ⟨rfl, rfl, rfl⟩ := trodAll_nil r0
  obtain rfl : args = #[v0] := by cases args; simp_all
  obtain ⟨rfl, rfl⟩ := trodVars_none hV
  have k0 := h0
  obtain ⟨xss, hR⟩ := open_rows (hval 0 22 v0 rfl rfl) h0
  clear hA0 hval0
  simp only [List.append_nil] at hW' lts
  refine (walk xss v0 W hR).mono fun e W' ⟨he, bel⟩ => ?_
  subst he
  exact ⟨_, rfl, _, _, _, [], _, [], hW', trodAll_mk1 (shut_bool Try.underlying4 _), (trodAll_cons_mk (Below.trod laid (by kernel_rfl) (of_decide_eq_true (by kernel_rfl)) k0 bel (fun x hx => lts x (by simp [hx]))) trodAll_mk0), rfl, bel.frame _, fun h => by cases h⟩

theorem over : Rows.fnExactReducedArcsRow.holds Try.pinned (OpenSpec.ofChange Rows.fnExactReducedArcsSpec) :=
  OpenClaim.holds_of_wide 14 Try.f14 rfl rfl rfl rfl rfl rfl rfl ⟨rfl, rfl, rfl, rfl, rfl⟩ rfl rfl rfl rfl rfl (by kernel_rfl) Try.func14 (by kernel_rfl)
    (of_decide_eq_true (by kernel_rfl)) (by unfold Func.isWrapper; first | (rw [if_pos (by decide +kernel)]; kernel_rfl) | (rw [if_neg (by decide +kernel)]; exact ⟨rfl, rfl⟩))
    (fun os started H enc _ => lifted os started H enc)
end Go.Proofs.Ytffknfgejoejoaa.fnExactReducedArcsProof
namespace Go.Proofs.Ytffknfgejoejoaa
theorem fnExactReducedArcs_holds : Rows.FnExactReducedArcsSaid := fnExactReducedArcsProof.over
#print axioms fnExactReducedArcs_holds
end Go.Proofs.Ytffknfgejoejoaa
