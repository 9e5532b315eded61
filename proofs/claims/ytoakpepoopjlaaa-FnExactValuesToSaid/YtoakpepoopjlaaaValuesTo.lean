/-
  The law FnExactValuesTo holds: for all arguments, ValuesTo answers as its model does, its answer owns its memory, and the arguments read as they did. No conditions.
-/
import Derived.Test.YtoakpepoopjlaaaRows
import Derived.Test.YtoakpepoopjlaaaTG2
import Derived.Test.YtoakpepoopjlaaaN0
import Derived.Test.YtoakpepoopjlaaaN2
import Derived.Test.YtoakpepoopjlaaaTR
import Derived.Test.YtoakpepoopjlaaaJF
import Derived.WalkKit
import Derived.Lib.Hide
import Derived.Deep.DeepCutAuto
import Derived.ProofKit
import Derived.OpenShut
import Derived.ShutString
import Derived.ChangeOld
import Derived.Below
import Derived.Carry
import Derived.Deep.RegionWith
import Derived.Lib.SmallJoins
namespace Go.Proofs.Ytoakpepoopjlaaa.fnExactValuesToProof
open Go.ChangeShapes Go.WideShapes Go.ChangeAt Go.RowKit Go.Joins
set_option linter.unusedVariables false

theorem own : ownKnob Try.prog.godebug = none := by kernel_rfl

/-! ### The walk -/
set_option maxHeartbeats 4000000 in
set_option maxRecDepth 100000 in
theorem walk (xss : List (List Int)) (v0 : Value) (bs : List Int) (v1 : Value) (es : List Int) (v2 : Value) (a3 : Int) (w : World) (hR : SeenL w v0 xss) (hL : Seen w v1 bs) (hL2 : Seen w v2 es) (wf3 : (Lit.int .i64 a3).wf = true) :
    Calls Try.prog 10 #[v0, v1, v2, .int .i64 a3] w fun e w' => e = .returned (.bool true) ∧ Below w.heap.size w w' := by
  have HS := Lib.hid hR
  obtain ⟨A, c, rfl, hm⟩ := hR.shape
  clear hR hm
  have HLi := Lib.hid hL
  obtain ⟨AV, cV, rfl, t4, _⟩ := hL
  have b4 : bs.length ≤ 9223372036854775807 := by unfold maxLen at t4; omega
  clear t4
  have HLj := Lib.hid hL2
  obtain ⟨AW, cW, rfl, t5, _⟩ := hL2
  have b5 : es.length ≤ 9223372036854775807 := by unfold maxLen at t5; omega
  clear t5
  have HB0 : Hid (Below w.heap.size w w) := Below.refl _ _
  by_cases l4 : bs.length ≤ 1048576
  case neg =>
    go_enter Try.func10, Try.ntmps10
    go_wp2
    go_ret
    exact ⟨rfl, HB0.out⟩
  case pos =>
    have l5 : bs.length ≤ 4000000 := by omega
    by_cases l6 : es.length ≤ 1048576
    case neg =>
      go_enter Try.func10, Try.ntmps10
      go_wp2
      go_ret
      exact ⟨rfl, HB0.out⟩
    case pos =>
      have l7 : es.length ≤ 4000000 := by omega
      go_enter Try.func10, Try.ntmps10
      go_wp2_with fail
      refine (c_szIntSS xss _ 1048576 _ (by omega) (by omega) HS.out).mono ?_
      rintro e w' ⟨⟨r, rfl, hsz⟩, rfl⟩
      rcases hsz with rfl | ⟨hsz, hr⟩
      case inl =>
        go_wp2
        go_ret
        exact ⟨rfl, HB0.out⟩
      case inr =>
        have hr0 : ¬ r < 0 := by omega
        have hsh : Hid (ShortL xss) := shortL_of hsz (by omega)
        have hsl : xss.length ≤ 1048576 := by omega
        have hss : Hid (Short xss) := hsh.out.2
        have htt : totN xss xss.length ≤ 1048576 := by omega
        clear hr hsz
        obtain ⟨ys, bb, hyl, CS, CI⟩ : ∃ (ys : List Int) (bb : Bool), ys.length ≤ 4000000 ∧ Hid (∀ (p : Value) (pl : Value) (Bl : Nat) (pm : Value) (u : World), SeenL u p xss → Row u Bl pl bs → Seen u pm es → Calls Try.prog 36 #[p, pl, pm, .int .i64 a3] u (GivesRow2 u ys bb)) ∧ Hid (∀ (p : Value) (pl : Value) (Bl : Nat) (pm : Value) (u : World), SeenL u p xss → Row u Bl pl bs → Seen u pm es → Calls Try.prog 37 #[p, pl, pm, .int .i64 a3] u (GivesRow2 u ys bb)) :=
          ⟨vtA xss bs es a3, asB xss bs es a3, vtA_len xss bs es a3, fun p pl Bl pm u hu hul hum => c_ValuesToS xss bs es a3 p pl pm u hsh.out l5 l7 hu hul.seen hum, fun p pl Bl pm u hu hul hum => c_ValuesTo xss bs es a3 p pl pm u hsh.out l5 l7 hu hul.seen hum⟩
        have hnb : (bb != bb) = false := by simp
        have hnq : ((1 + (ys.length : Int)) != (1 + (ys.length : Int))) = false := by simp
        have hpq : ¬ (1 + (ys.length : Int)) < 0 := by omega
        have hkq : ¬ (1 + (totN xss xss.length : Int) + (bs.length : Int) + (es.length : Int)) < 0 := by omega
        go_wp2_with fail
        refine (c_toIntSS xss _ _ hsh.out (HS.out.below HB0.out)).mono ?_
        rintro e w1 ⟨Spv, rfl, hs, hb1⟩
        have HB1 : Hid (Below w.heap.size w w1) := HB0.out.trans (hb1.mono HB0.out.size)
        have SpP_1 := Lib.hid hs
        have USpP_1 : Hid (_ ≤ _) := Nat.le_refl w1.heap.size
        clear hs
        clear hb1
        go_wp2_with fail
        refine (c_toIntS bs _ _ l5 (HLi.out.below HB1.out)).mono ?_
        rintro e w2 ⟨Spl, rfl, hs, hb2⟩
        have HB2 : Hid (Below w.heap.size w w2) := HB1.out.trans (hb2.mono HB1.out.size)
        have SpP_2 := Lib.hid (SpP_1.out.below hb2 USpP_1.out)
        have USpP_2 := Lib.hid (Nat.le_trans USpP_1.out hb2.size)
        have SpL_2 := Lib.hid hs
        clear hs
        clear hb2
        go_wp2_with fail
        refine (c_toIntS es _ _ l7 (HLj.out.below HB2.out)).mono ?_
        rintro e w3 ⟨Spm, rfl, hs, hb3⟩
        have HB3 : Hid (Below w.heap.size w w3) := HB2.out.trans (hb3.mono HB2.out.size)
        have SpP_3 := Lib.hid (SpP_2.out.below hb3 USpP_2.out)
        have USpP_3 := Lib.hid (Nat.le_trans USpP_2.out hb3.size)
        have SpL_3 := Lib.hid (SpL_2.out.below hb3)
        have SpM_3 := Lib.hid hs
        clear hs
        clear hb3
        go_wp2_with fail
        refine (CS.out _ _ _ _ _ SpP_3.out.seen SpL_3.out SpM_3.out.seen).mono ?_
        rintro e w4 ⟨Wv, rfl, hs, hb4⟩
        have HB4 : Hid (Below w.heap.size w w4) := HB3.out.trans (hb4.mono HB3.out.size)
        have SpP_4 := Lib.hid (SpP_3.out.below hb4 USpP_3.out)
        have USpP_4 := Lib.hid (Nat.le_trans USpP_3.out hb4.size)
        have SpL_4 := Lib.hid (SpL_3.out.below hb4)
        have SpM_4 := Lib.hid (SpM_3.out.below hb4)
        have WS_4 := Lib.hid hs
        clear hs
        clear hb4
        have XB_4 : Hid (w4.heap.size ≤ w4.heap.size) := Nat.le_refl _
        go_wp2_with fail
        refine (c_toIntSS xss _ _ hsh.out (HS.out.below HB4.out)).mono ?_
        rintro e w5 ⟨Xv, rfl, hs, hb5⟩
        have HB5 : Hid (Below w.heap.size w w5) := HB4.out.trans (hb5.mono HB4.out.size)
        have WS_5 := Lib.hid (WS_4.out.below hb5)
        have XB_5 := Lib.hid (Nat.le_trans XB_4.out hb5.size)
        have XP_5 := Lib.hid hs
        have UXP_5 : Hid (_ ≤ _) := Nat.le_refl w5.heap.size
        clear hs
        clear hb5
        go_wp2_with fail
        refine (c_toIntS bs _ _ l5 (HLi.out.below HB5.out)).mono ?_
        rintro e w6 ⟨Xl, rfl, hs, hb6⟩
        have HB6 : Hid (Below w.heap.size w w6) := HB5.out.trans (hb6.mono HB5.out.size)
        have WS_6 := Lib.hid (WS_5.out.below hb6)
        have XB_6 := Lib.hid (Nat.le_trans XB_5.out hb6.size)
        have XP_6 := Lib.hid (XP_5.out.below hb6 UXP_5.out)
        have UXP_6 := Lib.hid (Nat.le_trans UXP_5.out hb6.size)
        have XL_6 := Lib.hid hs
        clear hs
        clear hb6
        go_wp2_with fail
        refine (c_toIntS es _ _ l7 (HLj.out.below HB6.out)).mono ?_
        rintro e w7 ⟨Xm, rfl, hs, hb7⟩
        have HB7 : Hid (Below w.heap.size w w7) := HB6.out.trans (hb7.mono HB6.out.size)
        have WS_7 := Lib.hid (WS_6.out.below hb7)
        have XB_7 := Lib.hid (Nat.le_trans XB_6.out hb7.size)
        have XP_7 := Lib.hid (XP_6.out.below hb7 UXP_6.out)
        have UXP_7 := Lib.hid (Nat.le_trans UXP_6.out hb7.size)
        have XL_7 := Lib.hid (XL_6.out.below hb7)
        have XM_7 := Lib.hid hs
        clear hs
        clear hb7
        have GZ_7 : Hid (w7.heap.size ≤ w7.heap.size) := Nat.le_refl _
        go_wp2_with fail
        refine (CI.out _ _ _ _ _ XP_7.out.seen XL_7.out XM_7.out.seen).mono ?_
        rintro e w8 ⟨Gv, rfl, hs, hb8⟩
        have HB8 : Hid (Below w.heap.size w w8) := HB7.out.trans (hb8.mono HB7.out.size)
        have WS_8 := Lib.hid (WS_7.out.below hb8)
        have XB_8 := Lib.hid (Nat.le_trans XB_7.out hb8.size)
        have XP_8 := Lib.hid (XP_7.out.below hb8 UXP_7.out)
        have UXP_8 := Lib.hid (Nat.le_trans UXP_7.out hb8.size)
        have XL_8 := Lib.hid (XL_7.out.below hb8)
        have XM_8 := Lib.hid (XM_7.out.below hb8)
        have GZ_8 := Lib.hid (Nat.le_trans GZ_7.out hb8.size)
        have GS_8 := Lib.hid hs
        clear hs
        clear hb8
        go_wp2_with fail
        refine (c_eqIntS ys _ _ _ _ _ hyl GS_8.out WS_8.out).mono ?_
        rintro e w9 ⟨rfl, hb9⟩
        have HB9 : Hid (Below w.heap.size w w9) := HB8.out.trans (hb9.mono HB8.out.size)
        have WS_9 := Lib.hid (WS_8.out.below hb9)
        have XB_9 := Lib.hid (Nat.le_trans XB_8.out hb9.size)
        have XP_9 := Lib.hid (XP_8.out.below hb9 UXP_8.out)
        have UXP_9 := Lib.hid (Nat.le_trans UXP_8.out hb9.size)
        have XL_9 := Lib.hid (XL_8.out.below hb9)
        have XM_9 := Lib.hid (XM_8.out.below hb9)
        have GZ_9 := Lib.hid (Nat.le_trans GZ_8.out hb9.size)
        have GS_9 := Lib.hid (GS_8.out.below hb9)
        clear hb9
        go_wp2_with fail
        refine (c_toIntSS xss _ _ hsh.out (HS.out.below HB9.out)).mono ?_
        rintro e w10 ⟨Yv, rfl, hs, hb10⟩
        have HB10 : Hid (Below w.heap.size w w10) := HB9.out.trans (hb10.mono HB9.out.size)
        have WS_10 := Lib.hid (WS_9.out.below hb10)
        have XB_10 := Lib.hid (Nat.le_trans XB_9.out hb10.size)
        have XP_10 := Lib.hid (XP_9.out.below hb10 UXP_9.out)
        have UXP_10 := Lib.hid (Nat.le_trans UXP_9.out hb10.size)
        have XL_10 := Lib.hid (XL_9.out.below hb10)
        have XM_10 := Lib.hid (XM_9.out.below hb10)
        have GZ_10 := Lib.hid (Nat.le_trans GZ_9.out hb10.size)
        have GS_10 := Lib.hid (GS_9.out.below hb10)
        have YP_10 := Lib.hid hs
        have UYP_10 : Hid (_ ≤ _) := Nat.le_refl w10.heap.size
        clear hs
        clear hb10
        go_wp2_with fail
        refine (c_eqIntSS xss _ _ _ _ _ _ _ hsl hss.out XP_10.out YP_10.out UXP_10.out UYP_10.out).mono ?_
        rintro e w11 ⟨rfl, hb11⟩
        have HB11 : Hid (Below w.heap.size w w11) := HB10.out.trans (hb11.mono HB10.out.size)
        have WS_11 := Lib.hid (WS_10.out.below hb11)
        have XB_11 := Lib.hid (Nat.le_trans XB_10.out hb11.size)
        have XP_11 := Lib.hid (XP_10.out.below hb11 UXP_10.out)
        have UXP_11 := Lib.hid (Nat.le_trans UXP_10.out hb11.size)
        have XL_11 := Lib.hid (XL_10.out.below hb11)
        have XM_11 := Lib.hid (XM_10.out.below hb11)
        have GZ_11 := Lib.hid (Nat.le_trans GZ_10.out hb11.size)
        have GS_11 := Lib.hid (GS_10.out.below hb11)
        have YP_11 := Lib.hid (YP_10.out.below hb11 UYP_10.out)
        have UYP_11 := Lib.hid (Nat.le_trans UYP_10.out hb11.size)
        clear hb11
        go_wp2_with fail
        refine (c_toIntS bs _ _ l5 (HLi.out.below HB11.out)).mono ?_
        rintro e w12 ⟨Yl, rfl, hs, hb12⟩
        have HB12 : Hid (Below w.heap.size w w12) := HB11.out.trans (hb12.mono HB11.out.size)
        have WS_12 := Lib.hid (WS_11.out.below hb12)
        have XB_12 := Lib.hid (Nat.le_trans XB_11.out hb12.size)
        have XP_12 := Lib.hid (XP_11.out.below hb12 UXP_11.out)
        have UXP_12 := Lib.hid (Nat.le_trans UXP_11.out hb12.size)
        have XL_12 := Lib.hid (XL_11.out.below hb12)
        have XM_12 := Lib.hid (XM_11.out.below hb12)
        have GZ_12 := Lib.hid (Nat.le_trans GZ_11.out hb12.size)
        have GS_12 := Lib.hid (GS_11.out.below hb12)
        have YL_12 := Lib.hid hs
        clear hs
        clear hb12
        go_wp2_with fail
        refine (c_eqIntS bs _ _ _ _ _ l5 XL_12.out YL_12.out).mono ?_
        rintro e w13 ⟨rfl, hb13⟩
        have HB13 : Hid (Below w.heap.size w w13) := HB12.out.trans (hb13.mono HB12.out.size)
        have WS_13 := Lib.hid (WS_12.out.below hb13)
        have XB_13 := Lib.hid (Nat.le_trans XB_12.out hb13.size)
        have XP_13 := Lib.hid (XP_12.out.below hb13 UXP_12.out)
        have UXP_13 := Lib.hid (Nat.le_trans UXP_12.out hb13.size)
        have XL_13 := Lib.hid (XL_12.out.below hb13)
        have XM_13 := Lib.hid (XM_12.out.below hb13)
        have GZ_13 := Lib.hid (Nat.le_trans GZ_12.out hb13.size)
        have GS_13 := Lib.hid (GS_12.out.below hb13)
        have YL_13 := Lib.hid (YL_12.out.below hb13)
        clear hb13
        go_wp2_with fail
        refine (c_toIntS es _ _ l7 (HLj.out.below HB13.out)).mono ?_
        rintro e w14 ⟨Ym, rfl, hs, hb14⟩
        have HB14 : Hid (Below w.heap.size w w14) := HB13.out.trans (hb14.mono HB13.out.size)
        have WS_14 := Lib.hid (WS_13.out.below hb14)
        have XB_14 := Lib.hid (Nat.le_trans XB_13.out hb14.size)
        have XP_14 := Lib.hid (XP_13.out.below hb14 UXP_13.out)
        have UXP_14 := Lib.hid (Nat.le_trans UXP_13.out hb14.size)
        have XL_14 := Lib.hid (XL_13.out.below hb14)
        have XM_14 := Lib.hid (XM_13.out.below hb14)
        have GZ_14 := Lib.hid (Nat.le_trans GZ_13.out hb14.size)
        have GS_14 := Lib.hid (GS_13.out.below hb14)
        have YM_14 := Lib.hid hs
        clear hs
        clear hb14
        go_wp2_with fail
        refine (c_eqIntS es _ _ _ _ _ l7 XM_14.out YM_14.out).mono ?_
        rintro e w15 ⟨rfl, hb15⟩
        have HB15 : Hid (Below w.heap.size w w15) := HB14.out.trans (hb15.mono HB14.out.size)
        have WS_15 := Lib.hid (WS_14.out.below hb15)
        have XB_15 := Lib.hid (Nat.le_trans XB_14.out hb15.size)
        have XP_15 := Lib.hid (XP_14.out.below hb15 UXP_14.out)
        have UXP_15 := Lib.hid (Nat.le_trans UXP_14.out hb15.size)
        have XL_15 := Lib.hid (XL_14.out.below hb15)
        have XM_15 := Lib.hid (XM_14.out.below hb15)
        have GZ_15 := Lib.hid (Nat.le_trans GZ_14.out hb15.size)
        have GS_15 := Lib.hid (GS_14.out.below hb15)
        have YM_15 := Lib.hid (YM_14.out.below hb15)
        clear hb15
        go_wp2_with fail
        refine (c_markIntSS2 xss _ _ _ 1 _ hsl htt (by omega) (by omega) XP_15.out XB_15.out).mono ?_
        rintro e w16 ⟨rfl, _, hbm, ham⟩
        have HB16 : Hid (Below w.heap.size w w16) := HB15.out.trans (hbm.mono HB4.out.size)
        have XB_16 := Lib.hid (Nat.le_trans XB_15.out hbm.size)
        have GZ_16 := Lib.hid (Nat.le_trans GZ_15.out hbm.size)
        have WS_16 : Hid (Row w16 _ Wv ys) := own_stays WS_15.out fun k hk => hbm.block k (World.ownsRow.lt WS_4.out k hk).2
        have GS_16 : Hid (Row w16 _ Gv ys) := own_stays GS_15.out fun k hk => ham k (Nat.le_trans UXP_7.out (World.ownsRow.lt GS_15.out k hk).1) (World.ownsRow.lt GS_15.out k hk).2
        have XL_16 : Hid (Row w16 _ Xl bs) := own_stays XL_15.out fun k hk => ham k (Nat.le_trans UXP_5.out (World.ownsRow.lt XL_15.out k hk).1) (World.ownsRow.lt XL_15.out k hk).2
        have XM_16 : Hid (Row w16 _ Xm es) := own_stays XM_15.out fun k hk => ham k (Nat.le_trans UXP_6.out (World.ownsRow.lt XM_15.out k hk).1) (World.ownsRow.lt XM_15.out k hk).2
        clear hbm ham
        have PAL : Hid (Apart Wv.ownBlock Xl.ownBlock) := apart_of WS_4.out XL_16.out XB_5.out
        have PBL : Hid (Apart Gv.ownBlock Xl.ownBlock) := (apart_of XL_7.out GS_16.out (Nat.le_refl _)).symm
        go_wp2_with fail
        refine (c_markIntS bs _ _ (1 + (totN xss xss.length : Int)) _ l5 (by omega) (by omega) XL_16.out).mono ?_
        rintro e w17 ⟨rfl, _, hg⟩
        have HG17 := Lib.hid hg
        clear hg
        have HB17 : Hid (Below w.heap.size w w17) := HB16.out.grown HG17.out HB16.out.size (fun k hk => Nat.le_trans HB5.out.size (World.ownsRow.lt XL_16.out k hk).1)
        have XB_17 := Lib.hid (Nat.le_trans XB_16.out HG17.out.size)
        have GZ_17 := Lib.hid (Nat.le_trans GZ_16.out HG17.out.size)
        have WS_17 : Hid (Row w17 _ Wv ys) := World.ownsRow.kept WS_16.out HG17.out PAL.out
        have GS_17 : Hid (Row w17 _ Gv ys) := World.ownsRow.kept GS_16.out HG17.out PBL.out
        have PXM : Hid (Apart Xm.ownBlock Xl.ownBlock) := (apart_of XL_6.out XM_16.out (Nat.le_refl _)).symm
        have XM_17 : Hid (Row w17 _ Xm es) := World.ownsRow.kept XM_16.out HG17.out PXM.out
        have PAM : Hid (Apart Wv.ownBlock Xm.ownBlock) := apart_of WS_4.out XM_17.out XB_6.out
        have PBM : Hid (Apart Gv.ownBlock Xm.ownBlock) := (apart_of XM_7.out GS_17.out (Nat.le_refl _)).symm
        go_wp2_with fail
        refine (c_markIntS es _ _ (1 + (totN xss xss.length : Int) + (bs.length : Int)) _ l7 (by omega) (by omega) XM_17.out).mono ?_
        rintro e w18 ⟨rfl, _, hg⟩
        have HG18 := Lib.hid hg
        clear hg
        have HB18 : Hid (Below w.heap.size w w18) := HB17.out.grown HG18.out HB17.out.size (fun k hk => Nat.le_trans HB6.out.size (World.ownsRow.lt XM_17.out k hk).1)
        have XB_18 := Lib.hid (Nat.le_trans XB_17.out HG18.out.size)
        have GZ_18 := Lib.hid (Nat.le_trans GZ_17.out HG18.out.size)
        have WS_18 : Hid (Row w18 _ Wv ys) := World.ownsRow.kept WS_17.out HG18.out PAM.out
        have GS_18 : Hid (Row w18 _ Gv ys) := World.ownsRow.kept GS_17.out HG18.out PBM.out
        go_wp2_with fail
        refine (c_eqIntS ys _ _ _ _ _ hyl GS_18.out WS_18.out).mono ?_
        rintro e w19 ⟨rfl, hb19⟩
        have HB19 : Hid (Below w.heap.size w w19) := HB18.out.trans (hb19.mono HB18.out.size)
        have WS_19 := Lib.hid (WS_18.out.below hb19)
        have GS_19 := Lib.hid (GS_18.out.below hb19)
        have XB_19 := Lib.hid (Nat.le_trans XB_18.out hb19.size)
        have GZ_19 := Lib.hid (Nat.le_trans GZ_18.out hb19.size)
        clear hb19
        go_wp2_with fail
        have PC : Hid (Apart Wv.ownBlock Gv.ownBlock) := apart_of WS_4.out GS_19.out XB_7.out
        refine (c_markIntS ys _ _ 1 _ hyl (by omega) (by omega) GS_19.out).mono ?_
        rintro e w20 ⟨rfl, hr, hg⟩
        have GS_20 := Lib.hid hr
        have HB20 : Hid (Below w.heap.size w w20) := HB19.out.grown hg HB19.out.size (fun k hk => Nat.le_trans HB7.out.size (World.ownsRow.lt GS_19.out k hk).1)
        have WS_20 : Hid (Row w20 _ Wv ys) := World.ownsRow.kept WS_19.out hg PC.out
        clear hr hg
        go_wp2_with fail
        refine (c_heldIntS Gv _ ys.length 1 _ hyl (by omega) (by omega) GS_20.out).mono ?_
        rintro e w' ⟨rfl, rfl⟩
        go_wp2_with fail
        refine (c_toIntSS xss _ _ hsh.out (HS.out.below HB20.out)).mono ?_
        rintro e w21 ⟨Yv, rfl, hs, hb21⟩
        have HB21 : Hid (Below w.heap.size w w21) := HB20.out.trans (hb21.mono HB20.out.size)
        have WS_21 := Lib.hid (WS_20.out.below hb21)
        have GS_21 := Lib.hid (GS_20.out.below hb21)
        have YP_21 := Lib.hid hs
        have UYP_21 : Hid (_ ≤ _) := Nat.le_refl w21.heap.size
        clear hs
        clear hb21
        go_wp2_with fail
        refine (c_toIntS bs _ _ l5 (HLi.out.below HB21.out)).mono ?_
        rintro e w22 ⟨Yl, rfl, hs, hb22⟩
        have HB22 : Hid (Below w.heap.size w w22) := HB21.out.trans (hb22.mono HB21.out.size)
        have WS_22 := Lib.hid (WS_21.out.below hb22)
        have GS_22 := Lib.hid (GS_21.out.below hb22)
        have YP_22 := Lib.hid (YP_21.out.below hb22 UYP_21.out)
        have UYP_22 := Lib.hid (Nat.le_trans UYP_21.out hb22.size)
        have YL_22 := Lib.hid hs
        clear hs
        clear hb22
        go_wp2_with fail
        refine (c_toIntS es _ _ l7 (HLj.out.below HB22.out)).mono ?_
        rintro e w23 ⟨Ym, rfl, hs, hb23⟩
        have HB23 : Hid (Below w.heap.size w w23) := HB22.out.trans (hb23.mono HB22.out.size)
        have WS_23 := Lib.hid (WS_22.out.below hb23)
        have GS_23 := Lib.hid (GS_22.out.below hb23)
        have YP_23 := Lib.hid (YP_22.out.below hb23 UYP_22.out)
        have UYP_23 := Lib.hid (Nat.le_trans UYP_22.out hb23.size)
        have YL_23 := Lib.hid (YL_22.out.below hb23)
        have YM_23 := Lib.hid hs
        clear hs
        clear hb23
        go_wp2_with fail
        refine (CI.out _ _ _ _ _ YP_23.out.seen YL_23.out YM_23.out.seen).mono ?_
        rintro e w24 ⟨Yv, rfl, hs, hb24⟩
        have HB24 : Hid (Below w.heap.size w w24) := HB23.out.trans (hb24.mono HB23.out.size)
        have WS_24 := Lib.hid (WS_23.out.below hb24)
        have GS_24 := Lib.hid (GS_23.out.below hb24)
        have YP_24 := Lib.hid (YP_23.out.below hb24 UYP_23.out)
        have UYP_24 := Lib.hid (Nat.le_trans UYP_23.out hb24.size)
        have YL_24 := Lib.hid (YL_23.out.below hb24)
        have YM_24 := Lib.hid (YM_23.out.below hb24)
        have YS_24 := Lib.hid hs
        clear hs
        clear hb24
        go_wp2_with fail
        refine (c_eqIntS ys _ _ _ _ _ hyl YS_24.out WS_24.out).mono ?_
        rintro e w25 ⟨rfl, hb25⟩
        have HB25 : Hid (Below w.heap.size w w25) := HB24.out.trans (hb25.mono HB24.out.size)
        have WS_25 := Lib.hid (WS_24.out.below hb25)
        have GS_25 := Lib.hid (GS_24.out.below hb25)
        have YP_25 := Lib.hid (YP_24.out.below hb25 UYP_24.out)
        have UYP_25 := Lib.hid (Nat.le_trans UYP_24.out hb25.size)
        have YL_25 := Lib.hid (YL_24.out.below hb25)
        have YM_25 := Lib.hid (YM_24.out.below hb25)
        have YS_25 := Lib.hid (YS_24.out.below hb25)
        clear hb25
        go_wp2_with fail
        refine (c_heldIntS Gv _ ys.length 1 _ hyl (by omega) (by omega) GS_25.out).mono ?_
        rintro e w' ⟨rfl, rfl⟩
        go_wp2
        go_ret
        exact ⟨rfl, HB25.out⟩

/-! ### The row's step -/
theorem laid : laidOutB Try.prog = true := by kernel_rfl
set_option maxRecDepth 100000 in
set_option maxHeartbeats 8000000 in
theorem lifted (os : Os) (started : os.Started) (H : Type) (enc : TypeId × Value → H) :
    ReturnsInHanded {} Try.checked os 10 .any (Rows.fnExactValuesToSpec.pre6 enc Try.prog Try.f10 Rows.fnExactValuesToRow.domain false) (Rows.fnExactValuesToSpec.post enc Try.prog Try.f10 false true false false) := by
  refine returnsInHanded_of_change (C := Try.checked) own started (by kernel_rfl) Try.func10
    (ChangeSpec.witness6 (enc := enc) (C := Try.checked) false ⟨#[], #[.slice none 0 0, .slice none 0 0, .slice none 0 0, .int .i64 0], []⟩ 8 (by kernel_rfl) (by kernel_rfl) (by kernel_rfl) (by kernel_rfl)) ?_
  intro W base args ds gs before hval0 hW hcnd _
  have hval : ∀ (j : Nat) t v, Try.f10.params[j]? = some t → args[j]? = some v → Value.okWide Try.prog W .any base t v := hval0
  have hW' := hW
  have lts : ∀ x ∈ before, x.block < W.heap.size := fun x hx => by simpa using hW'.lt x hx
  obtain ⟨p, q, hA0, hV, rfl, hfz, hnd⟩ := hW
  have hA : DataW.TrodAll enc Try.prog W 0 (fun _ => true) true Try.f10.params.toList args.toList ds p := hA0
  rw [Try.params10] at hA hval
  obtain ⟨v0, vs0, d0, ds0, p0, q0, hargs, rfl, rfl, h0, r0⟩ := trodAll_cons hA
  obtain ⟨v1, vs1, d1, ds1, p1, q1, rfl, rfl, rfl, h1, r1⟩ := trodAll_cons r0
  obtain ⟨v2, vs2, d2, ds2, p2, q2, rfl, rfl, rfl, h2, r2⟩ := trodAll_cons r1
  obtain ⟨v3, vs3, d3, ds3, p3, q3, rfl, rfl, rfl, h3, r3⟩ := trodAll_cons r2
  obtain ⟨rfl, rfl, rfl⟩ := trodAll_nil r3
  obtain rfl : args = #[v0, v1, v2, v3] := by cases args; simp_all
  obtain ⟨rfl, rfl⟩ := trodVars_none hV
  have k0 := h0
  obtain ⟨xss, hR⟩ := open_rows (hval 0 29 v0 rfl rfl) h0
  have k1 := h1
  obtain ⟨bs, hL⟩ := open_list (hval 1 22 v1 rfl rfl) h1
  have k2 := h2
  obtain ⟨es, hL2⟩ := open_list (hval 2 22 v2 rfl rfl) h2
  have k3 := h3
  obtain ⟨a3, rfl, _, _, w3⟩ := open_int Try.underlying3 (hval 3 3 v3 rfl rfl) h3
  clear hA0 hval0
  simp only [List.append_nil] at hW' lts
  refine (walk xss v0 bs v1 es v2 a3 W hR hL hL2 w3).mono fun e W' ⟨he, bel⟩ => ?_
  subst he
  exact ⟨_, rfl, _, _, _, [], _, [], hW', trodAll_mk1 (shut_bool Try.underlying4 _), (trodAll_cons_mk (Below.trod laid (by kernel_rfl) (of_decide_eq_true (by kernel_rfl)) k0 bel (fun x hx => lts x (by simp [hx]))) (trodAll_cons_mk (Below.trod laid (by kernel_rfl) (of_decide_eq_true (by kernel_rfl)) k1 bel (fun x hx => lts x (by simp [hx]))) (trodAll_cons_mk (Below.trod laid (by kernel_rfl) (of_decide_eq_true (by kernel_rfl)) k2 bel (fun x hx => lts x (by simp [hx]))) (trodAll_cons_mk (Below.trod laid (by kernel_rfl) (of_decide_eq_true (by kernel_rfl)) k3 bel (fun x hx => lts x (by simp [hx]))) trodAll_mk0)))), rfl, bel.frame _, fun h => by cases h⟩

set_option maxHeartbeats 8000000 in
theorem closed : joinedFacts Try.prog 10 Try.f10 Rows.fnExactValuesToSpec Rows.fnExactValuesToRow = true := by
  unfold joinedFacts
  simp only [Bool.and_eq_true]
  refine ⟨⟨⟨⟨⟨⟨⟨⟨⟨⟨⟨⟨⟨⟨⟨⟨⟨⟨⟨⟨⟨⟨⟨⟨⟨⟨⟨⟨⟨⟨⟨?_, ?_⟩, ?_⟩, ?_⟩, ?_⟩, ?_⟩, ?_⟩, ?_⟩, ?_⟩, ?_⟩, ?_⟩, ?_⟩, ?_⟩, ?_⟩, ?_⟩, ?_⟩, ?_⟩, ?_⟩, ?_⟩, ?_⟩, ?_⟩, ?_⟩, ?_⟩, ?_⟩, ?_⟩, ?_⟩, ?_⟩, ?_⟩, ?_⟩, ?_⟩, ?_⟩, ?_⟩
  · as_aux_lemma => kernel_rfl
  · as_aux_lemma => kernel_rfl
  · as_aux_lemma => kernel_rfl
  · as_aux_lemma => kernel_rfl
  · as_aux_lemma => kernel_rfl
  · as_aux_lemma => kernel_rfl
  · as_aux_lemma => kernel_rfl
  · as_aux_lemma => kernel_rfl
  · as_aux_lemma => kernel_rfl
  · as_aux_lemma => kernel_rfl
  · as_aux_lemma => kernel_rfl
  · as_aux_lemma => kernel_rfl
  · as_aux_lemma => kernel_rfl
  · as_aux_lemma => kernel_rfl
  · as_aux_lemma => kernel_rfl
  · as_aux_lemma => kernel_rfl
  · as_aux_lemma => kernel_rfl
  · as_aux_lemma => kernel_rfl
  · as_aux_lemma => kernel_rfl
  · as_aux_lemma => kernel_rfl
  · as_aux_lemma => kernel_rfl
  · as_aux_lemma => kernel_rfl
  · as_aux_lemma => kernel_rfl
  · as_aux_lemma => kernel_rfl
  · as_aux_lemma => kernel_rfl
  · exact jf_may
  · exact (congrArg (fun b => (Rows.fnExactValuesToRow.lifted == b)) jf_lifts).trans (by kernel_rfl)
  · exact (congrArg (fun o => (o == some Rows.fnExactValuesToRow.make)) jf_make).trans (by kernel_rfl)
  · as_aux_lemma => kernel_rfl
  · as_aux_lemma => kernel_rfl
  · as_aux_lemma => kernel_rfl
  · as_aux_lemma => kernel_rfl

set_option maxHeartbeats 8000000 in
theorem over : Rows.fnExactValuesToRow.holds Try.pinned (OpenSpec.ofChange Rows.fnExactValuesToSpec) :=
  OpenClaim.holds_of_wide 10 Try.f10 rfl rfl rfl rfl rfl rfl rfl ⟨rfl, rfl, rfl, rfl, rfl⟩ rfl rfl rfl rfl rfl (by kernel_rfl) Try.func10 closed
    (of_decide_eq_true (by kernel_rfl)) (by unfold Func.isWrapper; first | (rw [if_pos (by decide +kernel)]; kernel_rfl) | (rw [if_neg (by decide +kernel)]; exact ⟨rfl, rfl⟩))
    (fun os started H enc _ => lifted os started H enc)
end Go.Proofs.Ytoakpepoopjlaaa.fnExactValuesToProof
namespace Go.Proofs.Ytoakpepoopjlaaa
theorem fnExactValuesTo_holds : Rows.FnExactValuesToSaid := fnExactValuesToProof.over
#print axioms fnExactValuesTo_holds
end Go.Proofs.Ytoakpepoopjlaaa
