/-
  The law FnExactWidenPit holds: for all arguments, WidenPit answers as its model does, its answer owns its memory, and the arguments read as they did. No conditions.
-/
import Derived.Test.YtfpjodoimfbadaaRows
import Derived.Test.YtfpjodoimfbadaaTPw
import Derived.Test.YtfpjodoimfbadaaTRa
import Derived.Test.YtfpjodoimfbadaaN2
import Derived.Test.YtfpjodoimfbadaaR4
import Derived.Test.YtfpjodoimfbadaaOG
import Derived.Test.YtfpjodoimfbadaaJF
import Derived.WalkKit
import Derived.Lib.Hide
import Derived.Deep.DeepCutAuto
import Derived.ProofKit
import Derived.OpenShut
import Derived.ShutString
import Derived.ChangeOld
import Derived.Below
import Derived.Carry
import Derived.Deep.RegionWith
import Derived.Lib.SmallJoins
namespace Go.Proofs.Ytfpjodoimfbadaa.fnExactWidenPitProof
open Go.ChangeShapes Go.WideShapes Go.ChangeAt Go.RowKit Go.Joins
set_option linter.unusedVariables false

theorem own : ownKnob Try.prog.godebug = none := by kernel_rfl

/-! ### The walk -/
set_option maxHeartbeats 4000000 in
set_option maxRecDepth 100000 in
theorem walk (x y z : Int) (xss : List (List Int)) (v1 : Value) (bs : List Int) (v2 : Value) (a3 : Int) (w : World) (hR : SeenL w v1 xss) (hL : Seen w v2 bs) (wf3 : (Lit.int .i64 a3).wf = true) :
    Calls Try.prog 3 #[.agg #[.int .i64 x, .int .i64 y, .int .i64 z], v1, v2, .int .i64 a3] w fun e w' => e = .returned (.bool true) ∧ Below w.heap.size w w' := by
  have HS := Lib.hid hR
  obtain ⟨A, c, rfl, hm⟩ := hR.shape
  clear hR hm
  have HLi := Lib.hid hL
  obtain ⟨AV, cV, rfl, t4, _⟩ := hL
  have b4 : bs.length ≤ 9223372036854775807 := by unfold maxLen at t4; omega
  clear t4
  obtain ⟨wg, hwg⟩ : ∃ wg, w.alloc (.cells #[.int .i64 x, .int .i64 y, .int .i64 z] 23) = wg := ⟨_, rfl⟩
  have HB0 : Hid (Below w.heap.size w wg) := by rw [← hwg]; exact (Below.refl _ _).alloc (Nat.le_refl _) _
  have GX_0 : Hid (Box3 wg w.heap.size x y z) := by rw [← hwg]; exact Box3.new w x y z _
  have HC0 : Hid (Below wg.heap.size wg wg) := Below.refl _ _
  obtain ⟨cG0, cG1, cG2⟩ : _ ∧ _ ∧ _ := ⟨(GX_0.out.below HC0.out).c0, (GX_0.out.below HC0.out).c1, (GX_0.out.below HC0.out).c2⟩
  have zwg : w.heap.size < wg.heap.size := by rw [← hwg]; simp
  by_cases l4 : bs.length ≤ 1048576
  case neg =>
    go_enter Try.func3, Try.ntmps3
    go_wp2
    go_ret
    exact ⟨rfl, HB0.out⟩
  case pos =>
    have l5 : bs.length ≤ 4000000 := by omega
    go_enter Try.func3, Try.ntmps3
    go_wp2_with fail
    refine (c_szIntSS xss _ 1048576 _ (by omega) (by omega) (HS.out.below HB0.out)).mono ?_
    rintro e w' ⟨⟨r, rfl, hsz⟩, rfl⟩
    rcases hsz with rfl | ⟨hsz, hr⟩
    case inl =>
      go_wp2
      go_ret
      exact ⟨rfl, HB0.out⟩
    case inr =>
      have hr0 : ¬ r < 0 := by omega
      have hsh : Hid (ShortL xss) := shortL_of hsz (by omega)
      have hsl : xss.length ≤ 1048576 := by omega
      have hss : Hid (Short xss) := hsh.out.2
      have htt : totN xss xss.length ≤ 1048576 := by omega
      clear hr hsz
      obtain ⟨ys, bb, hyl, CS, CI⟩ : ∃ (ys : List Int) (bb : Bool), ys.length ≤ 4000000 ∧ Hid (∀ (p : Value) (pl : Value) (Bl : Nat) (u : World), SeenL u p xss → Row u Bl pl bs → Calls Try.prog 5 #[.agg #[.int .i64 x, .int .i64 y, .int .i64 z], p, pl, .int .i64 a3] u (GivesRow2 u ys bb)) ∧ Hid (∀ (p : Value) (pl : Value) (Bl : Nat) (u : World), SeenL u p xss → Row u Bl pl bs → Calls Try.prog 9 #[.agg #[.int .i64 x, .int .i64 y, .int .i64 z], p, pl, .int .i64 a3] u (GivesRow2 u ys bb)) :=
        ⟨wdA x y z a3 xss bs, wdB x y z a3 xss bs, wdA_len x y z a3 xss bs, fun p pl Bl u hu hul => c_WidenPitS x y z a3 xss bs p pl Bl u hsh.out l5 hu hul, fun p pl Bl u hu hul => c_WidenPit x y z a3 xss bs p pl u hsh.out l5 hu hul.seen⟩
      have hnb : (bb != bb) = false := by simp
      have hnq : ((1 + (ys.length : Int)) != (1 + (ys.length : Int))) = false := by simp
      have hpq : ¬ (1 + (ys.length : Int)) < 0 := by omega
      have hkq : ¬ (1 + (totN xss xss.length : Int) + (bs.length : Int)) < 0 := by omega
      go_wp2_with fail
      refine (c_toGrid x y z _).mono ?_
      rintro e w1 ⟨rfl, hb1⟩
      have HB1 : Hid (Below w.heap.size w w1) := HB0.out.trans (hb1.mono HB0.out.size)
      have HC1 : Hid (Below wg.heap.size wg w1) := HC0.out.trans (hb1.mono HC0.out.size)
      clear cG0 cG1 cG2
      obtain ⟨cG0, cG1, cG2⟩ : _ ∧ _ ∧ _ := ⟨(GX_0.out.below HC1.out).c0, (GX_0.out.below HC1.out).c1, (GX_0.out.below HC1.out).c2⟩
      clear hb1
      go_wp2_with fail
      refine (c_toIntSS xss _ _ hsh.out (HS.out.below HB1.out)).mono ?_
      rintro e w2 ⟨Spv, rfl, hs, hb2⟩
      have HB2 : Hid (Below w.heap.size w w2) := HB1.out.trans (hb2.mono HB1.out.size)
      have HC2 : Hid (Below wg.heap.size wg w2) := HC1.out.trans (hb2.mono HC1.out.size)
      clear cG0 cG1 cG2
      obtain ⟨cG0, cG1, cG2⟩ : _ ∧ _ ∧ _ := ⟨(GX_0.out.below HC2.out).c0, (GX_0.out.below HC2.out).c1, (GX_0.out.below HC2.out).c2⟩
      have SpP_2 := Lib.hid hs
      have USpP_2 : Hid (_ ≤ _) := Nat.le_refl w2.heap.size
      clear hs
      clear hb2
      go_wp2_with fail
      refine (c_toIntS bs _ _ l5 (HLi.out.below HB2.out)).mono ?_
      rintro e w3 ⟨Spl, rfl, hs, hb3⟩
      have HB3 : Hid (Below w.heap.size w w3) := HB2.out.trans (hb3.mono HB2.out.size)
      have HC3 : Hid (Below wg.heap.size wg w3) := HC2.out.trans (hb3.mono HC2.out.size)
      clear cG0 cG1 cG2
      obtain ⟨cG0, cG1, cG2⟩ : _ ∧ _ ∧ _ := ⟨(GX_0.out.below HC3.out).c0, (GX_0.out.below HC3.out).c1, (GX_0.out.below HC3.out).c2⟩
      have SpP_3 := Lib.hid (SpP_2.out.below hb3 USpP_2.out)
      have USpP_3 := Lib.hid (Nat.le_trans USpP_2.out hb3.size)
      have SpL_3 := Lib.hid hs
      clear hs
      clear hb3
      go_wp2_with fail
      refine (CS.out _ _ _ _ SpP_3.out.seen SpL_3.out).mono ?_
      rintro e w4 ⟨Wv, rfl, hs, hb4⟩
      have HB4 : Hid (Below w.heap.size w w4) := HB3.out.trans (hb4.mono HB3.out.size)
      have HC4 : Hid (Below wg.heap.size wg w4) := HC3.out.trans (hb4.mono HC3.out.size)
      clear cG0 cG1 cG2
      obtain ⟨cG0, cG1, cG2⟩ : _ ∧ _ ∧ _ := ⟨(GX_0.out.below HC4.out).c0, (GX_0.out.below HC4.out).c1, (GX_0.out.below HC4.out).c2⟩
      have SpP_4 := Lib.hid (SpP_3.out.below hb4 USpP_3.out)
      have USpP_4 := Lib.hid (Nat.le_trans USpP_3.out hb4.size)
      have SpL_4 := Lib.hid (SpL_3.out.below hb4)
      have WS_4 := Lib.hid hs
      clear hs
      clear hb4
      have XB_4 : Hid (w4.heap.size ≤ w4.heap.size) := Nat.le_refl _
      go_wp2_with fail
      refine (c_toIntSS xss _ _ hsh.out (HS.out.below HB4.out)).mono ?_
      rintro e w5 ⟨Xv, rfl, hs, hb5⟩
      have HB5 : Hid (Below w.heap.size w w5) := HB4.out.trans (hb5.mono HB4.out.size)
      have HC5 : Hid (Below wg.heap.size wg w5) := HC4.out.trans (hb5.mono HC4.out.size)
      clear cG0 cG1 cG2
      obtain ⟨cG0, cG1, cG2⟩ : _ ∧ _ ∧ _ := ⟨(GX_0.out.below HC5.out).c0, (GX_0.out.below HC5.out).c1, (GX_0.out.below HC5.out).c2⟩
      have WS_5 := Lib.hid (WS_4.out.below hb5)
      have XB_5 := Lib.hid (Nat.le_trans XB_4.out hb5.size)
      have XP_5 := Lib.hid hs
      have UXP_5 : Hid (_ ≤ _) := Nat.le_refl w5.heap.size
      clear hs
      clear hb5
      go_wp2_with fail
      refine (c_toIntS bs _ _ l5 (HLi.out.below HB5.out)).mono ?_
      rintro e w6 ⟨Xl, rfl, hs, hb6⟩
      have HB6 : Hid (Below w.heap.size w w6) := HB5.out.trans (hb6.mono HB5.out.size)
      have HC6 : Hid (Below wg.heap.size wg w6) := HC5.out.trans (hb6.mono HC5.out.size)
      clear cG0 cG1 cG2
      obtain ⟨cG0, cG1, cG2⟩ : _ ∧ _ ∧ _ := ⟨(GX_0.out.below HC6.out).c0, (GX_0.out.below HC6.out).c1, (GX_0.out.below HC6.out).c2⟩
      have WS_6 := Lib.hid (WS_5.out.below hb6)
      have XB_6 := Lib.hid (Nat.le_trans XB_5.out hb6.size)
      have XP_6 := Lib.hid (XP_5.out.below hb6 UXP_5.out)
      have UXP_6 := Lib.hid (Nat.le_trans UXP_5.out hb6.size)
      have XL_6 := Lib.hid hs
      clear hs
      clear hb6
      go_wp2_with fail
      refine (c_toGrid x y z _).mono ?_
      rintro e w7 ⟨rfl, hb7⟩
      have HB7 : Hid (Below w.heap.size w w7) := HB6.out.trans (hb7.mono HB6.out.size)
      have HC7 : Hid (Below wg.heap.size wg w7) := HC6.out.trans (hb7.mono HC6.out.size)
      clear cG0 cG1 cG2
      obtain ⟨cG0, cG1, cG2⟩ : _ ∧ _ ∧ _ := ⟨(GX_0.out.below HC7.out).c0, (GX_0.out.below HC7.out).c1, (GX_0.out.below HC7.out).c2⟩
      have WS_7 := Lib.hid (WS_6.out.below hb7)
      have XB_7 := Lib.hid (Nat.le_trans XB_6.out hb7.size)
      have XP_7 := Lib.hid (XP_6.out.below hb7 UXP_6.out)
      have UXP_7 := Lib.hid (Nat.le_trans UXP_6.out hb7.size)
      have XL_7 := Lib.hid (XL_6.out.below hb7)
      clear hb7
      have GZ_7 : Hid (w7.heap.size ≤ w7.heap.size) := Nat.le_refl _
      go_wp2_with fail
      refine (CI.out _ _ _ _ XP_7.out.seen XL_7.out).mono ?_
      rintro e w8 ⟨Gv, rfl, hs, hb8⟩
      have HB8 : Hid (Below w.heap.size w w8) := HB7.out.trans (hb8.mono HB7.out.size)
      have HC8 : Hid (Below wg.heap.size wg w8) := HC7.out.trans (hb8.mono HC7.out.size)
      clear cG0 cG1 cG2
      obtain ⟨cG0, cG1, cG2⟩ : _ ∧ _ ∧ _ := ⟨(GX_0.out.below HC8.out).c0, (GX_0.out.below HC8.out).c1, (GX_0.out.below HC8.out).c2⟩
      have WS_8 := Lib.hid (WS_7.out.below hb8)
      have XB_8 := Lib.hid (Nat.le_trans XB_7.out hb8.size)
      have XP_8 := Lib.hid (XP_7.out.below hb8 UXP_7.out)
      have UXP_8 := Lib.hid (Nat.le_trans UXP_7.out hb8.size)
      have XL_8 := Lib.hid (XL_7.out.below hb8)
      have GZ_8 := Lib.hid (Nat.le_trans GZ_7.out hb8.size)
      have GS_8 := Lib.hid hs
      clear hs
      clear hb8
      go_wp2_with fail
      refine (c_eqIntS ys _ _ _ _ _ hyl GS_8.out WS_8.out).mono ?_
      rintro e w9 ⟨rfl, hb9⟩
      have HB9 : Hid (Below w.heap.size w w9) := HB8.out.trans (hb9.mono HB8.out.size)
      have HC9 : Hid (Below wg.heap.size wg w9) := HC8.out.trans (hb9.mono HC8.out.size)
      clear cG0 cG1 cG2
      obtain ⟨cG0, cG1, cG2⟩ : _ ∧ _ ∧ _ := ⟨(GX_0.out.below HC9.out).c0, (GX_0.out.below HC9.out).c1, (GX_0.out.below HC9.out).c2⟩
      have WS_9 := Lib.hid (WS_8.out.below hb9)
      have XB_9 := Lib.hid (Nat.le_trans XB_8.out hb9.size)
      have XP_9 := Lib.hid (XP_8.out.below hb9 UXP_8.out)
      have UXP_9 := Lib.hid (Nat.le_trans UXP_8.out hb9.size)
      have XL_9 := Lib.hid (XL_8.out.below hb9)
      have GZ_9 := Lib.hid (Nat.le_trans GZ_8.out hb9.size)
      have GS_9 := Lib.hid (GS_8.out.below hb9)
      clear hb9
      go_wp2_with fail
      refine (c_toIntSS xss _ _ hsh.out (HS.out.below HB9.out)).mono ?_
      rintro e w10 ⟨Yv, rfl, hs, hb10⟩
      have HB10 : Hid (Below w.heap.size w w10) := HB9.out.trans (hb10.mono HB9.out.size)
      have HC10 : Hid (Below wg.heap.size wg w10) := HC9.out.trans (hb10.mono HC9.out.size)
      clear cG0 cG1 cG2
      obtain ⟨cG0, cG1, cG2⟩ : _ ∧ _ ∧ _ := ⟨(GX_0.out.below HC10.out).c0, (GX_0.out.below HC10.out).c1, (GX_0.out.below HC10.out).c2⟩
      have WS_10 := Lib.hid (WS_9.out.below hb10)
      have XB_10 := Lib.hid (Nat.le_trans XB_9.out hb10.size)
      have XP_10 := Lib.hid (XP_9.out.below hb10 UXP_9.out)
      have UXP_10 := Lib.hid (Nat.le_trans UXP_9.out hb10.size)
      have XL_10 := Lib.hid (XL_9.out.below hb10)
      have GZ_10 := Lib.hid (Nat.le_trans GZ_9.out hb10.size)
      have GS_10 := Lib.hid (GS_9.out.below hb10)
      have YP_10 := Lib.hid hs
      have UYP_10 : Hid (_ ≤ _) := Nat.le_refl w10.heap.size
      clear hs
      clear hb10
      go_wp2_with fail
      refine (c_eqIntSS xss _ _ _ _ _ _ _ hsl hss.out XP_10.out YP_10.out UXP_10.out UYP_10.out).mono ?_
      rintro e w11 ⟨rfl, hb11⟩
      have HB11 : Hid (Below w.heap.size w w11) := HB10.out.trans (hb11.mono HB10.out.size)
      have HC11 : Hid (Below wg.heap.size wg w11) := HC10.out.trans (hb11.mono HC10.out.size)
      clear cG0 cG1 cG2
      obtain ⟨cG0, cG1, cG2⟩ : _ ∧ _ ∧ _ := ⟨(GX_0.out.below HC11.out).c0, (GX_0.out.below HC11.out).c1, (GX_0.out.below HC11.out).c2⟩
      have WS_11 := Lib.hid (WS_10.out.below hb11)
      have XB_11 := Lib.hid (Nat.le_trans XB_10.out hb11.size)
      have XP_11 := Lib.hid (XP_10.out.below hb11 UXP_10.out)
      have UXP_11 := Lib.hid (Nat.le_trans UXP_10.out hb11.size)
      have XL_11 := Lib.hid (XL_10.out.below hb11)
      have GZ_11 := Lib.hid (Nat.le_trans GZ_10.out hb11.size)
      have GS_11 := Lib.hid (GS_10.out.below hb11)
      have YP_11 := Lib.hid (YP_10.out.below hb11 UYP_10.out)
      have UYP_11 := Lib.hid (Nat.le_trans UYP_10.out hb11.size)
      clear hb11
      go_wp2_with fail
      refine (c_toIntS bs _ _ l5 (HLi.out.below HB11.out)).mono ?_
      rintro e w12 ⟨Yl, rfl, hs, hb12⟩
      have HB12 : Hid (Below w.heap.size w w12) := HB11.out.trans (hb12.mono HB11.out.size)
      have HC12 : Hid (Below wg.heap.size wg w12) := HC11.out.trans (hb12.mono HC11.out.size)
      clear cG0 cG1 cG2
      obtain ⟨cG0, cG1, cG2⟩ : _ ∧ _ ∧ _ := ⟨(GX_0.out.below HC12.out).c0, (GX_0.out.below HC12.out).c1, (GX_0.out.below HC12.out).c2⟩
      have WS_12 := Lib.hid (WS_11.out.below hb12)
      have XB_12 := Lib.hid (Nat.le_trans XB_11.out hb12.size)
      have XP_12 := Lib.hid (XP_11.out.below hb12 UXP_11.out)
      have UXP_12 := Lib.hid (Nat.le_trans UXP_11.out hb12.size)
      have XL_12 := Lib.hid (XL_11.out.below hb12)
      have GZ_12 := Lib.hid (Nat.le_trans GZ_11.out hb12.size)
      have GS_12 := Lib.hid (GS_11.out.below hb12)
      have YL_12 := Lib.hid hs
      clear hs
      clear hb12
      go_wp2_with fail
      refine (c_eqIntS bs _ _ _ _ _ l5 XL_12.out YL_12.out).mono ?_
      rintro e w13 ⟨rfl, hb13⟩
      have HB13 : Hid (Below w.heap.size w w13) := HB12.out.trans (hb13.mono HB12.out.size)
      have HC13 : Hid (Below wg.heap.size wg w13) := HC12.out.trans (hb13.mono HC12.out.size)
      clear cG0 cG1 cG2
      obtain ⟨cG0, cG1, cG2⟩ : _ ∧ _ ∧ _ := ⟨(GX_0.out.below HC13.out).c0, (GX_0.out.below HC13.out).c1, (GX_0.out.below HC13.out).c2⟩
      have WS_13 := Lib.hid (WS_12.out.below hb13)
      have XB_13 := Lib.hid (Nat.le_trans XB_12.out hb13.size)
      have XP_13 := Lib.hid (XP_12.out.below hb13 UXP_12.out)
      have UXP_13 := Lib.hid (Nat.le_trans UXP_12.out hb13.size)
      have XL_13 := Lib.hid (XL_12.out.below hb13)
      have GZ_13 := Lib.hid (Nat.le_trans GZ_12.out hb13.size)
      have GS_13 := Lib.hid (GS_12.out.below hb13)
      have YL_13 := Lib.hid (YL_12.out.below hb13)
      clear hb13
      go_wp2_with fail
      refine (c_markIntSS2 xss _ _ _ 1 _ hsl htt (by omega) (by omega) XP_13.out XB_13.out).mono ?_
      rintro e w14 ⟨rfl, _, hbm, ham⟩
      have HB14 : Hid (Below w.heap.size w w14) := HB13.out.trans (hbm.mono HB4.out.size)
      have HC14 : Hid (Below wg.heap.size wg w14) := HC13.out.trans (hbm.mono HC4.out.size)
      clear cG0 cG1 cG2
      obtain ⟨cG0, cG1, cG2⟩ : _ ∧ _ ∧ _ := ⟨(GX_0.out.below HC14.out).c0, (GX_0.out.below HC14.out).c1, (GX_0.out.below HC14.out).c2⟩
      have XB_14 := Lib.hid (Nat.le_trans XB_13.out hbm.size)
      have GZ_14 := Lib.hid (Nat.le_trans GZ_13.out hbm.size)
      have WS_14 : Hid (Row w14 _ Wv ys) := own_stays WS_13.out fun k hk => hbm.block k (World.ownsRow.lt WS_4.out k hk).2
      have GS_14 : Hid (Row w14 _ Gv ys) := own_stays GS_13.out fun k hk => ham k (Nat.le_trans UXP_7.out (World.ownsRow.lt GS_13.out k hk).1) (World.ownsRow.lt GS_13.out k hk).2
      have XL_14 : Hid (Row w14 _ Xl bs) := own_stays XL_13.out fun k hk => ham k (Nat.le_trans UXP_5.out (World.ownsRow.lt XL_13.out k hk).1) (World.ownsRow.lt XL_13.out k hk).2
      clear hbm ham
      have PAL : Hid (Apart Wv.ownBlock Xl.ownBlock) := apart_of WS_4.out XL_14.out XB_5.out
      have PBL : Hid (Apart Gv.ownBlock Xl.ownBlock) := (apart_of XL_7.out GS_14.out (Nat.le_refl _)).symm
      go_wp2_with fail
      refine (c_markIntS bs _ _ (1 + (totN xss xss.length : Int)) _ l5 (by omega) (by omega) XL_14.out).mono ?_
      rintro e w15 ⟨rfl, _, hg⟩
      have HG15 := Lib.hid hg
      clear hg
      have HB15 : Hid (Below w.heap.size w w15) := HB14.out.grown HG15.out HB14.out.size (fun k hk => Nat.le_trans HB5.out.size (World.ownsRow.lt XL_14.out k hk).1)
      have HC15 : Hid (Below wg.heap.size wg w15) := HC14.out.grown HG15.out HC14.out.size (fun k hk => Nat.le_trans HC5.out.size (World.ownsRow.lt XL_14.out k hk).1)
      clear cG0 cG1 cG2
      obtain ⟨cG0, cG1, cG2⟩ : _ ∧ _ ∧ _ := ⟨(GX_0.out.below HC15.out).c0, (GX_0.out.below HC15.out).c1, (GX_0.out.below HC15.out).c2⟩
      have XB_15 := Lib.hid (Nat.le_trans XB_14.out HG15.out.size)
      have GZ_15 := Lib.hid (Nat.le_trans GZ_14.out HG15.out.size)
      have WS_15 : Hid (Row w15 _ Wv ys) := World.ownsRow.kept WS_14.out HG15.out PAL.out
      have GS_15 : Hid (Row w15 _ Gv ys) := World.ownsRow.kept GS_14.out HG15.out PBL.out
      go_wp2_with fail
      refine (c_eqIntS ys _ _ _ _ _ hyl GS_15.out WS_15.out).mono ?_
      rintro e w16 ⟨rfl, hb16⟩
      have HB16 : Hid (Below w.heap.size w w16) := HB15.out.trans (hb16.mono HB15.out.size)
      have HC16 : Hid (Below wg.heap.size wg w16) := HC15.out.trans (hb16.mono HC15.out.size)
      clear cG0 cG1 cG2
      obtain ⟨cG0, cG1, cG2⟩ : _ ∧ _ ∧ _ := ⟨(GX_0.out.below HC16.out).c0, (GX_0.out.below HC16.out).c1, (GX_0.out.below HC16.out).c2⟩
      have WS_16 := Lib.hid (WS_15.out.below hb16)
      have GS_16 := Lib.hid (GS_15.out.below hb16)
      have XB_16 := Lib.hid (Nat.le_trans XB_15.out hb16.size)
      have GZ_16 := Lib.hid (Nat.le_trans GZ_15.out hb16.size)
      clear hb16
      go_wp2_with fail
      have PC : Hid (Apart Wv.ownBlock Gv.ownBlock) := apart_of WS_4.out GS_16.out XB_7.out
      refine (c_markIntS ys _ _ 1 _ hyl (by omega) (by omega) GS_16.out).mono ?_
      rintro e w17 ⟨rfl, hr, hg⟩
      have GS_17 := Lib.hid hr
      have HB17 : Hid (Below w.heap.size w w17) := HB16.out.grown hg HB16.out.size (fun k hk => Nat.le_trans HB7.out.size (World.ownsRow.lt GS_16.out k hk).1)
      have HC17 : Hid (Below wg.heap.size wg w17) := HC16.out.grown hg HC16.out.size (fun k hk => Nat.le_trans HC7.out.size (World.ownsRow.lt GS_16.out k hk).1)
      clear cG0 cG1 cG2
      obtain ⟨cG0, cG1, cG2⟩ : _ ∧ _ ∧ _ := ⟨(GX_0.out.below HC17.out).c0, (GX_0.out.below HC17.out).c1, (GX_0.out.below HC17.out).c2⟩
      have WS_17 : Hid (Row w17 _ Wv ys) := World.ownsRow.kept WS_16.out hg PC.out
      clear hr hg
      go_wp2_with fail
      refine (c_heldIntS Gv _ ys.length 1 _ hyl (by omega) (by omega) GS_17.out).mono ?_
      rintro e w' ⟨rfl, rfl⟩
      go_wp2_with fail
      refine (c_toGrid x y z _).mono ?_
      rintro e w18 ⟨rfl, hb18⟩
      have HB18 : Hid (Below w.heap.size w w18) := HB17.out.trans (hb18.mono HB17.out.size)
      have HC18 : Hid (Below wg.heap.size wg w18) := HC17.out.trans (hb18.mono HC17.out.size)
      clear cG0 cG1 cG2
      obtain ⟨cG0, cG1, cG2⟩ : _ ∧ _ ∧ _ := ⟨(GX_0.out.below HC18.out).c0, (GX_0.out.below HC18.out).c1, (GX_0.out.below HC18.out).c2⟩
      have WS_18 := Lib.hid (WS_17.out.below hb18)
      have GS_18 := Lib.hid (GS_17.out.below hb18)
      clear hb18
      go_wp2_with fail
      refine (c_toIntSS xss _ _ hsh.out (HS.out.below HB18.out)).mono ?_
      rintro e w19 ⟨Yv, rfl, hs, hb19⟩
      have HB19 : Hid (Below w.heap.size w w19) := HB18.out.trans (hb19.mono HB18.out.size)
      have HC19 : Hid (Below wg.heap.size wg w19) := HC18.out.trans (hb19.mono HC18.out.size)
      clear cG0 cG1 cG2
      obtain ⟨cG0, cG1, cG2⟩ : _ ∧ _ ∧ _ := ⟨(GX_0.out.below HC19.out).c0, (GX_0.out.below HC19.out).c1, (GX_0.out.below HC19.out).c2⟩
      have WS_19 := Lib.hid (WS_18.out.below hb19)
      have GS_19 := Lib.hid (GS_18.out.below hb19)
      have YP_19 := Lib.hid hs
      have UYP_19 : Hid (_ ≤ _) := Nat.le_refl w19.heap.size
      clear hs
      clear hb19
      go_wp2_with fail
      refine (c_toIntS bs _ _ l5 (HLi.out.below HB19.out)).mono ?_
      rintro e w20 ⟨Yl, rfl, hs, hb20⟩
      have HB20 : Hid (Below w.heap.size w w20) := HB19.out.trans (hb20.mono HB19.out.size)
      have HC20 : Hid (Below wg.heap.size wg w20) := HC19.out.trans (hb20.mono HC19.out.size)
      clear cG0 cG1 cG2
      obtain ⟨cG0, cG1, cG2⟩ : _ ∧ _ ∧ _ := ⟨(GX_0.out.below HC20.out).c0, (GX_0.out.below HC20.out).c1, (GX_0.out.below HC20.out).c2⟩
      have WS_20 := Lib.hid (WS_19.out.below hb20)
      have GS_20 := Lib.hid (GS_19.out.below hb20)
      have YP_20 := Lib.hid (YP_19.out.below hb20 UYP_19.out)
      have UYP_20 := Lib.hid (Nat.le_trans UYP_19.out hb20.size)
      have YL_20 := Lib.hid hs
      clear hs
      clear hb20
      go_wp2_with fail
      refine (CI.out _ _ _ _ YP_20.out.seen YL_20.out).mono ?_
      rintro e w21 ⟨Yv, rfl, hs, hb21⟩
      have HB21 : Hid (Below w.heap.size w w21) := HB20.out.trans (hb21.mono HB20.out.size)
      have HC21 : Hid (Below wg.heap.size wg w21) := HC20.out.trans (hb21.mono HC20.out.size)
      clear cG0 cG1 cG2
      obtain ⟨cG0, cG1, cG2⟩ : _ ∧ _ ∧ _ := ⟨(GX_0.out.below HC21.out).c0, (GX_0.out.below HC21.out).c1, (GX_0.out.below HC21.out).c2⟩
      have WS_21 := Lib.hid (WS_20.out.below hb21)
      have GS_21 := Lib.hid (GS_20.out.below hb21)
      have YP_21 := Lib.hid (YP_20.out.below hb21 UYP_20.out)
      have UYP_21 := Lib.hid (Nat.le_trans UYP_20.out hb21.size)
      have YL_21 := Lib.hid (YL_20.out.below hb21)
      have YS_21 := Lib.hid hs
      clear hs
      clear hb21
      go_wp2_with fail
      refine (c_eqIntS ys _ _ _ _ _ hyl YS_21.out WS_21.out).mono ?_
      rintro e w22 ⟨rfl, hb22⟩
      have HB22 : Hid (Below w.heap.size w w22) := HB21.out.trans (hb22.mono HB21.out.size)
      have HC22 : Hid (Below wg.heap.size wg w22) := HC21.out.trans (hb22.mono HC21.out.size)
      clear cG0 cG1 cG2
      obtain ⟨cG0, cG1, cG2⟩ : _ ∧ _ ∧ _ := ⟨(GX_0.out.below HC22.out).c0, (GX_0.out.below HC22.out).c1, (GX_0.out.below HC22.out).c2⟩
      have WS_22 := Lib.hid (WS_21.out.below hb22)
      have GS_22 := Lib.hid (GS_21.out.below hb22)
      have YP_22 := Lib.hid (YP_21.out.below hb22 UYP_21.out)
      have UYP_22 := Lib.hid (Nat.le_trans UYP_21.out hb22.size)
      have YL_22 := Lib.hid (YL_21.out.below hb22)
      have YS_22 := Lib.hid (YS_21.out.below hb22)
      clear hb22
      go_wp2_with fail
      refine (c_heldIntS Gv _ ys.length 1 _ hyl (by omega) (by omega) GS_22.out).mono ?_
      rintro e w' ⟨rfl, rfl⟩
      go_wp2
      go_ret
      exact ⟨rfl, HB22.out⟩

/-! ### The row's step -/
theorem laid : laidOutB Try.prog = true := by kernel_rfl
set_option maxRecDepth 100000 in
set_option maxHeartbeats 8000000 in
theorem lifted (os : Os) (started : os.Started) (H : Type) (enc : TypeId × Value → H) :
    ReturnsInHanded {} Try.checked os 3 .any (Rows.fnExactWidenPitSpec.pre6 enc Try.prog Try.f3 Rows.fnExactWidenPitRow.domain false) (Rows.fnExactWidenPitSpec.post enc Try.prog Try.f3 false true false false) := by
  refine returnsInHanded_of_change (C := Try.checked) own started (by kernel_rfl) Try.func3
    (ChangeSpec.witness6 (enc := enc) (C := Try.checked) false ⟨#[], #[.agg #[.int .i64 0, .int .i64 0, .int .i64 0], .slice none 0 0, .slice none 0 0, .int .i64 0], []⟩ 8 (by kernel_rfl) (by kernel_rfl) (by kernel_rfl) (by kernel_rfl)) ?_
  intro W base args ds gs before hval0 hW hcnd _
  have hval : ∀ (j : Nat) t v, Try.f3.params[j]? = some t → args[j]? = some v → Value.okWide Try.prog W .any base t v := hval0
  have hW' := hW
  have lts : ∀ x ∈ before, x.block < W.heap.size := fun x hx => by simpa using hW'.lt x hx
  obtain ⟨p, q, hA0, hV, rfl, hfz, hnd⟩ := hW
  have hA : DataW.TrodAll enc Try.prog W 0 (fun _ => true) true Try.f3.params.toList args.toList ds p := hA0
  rw [Try.params3] at hA hval
  obtain ⟨v0, vs0, d0, ds0, p0, q0, hargs, rfl, rfl, h0, r0⟩ := trodAll_cons hA
  obtain ⟨v1, vs1, d1, ds1, p1, q1, rfl, rfl, rfl, h1, r1⟩ := trodAll_cons r0
  obtain ⟨v2, vs2, d2, ds2, p2, q2, rfl, rfl, rfl, h2, r2⟩ := trodAll_cons r1
  obtain ⟨v3, vs3, d3, ds3, p3, q3, rfl, rfl, rfl, h3, r3⟩ := trodAll_cons r2
  obtain ⟨rfl, rfl, rfl⟩ := trodAll_nil r3
  obtain rfl : args = #[v0, v1, v2, v3] := by cases args; simp_all
  obtain ⟨rfl, rfl⟩ := trodVars_none hV
  have k0 := h0
  obtain ⟨x, y, z, rfl⟩ := open_grid (hval 0 23 v0 rfl rfl) h0
  have k1 := h1
  obtain ⟨xss, hR⟩ := open_rows (hval 1 24 v1 rfl rfl) h1
  have k2 := h2
  obtain ⟨bs, hL⟩ := open_list (hval 2 25 v2 rfl rfl) h2
  have k3 := h3
  obtain ⟨a3, rfl, _, _, w3⟩ := open_int Try.underlying3 (hval 3 3 v3 rfl rfl) h3
  clear hA0 hval0
  simp only [List.append_nil] at hW' lts
  refine (walk x y z xss v1 bs v2 a3 W hR hL w3).mono fun e W' ⟨he, bel⟩ => ?_
  subst he
  exact ⟨_, rfl, _, _, _, [], _, [], hW', trodAll_mk1 (shut_bool Try.underlying4 _), (trodAll_cons_mk (Below.trod laid (by kernel_rfl) (of_decide_eq_true (by kernel_rfl)) k0 bel (fun x hx => lts x (by simp [hx]))) (trodAll_cons_mk (Below.trod laid (by kernel_rfl) (of_decide_eq_true (by kernel_rfl)) k1 bel (fun x hx => lts x (by simp [hx]))) (trodAll_cons_mk (Below.trod laid (by kernel_rfl) (of_decide_eq_true (by kernel_rfl)) k2 bel (fun x hx => lts x (by simp [hx]))) (trodAll_cons_mk (Below.trod laid (by kernel_rfl) (of_decide_eq_true (by kernel_rfl)) k3 bel (fun x hx => lts x (by simp [hx]))) trodAll_mk0)))), rfl, bel.frame _, fun h => by cases h⟩

set_option maxHeartbeats 8000000 in
theorem closed : joinedFacts Try.prog 3 Try.f3 Rows.fnExactWidenPitSpec Rows.fnExactWidenPitRow = true := by
  unfold joinedFacts
  simp only [Bool.and_eq_true]
  refine ⟨⟨⟨⟨⟨⟨⟨⟨⟨⟨⟨⟨⟨⟨⟨⟨⟨⟨⟨⟨⟨⟨⟨⟨⟨⟨⟨⟨⟨⟨⟨?_, ?_⟩, ?_⟩, ?_⟩, ?_⟩, ?_⟩, ?_⟩, ?_⟩, ?_⟩, ?_⟩, ?_⟩, ?_⟩, ?_⟩, ?_⟩, ?_⟩, ?_⟩, ?_⟩, ?_⟩, ?_⟩, ?_⟩, ?_⟩, ?_⟩, ?_⟩, ?_⟩, ?_⟩, ?_⟩, ?_⟩, ?_⟩, ?_⟩, ?_⟩, ?_⟩, ?_⟩
  · as_aux_lemma => kernel_rfl
  · as_aux_lemma => kernel_rfl
  · as_aux_lemma => kernel_rfl
  · as_aux_lemma => kernel_rfl
  · as_aux_lemma => kernel_rfl
  · as_aux_lemma => kernel_rfl
  · as_aux_lemma => kernel_rfl
  · as_aux_lemma => kernel_rfl
  · as_aux_lemma => kernel_rfl
  · as_aux_lemma => kernel_rfl
  · as_aux_lemma => kernel_rfl
  · as_aux_lemma => kernel_rfl
  · as_aux_lemma => kernel_rfl
  · as_aux_lemma => kernel_rfl
  · as_aux_lemma => kernel_rfl
  · as_aux_lemma => kernel_rfl
  · as_aux_lemma => kernel_rfl
  · as_aux_lemma => kernel_rfl
  · as_aux_lemma => kernel_rfl
  · as_aux_lemma => kernel_rfl
  · as_aux_lemma => kernel_rfl
  · as_aux_lemma => kernel_rfl
  · as_aux_lemma => kernel_rfl
  · as_aux_lemma => kernel_rfl
  · as_aux_lemma => kernel_rfl
  · exact jf_may
  · exact (congrArg (fun b => (Rows.fnExactWidenPitRow.lifted == b)) jf_lifts).trans (by kernel_rfl)
  · exact (congrArg (fun o => (o == some Rows.fnExactWidenPitRow.make)) jf_make).trans (by kernel_rfl)
  · as_aux_lemma => kernel_rfl
  · as_aux_lemma => kernel_rfl
  · as_aux_lemma => kernel_rfl
  · as_aux_lemma => kernel_rfl

set_option maxHeartbeats 8000000 in
theorem over : Rows.fnExactWidenPitRow.holds Try.pinned (OpenSpec.ofChange Rows.fnExactWidenPitSpec) :=
  OpenClaim.holds_of_wide 3 Try.f3 rfl rfl rfl rfl rfl rfl rfl ⟨rfl, rfl, rfl, rfl, rfl⟩ rfl rfl rfl rfl rfl (by kernel_rfl) Try.func3 closed
    (of_decide_eq_true (by kernel_rfl)) (by unfold Func.isWrapper; first | (rw [if_pos (by decide +kernel)]; kernel_rfl) | (rw [if_neg (by decide +kernel)]; exact ⟨rfl, rfl⟩))
    (fun os started H enc _ => lifted os started H enc)
end Go.Proofs.Ytfpjodoimfbadaa.fnExactWidenPitProof
namespace Go.Proofs.Ytfpjodoimfbadaa
theorem fnExactWidenPit_holds : Rows.FnExactWidenPitSaid := fnExactWidenPitProof.over
#print axioms fnExactWidenPit_holds
end Go.Proofs.Ytfpjodoimfbadaa
