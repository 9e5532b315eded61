/-
  The law FnExactWideBlocks holds: for all arguments, WideBlocks answers as its model does, its answer owns its memory, and the arguments read as they did. No conditions.
-/
import Derived.Test.YtlgbhemjckahhaaRows
import Derived.Test.YtlgbhemjckahhaaTPb
import Derived.Test.YtlgbhemjckahhaaN0
import Derived.Test.YtlgbhemjckahhaaN2
import Derived.Test.YtlgbhemjckahhaaR2
import Derived.Test.YtlgbhemjckahhaaR3
import Derived.Test.YtlgbhemjckahhaaR4
import Derived.Test.YtlgbhemjckahhaaOG
import Derived.Test.YtlgbhemjckahhaaJF
import Derived.WalkKit
import Derived.Lib.Hide
import Derived.Deep.DeepCutAuto
import Derived.ProofKit
import Derived.OpenShut
import Derived.ShutString
import Derived.ChangeOld
import Derived.Below
import Derived.Carry
import Derived.Deep.RegionWith
import Derived.Lib.SmallJoins
namespace Go.Proofs.Ytlgbhemjckahhaa.fnExactWideBlocksProof
open Go.ChangeShapes Go.WideShapes Go.ChangeAt Go.RowKit Go.Joins
set_option linter.unusedVariables false

theorem own : ownKnob Try.prog.godebug = none := by kernel_rfl

/-! ### The walk -/
set_option maxHeartbeats 4000000 in
set_option maxRecDepth 100000 in
theorem walk (x y z : Int) (bs : List Int) (v1 : Value) (a2 : Int) (w : World) (hL : Seen w v1 bs) (wf2 : (Lit.int .i64 a2).wf = true) :
    Calls Try.prog 6 #[.agg #[.int .i64 x, .int .i64 y, .int .i64 z], v1, .int .i64 a2] w fun e w' => e = .returned (.bool true) ∧ Below w.heap.size w w' := by
  have HLi := Lib.hid hL
  obtain ⟨AV, cV, rfl, t4, _⟩ := hL
  have b4 : bs.length ≤ 9223372036854775807 := by unfold maxLen at t4; omega
  clear t4
  obtain ⟨wg, hwg⟩ : ∃ wg, w.alloc (.cells #[.int .i64 x, .int .i64 y, .int .i64 z] 34) = wg := ⟨_, rfl⟩
  have HB0 : Hid (Below w.heap.size w wg) := by rw [← hwg]; exact (Below.refl _ _).alloc (Nat.le_refl _) _
  have GX_0 : Hid (Box3 wg w.heap.size x y z) := by rw [← hwg]; exact Box3.new w x y z _
  have HC0 : Hid (Below wg.heap.size wg wg) := Below.refl _ _
  obtain ⟨cG0, cG1, cG2⟩ : _ ∧ _ ∧ _ := ⟨(GX_0.out.below HC0.out).c0, (GX_0.out.below HC0.out).c1, (GX_0.out.below HC0.out).c2⟩
  have zwg : w.heap.size < wg.heap.size := by rw [← hwg]; simp
  by_cases l4 : bs.length ≤ 1048576
  case neg =>
    go_enter Try.func6, Try.ntmps6
    go_wp2
    go_ret
    exact ⟨rfl, HB0.out⟩
  case pos =>
    have l5 : bs.length ≤ 4000000 := by omega
    go_enter Try.func6, Try.ntmps6
    obtain ⟨ys, bb, hyl, CS, CI⟩ : ∃ (ys : List Int) (bb : Bool), ys.length ≤ 4000000 ∧ Hid (∀  (pl : Value) (Bl : Nat) (u : World), Row u Bl pl bs → Calls Try.prog 23 #[.agg #[.int .i64 x, .int .i64 y, .int .i64 z], pl, .int .i64 a2] u (GivesRow2 u ys bb)) ∧ Hid (∀  (pl : Value) (Bl : Nat) (u : World), Row u Bl pl bs → Calls Try.prog 26 #[.agg #[.int .i64 x, .int .i64 y, .int .i64 z], pl, .int .i64 a2] u (GivesRow2 u ys bb)) :=
      ⟨wiA x y z a2 bs, asW x y z a2 bs, wiA_len x y z a2 bs, fun pl Bl u hul => c_WideBlocksS x y z a2 bs pl u l5 hul.seen, fun pl Bl u hul => c_WideBlocks x y z a2 bs pl u l5 hul.seen⟩
    have hnb : (bb != bb) = false := by simp
    have hnq : ((1 + (ys.length : Int)) != (1 + (ys.length : Int))) = false := by simp
    have hpq : ¬ (1 + (ys.length : Int)) < 0 := by omega
    have hkq : ¬ (1 + (bs.length : Int)) < 0 := by omega
    go_wp2_with fail
    refine (c_toGrid x y z _).mono ?_
    rintro e w1 ⟨rfl, hb1⟩
    have HB1 : Hid (Below w.heap.size w w1) := HB0.out.trans (hb1.mono HB0.out.size)
    have HC1 : Hid (Below wg.heap.size wg w1) := HC0.out.trans (hb1.mono HC0.out.size)
    clear cG0 cG1 cG2
    obtain ⟨cG0, cG1, cG2⟩ : _ ∧ _ ∧ _ := ⟨(GX_0.out.below HC1.out).c0, (GX_0.out.below HC1.out).c1, (GX_0.out.below HC1.out).c2⟩
    clear hb1
    go_wp2_with fail
    refine (c_toIntS bs _ _ l5 (HLi.out.below HB1.out)).mono ?_
    rintro e w2 ⟨Spl, rfl, hs, hb2⟩
    have HB2 : Hid (Below w.heap.size w w2) := HB1.out.trans (hb2.mono HB1.out.size)
    have HC2 : Hid (Below wg.heap.size wg w2) := HC1.out.trans (hb2.mono HC1.out.size)
    clear cG0 cG1 cG2
    obtain ⟨cG0, cG1, cG2⟩ : _ ∧ _ ∧ _ := ⟨(GX_0.out.below HC2.out).c0, (GX_0.out.below HC2.out).c1, (GX_0.out.below HC2.out).c2⟩
    have SpL_2 := Lib.hid hs
    clear hs
    clear hb2
    go_wp2_with fail
    refine (CS.out _ _ _ SpL_2.out).mono ?_
    rintro e w3 ⟨Wv, rfl, hs, hb3⟩
    have HB3 : Hid (Below w.heap.size w w3) := HB2.out.trans (hb3.mono HB2.out.size)
    have HC3 : Hid (Below wg.heap.size wg w3) := HC2.out.trans (hb3.mono HC2.out.size)
    clear cG0 cG1 cG2
    obtain ⟨cG0, cG1, cG2⟩ : _ ∧ _ ∧ _ := ⟨(GX_0.out.below HC3.out).c0, (GX_0.out.below HC3.out).c1, (GX_0.out.below HC3.out).c2⟩
    have SpL_3 := Lib.hid (SpL_2.out.below hb3)
    have WS_3 := Lib.hid hs
    clear hs
    clear hb3
    have XB_3 : Hid (w3.heap.size ≤ w3.heap.size) := Nat.le_refl _
    go_wp2_with fail
    refine (c_toIntS bs _ _ l5 (HLi.out.below HB3.out)).mono ?_
    rintro e w4 ⟨Xl, rfl, hs, hb4⟩
    have HB4 : Hid (Below w.heap.size w w4) := HB3.out.trans (hb4.mono HB3.out.size)
    have HC4 : Hid (Below wg.heap.size wg w4) := HC3.out.trans (hb4.mono HC3.out.size)
    clear cG0 cG1 cG2
    obtain ⟨cG0, cG1, cG2⟩ : _ ∧ _ ∧ _ := ⟨(GX_0.out.below HC4.out).c0, (GX_0.out.below HC4.out).c1, (GX_0.out.below HC4.out).c2⟩
    have WS_4 := Lib.hid (WS_3.out.below hb4)
    have XB_4 := Lib.hid (Nat.le_trans XB_3.out hb4.size)
    have XL_4 := Lib.hid hs
    clear hs
    clear hb4
    go_wp2_with fail
    refine (c_toGrid x y z _).mono ?_
    rintro e w5 ⟨rfl, hb5⟩
    have HB5 : Hid (Below w.heap.size w w5) := HB4.out.trans (hb5.mono HB4.out.size)
    have HC5 : Hid (Below wg.heap.size wg w5) := HC4.out.trans (hb5.mono HC4.out.size)
    clear cG0 cG1 cG2
    obtain ⟨cG0, cG1, cG2⟩ : _ ∧ _ ∧ _ := ⟨(GX_0.out.below HC5.out).c0, (GX_0.out.below HC5.out).c1, (GX_0.out.below HC5.out).c2⟩
    have WS_5 := Lib.hid (WS_4.out.below hb5)
    have XB_5 := Lib.hid (Nat.le_trans XB_4.out hb5.size)
    have XL_5 := Lib.hid (XL_4.out.below hb5)
    clear hb5
    have GZ_5 : Hid (w5.heap.size ≤ w5.heap.size) := Nat.le_refl _
    go_wp2_with fail
    refine (CI.out _ _ _ XL_5.out).mono ?_
    rintro e w6 ⟨Gv, rfl, hs, hb6⟩
    have HB6 : Hid (Below w.heap.size w w6) := HB5.out.trans (hb6.mono HB5.out.size)
    have HC6 : Hid (Below wg.heap.size wg w6) := HC5.out.trans (hb6.mono HC5.out.size)
    clear cG0 cG1 cG2
    obtain ⟨cG0, cG1, cG2⟩ : _ ∧ _ ∧ _ := ⟨(GX_0.out.below HC6.out).c0, (GX_0.out.below HC6.out).c1, (GX_0.out.below HC6.out).c2⟩
    have WS_6 := Lib.hid (WS_5.out.below hb6)
    have XB_6 := Lib.hid (Nat.le_trans XB_5.out hb6.size)
    have XL_6 := Lib.hid (XL_5.out.below hb6)
    have GZ_6 := Lib.hid (Nat.le_trans GZ_5.out hb6.size)
    have GS_6 := Lib.hid hs
    clear hs
    clear hb6
    go_wp2_with fail
    refine (c_eqIntS ys _ _ _ _ _ hyl GS_6.out WS_6.out).mono ?_
    rintro e w7 ⟨rfl, hb7⟩
    have HB7 : Hid (Below w.heap.size w w7) := HB6.out.trans (hb7.mono HB6.out.size)
    have HC7 : Hid (Below wg.heap.size wg w7) := HC6.out.trans (hb7.mono HC6.out.size)
    clear cG0 cG1 cG2
    obtain ⟨cG0, cG1, cG2⟩ : _ ∧ _ ∧ _ := ⟨(GX_0.out.below HC7.out).c0, (GX_0.out.below HC7.out).c1, (GX_0.out.below HC7.out).c2⟩
    have WS_7 := Lib.hid (WS_6.out.below hb7)
    have XB_7 := Lib.hid (Nat.le_trans XB_6.out hb7.size)
    have XL_7 := Lib.hid (XL_6.out.below hb7)
    have GZ_7 := Lib.hid (Nat.le_trans GZ_6.out hb7.size)
    have GS_7 := Lib.hid (GS_6.out.below hb7)
    clear hb7
    go_wp2_with fail
    refine (c_toIntS bs _ _ l5 (HLi.out.below HB7.out)).mono ?_
    rintro e w8 ⟨Yl, rfl, hs, hb8⟩
    have HB8 : Hid (Below w.heap.size w w8) := HB7.out.trans (hb8.mono HB7.out.size)
    have HC8 : Hid (Below wg.heap.size wg w8) := HC7.out.trans (hb8.mono HC7.out.size)
    clear cG0 cG1 cG2
    obtain ⟨cG0, cG1, cG2⟩ : _ ∧ _ ∧ _ := ⟨(GX_0.out.below HC8.out).c0, (GX_0.out.below HC8.out).c1, (GX_0.out.below HC8.out).c2⟩
    have WS_8 := Lib.hid (WS_7.out.below hb8)
    have XB_8 := Lib.hid (Nat.le_trans XB_7.out hb8.size)
    have XL_8 := Lib.hid (XL_7.out.below hb8)
    have GZ_8 := Lib.hid (Nat.le_trans GZ_7.out hb8.size)
    have GS_8 := Lib.hid (GS_7.out.below hb8)
    have YL_8 := Lib.hid hs
    clear hs
    clear hb8
    go_wp2_with fail
    refine (c_eqIntS bs _ _ _ _ _ l5 XL_8.out YL_8.out).mono ?_
    rintro e w9 ⟨rfl, hb9⟩
    have HB9 : Hid (Below w.heap.size w w9) := HB8.out.trans (hb9.mono HB8.out.size)
    have HC9 : Hid (Below wg.heap.size wg w9) := HC8.out.trans (hb9.mono HC8.out.size)
    clear cG0 cG1 cG2
    obtain ⟨cG0, cG1, cG2⟩ : _ ∧ _ ∧ _ := ⟨(GX_0.out.below HC9.out).c0, (GX_0.out.below HC9.out).c1, (GX_0.out.below HC9.out).c2⟩
    have WS_9 := Lib.hid (WS_8.out.below hb9)
    have XB_9 := Lib.hid (Nat.le_trans XB_8.out hb9.size)
    have XL_9 := Lib.hid (XL_8.out.below hb9)
    have GZ_9 := Lib.hid (Nat.le_trans GZ_8.out hb9.size)
    have GS_9 := Lib.hid (GS_8.out.below hb9)
    have YL_9 := Lib.hid (YL_8.out.below hb9)
    clear hb9
    have PAL : Hid (Apart Wv.ownBlock Xl.ownBlock) := apart_of WS_3.out XL_9.out XB_3.out
    have PBL : Hid (Apart Gv.ownBlock Xl.ownBlock) := (apart_of XL_5.out GS_9.out (Nat.le_refl _)).symm
    go_wp2_with fail
    refine (c_markIntS bs _ _ (1) _ l5 (by omega) (by omega) XL_9.out).mono ?_
    rintro e w10 ⟨rfl, _, hg⟩
    have HG10 := Lib.hid hg
    clear hg
    have HB10 : Hid (Below w.heap.size w w10) := HB9.out.grown HG10.out HB9.out.size (fun k hk => Nat.le_trans HB3.out.size (World.ownsRow.lt XL_9.out k hk).1)
    have HC10 : Hid (Below wg.heap.size wg w10) := HC9.out.grown HG10.out HC9.out.size (fun k hk => Nat.le_trans HC3.out.size (World.ownsRow.lt XL_9.out k hk).1)
    clear cG0 cG1 cG2
    obtain ⟨cG0, cG1, cG2⟩ : _ ∧ _ ∧ _ := ⟨(GX_0.out.below HC10.out).c0, (GX_0.out.below HC10.out).c1, (GX_0.out.below HC10.out).c2⟩
    have XB_10 := Lib.hid (Nat.le_trans XB_9.out HG10.out.size)
    have GZ_10 := Lib.hid (Nat.le_trans GZ_9.out HG10.out.size)
    have WS_10 : Hid (Row w10 _ Wv ys) := World.ownsRow.kept WS_9.out HG10.out PAL.out
    have GS_10 : Hid (Row w10 _ Gv ys) := World.ownsRow.kept GS_9.out HG10.out PBL.out
    go_wp2_with fail
    refine (c_eqIntS ys _ _ _ _ _ hyl GS_10.out WS_10.out).mono ?_
    rintro e w11 ⟨rfl, hb11⟩
    have HB11 : Hid (Below w.heap.size w w11) := HB10.out.trans (hb11.mono HB10.out.size)
    have HC11 : Hid (Below wg.heap.size wg w11) := HC10.out.trans (hb11.mono HC10.out.size)
    clear cG0 cG1 cG2
    obtain ⟨cG0, cG1, cG2⟩ : _ ∧ _ ∧ _ := ⟨(GX_0.out.below HC11.out).c0, (GX_0.out.below HC11.out).c1, (GX_0.out.below HC11.out).c2⟩
    have WS_11 := Lib.hid (WS_10.out.below hb11)
    have GS_11 := Lib.hid (GS_10.out.below hb11)
    have XB_11 := Lib.hid (Nat.le_trans XB_10.out hb11.size)
    have GZ_11 := Lib.hid (Nat.le_trans GZ_10.out hb11.size)
    clear hb11
    go_wp2_with fail
    have PC : Hid (Apart Wv.ownBlock Gv.ownBlock) := apart_of WS_3.out GS_11.out XB_5.out
    refine (c_markIntS ys _ _ 1 _ hyl (by omega) (by omega) GS_11.out).mono ?_
    rintro e w12 ⟨rfl, hr, hg⟩
    have GS_12 := Lib.hid hr
    have HB12 : Hid (Below w.heap.size w w12) := HB11.out.grown hg HB11.out.size (fun k hk => Nat.le_trans HB5.out.size (World.ownsRow.lt GS_11.out k hk).1)
    have HC12 : Hid (Below wg.heap.size wg w12) := HC11.out.grown hg HC11.out.size (fun k hk => Nat.le_trans HC5.out.size (World.ownsRow.lt GS_11.out k hk).1)
    clear cG0 cG1 cG2
    obtain ⟨cG0, cG1, cG2⟩ : _ ∧ _ ∧ _ := ⟨(GX_0.out.below HC12.out).c0, (GX_0.out.below HC12.out).c1, (GX_0.out.below HC12.out).c2⟩
    have WS_12 : Hid (Row w12 _ Wv ys) := World.ownsRow.kept WS_11.out hg PC.out
    clear hr hg
    go_wp2_with fail
    refine (c_heldIntS Gv _ ys.length 1 _ hyl (by omega) (by omega) GS_12.out).mono ?_
    rintro e w' ⟨rfl, rfl⟩
    go_wp2_with fail
    refine (c_toGrid x y z _).mono ?_
    rintro e w13 ⟨rfl, hb13⟩
    have HB13 : Hid (Below w.heap.size w w13) := HB12.out.trans (hb13.mono HB12.out.size)
    have HC13 : Hid (Below wg.heap.size wg w13) := HC12.out.trans (hb13.mono HC12.out.size)
    clear cG0 cG1 cG2
    obtain ⟨cG0, cG1, cG2⟩ : _ ∧ _ ∧ _ := ⟨(GX_0.out.below HC13.out).c0, (GX_0.out.below HC13.out).c1, (GX_0.out.below HC13.out).c2⟩
    have WS_13 := Lib.hid (WS_12.out.below hb13)
    have GS_13 := Lib.hid (GS_12.out.below hb13)
    clear hb13
    go_wp2_with fail
    refine (c_toIntS bs _ _ l5 (HLi.out.below HB13.out)).mono ?_
    rintro e w14 ⟨Yl, rfl, hs, hb14⟩
    have HB14 : Hid (Below w.heap.size w w14) := HB13.out.trans (hb14.mono HB13.out.size)
    have HC14 : Hid (Below wg.heap.size wg w14) := HC13.out.trans (hb14.mono HC13.out.size)
    clear cG0 cG1 cG2
    obtain ⟨cG0, cG1, cG2⟩ : _ ∧ _ ∧ _ := ⟨(GX_0.out.below HC14.out).c0, (GX_0.out.below HC14.out).c1, (GX_0.out.below HC14.out).c2⟩
    have WS_14 := Lib.hid (WS_13.out.below hb14)
    have GS_14 := Lib.hid (GS_13.out.below hb14)
    have YL_14 := Lib.hid hs
    clear hs
    clear hb14
    go_wp2_with fail
    refine (CI.out _ _ _ YL_14.out).mono ?_
    rintro e w15 ⟨Yv, rfl, hs, hb15⟩
    have HB15 : Hid (Below w.heap.size w w15) := HB14.out.trans (hb15.mono HB14.out.size)
    have HC15 : Hid (Below wg.heap.size wg w15) := HC14.out.trans (hb15.mono HC14.out.size)
    clear cG0 cG1 cG2
    obtain ⟨cG0, cG1, cG2⟩ : _ ∧ _ ∧ _ := ⟨(GX_0.out.below HC15.out).c0, (GX_0.out.below HC15.out).c1, (GX_0.out.below HC15.out).c2⟩
    have WS_15 := Lib.hid (WS_14.out.below hb15)
    have GS_15 := Lib.hid (GS_14.out.below hb15)
    have YL_15 := Lib.hid (YL_14.out.below hb15)
    have YS_15 := Lib.hid hs
    clear hs
    clear hb15
    go_wp2_with fail
    refine (c_eqIntS ys _ _ _ _ _ hyl YS_15.out WS_15.out).mono ?_
    rintro e w16 ⟨rfl, hb16⟩
    have HB16 : Hid (Below w.heap.size w w16) := HB15.out.trans (hb16.mono HB15.out.size)
    have HC16 : Hid (Below wg.heap.size wg w16) := HC15.out.trans (hb16.mono HC15.out.size)
    clear cG0 cG1 cG2
    obtain ⟨cG0, cG1, cG2⟩ : _ ∧ _ ∧ _ := ⟨(GX_0.out.below HC16.out).c0, (GX_0.out.below HC16.out).c1, (GX_0.out.below HC16.out).c2⟩
    have WS_16 := Lib.hid (WS_15.out.below hb16)
    have GS_16 := Lib.hid (GS_15.out.below hb16)
    have YL_16 := Lib.hid (YL_15.out.below hb16)
    have YS_16 := Lib.hid (YS_15.out.below hb16)
    clear hb16
    go_wp2_with fail
    refine (c_heldIntS Gv _ ys.length 1 _ hyl (by omega) (by omega) GS_16.out).mono ?_
    rintro e w' ⟨rfl, rfl⟩
    go_wp2
    go_ret
    exact ⟨rfl, HB16.out⟩

/-! ### The row's step -/
theorem laid : laidOutB Try.prog = true := by kernel_rfl
set_option maxRecDepth 100000 in
set_option maxHeartbeats 8000000 in
theorem lifted (os : Os) (started : os.Started) (H : Type) (enc : TypeId × Value → H) :
    ReturnsInHanded {} Try.checked os 6 .any (Rows.fnExactWideBlocksSpec.pre6 enc Try.prog Try.f6 Rows.fnExactWideBlocksRow.domain false) (Rows.fnExactWideBlocksSpec.post enc Try.prog Try.f6 false true false false) := by
  refine returnsInHanded_of_change (C := Try.checked) own started (by kernel_rfl) Try.func6
    (ChangeSpec.witness6 (enc := enc) (C := Try.checked) false ⟨#[], #[.agg #[.int .i64 0, .int .i64 0, .int .i64 0], .slice none 0 0, .int .i64 0], []⟩ 8 (by kernel_rfl) (by kernel_rfl) (by kernel_rfl) (by kernel_rfl)) ?_
  intro W base args ds gs before hval0 hW hcnd _
  have hval : ∀ (j : Nat) t v, Try.f6.params[j]? = some t → args[j]? = some v → Value.okWide Try.prog W .any base t v := hval0
  have hW' := hW
  have lts : ∀ x ∈ before, x.block < W.heap.size := fun x hx => by simpa using hW'.lt x hx
  obtain ⟨p, q, hA0, hV, rfl, hfz, hnd⟩ := hW
  have hA : DataW.TrodAll enc Try.prog W 0 (fun _ => true) true Try.f6.params.toList args.toList ds p := hA0
  rw [Try.params6] at hA hval
  obtain ⟨v0, vs0, d0, ds0, p0, q0, hargs, rfl, rfl, h0, r0⟩ := trodAll_cons hA
  obtain ⟨v1, vs1, d1, ds1, p1, q1, rfl, rfl, rfl, h1, r1⟩ := trodAll_cons r0
  obtain ⟨v2, vs2, d2, ds2, p2, q2, rfl, rfl, rfl, h2, r2⟩ := trodAll_cons r1
  obtain ⟨rfl, rfl, rfl⟩ := trodAll_nil r2
  obtain rfl : args = #[v0, v1, v2] := by cases args; simp_all
  obtain ⟨rfl, rfl⟩ := trodVars_none hV
  have k0 := h0
  obtain ⟨x, y, z, rfl⟩ := open_grid (hval 0 34 v0 rfl rfl) h0
  have k1 := h1
  obtain ⟨bs, hL⟩ := open_list (hval 1 35 v1 rfl rfl) h1
  have k2 := h2
  obtain ⟨a2, rfl, _, _, w2⟩ := open_int Try.underlying3 (hval 2 3 v2 rfl rfl) h2
  clear hA0 hval0
  simp only [List.append_nil] at hW' lts
  refine (walk x y z bs v1 a2 W hL w2).mono fun e W' ⟨he, bel⟩ => ?_
  subst he
  exact ⟨_, rfl, _, _, _, [], _, [], hW', trodAll_mk1 (shut_bool Try.underlying4 _), (trodAll_cons_mk (Below.trod laid (by kernel_rfl) (of_decide_eq_true (by kernel_rfl)) k0 bel (fun x hx => lts x (by simp [hx]))) (trodAll_cons_mk (Below.trod laid (by kernel_rfl) (of_decide_eq_true (by kernel_rfl)) k1 bel (fun x hx => lts x (by simp [hx]))) (trodAll_cons_mk (Below.trod laid (by kernel_rfl) (of_decide_eq_true (by kernel_rfl)) k2 bel (fun x hx => lts x (by simp [hx]))) trodAll_mk0))), rfl, bel.frame _, fun h => by cases h⟩

set_option maxHeartbeats 8000000 in
theorem closed : joinedFacts Try.prog 6 Try.f6 Rows.fnExactWideBlocksSpec Rows.fnExactWideBlocksRow = true := by
  unfold joinedFacts
  simp only [Bool.and_eq_true]
  refine ⟨⟨⟨⟨⟨⟨⟨⟨⟨⟨⟨⟨⟨⟨⟨⟨⟨⟨⟨⟨⟨⟨⟨⟨⟨⟨⟨⟨⟨⟨⟨?_, ?_⟩, ?_⟩, ?_⟩, ?_⟩, ?_⟩, ?_⟩, ?_⟩, ?_⟩, ?_⟩, ?_⟩, ?_⟩, ?_⟩, ?_⟩, ?_⟩, ?_⟩, ?_⟩, ?_⟩, ?_⟩, ?_⟩, ?_⟩, ?_⟩, ?_⟩, ?_⟩, ?_⟩, ?_⟩, ?_⟩, ?_⟩, ?_⟩, ?_⟩, ?_⟩, ?_⟩
  · as_aux_lemma => kernel_rfl
  · as_aux_lemma => kernel_rfl
  · as_aux_lemma => kernel_rfl
  · as_aux_lemma => kernel_rfl
  · as_aux_lemma => kernel_rfl
  · as_aux_lemma => kernel_rfl
  · as_aux_lemma => kernel_rfl
  · as_aux_lemma => kernel_rfl
  · as_aux_lemma => kernel_rfl
  · as_aux_lemma => kernel_rfl
  · as_aux_lemma => kernel_rfl
  · as_aux_lemma => kernel_rfl
  · as_aux_lemma => kernel_rfl
  · as_aux_lemma => kernel_rfl
  · as_aux_lemma => kernel_rfl
  · as_aux_lemma => kernel_rfl
  · as_aux_lemma => kernel_rfl
  · as_aux_lemma => kernel_rfl
  · as_aux_lemma => kernel_rfl
  · as_aux_lemma => kernel_rfl
  · as_aux_lemma => kernel_rfl
  · as_aux_lemma => kernel_rfl
  · as_aux_lemma => kernel_rfl
  · as_aux_lemma => kernel_rfl
  · as_aux_lemma => kernel_rfl
  · exact jf_may
  · exact (congrArg (fun b => (Rows.fnExactWideBlocksRow.lifted == b)) jf_lifts).trans (by kernel_rfl)
  · exact (congrArg (fun o => (o == some Rows.fnExactWideBlocksRow.make)) jf_make).trans (by kernel_rfl)
  · as_aux_lemma => kernel_rfl
  · as_aux_lemma => kernel_rfl
  · as_aux_lemma => kernel_rfl
  · as_aux_lemma => kernel_rfl

set_option maxHeartbeats 8000000 in
theorem over : Rows.fnExactWideBlocksRow.holds Try.pinned (OpenSpec.ofChange Rows.fnExactWideBlocksSpec) :=
  OpenClaim.holds_of_wide 6 Try.f6 rfl rfl rfl rfl rfl rfl rfl ⟨rfl, rfl, rfl, rfl, rfl⟩ rfl rfl rfl rfl rfl (by kernel_rfl) Try.func6 closed
    (of_decide_eq_true (by kernel_rfl)) (by unfold Func.isWrapper; first | (rw [if_pos (by decide +kernel)]; kernel_rfl) | (rw [if_neg (by decide +kernel)]; exact ⟨rfl, rfl⟩))
    (fun os started H enc _ => lifted os started H enc)
end Go.Proofs.Ytlgbhemjckahhaa.fnExactWideBlocksProof
namespace Go.Proofs.Ytlgbhemjckahhaa
theorem fnExactWideBlocks_holds : Rows.FnExactWideBlocksSaid := fnExactWideBlocksProof.over
#print axioms fnExactWideBlocks_holds
end Go.Proofs.Ytlgbhemjckahhaa
