/-
  The law FnExactFreeBlocks holds: for all arguments, FreeBlocks answers as its model does, its answer owns its memory, and the arguments read as they did. No conditions.
-/
import Derived.Test.YtdgkgnlilcbggaaRows
import Derived.Test.YtdgkgnlilcbggaaTH
import Derived.Test.YtdgkgnlilcbggaaN0
import Derived.Test.YtdgkgnlilcbggaaN2
import Derived.Test.YtdgkgnlilcbggaaTR
import Derived.Test.YtdgkgnlilcbggaaJF
import Derived.WalkKit
import Derived.Lib.Hide
import Derived.Deep.DeepCutAuto
import Derived.ProofKit
import Derived.OpenShut
import Derived.ShutString
import Derived.ChangeOld
import Derived.Below
import Derived.Carry
import Derived.Deep.RegionWith
import Derived.Lib.SmallJoins
namespace Go.Proofs.Ytdgkgnlilcbggaa.fnExactFreeBlocksProof
open Go.ChangeShapes Go.WideShapes Go.ChangeAt Go.RowKit Go.Joins
set_option linter.unusedVariables false

theorem own : ownKnob Try.prog.godebug = none := by kernel_rfl

/-! ### The walk -/
set_option maxHeartbeats 4000000 in
set_option maxRecDepth 100000 in
theorem walk (xss : List (List Int)) (v0 : Value) (bs : List Int) (v1 : Value) (w : World) (hR : SeenL w v0 xss) (hL : Seen w v1 bs) :
    Calls Try.prog 3 #[v0, v1] w fun e w' => e = .returned (.bool true) ∧ Below w.heap.size w w' := by
  have HS := Lib.hid hR
  obtain ⟨A, c, rfl, hm⟩ := hR.shape
  clear hR hm
  have HLi := Lib.hid hL
  obtain ⟨AV, cV, rfl, t4, _⟩ := hL
  have b4 : bs.length ≤ 9223372036854775807 := by unfold maxLen at t4; omega
  clear t4
  have HB0 : Hid (Below w.heap.size w w) := Below.refl _ _
  by_cases l4 : bs.length ≤ 1048576
  case neg =>
    go_enter Try.func3, Try.ntmps3
    go_wp2
    go_ret
    exact ⟨rfl, HB0.out⟩
  case pos =>
    have l5 : bs.length ≤ 4000000 := by omega
    go_enter Try.func3, Try.ntmps3
    go_wp2_with fail
    refine (c_szIntSS xss _ 1048576 _ (by omega) (by omega) HS.out).mono ?_
    rintro e w' ⟨⟨r, rfl, hsz⟩, rfl⟩
    rcases hsz with rfl | ⟨hsz, hr⟩
    case inl =>
      go_wp2
      go_ret
      exact ⟨rfl, HB0.out⟩
    case inr =>
      have hr0 : ¬ r < 0 := by omega
      have hsh : Hid (ShortL xss) := shortL_of hsz (by omega)
      have hsl : xss.length ≤ 1048576 := by omega
      have hss : Hid (Short xss) := hsh.out.2
      have htt : totN xss xss.length ≤ 1048576 := by omega
      clear hr hsz
      obtain ⟨ys, bb, hyl, CS, CI⟩ : ∃ (ys : List Int) (bb : Bool), ys.length ≤ 4000000 ∧ Hid (∀ (p : Value) (pl : Value) (Bl : Nat) (u : World), SeenL u p xss → Row u Bl pl bs → Calls Try.prog 5 #[p, pl] u (GivesRow2 u ys bb)) ∧ Hid (∀ (p : Value) (pl : Value) (Bl : Nat) (u : World), SeenL u p xss → Row u Bl pl bs → Calls Try.prog 8 #[p, pl] u (GivesRow2 u ys bb)) :=
        ⟨fbA xss bs, pgB xss bs, fbA_len xss bs, fun p pl Bl u hu hul => c_FreeBlocksS xss bs p pl u hsh.out l5 hu hul.seen, fun p pl Bl u hu hul => c_FreeBlocks xss bs p pl u hsh.out l5 hu hul.seen⟩
      have hnb : (bb != bb) = false := by simp
      have hnq : ((1 + (ys.length : Int)) != (1 + (ys.length : Int))) = false := by simp
      have hpq : ¬ (1 + (ys.length : Int)) < 0 := by omega
      have hkq : ¬ (1 + (totN xss xss.length : Int) + (bs.length : Int)) < 0 := by omega
      go_wp2_with fail
      refine (c_toIntSS xss _ _ hsh.out (HS.out.below HB0.out)).mono ?_
      rintro e w1 ⟨Spv, rfl, hs, hb1⟩
      have HB1 : Hid (Below w.heap.size w w1) := HB0.out.trans (hb1.mono HB0.out.size)
      have SpP_1 := Lib.hid hs
      have USpP_1 : Hid (_ ≤ _) := Nat.le_refl w1.heap.size
      clear hs
      clear hb1
      go_wp2_with fail
      refine (c_toIntS bs _ _ l5 (HLi.out.below HB1.out)).mono ?_
      rintro e w2 ⟨Spl, rfl, hs, hb2⟩
      have HB2 : Hid (Below w.heap.size w w2) := HB1.out.trans (hb2.mono HB1.out.size)
      have SpP_2 := Lib.hid (SpP_1.out.below hb2 USpP_1.out)
      have USpP_2 := Lib.hid (Nat.le_trans USpP_1.out hb2.size)
      have SpL_2 := Lib.hid hs
      clear hs
      clear hb2
      go_wp2_with fail
      refine (CS.out _ _ _ _ SpP_2.out.seen SpL_2.out).mono ?_
      rintro e w3 ⟨Wv, rfl, hs, hb3⟩
      have HB3 : Hid (Below w.heap.size w w3) := HB2.out.trans (hb3.mono HB2.out.size)
      have SpP_3 := Lib.hid (SpP_2.out.below hb3 USpP_2.out)
      have USpP_3 := Lib.hid (Nat.le_trans USpP_2.out hb3.size)
      have SpL_3 := Lib.hid (SpL_2.out.below hb3)
      have WS_3 := Lib.hid hs
      clear hs
      clear hb3
      have XB_3 : Hid (w3.heap.size ≤ w3.heap.size) := Nat.le_refl _
      go_wp2_with fail
      refine (c_toIntSS xss _ _ hsh.out (HS.out.below HB3.out)).mono ?_
      rintro e w4 ⟨Xv, rfl, hs, hb4⟩
      have HB4 : Hid (Below w.heap.size w w4) := HB3.out.trans (hb4.mono HB3.out.size)
      have WS_4 := Lib.hid (WS_3.out.below hb4)
      have XB_4 := Lib.hid (Nat.le_trans XB_3.out hb4.size)
      have XP_4 := Lib.hid hs
      have UXP_4 : Hid (_ ≤ _) := Nat.le_refl w4.heap.size
      clear hs
      clear hb4
      go_wp2_with fail
      refine (c_toIntS bs _ _ l5 (HLi.out.below HB4.out)).mono ?_
      rintro e w5 ⟨Xl, rfl, hs, hb5⟩
      have HB5 : Hid (Below w.heap.size w w5) := HB4.out.trans (hb5.mono HB4.out.size)
      have WS_5 := Lib.hid (WS_4.out.below hb5)
      have XB_5 := Lib.hid (Nat.le_trans XB_4.out hb5.size)
      have XP_5 := Lib.hid (XP_4.out.below hb5 UXP_4.out)
      have UXP_5 := Lib.hid (Nat.le_trans UXP_4.out hb5.size)
      have XL_5 := Lib.hid hs
      clear hs
      clear hb5
      have GZ_5 : Hid (w5.heap.size ≤ w5.heap.size) := Nat.le_refl _
      go_wp2_with fail
      refine (CI.out _ _ _ _ XP_5.out.seen XL_5.out).mono ?_
      rintro e w6 ⟨Gv, rfl, hs, hb6⟩
      have HB6 : Hid (Below w.heap.size w w6) := HB5.out.trans (hb6.mono HB5.out.size)
      have WS_6 := Lib.hid (WS_5.out.below hb6)
      have XB_6 := Lib.hid (Nat.le_trans XB_5.out hb6.size)
      have XP_6 := Lib.hid (XP_5.out.below hb6 UXP_5.out)
      have UXP_6 := Lib.hid (Nat.le_trans UXP_5.out hb6.size)
      have XL_6 := Lib.hid (XL_5.out.below hb6)
      have GZ_6 := Lib.hid (Nat.le_trans GZ_5.out hb6.size)
      have GS_6 := Lib.hid hs
      clear hs
      clear hb6
      go_wp2_with fail
      refine (c_eqIntS ys _ _ _ _ _ hyl GS_6.out WS_6.out).mono ?_
      rintro e w7 ⟨rfl, hb7⟩
      have HB7 : Hid (Below w.heap.size w w7) := HB6.out.trans (hb7.mono HB6.out.size)
      have WS_7 := Lib.hid (WS_6.out.below hb7)
      have XB_7 := Lib.hid (Nat.le_trans XB_6.out hb7.size)
      have XP_7 := Lib.hid (XP_6.out.below hb7 UXP_6.out)
      have UXP_7 := Lib.hid (Nat.le_trans UXP_6.out hb7.size)
      have XL_7 := Lib.hid (XL_6.out.below hb7)
      have GZ_7 := Lib.hid (Nat.le_trans GZ_6.out hb7.size)
      have GS_7 := Lib.hid (GS_6.out.below hb7)
      clear hb7
      go_wp2_with fail
      refine (c_toIntSS xss _ _ hsh.out (HS.out.below HB7.out)).mono ?_
      rintro e w8 ⟨Yv, rfl, hs, hb8⟩
      have HB8 : Hid (Below w.heap.size w w8) := HB7.out.trans (hb8.mono HB7.out.size)
      have WS_8 := Lib.hid (WS_7.out.below hb8)
      have XB_8 := Lib.hid (Nat.le_trans XB_7.out hb8.size)
      have XP_8 := Lib.hid (XP_7.out.below hb8 UXP_7.out)
      have UXP_8 := Lib.hid (Nat.le_trans UXP_7.out hb8.size)
      have XL_8 := Lib.hid (XL_7.out.below hb8)
      have GZ_8 := Lib.hid (Nat.le_trans GZ_7.out hb8.size)
      have GS_8 := Lib.hid (GS_7.out.below hb8)
      have YP_8 := Lib.hid hs
      have UYP_8 : Hid (_ ≤ _) := Nat.le_refl w8.heap.size
      clear hs
      clear hb8
      go_wp2_with fail
      refine (c_eqIntSS xss _ _ _ _ _ _ _ hsl hss.out XP_8.out YP_8.out UXP_8.out UYP_8.out).mono ?_
      rintro e w9 ⟨rfl, hb9⟩
      have HB9 : Hid (Below w.heap.size w w9) := HB8.out.trans (hb9.mono HB8.out.size)
      have WS_9 := Lib.hid (WS_8.out.below hb9)
      have XB_9 := Lib.hid (Nat.le_trans XB_8.out hb9.size)
      have XP_9 := Lib.hid (XP_8.out.below hb9 UXP_8.out)
      have UXP_9 := Lib.hid (Nat.le_trans UXP_8.out hb9.size)
      have XL_9 := Lib.hid (XL_8.out.below hb9)
      have GZ_9 := Lib.hid (Nat.le_trans GZ_8.out hb9.size)
      have GS_9 := Lib.hid (GS_8.out.below hb9)
      have YP_9 := Lib.hid (YP_8.out.below hb9 UYP_8.out)
      have UYP_9 := Lib.hid (Nat.le_trans UYP_8.out hb9.size)
      clear hb9
      go_wp2_with fail
      refine (c_toIntS bs _ _ l5 (HLi.out.below HB9.out)).mono ?_
      rintro e w10 ⟨Yl, rfl, hs, hb10⟩
      have HB10 : Hid (Below w.heap.size w w10) := HB9.out.trans (hb10.mono HB9.out.size)
      have WS_10 := Lib.hid (WS_9.out.below hb10)
      have XB_10 := Lib.hid (Nat.le_trans XB_9.out hb10.size)
      have XP_10 := Lib.hid (XP_9.out.below hb10 UXP_9.out)
      have UXP_10 := Lib.hid (Nat.le_trans UXP_9.out hb10.size)
      have XL_10 := Lib.hid (XL_9.out.below hb10)
      have GZ_10 := Lib.hid (Nat.le_trans GZ_9.out hb10.size)
      have GS_10 := Lib.hid (GS_9.out.below hb10)
      have YL_10 := Lib.hid hs
      clear hs
      clear hb10
      go_wp2_with fail
      refine (c_eqIntS bs _ _ _ _ _ l5 XL_10.out YL_10.out).mono ?_
      rintro e w11 ⟨rfl, hb11⟩
      have HB11 : Hid (Below w.heap.size w w11) := HB10.out.trans (hb11.mono HB10.out.size)
      have WS_11 := Lib.hid (WS_10.out.below hb11)
      have XB_11 := Lib.hid (Nat.le_trans XB_10.out hb11.size)
      have XP_11 := Lib.hid (XP_10.out.below hb11 UXP_10.out)
      have UXP_11 := Lib.hid (Nat.le_trans UXP_10.out hb11.size)
      have XL_11 := Lib.hid (XL_10.out.below hb11)
      have GZ_11 := Lib.hid (Nat.le_trans GZ_10.out hb11.size)
      have GS_11 := Lib.hid (GS_10.out.below hb11)
      have YL_11 := Lib.hid (YL_10.out.below hb11)
      clear hb11
      go_wp2_with fail
      refine (c_markIntSS2 xss _ _ _ 1 _ hsl htt (by omega) (by omega) XP_11.out XB_11.out).mono ?_
      rintro e w12 ⟨rfl, _, hbm, ham⟩
      have HB12 : Hid (Below w.heap.size w w12) := HB11.out.trans (hbm.mono HB3.out.size)
      have XB_12 := Lib.hid (Nat.le_trans XB_11.out hbm.size)
      have GZ_12 := Lib.hid (Nat.le_trans GZ_11.out hbm.size)
      have WS_12 : Hid (Row w12 _ Wv ys) := own_stays WS_11.out fun k hk => hbm.block k (World.ownsRow.lt WS_3.out k hk).2
      have GS_12 : Hid (Row w12 _ Gv ys) := own_stays GS_11.out fun k hk => ham k (Nat.le_trans UXP_5.out (World.ownsRow.lt GS_11.out k hk).1) (World.ownsRow.lt GS_11.out k hk).2
      have XL_12 : Hid (Row w12 _ Xl bs) := own_stays XL_11.out fun k hk => ham k (Nat.le_trans UXP_4.out (World.ownsRow.lt XL_11.out k hk).1) (World.ownsRow.lt XL_11.out k hk).2
      clear hbm ham
      have PAL : Hid (Apart Wv.ownBlock Xl.ownBlock) := apart_of WS_3.out XL_12.out XB_4.out
      have PBL : Hid (Apart Gv.ownBlock Xl.ownBlock) := (apart_of XL_5.out GS_12.out (Nat.le_refl _)).symm
      go_wp2_with fail
      refine (c_markIntS bs _ _ (1 + (totN xss xss.length : Int)) _ l5 (by omega) (by omega) XL_12.out).mono ?_
      rintro e w13 ⟨rfl, _, hg⟩
      have HG13 := Lib.hid hg
      clear hg
      have HB13 : Hid (Below w.heap.size w w13) := HB12.out.grown HG13.out HB12.out.size (fun k hk => Nat.le_trans HB4.out.size (World.ownsRow.lt XL_12.out k hk).1)
      have XB_13 := Lib.hid (Nat.le_trans XB_12.out HG13.out.size)
      have GZ_13 := Lib.hid (Nat.le_trans GZ_12.out HG13.out.size)
      have WS_13 : Hid (Row w13 _ Wv ys) := World.ownsRow.kept WS_12.out HG13.out PAL.out
      have GS_13 : Hid (Row w13 _ Gv ys) := World.ownsRow.kept GS_12.out HG13.out PBL.out
      go_wp2_with fail
      refine (c_eqIntS ys _ _ _ _ _ hyl GS_13.out WS_13.out).mono ?_
      rintro e w14 ⟨rfl, hb14⟩
      have HB14 : Hid (Below w.heap.size w w14) := HB13.out.trans (hb14.mono HB13.out.size)
      have WS_14 := Lib.hid (WS_13.out.below hb14)
      have GS_14 := Lib.hid (GS_13.out.below hb14)
      have XB_14 := Lib.hid (Nat.le_trans XB_13.out hb14.size)
      have GZ_14 := Lib.hid (Nat.le_trans GZ_13.out hb14.size)
      clear hb14
      go_wp2_with fail
      have PC : Hid (Apart Wv.ownBlock Gv.ownBlock) := apart_of WS_3.out GS_14.out XB_5.out
      refine (c_markIntS ys _ _ 1 _ hyl (by omega) (by omega) GS_14.out).mono ?_
      rintro e w15 ⟨rfl, hr, hg⟩
      have GS_15 := Lib.hid hr
      have HB15 : Hid (Below w.heap.size w w15) := HB14.out.grown hg HB14.out.size (fun k hk => Nat.le_trans HB5.out.size (World.ownsRow.lt GS_14.out k hk).1)
      have WS_15 : Hid (Row w15 _ Wv ys) := World.ownsRow.kept WS_14.out hg PC.out
      clear hr hg
      go_wp2_with fail
      refine (c_heldIntS Gv _ ys.length 1 _ hyl (by omega) (by omega) GS_15.out).mono ?_
      rintro e w' ⟨rfl, rfl⟩
      go_wp2_with fail
      refine (c_toIntSS xss _ _ hsh.out (HS.out.below HB15.out)).mono ?_
      rintro e w16 ⟨Yv, rfl, hs, hb16⟩
      have HB16 : Hid (Below w.heap.size w w16) := HB15.out.trans (hb16.mono HB15.out.size)
      have WS_16 := Lib.hid (WS_15.out.below hb16)
      have GS_16 := Lib.hid (GS_15.out.below hb16)
      have YP_16 := Lib.hid hs
      have UYP_16 : Hid (_ ≤ _) := Nat.le_refl w16.heap.size
      clear hs
      clear hb16
      go_wp2_with fail
      refine (c_toIntS bs _ _ l5 (HLi.out.below HB16.out)).mono ?_
      rintro e w17 ⟨Yl, rfl, hs, hb17⟩
      have HB17 : Hid (Below w.heap.size w w17) := HB16.out.trans (hb17.mono HB16.out.size)
      have WS_17 := Lib.hid (WS_16.out.below hb17)
      have GS_17 := Lib.hid (GS_16.out.below hb17)
      have YP_17 := Lib.hid (YP_16.out.below hb17 UYP_16.out)
      have UYP_17 := Lib.hid (Nat.le_trans UYP_16.out hb17.size)
      have YL_17 := Lib.hid hs
      clear hs
      clear hb17
      go_wp2_with fail
      refine (CI.out _ _ _ _ YP_17.out.seen YL_17.out).mono ?_
      rintro e w18 ⟨Yv, rfl, hs, hb18⟩
      have HB18 : Hid (Below w.heap.size w w18) := HB17.out.trans (hb18.mono HB17.out.size)
      have WS_18 := Lib.hid (WS_17.out.below hb18)
      have GS_18 := Lib.hid (GS_17.out.below hb18)
      have YP_18 := Lib.hid (YP_17.out.below hb18 UYP_17.out)
      have UYP_18 := Lib.hid (Nat.le_trans UYP_17.out hb18.size)
      have YL_18 := Lib.hid (YL_17.out.below hb18)
      have YS_18 := Lib.hid hs
      clear hs
      clear hb18
      go_wp2_with fail
      refine (c_eqIntS ys _ _ _ _ _ hyl YS_18.out WS_18.out).mono ?_
      rintro e w19 ⟨rfl, hb19⟩
      have HB19 : Hid (Below w.heap.size w w19) := HB18.out.trans (hb19.mono HB18.out.size)
      have WS_19 := Lib.hid (WS_18.out.below hb19)
      have GS_19 := Lib.hid (GS_18.out.below hb19)
      have YP_19 := Lib.hid (YP_18.out.below hb19 UYP_18.out)
      have UYP_19 := Lib.hid (Nat.le_trans UYP_18.out hb19.size)
      have YL_19 := Lib.hid (YL_18.out.below hb19)
      have YS_19 := Lib.hid (YS_18.out.below hb19)
      clear hb19
      go_wp2_with fail
      refine (c_heldIntS Gv _ ys.length 1 _ hyl (by omega) (by omega) GS_19.out).mono ?_
      rintro e w' ⟨rfl, rfl⟩
      go_wp2
      go_ret
      exact ⟨rfl, HB19.out⟩

/-! ### The row's step -/
theorem laid : laidOutB Try.prog = true := by kernel_rfl
set_option maxRecDepth 100000 in
set_option maxHeartbeats 8000000 in
theorem lifted (os : Os) (started : os.Started) (H : Type) (enc : TypeId × Value → H) :
    ReturnsInHanded {} Try.checked os 3 .any (Rows.fnExactFreeBlocksSpec.pre6 enc Try.prog Try.f3 Rows.fnExactFreeBlocksRow.domain false) (Rows.fnExactFreeBlocksSpec.post enc Try.prog Try.f3 false true false false) := by
  refine returnsInHanded_of_change (C := Try.checked) own started (by kernel_rfl) Try.func3
    (ChangeSpec.witness6 (enc := enc) (C := Try.checked) false ⟨#[], #[.slice none 0 0, .slice none 0 0], []⟩ 8 (by kernel_rfl) (by kernel_rfl) (by kernel_rfl) (by kernel_rfl)) ?_
  intro W base args ds gs before hval0 hW hcnd _
  have hval : ∀ (j : Nat) t v, Try.f3.params[j]? = some t → args[j]? = some v → Value.okWide Try.prog W .any base t v := hval0
  have hW' := hW
  have lts : ∀ x ∈ before, x.block < W.heap.size := fun x hx => by simpa using hW'.lt x hx
  obtain ⟨p, q, hA0, hV, rfl, hfz, hnd⟩ := hW
  have hA : DataW.TrodAll enc Try.prog W 0 (fun _ => true) true Try.f3.params.toList args.toList ds p := hA0
  rw [Try.params3] at hA hval
  obtain ⟨v0, vs0, d0, ds0, p0, q0, hargs, rfl, rfl, h0, r0⟩ := trodAll_cons hA
  obtain ⟨v1, vs1, d1, ds1, p1, q1, rfl, rfl, rfl, h1, r1⟩ := trodAll_cons r0
  obtain ⟨rfl, rfl, rfl⟩ := trodAll_nil r1
  obtain rfl : args = #[v0, v1] := by cases args; simp_all
  obtain ⟨rfl, rfl⟩ := trodVars_none hV
  have k0 := h0
  obtain ⟨xss, hR⟩ := open_rows (hval 0 22 v0 rfl rfl) h0
  have k1 := h1
  obtain ⟨bs, hL⟩ := open_list (hval 1 23 v1 rfl rfl) h1
  clear hA0 hval0
  simp only [List.append_nil] at hW' lts
  refine (walk xss v0 bs v1 W hR hL).mono fun e W' ⟨he, bel⟩ => ?_
  subst he
  exact ⟨_, rfl, _, _, _, [], _, [], hW', trodAll_mk1 (shut_bool Try.underlying4 _), (trodAll_cons_mk (Below.trod laid (by kernel_rfl) (of_decide_eq_true (by kernel_rfl)) k0 bel (fun x hx => lts x (by simp [hx]))) (trodAll_cons_mk (Below.trod laid (by kernel_rfl) (of_decide_eq_true (by kernel_rfl)) k1 bel (fun x hx => lts x (by simp [hx]))) trodAll_mk0)), rfl, bel.frame _, fun h => by cases h⟩

set_option maxHeartbeats 8000000 in
theorem closed : joinedFacts Try.prog 3 Try.f3 Rows.fnExactFreeBlocksSpec Rows.fnExactFreeBlocksRow = true := by
  unfold joinedFacts
  simp only [Bool.and_eq_true]
  refine ⟨⟨⟨⟨⟨⟨⟨⟨⟨⟨⟨⟨⟨⟨⟨⟨⟨⟨⟨⟨⟨⟨⟨⟨⟨⟨⟨⟨⟨⟨⟨?_, ?_⟩, ?_⟩, ?_⟩, ?_⟩, ?_⟩, ?_⟩, ?_⟩, ?_⟩, ?_⟩, ?_⟩, ?_⟩, ?_⟩, ?_⟩, ?_⟩, ?_⟩, ?_⟩, ?_⟩, ?_⟩, ?_⟩, ?_⟩, ?_⟩, ?_⟩, ?_⟩, ?_⟩, ?_⟩, ?_⟩, ?_⟩, ?_⟩, ?_⟩, ?_⟩, ?_⟩
  · as_aux_lemma => kernel_rfl
  · as_aux_lemma => kernel_rfl
  · as_aux_lemma => kernel_rfl
  · as_aux_lemma => kernel_rfl
  · as_aux_lemma => kernel_rfl
  · as_aux_lemma => kernel_rfl
  · as_aux_lemma => kernel_rfl
  · as_aux_lemma => kernel_rfl
  · as_aux_lemma => kernel_rfl
  · as_aux_lemma => kernel_rfl
  · as_aux_lemma => kernel_rfl
  · as_aux_lemma => kernel_rfl
  · as_aux_lemma => kernel_rfl
  · as_aux_lemma => kernel_rfl
  · as_aux_lemma => kernel_rfl
  · as_aux_lemma => kernel_rfl
  · as_aux_lemma => kernel_rfl
  · as_aux_lemma => kernel_rfl
  · as_aux_lemma => kernel_rfl
  · as_aux_lemma => kernel_rfl
  · as_aux_lemma => kernel_rfl
  · as_aux_lemma => kernel_rfl
  · as_aux_lemma => kernel_rfl
  · as_aux_lemma => kernel_rfl
  · as_aux_lemma => kernel_rfl
  · exact jf_may
  · exact (congrArg (fun b => (Rows.fnExactFreeBlocksRow.lifted == b)) jf_lifts).trans (by kernel_rfl)
  · exact (congrArg (fun o => (o == some Rows.fnExactFreeBlocksRow.make)) jf_make).trans (by kernel_rfl)
  · as_aux_lemma => kernel_rfl
  · as_aux_lemma => kernel_rfl
  · as_aux_lemma => kernel_rfl
  · as_aux_lemma => kernel_rfl

set_option maxHeartbeats 8000000 in
theorem over : Rows.fnExactFreeBlocksRow.holds Try.pinned (OpenSpec.ofChange Rows.fnExactFreeBlocksSpec) :=
  OpenClaim.holds_of_wide 3 Try.f3 rfl rfl rfl rfl rfl rfl rfl ⟨rfl, rfl, rfl, rfl, rfl⟩ rfl rfl rfl rfl rfl (by kernel_rfl) Try.func3 closed
    (of_decide_eq_true (by kernel_rfl)) (by unfold Func.isWrapper; first | (rw [if_pos (by decide +kernel)]; kernel_rfl) | (rw [if_neg (by decide +kernel)]; exact ⟨rfl, rfl⟩))
    (fun os started H enc _ => lifted os started H enc)
end Go.Proofs.Ytdgkgnlilcbggaa.fnExactFreeBlocksProof
namespace Go.Proofs.Ytdgkgnlilcbggaa
theorem fnExactFreeBlocks_holds : Rows.FnExactFreeBlocksSaid := fnExactFreeBlocksProof.over
#print axioms fnExactFreeBlocks_holds
end Go.Proofs.Ytdgkgnlilcbggaa
