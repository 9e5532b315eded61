/-
  The law FnExactFillPits holds: for all arguments, FillPits answers as its model does, its answer owns its memory, and the arguments read as they did. No conditions.
-/
import Derived.Test.YtlgbhemjckahhaaRows
import Derived.Test.YtlgbhemjckahhaaTP2
import Derived.Test.YtlgbhemjckahhaaN0
import Derived.Test.YtlgbhemjckahhaaN2
import Derived.Test.YtlgbhemjckahhaaR2
import Derived.Test.YtlgbhemjckahhaaR3
import Derived.Test.YtlgbhemjckahhaaR4
import Derived.Test.YtlgbhemjckahhaaOG
import Derived.Test.YtlgbhemjckahhaaJF
import Derived.WalkKit
import Derived.Lib.Hide
import Derived.Deep.DeepCutAuto
import Derived.ProofKit
import Derived.OpenShut
import Derived.ShutString
import Derived.ChangeOld
import Derived.Below
import Derived.Carry
import Derived.Deep.RegionWith
import Derived.Lib.SmallJoins
namespace Go.Proofs.Ytlgbhemjckahhaa.fnExactFillPitsProof
open Go.ChangeShapes Go.WideShapes Go.ChangeAt Go.RowKit Go.Joins
set_option linter.unusedVariables false

theorem own : ownKnob Try.prog.godebug = none := by kernel_rfl

/-! ### The walk -/
set_option maxHeartbeats 4000000 in
set_option maxRecDepth 100000 in
theorem walk (xss : List (List Int)) (v0 : Value) (pss : List (List Int)) (v1 : Value) (w : World) (hR : SeenL w v0 xss) (hR2 : SeenL w v1 pss) :
    Calls Try.prog 11 #[v0, v1] w fun e w' => e = .returned (.bool true) ∧ Below w.heap.size w w' := by
  have HS := Lib.hid hR
  obtain ⟨A, c, rfl, hm⟩ := hR.shape
  clear hR hm
  have HS2 := Lib.hid hR2
  obtain ⟨A9, c9, rfl, hm9⟩ := hR2.shape
  clear hR2 hm9
  have HB0 : Hid (Below w.heap.size w w) := Below.refl _ _
  go_enter Try.func11, Try.ntmps11
  go_wp2_with fail
  refine (c_szIntSS xss _ 1048576 _ (by omega) (by omega) (HS.out.below HB0.out)).mono ?_
  rintro e w' ⟨⟨r, rfl, hsz⟩, rfl⟩
  rcases hsz with rfl | ⟨hsz, hr⟩
  case inl =>
    go_wp2
    go_ret
    exact ⟨rfl, HB0.out⟩
  case inr =>
    have hr0 : ¬ r < 0 := by omega
    have hsh : Hid (ShortL xss) := shortL_of hsz (by omega)
    have hsl : xss.length ≤ 1048576 := by omega
    have hss : Hid (Short xss) := hsh.out.2
    have htt : totN xss xss.length ≤ 1048576 := by omega
    have HRr := Lib.hid hr
    have hr1 : r ≤ 1048576 := by omega
    clear hr hsz
    go_wp2_with fail
    refine (c_szIntSS pss _ r _ (by omega) (by omega) (HS2.out.below HB0.out)).mono ?_
    rintro e w' ⟨⟨r2, rfl, hsz2⟩, rfl⟩
    rcases hsz2 with rfl | ⟨hsz2, hr2⟩
    case inl =>
      go_wp2
      go_ret
      exact ⟨rfl, HB0.out⟩
    case inr =>
      have hr20 : ¬ r2 < 0 := by omega
      have hsh2 : Hid (ShortL pss) := shortL_of hsz2 (by omega)
      have hsl2 : pss.length ≤ 1048576 := by omega
      have hss2 : Hid (Short pss) := hsh2.out.2
      have htt2 : totN pss pss.length ≤ 1048576 := by omega
      have htq : totN xss xss.length + totN pss pss.length ≤ 1048576 := by have := HRr.out; omega
      clear hr2 hsz2
      obtain ⟨yss, bb, hxl, hxs, hxt, CS, CI⟩ : ∃ (yss : List (List Int)) (bb : Bool), yss.length ≤ 1048576 ∧ Hid (Short yss) ∧ totN yss yss.length ≤ 1048576 ∧ Hid (∀ (p : Value) (q : Value) (B9 U9 : Nat) (u : World), SeenL u p xss → Rows u B9 U9 q pss → Calls Try.prog 42 #[p, q] u (GivesRows2 u yss bb)) ∧ Hid (∀ (p : Value) (q : Value) (B9 U9 : Nat) (u : World), SeenL u p xss → Rows u B9 U9 q pss → Calls Try.prog 43 #[p, q] u (GivesRows2 u yss bb)) :=
        ⟨fiA xss pss, fiB xss pss, (fi_facts xss pss).1, (fi_facts xss pss).2.1, (fi_facts xss pss).2.2, fun p q B9 U9 u hu hu9 => c_FillPitsS xss pss p q u hsh.out hsh2.out hu hu9.seen, fun p q B9 U9 u hu hu9 => c_FillPits xss pss p q u hsh.out hsh2.out hu hu9.seen⟩
      obtain ⟨tt, htq⟩ : ∃ tt, totN yss yss.length = tt := ⟨_, rfl⟩
      have HTT := Lib.hid htq
      rw [htq] at hxt
      clear htq
      have hnb : (bb != bb) = false := by simp
      have hnq : ((1 + (tt : Int)) != (1 + (tt : Int))) = false := by simp
      have hpq : ¬ (1 + (tt : Int)) < 0 := by omega
      have HM : Hid (∀ (v : Value) (B U : Nat) (u : World), Rows u B U v yss → B ≤ u.heap.size → Calls Try.prog 19 #[v, .int .i64 1] u fun e w' => e = .returned (.int .i64 (1 + (tt : Int))) ∧ Rows w' B U v (marksTo 1 yss yss.length) ∧ Below B u w') := fun v B U u h hB => by
        rw [← HTT.out]; exact c_markIntSS yss v B U 1 u hxl (by rw [HTT.out]; exact hxt) (by omega) (by omega) h hB
      have HD : Hid (∀ (v : Value) (B U : Nat) (u : World), Rows u B U v (marksTo 1 yss yss.length) → Calls Try.prog 20 #[v, .int .i64 1] u fun e w' => e = .returned (.int .i64 (1 + (tt : Int))) ∧ u = w') := fun v B U u h => by
        rw [← HTT.out]; exact c_heldIntSS yss v B U 1 u hxl (by rw [HTT.out]; exact hxt) (by omega) (by omega) h
      generalize marksTo 1 yss yss.length = MK at *
      have hkq : ¬ (1 + (totN xss xss.length : Int) + (totN pss pss.length : Int)) < 0 := by omega
      go_wp2_with fail
      refine (c_toIntSS xss _ _ hsh.out (HS.out.below HB0.out)).mono ?_
      rintro e w1 ⟨Spv, rfl, hs, hb1⟩
      have HB1 : Hid (Below w.heap.size w w1) := HB0.out.trans (hb1.mono HB0.out.size)
      have SpP_1 := Lib.hid hs
      have USpP_1 : Hid (_ ≤ _) := Nat.le_refl w1.heap.size
      clear hs
      clear hb1
      go_wp2_with fail
      refine (c_toIntSS pss _ _ hsh2.out (HS2.out.below HB1.out)).mono ?_
      rintro e w2 ⟨Spq, rfl, hs, hb2⟩
      have HB2 : Hid (Below w.heap.size w w2) := HB1.out.trans (hb2.mono HB1.out.size)
      have SpP_2 := Lib.hid (SpP_1.out.below hb2 USpP_1.out)
      have USpP_2 := Lib.hid (Nat.le_trans USpP_1.out hb2.size)
      have SpQ_2 := Lib.hid hs
      have USpQ_2 : Hid (_ ≤ _) := Nat.le_refl w2.heap.size
      clear hs
      clear hb2
      go_wp2_with fail
      refine (CS.out _ _ _ _ _ SpP_2.out.seen SpQ_2.out).mono ?_
      rintro e w3 ⟨Wv, rfl, hs, hb3⟩
      have HB3 : Hid (Below w.heap.size w w3) := HB2.out.trans (hb3.mono HB2.out.size)
      have SpP_3 := Lib.hid (SpP_2.out.below hb3 USpP_2.out)
      have USpP_3 := Lib.hid (Nat.le_trans USpP_2.out hb3.size)
      have SpQ_3 := Lib.hid (SpQ_2.out.below hb3 USpQ_2.out)
      have USpQ_3 := Lib.hid (Nat.le_trans USpQ_2.out hb3.size)
      have WS_3 := Lib.hid hs
      have UWS_3 : Hid (_ ≤ _) := Nat.le_refl w3.heap.size
      clear hs
      clear hb3
      have XB_3 : Hid (w3.heap.size ≤ w3.heap.size) := Nat.le_refl _
      go_wp2_with fail
      refine (c_toIntSS xss _ _ hsh.out (HS.out.below HB3.out)).mono ?_
      rintro e w4 ⟨Xv, rfl, hs, hb4⟩
      have HB4 : Hid (Below w.heap.size w w4) := HB3.out.trans (hb4.mono HB3.out.size)
      have WS_4 := Lib.hid (WS_3.out.below hb4 UWS_3.out)
      have UWS_4 := Lib.hid (Nat.le_trans UWS_3.out hb4.size)
      have XB_4 := Lib.hid (Nat.le_trans XB_3.out hb4.size)
      have XP_4 := Lib.hid hs
      have UXP_4 : Hid (_ ≤ _) := Nat.le_refl w4.heap.size
      clear hs
      clear hb4
      have QB_4 : Hid (w4.heap.size ≤ w4.heap.size) := Nat.le_refl _
      go_wp2_with fail
      refine (c_toIntSS pss _ _ hsh2.out (HS2.out.below HB4.out)).mono ?_
      rintro e w5 ⟨Xq, rfl, hs, hb5⟩
      have HB5 : Hid (Below w.heap.size w w5) := HB4.out.trans (hb5.mono HB4.out.size)
      have WS_5 := Lib.hid (WS_4.out.below hb5 UWS_4.out)
      have UWS_5 := Lib.hid (Nat.le_trans UWS_4.out hb5.size)
      have XB_5 := Lib.hid (Nat.le_trans XB_4.out hb5.size)
      have XP_5 := Lib.hid (XP_4.out.below hb5 UXP_4.out)
      have UXP_5 := Lib.hid (Nat.le_trans UXP_4.out hb5.size)
      have QB_5 := Lib.hid (Nat.le_trans QB_4.out hb5.size)
      have XQ_5 := Lib.hid hs
      have UXQ_5 : Hid (_ ≤ _) := Nat.le_refl w5.heap.size
      clear hs
      clear hb5
      have GZ_5 : Hid (w5.heap.size ≤ w5.heap.size) := Nat.le_refl _
      go_wp2_with fail
      refine (CI.out _ _ _ _ _ XP_5.out.seen XQ_5.out).mono ?_
      rintro e w6 ⟨Gv, rfl, hs, hb6⟩
      have HB6 : Hid (Below w.heap.size w w6) := HB5.out.trans (hb6.mono HB5.out.size)
      have WS_6 := Lib.hid (WS_5.out.below hb6 UWS_5.out)
      have UWS_6 := Lib.hid (Nat.le_trans UWS_5.out hb6.size)
      have XB_6 := Lib.hid (Nat.le_trans XB_5.out hb6.size)
      have XP_6 := Lib.hid (XP_5.out.below hb6 UXP_5.out)
      have UXP_6 := Lib.hid (Nat.le_trans UXP_5.out hb6.size)
      have QB_6 := Lib.hid (Nat.le_trans QB_5.out hb6.size)
      have XQ_6 := Lib.hid (XQ_5.out.below hb6 UXQ_5.out)
      have UXQ_6 := Lib.hid (Nat.le_trans UXQ_5.out hb6.size)
      have GZ_6 := Lib.hid (Nat.le_trans GZ_5.out hb6.size)
      have GS_6 := Lib.hid hs
      have UGS_6 : Hid (_ ≤ _) := Nat.le_refl w6.heap.size
      clear hs
      clear hb6
      go_wp2_with fail
      refine (c_eqIntSS yss _ _ _ _ _ _ _ hxl hxs.out GS_6.out WS_6.out UGS_6.out UWS_6.out).mono ?_
      rintro e w7 ⟨rfl, hb7⟩
      have HB7 : Hid (Below w.heap.size w w7) := HB6.out.trans (hb7.mono HB6.out.size)
      have WS_7 := Lib.hid (WS_6.out.below hb7 UWS_6.out)
      have UWS_7 := Lib.hid (Nat.le_trans UWS_6.out hb7.size)
      have XB_7 := Lib.hid (Nat.le_trans XB_6.out hb7.size)
      have XP_7 := Lib.hid (XP_6.out.below hb7 UXP_6.out)
      have UXP_7 := Lib.hid (Nat.le_trans UXP_6.out hb7.size)
      have QB_7 := Lib.hid (Nat.le_trans QB_6.out hb7.size)
      have XQ_7 := Lib.hid (XQ_6.out.below hb7 UXQ_6.out)
      have UXQ_7 := Lib.hid (Nat.le_trans UXQ_6.out hb7.size)
      have GZ_7 := Lib.hid (Nat.le_trans GZ_6.out hb7.size)
      have GS_7 := Lib.hid (GS_6.out.below hb7 UGS_6.out)
      have UGS_7 := Lib.hid (Nat.le_trans UGS_6.out hb7.size)
      clear hb7
      go_wp2_with fail
      refine (c_toIntSS xss _ _ hsh.out (HS.out.below HB7.out)).mono ?_
      rintro e w8 ⟨Yv, rfl, hs, hb8⟩
      have HB8 : Hid (Below w.heap.size w w8) := HB7.out.trans (hb8.mono HB7.out.size)
      have WS_8 := Lib.hid (WS_7.out.below hb8 UWS_7.out)
      have UWS_8 := Lib.hid (Nat.le_trans UWS_7.out hb8.size)
      have XB_8 := Lib.hid (Nat.le_trans XB_7.out hb8.size)
      have XP_8 := Lib.hid (XP_7.out.below hb8 UXP_7.out)
      have UXP_8 := Lib.hid (Nat.le_trans UXP_7.out hb8.size)
      have QB_8 := Lib.hid (Nat.le_trans QB_7.out hb8.size)
      have XQ_8 := Lib.hid (XQ_7.out.below hb8 UXQ_7.out)
      have UXQ_8 := Lib.hid (Nat.le_trans UXQ_7.out hb8.size)
      have GZ_8 := Lib.hid (Nat.le_trans GZ_7.out hb8.size)
      have GS_8 := Lib.hid (GS_7.out.below hb8 UGS_7.out)
      have UGS_8 := Lib.hid (Nat.le_trans UGS_7.out hb8.size)
      have YP_8 := Lib.hid hs
      have UYP_8 : Hid (_ ≤ _) := Nat.le_refl w8.heap.size
      clear hs
      clear hb8
      go_wp2_with fail
      refine (c_eqIntSS xss _ _ _ _ _ _ _ hsl hss.out XP_8.out YP_8.out UXP_8.out UYP_8.out).mono ?_
      rintro e w9 ⟨rfl, hb9⟩
      have HB9 : Hid (Below w.heap.size w w9) := HB8.out.trans (hb9.mono HB8.out.size)
      have WS_9 := Lib.hid (WS_8.out.below hb9 UWS_8.out)
      have UWS_9 := Lib.hid (Nat.le_trans UWS_8.out hb9.size)
      have XB_9 := Lib.hid (Nat.le_trans XB_8.out hb9.size)
      have XP_9 := Lib.hid (XP_8.out.below hb9 UXP_8.out)
      have UXP_9 := Lib.hid (Nat.le_trans UXP_8.out hb9.size)
      have QB_9 := Lib.hid (Nat.le_trans QB_8.out hb9.size)
      have XQ_9 := Lib.hid (XQ_8.out.below hb9 UXQ_8.out)
      have UXQ_9 := Lib.hid (Nat.le_trans UXQ_8.out hb9.size)
      have GZ_9 := Lib.hid (Nat.le_trans GZ_8.out hb9.size)
      have GS_9 := Lib.hid (GS_8.out.below hb9 UGS_8.out)
      have UGS_9 := Lib.hid (Nat.le_trans UGS_8.out hb9.size)
      have YP_9 := Lib.hid (YP_8.out.below hb9 UYP_8.out)
      have UYP_9 := Lib.hid (Nat.le_trans UYP_8.out hb9.size)
      clear hb9
      go_wp2_with fail
      refine (c_toIntSS pss _ _ hsh2.out (HS2.out.below HB9.out)).mono ?_
      rintro e w10 ⟨Yq, rfl, hs, hb10⟩
      have HB10 : Hid (Below w.heap.size w w10) := HB9.out.trans (hb10.mono HB9.out.size)
      have WS_10 := Lib.hid (WS_9.out.below hb10 UWS_9.out)
      have UWS_10 := Lib.hid (Nat.le_trans UWS_9.out hb10.size)
      have XB_10 := Lib.hid (Nat.le_trans XB_9.out hb10.size)
      have XP_10 := Lib.hid (XP_9.out.below hb10 UXP_9.out)
      have UXP_10 := Lib.hid (Nat.le_trans UXP_9.out hb10.size)
      have QB_10 := Lib.hid (Nat.le_trans QB_9.out hb10.size)
      have XQ_10 := Lib.hid (XQ_9.out.below hb10 UXQ_9.out)
      have UXQ_10 := Lib.hid (Nat.le_trans UXQ_9.out hb10.size)
      have GZ_10 := Lib.hid (Nat.le_trans GZ_9.out hb10.size)
      have GS_10 := Lib.hid (GS_9.out.below hb10 UGS_9.out)
      have UGS_10 := Lib.hid (Nat.le_trans UGS_9.out hb10.size)
      have YQ_10 := Lib.hid hs
      have UYQ_10 : Hid (_ ≤ _) := Nat.le_refl w10.heap.size
      clear hs
      clear hb10
      go_wp2_with fail
      refine (c_eqIntSS pss _ _ _ _ _ _ _ hsl2 hss2.out XQ_10.out YQ_10.out UXQ_10.out UYQ_10.out).mono ?_
      rintro e w11 ⟨rfl, hb11⟩
      have HB11 : Hid (Below w.heap.size w w11) := HB10.out.trans (hb11.mono HB10.out.size)
      have WS_11 := Lib.hid (WS_10.out.below hb11 UWS_10.out)
      have UWS_11 := Lib.hid (Nat.le_trans UWS_10.out hb11.size)
      have XB_11 := Lib.hid (Nat.le_trans XB_10.out hb11.size)
      have XP_11 := Lib.hid (XP_10.out.below hb11 UXP_10.out)
      have UXP_11 := Lib.hid (Nat.le_trans UXP_10.out hb11.size)
      have QB_11 := Lib.hid (Nat.le_trans QB_10.out hb11.size)
      have XQ_11 := Lib.hid (XQ_10.out.below hb11 UXQ_10.out)
      have UXQ_11 := Lib.hid (Nat.le_trans UXQ_10.out hb11.size)
      have GZ_11 := Lib.hid (Nat.le_trans GZ_10.out hb11.size)
      have GS_11 := Lib.hid (GS_10.out.below hb11 UGS_10.out)
      have UGS_11 := Lib.hid (Nat.le_trans UGS_10.out hb11.size)
      have YQ_11 := Lib.hid (YQ_10.out.below hb11 UYQ_10.out)
      have UYQ_11 := Lib.hid (Nat.le_trans UYQ_10.out hb11.size)
      clear hb11
      go_wp2_with fail
      refine (c_markIntSS2 xss _ _ _ 1 _ hsl htt (by omega) (by omega) XP_11.out XB_11.out).mono ?_
      rintro e w12 ⟨rfl, _, hbm, ham⟩
      have HB12 : Hid (Below w.heap.size w w12) := HB11.out.trans (hbm.mono HB3.out.size)
      have XB_12 := Lib.hid (Nat.le_trans XB_11.out hbm.size)
      have GZ_12 := Lib.hid (Nat.le_trans GZ_11.out hbm.size)
      have WS_12 := Lib.hid (WS_11.out.below hbm UWS_3.out)
      have UWS_12 := Lib.hid (Nat.le_trans UWS_11.out hbm.size)
      have GS_12 := Lib.hid (GS_11.out.stays fun k hk hu => ham k (Nat.le_trans UXP_5.out hk) (Nat.lt_of_lt_of_le hu UGS_11.out))
      have UGS_12 := Lib.hid (Nat.le_trans UGS_11.out hbm.size)
      have XQ_12 := Lib.hid (XQ_11.out.stays fun k hk hu => ham k (Nat.le_trans UXP_4.out hk) (Nat.lt_of_lt_of_le hu UXQ_11.out))
      have UXQ_12 := Lib.hid (Nat.le_trans UXQ_11.out hbm.size)
      have QB_12 := Lib.hid (Nat.le_trans QB_11.out hbm.size)
      clear hbm ham
      go_wp2_with fail
      refine (c_markIntSS2 pss _ _ _ (1 + (totN xss xss.length : Int)) _ hsl2 htt2 (by omega) (by omega) XQ_12.out QB_12.out).mono ?_
      rintro e w13 ⟨rfl, _, hbm, ham⟩
      have HB13 : Hid (Below w.heap.size w w13) := HB12.out.trans (hbm.mono HB4.out.size)
      have XB_13 := Lib.hid (Nat.le_trans XB_12.out hbm.size)
      have GZ_13 := Lib.hid (Nat.le_trans GZ_12.out hbm.size)
      have WS_13 := Lib.hid (WS_12.out.below hbm (Nat.le_trans UWS_3.out XB_4.out))
      have UWS_13 := Lib.hid (Nat.le_trans UWS_12.out hbm.size)
      have GS_13 := Lib.hid (GS_12.out.stays fun k hk hu => ham k (Nat.le_trans UXQ_5.out hk) (Nat.lt_of_lt_of_le hu UGS_12.out))
      have UGS_13 := Lib.hid (Nat.le_trans UGS_12.out hbm.size)
      clear hbm ham
      go_wp2_with fail
      refine (c_eqIntSS yss _ _ _ _ _ _ _ hxl hxs.out GS_13.out WS_13.out UGS_13.out UWS_13.out).mono ?_
      rintro e w14 ⟨rfl, hb14⟩
      have HB14 : Hid (Below w.heap.size w w14) := HB13.out.trans (hb14.mono HB13.out.size)
      have WS_14 := Lib.hid (WS_13.out.below hb14 UWS_13.out)
      have UWS_14 := Lib.hid (Nat.le_trans UWS_13.out hb14.size)
      have GS_14 := Lib.hid (GS_13.out.below hb14 UGS_13.out)
      have UGS_14 := Lib.hid (Nat.le_trans UGS_13.out hb14.size)
      have XB_14 := Lib.hid (Nat.le_trans XB_13.out hb14.size)
      have GZ_14 := Lib.hid (Nat.le_trans GZ_13.out hb14.size)
      clear hb14
      go_wp2_with fail
      refine (HM.out _ _ _ _ GS_14.out GZ_14.out).mono ?_
      rintro e w15 ⟨rfl, hr, hbm⟩
      have GS_15 := Lib.hid hr
      have UGS_15 := Lib.hid (Nat.le_trans UGS_14.out hbm.size)
      have HB15 : Hid (Below w.heap.size w w15) := HB14.out.trans (hbm.mono HB5.out.size)
      have WS_15 := Lib.hid (WS_14.out.below hbm (Nat.le_trans UWS_3.out XB_5.out))
      have UWS_15 := Lib.hid (Nat.le_trans UWS_14.out hbm.size)
      clear hr hbm
      go_wp2_with fail
      refine (HD.out _ _ _ _ GS_15.out).mono ?_
      rintro e w' ⟨rfl, rfl⟩
      go_wp2_with fail
      refine (c_toIntSS xss _ _ hsh.out (HS.out.below HB15.out)).mono ?_
      rintro e w16 ⟨Yv, rfl, hs, hb16⟩
      have HB16 : Hid (Below w.heap.size w w16) := HB15.out.trans (hb16.mono HB15.out.size)
      have WS_16 := Lib.hid (WS_15.out.below hb16 UWS_15.out)
      have UWS_16 := Lib.hid (Nat.le_trans UWS_15.out hb16.size)
      have GS_16 := Lib.hid (GS_15.out.below hb16 UGS_15.out)
      have UGS_16 := Lib.hid (Nat.le_trans UGS_15.out hb16.size)
      have YP_16 := Lib.hid hs
      have UYP_16 : Hid (_ ≤ _) := Nat.le_refl w16.heap.size
      clear hs
      clear hb16
      go_wp2_with fail
      refine (c_toIntSS pss _ _ hsh2.out (HS2.out.below HB16.out)).mono ?_
      rintro e w17 ⟨Yq, rfl, hs, hb17⟩
      have HB17 : Hid (Below w.heap.size w w17) := HB16.out.trans (hb17.mono HB16.out.size)
      have WS_17 := Lib.hid (WS_16.out.below hb17 UWS_16.out)
      have UWS_17 := Lib.hid (Nat.le_trans UWS_16.out hb17.size)
      have GS_17 := Lib.hid (GS_16.out.below hb17 UGS_16.out)
      have UGS_17 := Lib.hid (Nat.le_trans UGS_16.out hb17.size)
      have YP_17 := Lib.hid (YP_16.out.below hb17 UYP_16.out)
      have UYP_17 := Lib.hid (Nat.le_trans UYP_16.out hb17.size)
      have YQ_17 := Lib.hid hs
      have UYQ_17 : Hid (_ ≤ _) := Nat.le_refl w17.heap.size
      clear hs
      clear hb17
      go_wp2_with fail
      refine (CI.out _ _ _ _ _ YP_17.out.seen YQ_17.out).mono ?_
      rintro e w18 ⟨Yv, rfl, hs, hb18⟩
      have HB18 : Hid (Below w.heap.size w w18) := HB17.out.trans (hb18.mono HB17.out.size)
      have WS_18 := Lib.hid (WS_17.out.below hb18 UWS_17.out)
      have UWS_18 := Lib.hid (Nat.le_trans UWS_17.out hb18.size)
      have GS_18 := Lib.hid (GS_17.out.below hb18 UGS_17.out)
      have UGS_18 := Lib.hid (Nat.le_trans UGS_17.out hb18.size)
      have YP_18 := Lib.hid (YP_17.out.below hb18 UYP_17.out)
      have UYP_18 := Lib.hid (Nat.le_trans UYP_17.out hb18.size)
      have YQ_18 := Lib.hid (YQ_17.out.below hb18 UYQ_17.out)
      have UYQ_18 := Lib.hid (Nat.le_trans UYQ_17.out hb18.size)
      have YS_18 := Lib.hid hs
      have UYS_18 : Hid (_ ≤ _) := Nat.le_refl w18.heap.size
      clear hs
      clear hb18
      go_wp2_with fail
      refine (c_eqIntSS yss _ _ _ _ _ _ _ hxl hxs.out YS_18.out WS_18.out UYS_18.out UWS_18.out).mono ?_
      rintro e w19 ⟨rfl, hb19⟩
      have HB19 : Hid (Below w.heap.size w w19) := HB18.out.trans (hb19.mono HB18.out.size)
      have WS_19 := Lib.hid (WS_18.out.below hb19 UWS_18.out)
      have UWS_19 := Lib.hid (Nat.le_trans UWS_18.out hb19.size)
      have GS_19 := Lib.hid (GS_18.out.below hb19 UGS_18.out)
      have UGS_19 := Lib.hid (Nat.le_trans UGS_18.out hb19.size)
      have YP_19 := Lib.hid (YP_18.out.below hb19 UYP_18.out)
      have UYP_19 := Lib.hid (Nat.le_trans UYP_18.out hb19.size)
      have YQ_19 := Lib.hid (YQ_18.out.below hb19 UYQ_18.out)
      have UYQ_19 := Lib.hid (Nat.le_trans UYQ_18.out hb19.size)
      have YS_19 := Lib.hid (YS_18.out.below hb19 UYS_18.out)
      have UYS_19 := Lib.hid (Nat.le_trans UYS_18.out hb19.size)
      clear hb19
      go_wp2_with fail
      refine (HD.out _ _ _ _ GS_19.out).mono ?_
      rintro e w' ⟨rfl, rfl⟩
      go_wp2
      go_ret
      exact ⟨rfl, HB19.out⟩

/-! ### The row's step -/
theorem laid : laidOutB Try.prog = true := by kernel_rfl
set_option maxRecDepth 100000 in
set_option maxHeartbeats 8000000 in
theorem lifted (os : Os) (started : os.Started) (H : Type) (enc : TypeId × Value → H) :
    ReturnsInHanded {} Try.checked os 11 .any (Rows.fnExactFillPitsSpec.pre6 enc Try.prog Try.f11 Rows.fnExactFillPitsRow.domain false) (Rows.fnExactFillPitsSpec.post enc Try.prog Try.f11 false true false false) := by
  refine returnsInHanded_of_change (C := Try.checked) own started (by kernel_rfl) Try.func11
    (ChangeSpec.witness6 (enc := enc) (C := Try.checked) false ⟨#[], #[.slice none 0 0, .slice none 0 0], []⟩ 8 (by kernel_rfl) (by kernel_rfl) (by kernel_rfl) (by kernel_rfl)) ?_
  intro W base args ds gs before hval0 hW hcnd _
  have hval : ∀ (j : Nat) t v, Try.f11.params[j]? = some t → args[j]? = some v → Value.okWide Try.prog W .any base t v := hval0
  have hW' := hW
  have lts : ∀ x ∈ before, x.block < W.heap.size := fun x hx => by simpa using hW'.lt x hx
  obtain ⟨p, q, hA0, hV, rfl, hfz, hnd⟩ := hW
  have hA : DataW.TrodAll enc Try.prog W 0 (fun _ => true) true Try.f11.params.toList args.toList ds p := hA0
  rw [Try.params11] at hA hval
  obtain ⟨v0, vs0, d0, ds0, p0, q0, hargs, rfl, rfl, h0, r0⟩ := trodAll_cons hA
  obtain ⟨v1, vs1, d1, ds1, p1, q1, rfl, rfl, rfl, h1, r1⟩ := trodAll_cons r0
  obtain ⟨rfl, rfl, rfl⟩ := trodAll_nil r1
  obtain rfl : args = #[v0, v1] := by cases args; simp_all
  obtain ⟨rfl, rfl⟩ := trodVars_none hV
  have k0 := h0
  obtain ⟨xss, hR⟩ := open_rows (hval 0 22 v0 rfl rfl) h0
  have k1 := h1
  obtain ⟨pss, hR2⟩ := open_rows (hval 1 22 v1 rfl rfl) h1
  clear hA0 hval0
  simp only [List.append_nil] at hW' lts
  refine (walk xss v0 pss v1 W hR hR2).mono fun e W' ⟨he, bel⟩ => ?_
  subst he
  exact ⟨_, rfl, _, _, _, [], _, [], hW', trodAll_mk1 (shut_bool Try.underlying4 _), (trodAll_cons_mk (Below.trod laid (by kernel_rfl) (of_decide_eq_true (by kernel_rfl)) k0 bel (fun x hx => lts x (by simp [hx]))) (trodAll_cons_mk (Below.trod laid (by kernel_rfl) (of_decide_eq_true (by kernel_rfl)) k1 bel (fun x hx => lts x (by simp [hx]))) trodAll_mk0)), rfl, bel.frame _, fun h => by cases h⟩

set_option maxHeartbeats 8000000 in
theorem closed : joinedFacts Try.prog 11 Try.f11 Rows.fnExactFillPitsSpec Rows.fnExactFillPitsRow = true := by
  unfold joinedFacts
  simp only [Bool.and_eq_true]
  refine ⟨⟨⟨⟨⟨⟨⟨⟨⟨⟨⟨⟨⟨⟨⟨⟨⟨⟨⟨⟨⟨⟨⟨⟨⟨⟨⟨⟨⟨⟨⟨?_, ?_⟩, ?_⟩, ?_⟩, ?_⟩, ?_⟩, ?_⟩, ?_⟩, ?_⟩, ?_⟩, ?_⟩, ?_⟩, ?_⟩, ?_⟩, ?_⟩, ?_⟩, ?_⟩, ?_⟩, ?_⟩, ?_⟩, ?_⟩, ?_⟩, ?_⟩, ?_⟩, ?_⟩, ?_⟩, ?_⟩, ?_⟩, ?_⟩, ?_⟩, ?_⟩, ?_⟩
  · as_aux_lemma => kernel_rfl
  · as_aux_lemma => kernel_rfl
  · as_aux_lemma => kernel_rfl
  · as_aux_lemma => kernel_rfl
  · as_aux_lemma => kernel_rfl
  · as_aux_lemma => kernel_rfl
  · as_aux_lemma => kernel_rfl
  · as_aux_lemma => kernel_rfl
  · as_aux_lemma => kernel_rfl
  · as_aux_lemma => kernel_rfl
  · as_aux_lemma => kernel_rfl
  · as_aux_lemma => kernel_rfl
  · as_aux_lemma => kernel_rfl
  · as_aux_lemma => kernel_rfl
  · as_aux_lemma => kernel_rfl
  · as_aux_lemma => kernel_rfl
  · as_aux_lemma => kernel_rfl
  · as_aux_lemma => kernel_rfl
  · as_aux_lemma => kernel_rfl
  · as_aux_lemma => kernel_rfl
  · as_aux_lemma => kernel_rfl
  · as_aux_lemma => kernel_rfl
  · as_aux_lemma => kernel_rfl
  · as_aux_lemma => kernel_rfl
  · as_aux_lemma => kernel_rfl
  · exact jf_may
  · exact (congrArg (fun b => (Rows.fnExactFillPitsRow.lifted == b)) jf_lifts).trans (by kernel_rfl)
  · exact (congrArg (fun o => (o == some Rows.fnExactFillPitsRow.make)) jf_make).trans (by kernel_rfl)
  · as_aux_lemma => kernel_rfl
  · as_aux_lemma => kernel_rfl
  · as_aux_lemma => kernel_rfl
  · as_aux_lemma => kernel_rfl

set_option maxHeartbeats 8000000 in
theorem over : Rows.fnExactFillPitsRow.holds Try.pinned (OpenSpec.ofChange Rows.fnExactFillPitsSpec) :=
  OpenClaim.holds_of_wide 11 Try.f11 rfl rfl rfl rfl rfl rfl rfl ⟨rfl, rfl, rfl, rfl, rfl⟩ rfl rfl rfl rfl rfl (by kernel_rfl) Try.func11 closed
    (of_decide_eq_true (by kernel_rfl)) (by unfold Func.isWrapper; first | (rw [if_pos (by decide +kernel)]; kernel_rfl) | (rw [if_neg (by decide +kernel)]; exact ⟨rfl, rfl⟩))
    (fun os started H enc _ => lifted os started H enc)
end Go.Proofs.Ytlgbhemjckahhaa.fnExactFillPitsProof
namespace Go.Proofs.Ytlgbhemjckahhaa
theorem fnExactFillPits_holds : Rows.FnExactFillPitsSaid := fnExactFillPitsProof.over
#print axioms fnExactFillPits_holds
end Go.Proofs.Ytlgbhemjckahhaa
