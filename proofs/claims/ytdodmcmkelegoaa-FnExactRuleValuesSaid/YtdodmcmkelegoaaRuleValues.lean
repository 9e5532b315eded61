/-
  The law FnExactRuleValues holds: for all arguments, RuleValues answers as its model does, its answer owns its memory, and the arguments read as they did. No conditions.
-/
import Derived.Test.YtdodmcmkelegoaaRows
import Derived.Test.YtdodmcmkelegoaaF11
import Derived.Test.YtdodmcmkelegoaaE8
import Derived.Test.YtdodmcmkelegoaaM11
import Derived.Test.YtdodmcmkelegoaaOpen
import Derived.WalkKit
import Derived.Lib.Hide
import Derived.Deep.DeepCutAuto
import Derived.Deep.RegionHeld3
import Derived.ProofKit
import Derived.OpenShut
import Derived.ShutString
import Derived.ChangeOld
import Derived.Below
import Derived.Carry
import Derived.Deep.RegionWith
import Derived.Lib.SmallJoins
namespace Go.Proofs.Ytdodmcmkelegoaa.fnExactRuleValuesProof
open Go.ChangeShapes Go.WideShapes Go.ChangeAt Go.RowKit Go.Joins
open Go.ChangeMaps (open_string shut_string)
set_option linter.unusedVariables false

theorem own : ownKnob Try.prog.godebug = none := by kernel_rfl

theorem Mod.drew {w : World} {B : Nat} {v1 v2 v3 : Value} {ts gs rs : List Int} (h : Mod w B v1 v2 v3 ts gs rs) : Mod w.drew B v1 v2 v3 ts gs rs := ⟨h.t.draws 1, h.g.draws 1, h.r.draws 1, h.tg, h.tr, h.gr⟩

/-! ### The walk -/
set_option maxHeartbeats 4000000 in
set_option maxRecDepth 100000 in
theorem walk (x y z : Int) (v1 v2 v3 : Value) (ts gs rs : List Int) (u1 : Value) (n : Nat) (xs : List Int) (w : World) (hL : Look w v1 v2 v3 ts gs rs) (hSp : SeenP w u1 n xs) :
    Calls Try.prog 4 #[.agg #[.int .i64 x, .int .i64 y, .int .i64 z, v1, v2, v3], u1] w fun e w' => e = .returned (.bool true) ∧ Below w.heap.size w w' := by
  have HL := Lib.hid hL
  have m1 := hL.t
  have m2 := hL.g
  have m3 := hL.r
  obtain ⟨A1, c1, rfl, t1, _⟩ := m1
  obtain ⟨A2, c2, rfl, t2, _⟩ := m2
  obtain ⟨A3, c3, rfl, t3, _⟩ := m3
  have b1 : ts.length ≤ 9223372036854775807 := by unfold maxLen at t1; omega
  have b2 : gs.length ≤ 9223372036854775807 := by unfold maxLen at t2; omega
  have b3 : rs.length ≤ 9223372036854775807 := by unfold maxLen at t3; omega
  clear hL t1 t2 t3
  have HSp := Lib.hid hSp
  obtain ⟨Ap, cp, rfl, hmp, hxp, _⟩ := hSp
  have bp : n ≤ 9223372036854775807 := by unfold maxLen at hmp; omega
  clear hmp hxp
  have HB0 : Hid (Below w.heap.size w (w.alloc (.cells #[.int .i64 x, .int .i64 y, .int .i64 z, .slice A1 ts.length c1, .slice A2 gs.length c2, .slice A3 rs.length c3] 26))) := (Below.refl _ _).alloc (Nat.le_refl _) _
  have AX_0 : Hid (Box6 (w.alloc (.cells #[.int .i64 x, .int .i64 y, .int .i64 z, .slice A1 ts.length c1, .slice A2 gs.length c2, .slice A3 rs.length c3] 26)) w.heap.size x y z (.slice A1 ts.length c1) (.slice A2 gs.length c2) (.slice A3 rs.length c3)) := Box6.new _ _ _ _ _ _ _ _
  go_enter Try.func4, Try.ntmps4
  go_wp2_with fail
  refine (c_szModel x y z _ _ _ _ _ _ _ _ _ _ b1 b2 b3).mono ?_
  rintro e w1 ⟨⟨r0, rfl, hsz⟩, hb1⟩
  have HB1 : Hid (Below w.heap.size w w1) := HB0.out.trans (hb1.mono HB0.out.size)
  have AX_1 := Lib.hid (AX_0.out.below hb1)
  have lt_ax_1 := AX_1.out.lt
  have ax_1c0 := AX_1.out.c0
  have ax_1c1 := AX_1.out.c1
  have ax_1c2 := AX_1.out.c2
  have ax_1c3 := AX_1.out.c3
  have ax_1c4 := AX_1.out.c4
  have ax_1c5 := AX_1.out.c5
  clear hb1
  rcases hsz with ⟨_, rfl⟩ | ⟨hsz, hr⟩
  · go_wp2
    go_ret
    exact ⟨rfl, HB1.out⟩
  · have hr0 : ¬ r0 < 0 := by omega
    have l1 : ts.length ≤ 4000000 := by omega
    have l2 : gs.length ≤ 4000000 := by omega
    have l3 : rs.length ≤ 4000000 := by omega
    have r00 : 0 ≤ r0 := by omega
    have r01 : r0 ≤ 1048576 := by omega
    clear hr
    by_cases lp : (n : Int) ≤ r0
    case neg =>
      go_wp2_with fail
      refine (c_szPartS Ap n cp r0 _ r00 r01 bp).mono ?_
      rintro e w' ⟨rfl, rfl⟩
      rw [if_neg (by omega)]
      go_wp2
      go_ret
      exact ⟨rfl, HB1.out⟩
    case pos =>
      have ln : n ≤ 1048576 := by omega
      have qn : ¬ (r0 - (n : Int)) < 0 := by omega
      go_wp2_with fail
      refine (c_szPartS Ap n cp r0 _ r00 r01 bp).mono ?_
      rintro e w' ⟨rfl, rfl⟩
      rw [if_pos lp]
      obtain ⟨ys, bb, hyl, CS, CI⟩ : ∃ (ys : List Int) (bb : Bool), ys.length ≤ 4000000 ∧ Hid (∀ (p1 p2 p3 : Value) (pp : Value) (u : World), Look u p1 p2 p3 ts gs rs → SeenC u pp n xs → Calls Try.prog 19 #[.agg #[.int .i64 x, .int .i64 y, .int .i64 z, p1, p2, p3], pp] u (GivesRow2 u ys bb)) ∧ Hid (∀ (p1 p2 p3 : Value) (pp : Value) (u : World), Look u p1 p2 p3 ts gs rs → SeenC u pp n xs → Calls Try.prog 20 #[.agg #[.int .i64 x, .int .i64 y, .int .i64 z, p1, p2, p3], pp] u (GivesRow2 u ys bb)) :=
        ⟨rlL x y z ts gs rs n xs, rlB x y z ts gs rs n xs, rlL_len x y z ts gs rs n xs l1, fun p1 p2 p3 pp u hu hup => c_RuleValuesS x y z _ _ _ ts gs rs n xs _ u l1 l2 l3 ln hu hup, fun p1 p2 p3 pp u hu hup => c_RuleValues x y z _ _ _ ts gs rs n xs _ u l1 l2 l3 ln hu hup⟩
      have hnb : (bb != bb) = false := by simp
      have hnq : ((1 + (ys.length : Int)) != (1 + (ys.length : Int))) = false := by simp
      have hpq : ¬ (1 + (ys.length : Int)) < 0 := by omega
      have hkp : ¬ (1 + (ts.length : Int) + (gs.length : Int) + (rs.length : Int) + (n : Int) * 2) < 0 := by omega
      have hkq : ¬ (1 + (ts.length : Int) + (gs.length : Int) + (rs.length : Int)) < 0 := by omega
      go_wp2_with fail
      refine (c_toModel x y z _ _ _ ts gs rs _ l1 l2 l3 (HL.out.t.below HB1.out) (HL.out.g.below HB1.out) (HL.out.r.below HB1.out)).mono ?_
      rintro e w2 ⟨Sa, Sb, Sc, rfl, hm, hb2⟩
      have HB2 : Hid (Below w.heap.size w w2) := HB1.out.trans (hb2.mono HB1.out.size)
      have AX_2 := Lib.hid (AX_1.out.below hb2)
      have lt_ax_2 := AX_2.out.lt
      have ax_2c0 := AX_2.out.c0
      have ax_2c1 := AX_2.out.c1
      have ax_2c2 := AX_2.out.c2
      have ax_2c3 := AX_2.out.c3
      have ax_2c4 := AX_2.out.c4
      have ax_2c5 := AX_2.out.c5
      have SM_2 := Lib.hid hm
      clear hm
      clear hb2
      go_wp2_with fail
      refine (c_toPartS n xs _ _ ln (HSp.out.below HB2.out)).mono ?_
      rintro e w3 ⟨Sp, rfl, hs, hb3⟩
      have HB3 : Hid (Below w.heap.size w w3) := HB2.out.trans (hb3.mono HB2.out.size)
      have AX_3 := Lib.hid (AX_2.out.below hb3)
      have SM_3 := Lib.hid (SM_2.out.below hb3)
      have lt_ax_3 := AX_3.out.lt
      have ax_3c0 := AX_3.out.c0
      have ax_3c1 := AX_3.out.c1
      have ax_3c2 := AX_3.out.c2
      have ax_3c3 := AX_3.out.c3
      have ax_3c4 := AX_3.out.c4
      have ax_3c5 := AX_3.out.c5
      have SP_3 := Lib.hid hs
      clear hs
      clear hb3
      go_wp2_with fail
      refine (CS.out _ _ _ _ _ SM_3.out.look SP_3.out.seenC).mono ?_
      rintro e w4 ⟨Wv, rfl, hs, hb4⟩
      have HB4 : Hid (Below w.heap.size w w4) := HB3.out.trans (hb4.mono HB3.out.size)
      have AX_4 := Lib.hid (AX_3.out.below hb4)
      have SM_4 := Lib.hid (SM_3.out.below hb4)
      have SP_4 := Lib.hid (SP_3.out.below hb4)
      have lt_ax_4 := AX_4.out.lt
      have ax_4c0 := AX_4.out.c0
      have ax_4c1 := AX_4.out.c1
      have ax_4c2 := AX_4.out.c2
      have ax_4c3 := AX_4.out.c3
      have ax_4c4 := AX_4.out.c4
      have ax_4c5 := AX_4.out.c5
      have WS_4 := Lib.hid hs
      clear hs
      clear hb4
      go_wp2_with fail
      refine (c_toModel x y z _ _ _ ts gs rs _ l1 l2 l3 (HL.out.t.below HB4.out) (HL.out.g.below HB4.out) (HL.out.r.below HB4.out)).mono ?_
      rintro e w5 ⟨Xa, Xb, Xc, rfl, hm, hb5⟩
      have HB5 : Hid (Below w.heap.size w w5) := HB4.out.trans (hb5.mono HB4.out.size)
      have AX_5 := Lib.hid (AX_4.out.below hb5)
      have WS_5 := Lib.hid (WS_4.out.below hb5)
      have lt_ax_5 := AX_5.out.lt
      have ax_5c0 := AX_5.out.c0
      have ax_5c1 := AX_5.out.c1
      have ax_5c2 := AX_5.out.c2
      have ax_5c3 := AX_5.out.c3
      have ax_5c4 := AX_5.out.c4
      have ax_5c5 := AX_5.out.c5
      have XM_5 := Lib.hid hm
      clear hm
      clear hb5
      obtain ⟨Q1, k1, rfl⟩ := XM_5.out.t.shape
      obtain ⟨Q2, k2, rfl⟩ := XM_5.out.g.shape
      obtain ⟨Q3, k3, rfl⟩ := XM_5.out.r.shape
      go_wp2_with fail
      have hbx : Below w5.heap.size w5 (w5.alloc (Obj.cells #[.int .i64 x, .int .i64 y, .int .i64 z, .slice Q1 ts.length k1, .slice Q2 gs.length k2, .slice Q3 rs.length k3] 34)) := (Below.refl _ _).alloc (Nat.le_refl _) _
      have HB5x : Hid (Below w.heap.size w (w5.alloc (Obj.cells #[.int .i64 x, .int .i64 y, .int .i64 z, .slice Q1 ts.length k1, .slice Q2 gs.length k2, .slice Q3 rs.length k3] 34))) := HB5.out.trans (hbx.mono HB5.out.size)
      have AX_5x := Lib.hid (AX_5.out.below hbx)
      have WS_5x := Lib.hid (WS_5.out.below hbx)
      have XM_5x := Lib.hid (XM_5.out.below hbx)
      have ax_5xc0 := AX_5x.out.c0
      have ax_5xc1 := AX_5x.out.c1
      have ax_5xc2 := AX_5x.out.c2
      have ax_5xc3 := AX_5x.out.c3
      have ax_5xc4 := AX_5x.out.c4
      have ax_5xc5 := AX_5x.out.c5
      have XX_5x : Hid (Box6 (w5.alloc (Obj.cells #[.int .i64 x, .int .i64 y, .int .i64 z, .slice Q1 ts.length k1, .slice Q2 gs.length k2, .slice Q3 rs.length k3] 34)) w5.heap.size x y z (.slice Q1 ts.length k1) (.slice Q2 gs.length k2) (.slice Q3 rs.length k3)) := Box6.new _ _ _ _ _ _ _ _
      clear hbx
      go_wp2_with fail
      refine (c_toPartS n xs _ _ ln (HSp.out.below HB5x.out)).mono ?_
      rintro e w6 ⟨Xp, rfl, hs, hb6⟩
      have HB6 : Hid (Below w.heap.size w w6) := HB5x.out.trans (hb6.mono HB5x.out.size)
      have AX_6 := Lib.hid (AX_5x.out.below hb6)
      have WS_6 := Lib.hid (WS_5x.out.below hb6)
      have XM_6 := Lib.hid (XM_5x.out.below hb6)
      have XX_6 := Lib.hid (XX_5x.out.below hb6)
      have lt_ax_6 := AX_6.out.lt
      have ax_6c0 := AX_6.out.c0
      have ax_6c1 := AX_6.out.c1
      have ax_6c2 := AX_6.out.c2
      have ax_6c3 := AX_6.out.c3
      have ax_6c4 := AX_6.out.c4
      have ax_6c5 := AX_6.out.c5
      have lt_xx_6 := XX_6.out.lt
      have xx_6c0 := XX_6.out.c0
      have xx_6c1 := XX_6.out.c1
      have xx_6c2 := XX_6.out.c2
      have xx_6c3 := XX_6.out.c3
      have xx_6c4 := XX_6.out.c4
      have xx_6c5 := XX_6.out.c5
      have XP_6 := Lib.hid hs
      clear hs
      clear hb6
      go_wp2_with fail
      refine (CI.out _ _ _ _ _ XM_6.out.look XP_6.out.seenC).mono ?_
      rintro e w7 ⟨Gv, rfl, hs, hb7⟩
      have HB7 : Hid (Below w.heap.size w w7) := HB6.out.trans (hb7.mono HB6.out.size)
      have AX_7 := Lib.hid (AX_6.out.below hb7)
      have WS_7 := Lib.hid (WS_6.out.below hb7)
      have XM_7 := Lib.hid (XM_6.out.below hb7)
      have XX_7 := Lib.hid (XX_6.out.below hb7)
      have XP_7 := Lib.hid (XP_6.out.below hb7)
      have lt_ax_7 := AX_7.out.lt
      have ax_7c0 := AX_7.out.c0
      have ax_7c1 := AX_7.out.c1
      have ax_7c2 := AX_7.out.c2
      have ax_7c3 := AX_7.out.c3
      have ax_7c4 := AX_7.out.c4
      have ax_7c5 := AX_7.out.c5
      have lt_xx_7 := XX_7.out.lt
      have xx_7c0 := XX_7.out.c0
      have xx_7c1 := XX_7.out.c1
      have xx_7c2 := XX_7.out.c2
      have xx_7c3 := XX_7.out.c3
      have xx_7c4 := XX_7.out.c4
      have xx_7c5 := XX_7.out.c5
      have GS_7 := Lib.hid hs
      clear hs
      clear hb7
      go_wp2_with fail
      refine (c_eqIntS ys _ _ _ _ _ hyl GS_7.out WS_7.out).mono ?_
      rintro e w8 ⟨rfl, hb8⟩
      have HB8 : Hid (Below w.heap.size w w8) := HB7.out.trans (hb8.mono HB7.out.size)
      have AX_8 := Lib.hid (AX_7.out.below hb8)
      have WS_8 := Lib.hid (WS_7.out.below hb8)
      have XM_8 := Lib.hid (XM_7.out.below hb8)
      have XX_8 := Lib.hid (XX_7.out.below hb8)
      have XP_8 := Lib.hid (XP_7.out.below hb8)
      have GS_8 := Lib.hid (GS_7.out.below hb8)
      have lt_ax_8 := AX_8.out.lt
      have ax_8c0 := AX_8.out.c0
      have ax_8c1 := AX_8.out.c1
      have ax_8c2 := AX_8.out.c2
      have ax_8c3 := AX_8.out.c3
      have ax_8c4 := AX_8.out.c4
      have ax_8c5 := AX_8.out.c5
      have lt_xx_8 := XX_8.out.lt
      have xx_8c0 := XX_8.out.c0
      have xx_8c1 := XX_8.out.c1
      have xx_8c2 := XX_8.out.c2
      have xx_8c3 := XX_8.out.c3
      have xx_8c4 := XX_8.out.c4
      have xx_8c5 := XX_8.out.c5
      clear hb8
      go_upto_region 14 with fail
      go_cut [58] (fun s wx => s = .bool false ∧ Below w8.heap.size w8 wx)
      case first =>
        go_region_with (first
          | (go_at_call 14
             refine (c_toModel x y z _ _ _ ts gs rs _ l1 l2 l3 (HL.out.t.below (by exact HB8.out.drew)) (HL.out.g.below (by exact HB8.out.drew)) (HL.out.r.below (by exact HB8.out.drew))).mono ?_
             rintro e wy ⟨r1, r2, r3, rfl, hmy, hby⟩
             obtain ⟨hcy, hfy⟩ := bcell hby
             have sy := hby.size
             simp at sy hcy hfy
             have pxy := XX_8.out.lt
             have HMY := Lib.hid hmy
             have HNY : Hid (Mod wy _ (.slice Q1 ts.length k1) (.slice Q2 gs.length k2) (.slice Q3 rs.length k3) ts gs rs) := Mod.below (Mod.drew XM_8.out) hby
             have HBY : Hid (Below w8.heap.size w8 wy) := (Below.refl _ _).drew.trans hby
             clear hby hmy)
          | (go_at_call 17
             refine (c_eqModel x y z _ _ _ _ _ _ ts gs rs _ _ _ l1 l2 l3 HNY.out HMY.out).mono ?_
             rintro e wz ⟨rfl, hbz⟩
             have HBZ : Hid (Below w8.heap.size w8 wz) := HBY.out.trans (hbz.mono HBY.out.size)
             clear hbz))
        all_goals
          go_wp2_with fail
          go_meet
          exact ⟨rfl, HBZ.out⟩
      case rest =>
        obtain ⟨rfl, hb9⟩ := hcut
        have HB9 : Hid (Below w.heap.size w wc) := HB8.out.trans (hb9.mono HB8.out.size)
        have AX_9 := Lib.hid (AX_8.out.below hb9)
        have WS_9 := Lib.hid (WS_8.out.below hb9)
        have XM_9 := Lib.hid (XM_8.out.below hb9)
        have XX_9 := Lib.hid (XX_8.out.below hb9)
        have XP_9 := Lib.hid (XP_8.out.below hb9)
        have GS_9 := Lib.hid (GS_8.out.below hb9)
        have lt_ax_9 := AX_9.out.lt
        have ax_9c0 := AX_9.out.c0
        have ax_9c1 := AX_9.out.c1
        have ax_9c2 := AX_9.out.c2
        have ax_9c3 := AX_9.out.c3
        have ax_9c4 := AX_9.out.c4
        have ax_9c5 := AX_9.out.c5
        have lt_xx_9 := XX_9.out.lt
        have xx_9c0 := XX_9.out.c0
        have xx_9c1 := XX_9.out.c1
        have xx_9c2 := XX_9.out.c2
        have xx_9c3 := XX_9.out.c3
        have xx_9c4 := XX_9.out.c4
        have xx_9c5 := XX_9.out.c5
        clear hb9
        go_wp2_with fail
        refine (c_toPartS n xs _ _ ln (HSp.out.below HB9.out)).mono ?_
        rintro e w10 ⟨Yp, rfl, hs, hb10⟩
        have HB10 : Hid (Below w.heap.size w w10) := HB9.out.trans (hb10.mono HB9.out.size)
        have AX_10 := Lib.hid (AX_9.out.below hb10)
        have WS_10 := Lib.hid (WS_9.out.below hb10)
        have XM_10 := Lib.hid (XM_9.out.below hb10)
        have XX_10 := Lib.hid (XX_9.out.below hb10)
        have XP_10 := Lib.hid (XP_9.out.below hb10)
        have GS_10 := Lib.hid (GS_9.out.below hb10)
        have lt_ax_10 := AX_10.out.lt
        have ax_10c0 := AX_10.out.c0
        have ax_10c1 := AX_10.out.c1
        have ax_10c2 := AX_10.out.c2
        have ax_10c3 := AX_10.out.c3
        have ax_10c4 := AX_10.out.c4
        have ax_10c5 := AX_10.out.c5
        have lt_xx_10 := XX_10.out.lt
        have xx_10c0 := XX_10.out.c0
        have xx_10c1 := XX_10.out.c1
        have xx_10c2 := XX_10.out.c2
        have xx_10c3 := XX_10.out.c3
        have xx_10c4 := XX_10.out.c4
        have xx_10c5 := XX_10.out.c5
        have YP_10 := Lib.hid hs
        clear hs
        clear hb10
        go_wp2_with fail
        refine (c_eqPartS n xs _ _ _ _ _ ln XP_10.out YP_10.out).mono ?_
        rintro e w11 ⟨rfl, hb11⟩
        have HB11 : Hid (Below w.heap.size w w11) := HB10.out.trans (hb11.mono HB10.out.size)
        have AX_11 := Lib.hid (AX_10.out.below hb11)
        have WS_11 := Lib.hid (WS_10.out.below hb11)
        have XM_11 := Lib.hid (XM_10.out.below hb11)
        have XX_11 := Lib.hid (XX_10.out.below hb11)
        have XP_11 := Lib.hid (XP_10.out.below hb11)
        have GS_11 := Lib.hid (GS_10.out.below hb11)
        have YP_11 := Lib.hid (YP_10.out.below hb11)
        have lt_ax_11 := AX_11.out.lt
        have ax_11c0 := AX_11.out.c0
        have ax_11c1 := AX_11.out.c1
        have ax_11c2 := AX_11.out.c2
        have ax_11c3 := AX_11.out.c3
        have ax_11c4 := AX_11.out.c4
        have ax_11c5 := AX_11.out.c5
        have lt_xx_11 := XX_11.out.lt
        have xx_11c0 := XX_11.out.c0
        have xx_11c1 := XX_11.out.c1
        have xx_11c2 := XX_11.out.c2
        have xx_11c3 := XX_11.out.c3
        have xx_11c4 := XX_11.out.c4
        have xx_11c5 := XX_11.out.c5
        clear hb11
        have OW : Hid (w.heap.size < w4.heap.size) := AX_4.out.lt
        have PA1 : Hid (Apart Wv.ownBlock (Value.slice Q1 ts.length k1).ownBlock) := apart_of WS_4.out XM_5.out.t (Nat.le_refl _)
        have PA2 : Hid (Apart Wv.ownBlock (Value.slice Q2 gs.length k2).ownBlock) := apart_of WS_4.out XM_5.out.g (Nat.le_refl _)
        have PA3 : Hid (Apart Wv.ownBlock (Value.slice Q3 rs.length k3).ownBlock) := apart_of WS_4.out XM_5.out.r (Nat.le_refl _)
        have PB1 : Hid (Apart Gv.ownBlock (Value.slice Q1 ts.length k1).ownBlock) := (apart_of XM_6.out.t GS_7.out (Nat.le_refl _)).symm
        have PB2 : Hid (Apart Gv.ownBlock (Value.slice Q2 gs.length k2).ownBlock) := (apart_of XM_6.out.g GS_7.out (Nat.le_refl _)).symm
        have PB3 : Hid (Apart Gv.ownBlock (Value.slice Q3 rs.length k3).ownBlock) := (apart_of XM_6.out.r GS_7.out (Nat.le_refl _)).symm
        have PC : Hid (Apart Wv.ownBlock Gv.ownBlock) := apart_of WS_6.out GS_7.out (Nat.le_refl _)
        have PPA : Hid (Apart Wv.ownBlock Xp.ownBlock) := apart_row WS_5x.out XP_6.out (Nat.le_refl _)
        have PPB : Hid (Apart Gv.ownBlock Xp.ownBlock) := (apart_row XP_6.out GS_7.out (Nat.le_refl _)).symm
        have PP1 : Hid (Apart Xp.ownBlock (Value.slice Q1 ts.length k1).ownBlock) := (apart_row XM_5x.out.t XP_6.out (Nat.le_refl _)).symm
        have PP2 : Hid (Apart Xp.ownBlock (Value.slice Q2 gs.length k2).ownBlock) := (apart_row XM_5x.out.g XP_6.out (Nat.le_refl _)).symm
        have PP3 : Hid (Apart Xp.ownBlock (Value.slice Q3 rs.length k3).ownBlock) := (apart_row XM_5x.out.r XP_6.out (Nat.le_refl _)).symm
        go_wp2_with fail
        refine (c_markModel x y z _ _ _ ts gs rs _ 1 _ hsz (by omega) (by omega) XM_11.out).mono ?_
        rintro e w12 ⟨rfl, _, ht⟩
        have HT12 := Lib.hid ht
        clear ht
        have HB12 : Hid (Below w.heap.size w w12) := HT12.out.below HB11.out HB11.out.size (fun k hk => Nat.le_of_lt (Nat.lt_of_lt_of_le OW.out (XM_11.out.own1 k hk))) (fun k hk => Nat.le_of_lt (Nat.lt_of_lt_of_le OW.out (XM_11.out.own2 k hk))) (fun k hk => Nat.le_of_lt (Nat.lt_of_lt_of_le OW.out (XM_11.out.own3 k hk)))
        have AX_12 := Lib.hid (AX_11.out.turned HT12.out (own_ne XM_11.out.own1 OW.out) (own_ne XM_11.out.own2 OW.out) (own_ne XM_11.out.own3 OW.out))
        have WS_12 := Lib.hid (HT12.out.row WS_11.out PA1.out PA2.out PA3.out)
        have GS_12 := Lib.hid (HT12.out.row GS_11.out PB1.out PB2.out PB3.out)
        have ax_12c0 := AX_12.out.c0
        have ax_12c1 := AX_12.out.c1
        have ax_12c2 := AX_12.out.c2
        have ax_12c3 := AX_12.out.c3
        have ax_12c4 := AX_12.out.c4
        have ax_12c5 := AX_12.out.c5
        have XP_12 : Hid (RowP w12 _ Xp n xs) := HT12.out.owns XP_11.out PP1.out PP2.out PP3.out
        go_wp2_with fail
        refine (c_markPartS n xs _ _ (1 + (ts.length : Int) + (gs.length : Int) + (rs.length : Int)) _ ln (by omega) (by omega) XP_12.out).mono ?_
        rintro e w13 ⟨rfl, _, hg⟩
        have HG13 := Lib.hid hg
        clear hg
        have OP : Hid (∀ k, Xp.ownBlock = some k → w5.heap.size ≤ k) := fun k hk => by have := (World.ownsRow.lt XP_12.out k hk).1; simp at this; omega
        have OZ : Hid (w.heap.size < w5.heap.size) := AX_5.out.lt
        have HB13 : Hid (Below w.heap.size w w13) := HB12.out.grown HG13.out HB12.out.size (fun k hk => by have := OP.out k hk; have := OZ.out; omega)
        have AX_13 := Lib.hid (AX_12.out.grown HG13.out (fun e => by have := OP.out _ e; have := OZ.out; omega))
        have WS_13 : Hid (Row w13 _ Wv ys) := World.ownsRow.kept WS_12.out HG13.out PPA.out
        have GS_13 : Hid (Row w13 _ Gv ys) := World.ownsRow.kept GS_12.out HG13.out PPB.out
        have ax_13c0 := AX_13.out.c0
        have ax_13c1 := AX_13.out.c1
        have ax_13c2 := AX_13.out.c2
        have ax_13c3 := AX_13.out.c3
        have ax_13c4 := AX_13.out.c4
        have ax_13c5 := AX_13.out.c5
        go_wp2_with fail
        refine (c_eqIntS ys _ _ _ _ _ hyl GS_13.out WS_13.out).mono ?_
        rintro e w14 ⟨rfl, hb14⟩
        have HB14 : Hid (Below w.heap.size w w14) := HB13.out.trans (hb14.mono HB13.out.size)
        have AX_14 := Lib.hid (AX_13.out.below hb14)
        have WS_14 := Lib.hid (WS_13.out.below hb14)
        have GS_14 := Lib.hid (GS_13.out.below hb14)
        have lt_ax_14 := AX_14.out.lt
        have ax_14c0 := AX_14.out.c0
        have ax_14c1 := AX_14.out.c1
        have ax_14c2 := AX_14.out.c2
        have ax_14c3 := AX_14.out.c3
        have ax_14c4 := AX_14.out.c4
        have ax_14c5 := AX_14.out.c5
        clear hb14
        go_wp2_with fail
        refine (c_markIntS ys _ _ 1 _ hyl (by omega) (by omega) GS_14.out).mono ?_
        rintro e w15 ⟨rfl, hr, hg⟩
        have GS_15 := Lib.hid hr
        have HG15 := Lib.hid hg
        clear hr hg
        have OG : Hid (∀ k, Gv.ownBlock = some k → w5.heap.size < k) := fun k hk => Nat.lt_of_lt_of_le (by have := XX_6.out.lt; exact this) (World.ownsRow.lt GS_7.out k hk).1
        have OX : Hid (w.heap.size < w5.heap.size) := AX_5.out.lt
        have HB15 : Hid (Below w.heap.size w w15) := HB14.out.grown HG15.out HB14.out.size (fun k hk => by have := OG.out k hk; have := OX.out; omega)
        have AX_15 := Lib.hid (AX_14.out.grown HG15.out (fun e => by have := OG.out _ e; have := OX.out; omega))
        have WS_15 : Hid (Row w15 _ Wv ys) := World.ownsRow.kept WS_14.out HG15.out PC.out
        have ax_15c0 := AX_15.out.c0
        have ax_15c1 := AX_15.out.c1
        have ax_15c2 := AX_15.out.c2
        have ax_15c3 := AX_15.out.c3
        have ax_15c4 := AX_15.out.c4
        have ax_15c5 := AX_15.out.c5
        go_wp2_with fail
        refine (c_heldIntS Gv _ ys.length 1 _ hyl (by omega) (by omega) GS_15.out).mono ?_
        rintro e w' ⟨rfl, rfl⟩
        go_wp2_with fail
        refine (c_toModel x y z _ _ _ ts gs rs _ l1 l2 l3 (HL.out.t.below HB15.out) (HL.out.g.below HB15.out) (HL.out.r.below HB15.out)).mono ?_
        rintro e w16 ⟨Ya, Yb, Yc, rfl, hm, hb16⟩
        have HB16 : Hid (Below w.heap.size w w16) := HB15.out.trans (hb16.mono HB15.out.size)
        have AX_16 := Lib.hid (AX_15.out.below hb16)
        have WS_16 := Lib.hid (WS_15.out.below hb16)
        have GS_16 := Lib.hid (GS_15.out.below hb16)
        have lt_ax_16 := AX_16.out.lt
        have ax_16c0 := AX_16.out.c0
        have ax_16c1 := AX_16.out.c1
        have ax_16c2 := AX_16.out.c2
        have ax_16c3 := AX_16.out.c3
        have ax_16c4 := AX_16.out.c4
        have ax_16c5 := AX_16.out.c5
        have YM_16 := Lib.hid hm
        clear hm
        clear hb16
        go_wp2_with fail
        refine (c_toPartS n xs _ _ ln (HSp.out.below HB16.out)).mono ?_
        rintro e w17 ⟨Yp, rfl, hs, hb17⟩
        have HB17 : Hid (Below w.heap.size w w17) := HB16.out.trans (hb17.mono HB16.out.size)
        have AX_17 := Lib.hid (AX_16.out.below hb17)
        have WS_17 := Lib.hid (WS_16.out.below hb17)
        have GS_17 := Lib.hid (GS_16.out.below hb17)
        have YM_17 := Lib.hid (YM_16.out.below hb17)
        have lt_ax_17 := AX_17.out.lt
        have ax_17c0 := AX_17.out.c0
        have ax_17c1 := AX_17.out.c1
        have ax_17c2 := AX_17.out.c2
        have ax_17c3 := AX_17.out.c3
        have ax_17c4 := AX_17.out.c4
        have ax_17c5 := AX_17.out.c5
        have YP_17 := Lib.hid hs
        clear hs
        clear hb17
        go_wp2_with fail
        refine (CI.out _ _ _ _ _ YM_17.out.look YP_17.out.seenC).mono ?_
        rintro e w18 ⟨Yv, rfl, hs, hb18⟩
        have HB18 : Hid (Below w.heap.size w w18) := HB17.out.trans (hb18.mono HB17.out.size)
        have AX_18 := Lib.hid (AX_17.out.below hb18)
        have WS_18 := Lib.hid (WS_17.out.below hb18)
        have GS_18 := Lib.hid (GS_17.out.below hb18)
        have YM_18 := Lib.hid (YM_17.out.below hb18)
        have YP_18 := Lib.hid (YP_17.out.below hb18)
        have lt_ax_18 := AX_18.out.lt
        have ax_18c0 := AX_18.out.c0
        have ax_18c1 := AX_18.out.c1
        have ax_18c2 := AX_18.out.c2
        have ax_18c3 := AX_18.out.c3
        have ax_18c4 := AX_18.out.c4
        have ax_18c5 := AX_18.out.c5
        have YS_18 := Lib.hid hs
        clear hs
        clear hb18
        go_wp2_with fail
        refine (c_eqIntS ys _ _ _ _ _ hyl YS_18.out WS_18.out).mono ?_
        rintro e w19 ⟨rfl, hb19⟩
        have HB19 : Hid (Below w.heap.size w w19) := HB18.out.trans (hb19.mono HB18.out.size)
        have AX_19 := Lib.hid (AX_18.out.below hb19)
        have WS_19 := Lib.hid (WS_18.out.below hb19)
        have GS_19 := Lib.hid (GS_18.out.below hb19)
        have YM_19 := Lib.hid (YM_18.out.below hb19)
        have YP_19 := Lib.hid (YP_18.out.below hb19)
        have YS_19 := Lib.hid (YS_18.out.below hb19)
        have lt_ax_19 := AX_19.out.lt
        have ax_19c0 := AX_19.out.c0
        have ax_19c1 := AX_19.out.c1
        have ax_19c2 := AX_19.out.c2
        have ax_19c3 := AX_19.out.c3
        have ax_19c4 := AX_19.out.c4
        have ax_19c5 := AX_19.out.c5
        clear hb19
        go_wp2_with fail
        refine (c_heldIntS Gv _ ys.length 1 _ hyl (by omega) (by omega) GS_19.out).mono ?_
        rintro e w' ⟨rfl, rfl⟩
        go_wp2
        go_ret
        exact ⟨rfl, HB19.out⟩

/-! ### The row's step -/
theorem laid : laidOutB Try.prog = true := by kernel_rfl
set_option maxRecDepth 100000 in
theorem lifted (os : Os) (started : os.Started) (H : Type) (enc : TypeId × Value → H) :
    ReturnsInHanded {} Try.checked os 4 .any (Rows.fnExactRuleValuesSpec.pre6 enc Try.prog Try.f4 Rows.fnExactRuleValuesRow.domain false) (Rows.fnExactRuleValuesSpec.post enc Try.prog Try.f4 false true false false) := by
  refine returnsInHanded_of_change (C := Try.checked) own started (by kernel_rfl) Try.func4
    (ChangeSpec.witness6 (enc := enc) (C := Try.checked) false ⟨#[], #[.agg #[.int .i64 0, .int .i64 0, .int .i64 0, .slice none 0 0, .slice none 0 0, .slice none 0 0], .slice none 0 0], []⟩ 8 (by kernel_rfl) (by kernel_rfl) (by kernel_rfl) (by kernel_rfl)) ?_
  intro W base args ds gs before hval0 hW hcnd _
  have hval : ∀ (j : Nat) t v, Try.f4.params[j]? = some t → args[j]? = some v → Value.okWide Try.prog W .any base t v := hval0
  have hW' := hW
  have lts : ∀ x ∈ before, x.block < W.heap.size := fun x hx => by simpa using hW'.lt x hx
  obtain ⟨p, q, hA0, hV, rfl, hfz, hnd⟩ := hW
  have hA : DataW.TrodAll enc Try.prog W 0 (fun _ => true) true Try.f4.params.toList args.toList ds p := hA0
  rw [Try.params4] at hA hval
  obtain ⟨v0, vs0, d0, ds0, p0, q0, hargs, rfl, rfl, h0, r0⟩ := trodAll_cons hA
  obtain ⟨v1, vs1, d1, ds1, p1, q1, rfl, rfl, rfl, h1, r1⟩ := trodAll_cons r0
  obtain ⟨rfl, rfl, rfl⟩ := trodAll_nil r1
  obtain rfl : args = #[v0, v1] := by cases args; simp_all
  obtain ⟨rfl, rfl⟩ := trodVars_none hV
  have k0 := h0
  obtain ⟨x, y, z, m1, m2, m3, ts, gs, rs, rfl, hL⟩ := open_model (hval 0 26 v0 rfl rfl) h0
  have k1 := h1
  obtain ⟨n, xs, hSp⟩ := open_pieces (hval 1 27 v1 rfl rfl) h1
  clear hA0 hval0
  simp only [List.append_nil] at hW' lts
  refine (walk x y z m1 m2 m3 ts gs rs v1 n xs W hL hSp).mono fun e W' ⟨he, bel⟩ => ?_
  subst he
  exact ⟨_, rfl, _, _, _, [], _, [], hW', trodAll_mk1 (shut_bool Try.underlying4 _), (trodAll_cons_mk (Below.trod laid (by kernel_rfl) (of_decide_eq_true (by kernel_rfl)) k0 bel (fun x hx => lts x (by simp [hx]))) (trodAll_cons_mk (Below.trod laid (by kernel_rfl) (of_decide_eq_true (by kernel_rfl)) k1 bel (fun x hx => lts x (by simp [hx]))) trodAll_mk0)), rfl, bel.frame _, fun h => by cases h⟩

theorem over : Rows.fnExactRuleValuesRow.holds Try.pinned (OpenSpec.ofChange Rows.fnExactRuleValuesSpec) :=
  OpenClaim.holds_of_wide 4 Try.f4 rfl rfl rfl rfl rfl rfl rfl ⟨rfl, rfl, rfl, rfl, rfl⟩ rfl rfl rfl rfl rfl (by kernel_rfl) Try.func4 (by kernel_rfl)
    (of_decide_eq_true (by kernel_rfl)) (by unfold Func.isWrapper; first | (rw [if_pos (by decide +kernel)]; kernel_rfl) | (rw [if_neg (by decide +kernel)]; exact ⟨rfl, rfl⟩))
    (fun os started H enc _ => lifted os started H enc)

end Go.Proofs.Ytdodmcmkelegoaa.fnExactRuleValuesProof
namespace Go.Proofs.Ytdodmcmkelegoaa
theorem fnExactRuleValues_holds : Rows.FnExactRuleValuesSaid := fnExactRuleValuesProof.over
#print axioms fnExactRuleValues_holds
end Go.Proofs.Ytdodmcmkelegoaa
