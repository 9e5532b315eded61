/-
  The law FnExactStripRatio holds: for all arguments, StripRatio answers as its model does, and the arguments read as they did. No conditions.
-/
import Derived.Test.YtcmdnpablnihmaaRows
import Derived.Test.YtcmdnpablnihmaaW5
import Derived.Test.YtcmdnpablnihmaaOpen
import Derived.WalkKit
import Derived.Lib.Hide
import Derived.Deep.DeepCutAuto
import Derived.ProofKit
import Derived.OpenShut
import Derived.ShutString
import Derived.ChangeOld
import Derived.Below
import Derived.Carry
import Derived.Deep.RegionWith
import Derived.Lib.SmallJoins
namespace Go.Proofs.Ytcmdnpablnihmaa.fnExactStripRatioProof
open Go.ChangeShapes Go.WideShapes Go.ChangeAt Go.RowKit Go.Joins
open Go.ChangeMaps (open_string shut_string)
set_option linter.unusedVariables false

theorem own : ownKnob Try.prog.godebug = none := by kernel_rfl

theorem Mod.drew {w : World} {B : Nat} {v1 v2 v3 : Value} {ts gs rs : List Int} (h : Mod w B v1 v2 v3 ts gs rs) : Mod w.drew B v1 v2 v3 ts gs rs := ⟨h.t.draws 1, h.g.draws 1, h.r.draws 1, h.tg, h.tr, h.gr⟩

/-! ### The walk -/
set_option maxHeartbeats 4000000 in
set_option maxRecDepth 100000 in
theorem walk (x y z : Int) (v1 v2 v3 : Value) (ts gs rs : List Int) (u1 : Value) (bs1 : List Int) (u2 : Value) (bs2 : List Int) (w : World) (hL : Look w v1 v2 v3 ts gs rs) (hS1 : Seen w u1 bs1) (hS2 : Seen w u2 bs2) :
    Calls Try.prog 12 #[.agg #[.int .i64 x, .int .i64 y, .int .i64 z, v1, v2, v3], u1, u2] w fun e w' => e = .returned (.bool true) ∧ Below w.heap.size w w' := by
  have HL := Lib.hid hL
  have m1 := hL.t
  have m2 := hL.g
  have m3 := hL.r
  obtain ⟨A1, c1, rfl, t1, _⟩ := m1
  obtain ⟨A2, c2, rfl, t2, _⟩ := m2
  obtain ⟨A3, c3, rfl, t3, _⟩ := m3
  have b1 : ts.length ≤ 9223372036854775807 := by unfold maxLen at t1; omega
  have b2 : gs.length ≤ 9223372036854775807 := by unfold maxLen at t2; omega
  have b3 : rs.length ≤ 9223372036854775807 := by unfold maxLen at t3; omega
  clear hL t1 t2 t3
  have HS1 := Lib.hid hS1
  obtain ⟨AV1, cV1, rfl, tv1, _⟩ := hS1
  have bv1 : bs1.length ≤ 9223372036854775807 := by unfold maxLen at tv1; omega
  clear tv1
  have HS2 := Lib.hid hS2
  obtain ⟨AV2, cV2, rfl, tv2, _⟩ := hS2
  have bv2 : bs2.length ≤ 9223372036854775807 := by unfold maxLen at tv2; omega
  clear tv2
  have hne0 : (stP x y z ts gs rs bs1 bs2 != stP x y z ts gs rs bs1 bs2) = false := by simp
  have hne1 : (stQ x y z ts gs rs bs1 bs2 != stQ x y z ts gs rs bs1 bs2) = false := by simp
  have hne2 : (stB x y z ts gs rs bs1 bs2 != stB x y z ts gs rs bs1 bs2) = false := by simp
  have HB0 : Hid (Below w.heap.size w (w.alloc (.cells #[.int .i64 x, .int .i64 y, .int .i64 z, .slice A1 ts.length c1, .slice A2 gs.length c2, .slice A3 rs.length c3] 35))) := (Below.refl _ _).alloc (Nat.le_refl _) _
  have AX_0 : Hid (Box6 (w.alloc (.cells #[.int .i64 x, .int .i64 y, .int .i64 z, .slice A1 ts.length c1, .slice A2 gs.length c2, .slice A3 rs.length c3] 35)) w.heap.size x y z (.slice A1 ts.length c1) (.slice A2 gs.length c2) (.slice A3 rs.length c3)) := Box6.new _ _ _ _ _ _ _ _
  by_cases lv1 : bs1.length ≤ 1048576
  case neg =>
    go_enter Try.func12, Try.ntmps12
    go_wp2
    go_ret
    exact ⟨rfl, HB0.out⟩
  case pos =>
    by_cases lv2 : bs2.length ≤ 1048576
    case neg =>
      go_enter Try.func12, Try.ntmps12
      go_wp2
      go_ret
      exact ⟨rfl, HB0.out⟩
    case pos =>
      have lw1 : bs1.length ≤ 4000000 := by omega
      have lw2 : bs2.length ≤ 4000000 := by omega
      go_enter Try.func12, Try.ntmps12
      go_wp2_with fail
      refine (c_szModel x y z _ _ _ _ _ _ _ _ _ _ b1 b2 b3).mono ?_
      rintro e w1 ⟨⟨r0, rfl, hsz⟩, hb1⟩
      have HB1 : Hid (Below w.heap.size w w1) := HB0.out.trans (hb1.mono HB0.out.size)
      have AX_1 := Lib.hid (AX_0.out.below hb1)
      have lt_ax_1 := AX_1.out.lt
      have ax_1c0 := AX_1.out.c0
      have ax_1c1 := AX_1.out.c1
      have ax_1c2 := AX_1.out.c2
      have ax_1c3 := AX_1.out.c3
      have ax_1c4 := AX_1.out.c4
      have ax_1c5 := AX_1.out.c5
      clear hb1
      rcases hsz with ⟨_, rfl⟩ | ⟨hsz, hr⟩
      · go_wp2
        go_ret
        exact ⟨rfl, HB1.out⟩
      · have hr0 : ¬ r0 < 0 := by omega
        have l1 : ts.length ≤ 4000000 := by omega
        have l2 : gs.length ≤ 4000000 := by omega
        have l3 : rs.length ≤ 4000000 := by omega
        clear hr
        have CS : Hid (∀ (p1 p2 p3 : Value) (q1 : Value) (q2 : Value) (u : World), Look u p1 p2 p3 ts gs rs → Seen u q1 bs1 → Seen u q2 bs2 → Calls Try.prog 45 #[.agg #[.int .i64 x, .int .i64 y, .int .i64 z, p1, p2, p3], q1, q2] u (fun e u' => e = .returned (.tuple #[.int .i64 (stP x y z ts gs rs bs1 bs2), .int .i64 (stQ x y z ts gs rs bs1 bs2), .bool (stB x y z ts gs rs bs1 bs2)]) ∧ Below u.heap.size u u')) := fun p1 p2 p3 q1 q2 u hu hq1 hq2 => c_StripRatioS x y z _ _ _ ts gs rs q1 bs1 q2 bs2 u l1 l2 l3 lw1 lw2 hu hq1 hq2
        have CI : Hid (∀ (p1 p2 p3 : Value) (q1 : Value) (q2 : Value) (u : World), Look u p1 p2 p3 ts gs rs → Seen u q1 bs1 → Seen u q2 bs2 → Calls Try.prog 46 #[.agg #[.int .i64 x, .int .i64 y, .int .i64 z, p1, p2, p3], q1, q2] u (fun e u' => e = .returned (.tuple #[.int .i64 (stP x y z ts gs rs bs1 bs2), .int .i64 (stQ x y z ts gs rs bs1 bs2), .bool (stB x y z ts gs rs bs1 bs2)]) ∧ Below u.heap.size u u')) := fun p1 p2 p3 q1 q2 u hu hq1 hq2 => c_StripRatio x y z _ _ _ ts gs rs q1 bs1 q2 bs2 u l1 l2 l3 lw1 lw2 hu hq1 hq2
        go_wp2_with fail
        refine (c_toModel x y z _ _ _ ts gs rs _ l1 l2 l3 (HL.out.t.below HB1.out) (HL.out.g.below HB1.out) (HL.out.r.below HB1.out)).mono ?_
        rintro e w2 ⟨Sa, Sb, Sc, rfl, hm, hb2⟩
        have HB2 : Hid (Below w.heap.size w w2) := HB1.out.trans (hb2.mono HB1.out.size)
        have AX_2 := Lib.hid (AX_1.out.below hb2)
        have lt_ax_2 := AX_2.out.lt
        have ax_2c0 := AX_2.out.c0
        have ax_2c1 := AX_2.out.c1
        have ax_2c2 := AX_2.out.c2
        have ax_2c3 := AX_2.out.c3
        have ax_2c4 := AX_2.out.c4
        have ax_2c5 := AX_2.out.c5
        have SM_2 := Lib.hid hm
        clear hm
        clear hb2
        go_wp2_with fail
        refine (c_toIntS bs1 _ _ lw1 (HS1.out.below HB2.out)).mono ?_
        rintro e w3 ⟨Sv1, rfl, hs, hb3⟩
        have HB3 : Hid (Below w.heap.size w w3) := HB2.out.trans (hb3.mono HB2.out.size)
        have AX_3 := Lib.hid (AX_2.out.below hb3)
        have SM_3 := Lib.hid (SM_2.out.below hb3)
        have lt_ax_3 := AX_3.out.lt
        have ax_3c0 := AX_3.out.c0
        have ax_3c1 := AX_3.out.c1
        have ax_3c2 := AX_3.out.c2
        have ax_3c3 := AX_3.out.c3
        have ax_3c4 := AX_3.out.c4
        have ax_3c5 := AX_3.out.c5
        have SS1_3 := Lib.hid hs
        clear hs
        clear hb3
        go_wp2_with fail
        refine (c_toIntS bs2 _ _ lw2 (HS2.out.below HB3.out)).mono ?_
        rintro e w4 ⟨Sv2, rfl, hs, hb4⟩
        have HB4 : Hid (Below w.heap.size w w4) := HB3.out.trans (hb4.mono HB3.out.size)
        have AX_4 := Lib.hid (AX_3.out.below hb4)
        have SM_4 := Lib.hid (SM_3.out.below hb4)
        have SS1_4 := Lib.hid (SS1_3.out.below hb4)
        have lt_ax_4 := AX_4.out.lt
        have ax_4c0 := AX_4.out.c0
        have ax_4c1 := AX_4.out.c1
        have ax_4c2 := AX_4.out.c2
        have ax_4c3 := AX_4.out.c3
        have ax_4c4 := AX_4.out.c4
        have ax_4c5 := AX_4.out.c5
        have SS2_4 := Lib.hid hs
        clear hs
        clear hb4
        go_wp2_with fail
        refine (CS.out _ _ _ _ _ _ SM_4.out.look SS1_4.out.seen SS2_4.out.seen).mono ?_
        rintro e w5 ⟨rfl, hb5⟩
        have HB5 : Hid (Below w.heap.size w w5) := HB4.out.trans (hb5.mono HB4.out.size)
        have AX_5 := Lib.hid (AX_4.out.below hb5)
        have SM_5 := Lib.hid (SM_4.out.below hb5)
        have SS1_5 := Lib.hid (SS1_4.out.below hb5)
        have SS2_5 := Lib.hid (SS2_4.out.below hb5)
        have lt_ax_5 := AX_5.out.lt
        have ax_5c0 := AX_5.out.c0
        have ax_5c1 := AX_5.out.c1
        have ax_5c2 := AX_5.out.c2
        have ax_5c3 := AX_5.out.c3
        have ax_5c4 := AX_5.out.c4
        have ax_5c5 := AX_5.out.c5
        clear hb5
        go_wp2_with fail
        refine (c_toModel x y z _ _ _ ts gs rs _ l1 l2 l3 (HL.out.t.below HB5.out) (HL.out.g.below HB5.out) (HL.out.r.below HB5.out)).mono ?_
        rintro e w6 ⟨Xa, Xb, Xc, rfl, hm, hb6⟩
        have HB6 : Hid (Below w.heap.size w w6) := HB5.out.trans (hb6.mono HB5.out.size)
        have AX_6 := Lib.hid (AX_5.out.below hb6)
        have lt_ax_6 := AX_6.out.lt
        have ax_6c0 := AX_6.out.c0
        have ax_6c1 := AX_6.out.c1
        have ax_6c2 := AX_6.out.c2
        have ax_6c3 := AX_6.out.c3
        have ax_6c4 := AX_6.out.c4
        have ax_6c5 := AX_6.out.c5
        have XM_6 := Lib.hid hm
        clear hm
        clear hb6
        obtain ⟨Q1, k1, rfl⟩ := XM_6.out.t.shape
        obtain ⟨Q2, k2, rfl⟩ := XM_6.out.g.shape
        obtain ⟨Q3, k3, rfl⟩ := XM_6.out.r.shape
        go_wp2_with fail
        have hbx : Below w6.heap.size w6 (w6.alloc (Obj.cells #[.int .i64 x, .int .i64 y, .int .i64 z, .slice Q1 ts.length k1, .slice Q2 gs.length k2, .slice Q3 rs.length k3] 43)) := (Below.refl _ _).alloc (Nat.le_refl _) _
        have HB6x : Hid (Below w.heap.size w (w6.alloc (Obj.cells #[.int .i64 x, .int .i64 y, .int .i64 z, .slice Q1 ts.length k1, .slice Q2 gs.length k2, .slice Q3 rs.length k3] 43))) := HB6.out.trans (hbx.mono HB6.out.size)
        have AX_6x := Lib.hid (AX_6.out.below hbx)
        have XM_6x := Lib.hid (XM_6.out.below hbx)
        have ax_6xc0 := AX_6x.out.c0
        have ax_6xc1 := AX_6x.out.c1
        have ax_6xc2 := AX_6x.out.c2
        have ax_6xc3 := AX_6x.out.c3
        have ax_6xc4 := AX_6x.out.c4
        have ax_6xc5 := AX_6x.out.c5
        have XX_6x : Hid (Box6 (w6.alloc (Obj.cells #[.int .i64 x, .int .i64 y, .int .i64 z, .slice Q1 ts.length k1, .slice Q2 gs.length k2, .slice Q3 rs.length k3] 43)) w6.heap.size x y z (.slice Q1 ts.length k1) (.slice Q2 gs.length k2) (.slice Q3 rs.length k3)) := Box6.new _ _ _ _ _ _ _ _
        clear hbx
        go_wp2_with fail
        refine (c_toIntS bs1 _ _ lw1 (HS1.out.below HB6x.out)).mono ?_
        rintro e w7 ⟨Xv1, rfl, hs, hb7⟩
        have HB7 : Hid (Below w.heap.size w w7) := HB6x.out.trans (hb7.mono HB6x.out.size)
        have AX_7 := Lib.hid (AX_6x.out.below hb7)
        have XM_7 := Lib.hid (XM_6x.out.below hb7)
        have XX_7 := Lib.hid (XX_6x.out.below hb7)
        have lt_ax_7 := AX_7.out.lt
        have ax_7c0 := AX_7.out.c0
        have ax_7c1 := AX_7.out.c1
        have ax_7c2 := AX_7.out.c2
        have ax_7c3 := AX_7.out.c3
        have ax_7c4 := AX_7.out.c4
        have ax_7c5 := AX_7.out.c5
        have lt_xx_7 := XX_7.out.lt
        have xx_7c0 := XX_7.out.c0
        have xx_7c1 := XX_7.out.c1
        have xx_7c2 := XX_7.out.c2
        have xx_7c3 := XX_7.out.c3
        have xx_7c4 := XX_7.out.c4
        have xx_7c5 := XX_7.out.c5
        have XS1_7 := Lib.hid hs
        clear hs
        clear hb7
        go_wp2_with fail
        refine (c_toIntS bs2 _ _ lw2 (HS2.out.below HB7.out)).mono ?_
        rintro e w8 ⟨Xv2, rfl, hs, hb8⟩
        have HB8 : Hid (Below w.heap.size w w8) := HB7.out.trans (hb8.mono HB7.out.size)
        have AX_8 := Lib.hid (AX_7.out.below hb8)
        have XM_8 := Lib.hid (XM_7.out.below hb8)
        have XX_8 := Lib.hid (XX_7.out.below hb8)
        have XS1_8 := Lib.hid (XS1_7.out.below hb8)
        have lt_ax_8 := AX_8.out.lt
        have ax_8c0 := AX_8.out.c0
        have ax_8c1 := AX_8.out.c1
        have ax_8c2 := AX_8.out.c2
        have ax_8c3 := AX_8.out.c3
        have ax_8c4 := AX_8.out.c4
        have ax_8c5 := AX_8.out.c5
        have lt_xx_8 := XX_8.out.lt
        have xx_8c0 := XX_8.out.c0
        have xx_8c1 := XX_8.out.c1
        have xx_8c2 := XX_8.out.c2
        have xx_8c3 := XX_8.out.c3
        have xx_8c4 := XX_8.out.c4
        have xx_8c5 := XX_8.out.c5
        have XS2_8 := Lib.hid hs
        clear hs
        clear hb8
        go_wp2_with fail
        refine (CI.out _ _ _ _ _ _ XM_8.out.look XS1_8.out.seen XS2_8.out.seen).mono ?_
        rintro e w9 ⟨rfl, hb9⟩
        have HB9 : Hid (Below w.heap.size w w9) := HB8.out.trans (hb9.mono HB8.out.size)
        have AX_9 := Lib.hid (AX_8.out.below hb9)
        have XM_9 := Lib.hid (XM_8.out.below hb9)
        have XX_9 := Lib.hid (XX_8.out.below hb9)
        have XS1_9 := Lib.hid (XS1_8.out.below hb9)
        have XS2_9 := Lib.hid (XS2_8.out.below hb9)
        have lt_ax_9 := AX_9.out.lt
        have ax_9c0 := AX_9.out.c0
        have ax_9c1 := AX_9.out.c1
        have ax_9c2 := AX_9.out.c2
        have ax_9c3 := AX_9.out.c3
        have ax_9c4 := AX_9.out.c4
        have ax_9c5 := AX_9.out.c5
        have lt_xx_9 := XX_9.out.lt
        have xx_9c0 := XX_9.out.c0
        have xx_9c1 := XX_9.out.c1
        have xx_9c2 := XX_9.out.c2
        have xx_9c3 := XX_9.out.c3
        have xx_9c4 := XX_9.out.c4
        have xx_9c5 := XX_9.out.c5
        clear hb9
        go_upto_region 16 with fail
        go_cut [70] (fun s wx => s = .bool false ∧ Below w9.heap.size w9 wx)
        case first =>
          go_region_with (first
            | (go_at_call 24
               refine (c_toModel x y z _ _ _ ts gs rs _ l1 l2 l3 (HL.out.t.below (by exact HB9.out.drew)) (HL.out.g.below (by exact HB9.out.drew)) (HL.out.r.below (by exact HB9.out.drew))).mono ?_
               rintro e wy ⟨r1, r2, r3, rfl, hmy, hby⟩
               obtain ⟨hcy, hfy⟩ := bcell hby
               have sy := hby.size
               simp at sy hcy hfy
               have pxy := XX_9.out.lt
               have HMY := Lib.hid hmy
               have HNY : Hid (Mod wy _ (.slice Q1 ts.length k1) (.slice Q2 gs.length k2) (.slice Q3 rs.length k3) ts gs rs) := Mod.below (Mod.drew XM_9.out) hby
               have HBY : Hid (Below w9.heap.size w9 wy) := (Below.refl _ _).drew.trans hby
               clear hby hmy)
            | (go_at_call 27
               refine (c_eqModel x y z _ _ _ _ _ _ ts gs rs _ _ _ l1 l2 l3 HNY.out HMY.out).mono ?_
               rintro e wz ⟨rfl, hbz⟩
               have HBZ : Hid (Below w9.heap.size w9 wz) := HBY.out.trans (hbz.mono HBY.out.size)
               clear hbz))
          all_goals
            go_wp2_with fail
            go_meet
            exact ⟨rfl, HBZ.out⟩
        case rest =>
          obtain ⟨rfl, hb10⟩ := hcut
          have HB10 : Hid (Below w.heap.size w wc) := HB9.out.trans (hb10.mono HB9.out.size)
          have AX_10 := Lib.hid (AX_9.out.below hb10)
          have XM_10 := Lib.hid (XM_9.out.below hb10)
          have XX_10 := Lib.hid (XX_9.out.below hb10)
          have XS1_10 := Lib.hid (XS1_9.out.below hb10)
          have XS2_10 := Lib.hid (XS2_9.out.below hb10)
          have lt_ax_10 := AX_10.out.lt
          have ax_10c0 := AX_10.out.c0
          have ax_10c1 := AX_10.out.c1
          have ax_10c2 := AX_10.out.c2
          have ax_10c3 := AX_10.out.c3
          have ax_10c4 := AX_10.out.c4
          have ax_10c5 := AX_10.out.c5
          have lt_xx_10 := XX_10.out.lt
          have xx_10c0 := XX_10.out.c0
          have xx_10c1 := XX_10.out.c1
          have xx_10c2 := XX_10.out.c2
          have xx_10c3 := XX_10.out.c3
          have xx_10c4 := XX_10.out.c4
          have xx_10c5 := XX_10.out.c5
          clear hb10
          go_wp2_with fail
          refine (c_toIntS bs1 _ _ lw1 (HS1.out.below HB10.out)).mono ?_
          rintro e w11 ⟨Yv1, rfl, hs, hb11⟩
          have HB11 : Hid (Below w.heap.size w w11) := HB10.out.trans (hb11.mono HB10.out.size)
          have AX_11 := Lib.hid (AX_10.out.below hb11)
          have XM_11 := Lib.hid (XM_10.out.below hb11)
          have XX_11 := Lib.hid (XX_10.out.below hb11)
          have XS1_11 := Lib.hid (XS1_10.out.below hb11)
          have XS2_11 := Lib.hid (XS2_10.out.below hb11)
          have lt_ax_11 := AX_11.out.lt
          have ax_11c0 := AX_11.out.c0
          have ax_11c1 := AX_11.out.c1
          have ax_11c2 := AX_11.out.c2
          have ax_11c3 := AX_11.out.c3
          have ax_11c4 := AX_11.out.c4
          have ax_11c5 := AX_11.out.c5
          have lt_xx_11 := XX_11.out.lt
          have xx_11c0 := XX_11.out.c0
          have xx_11c1 := XX_11.out.c1
          have xx_11c2 := XX_11.out.c2
          have xx_11c3 := XX_11.out.c3
          have xx_11c4 := XX_11.out.c4
          have xx_11c5 := XX_11.out.c5
          have YS1_11 := Lib.hid hs
          clear hs
          clear hb11
          go_wp2_with fail
          refine (c_eqIntS bs1 _ _ _ _ _ lw1 XS1_11.out YS1_11.out).mono ?_
          rintro e w12 ⟨rfl, hb12⟩
          have HB12 : Hid (Below w.heap.size w w12) := HB11.out.trans (hb12.mono HB11.out.size)
          have AX_12 := Lib.hid (AX_11.out.below hb12)
          have XM_12 := Lib.hid (XM_11.out.below hb12)
          have XX_12 := Lib.hid (XX_11.out.below hb12)
          have XS1_12 := Lib.hid (XS1_11.out.below hb12)
          have XS2_12 := Lib.hid (XS2_11.out.below hb12)
          have YS1_12 := Lib.hid (YS1_11.out.below hb12)
          have lt_ax_12 := AX_12.out.lt
          have ax_12c0 := AX_12.out.c0
          have ax_12c1 := AX_12.out.c1
          have ax_12c2 := AX_12.out.c2
          have ax_12c3 := AX_12.out.c3
          have ax_12c4 := AX_12.out.c4
          have ax_12c5 := AX_12.out.c5
          have lt_xx_12 := XX_12.out.lt
          have xx_12c0 := XX_12.out.c0
          have xx_12c1 := XX_12.out.c1
          have xx_12c2 := XX_12.out.c2
          have xx_12c3 := XX_12.out.c3
          have xx_12c4 := XX_12.out.c4
          have xx_12c5 := XX_12.out.c5
          clear hb12
          go_wp2_with fail
          refine (c_toIntS bs2 _ _ lw2 (HS2.out.below HB12.out)).mono ?_
          rintro e w13 ⟨Yv2, rfl, hs, hb13⟩
          have HB13 : Hid (Below w.heap.size w w13) := HB12.out.trans (hb13.mono HB12.out.size)
          have AX_13 := Lib.hid (AX_12.out.below hb13)
          have XM_13 := Lib.hid (XM_12.out.below hb13)
          have XX_13 := Lib.hid (XX_12.out.below hb13)
          have XS1_13 := Lib.hid (XS1_12.out.below hb13)
          have XS2_13 := Lib.hid (XS2_12.out.below hb13)
          have lt_ax_13 := AX_13.out.lt
          have ax_13c0 := AX_13.out.c0
          have ax_13c1 := AX_13.out.c1
          have ax_13c2 := AX_13.out.c2
          have ax_13c3 := AX_13.out.c3
          have ax_13c4 := AX_13.out.c4
          have ax_13c5 := AX_13.out.c5
          have lt_xx_13 := XX_13.out.lt
          have xx_13c0 := XX_13.out.c0
          have xx_13c1 := XX_13.out.c1
          have xx_13c2 := XX_13.out.c2
          have xx_13c3 := XX_13.out.c3
          have xx_13c4 := XX_13.out.c4
          have xx_13c5 := XX_13.out.c5
          have YS2_13 := Lib.hid hs
          clear hs
          clear hb13
          go_wp2_with fail
          refine (c_eqIntS bs2 _ _ _ _ _ lw2 XS2_13.out YS2_13.out).mono ?_
          rintro e w14 ⟨rfl, hb14⟩
          have HB14 : Hid (Below w.heap.size w w14) := HB13.out.trans (hb14.mono HB13.out.size)
          have AX_14 := Lib.hid (AX_13.out.below hb14)
          have XM_14 := Lib.hid (XM_13.out.below hb14)
          have XX_14 := Lib.hid (XX_13.out.below hb14)
          have XS1_14 := Lib.hid (XS1_13.out.below hb14)
          have XS2_14 := Lib.hid (XS2_13.out.below hb14)
          have YS2_14 := Lib.hid (YS2_13.out.below hb14)
          have lt_ax_14 := AX_14.out.lt
          have ax_14c0 := AX_14.out.c0
          have ax_14c1 := AX_14.out.c1
          have ax_14c2 := AX_14.out.c2
          have ax_14c3 := AX_14.out.c3
          have ax_14c4 := AX_14.out.c4
          have ax_14c5 := AX_14.out.c5
          have lt_xx_14 := XX_14.out.lt
          have xx_14c0 := XX_14.out.c0
          have xx_14c1 := XX_14.out.c1
          have xx_14c2 := XX_14.out.c2
          have xx_14c3 := XX_14.out.c3
          have xx_14c4 := XX_14.out.c4
          have xx_14c5 := XX_14.out.c5
          clear hb14
          go_wp2
          go_ret
          exact ⟨rfl, HB14.out⟩

/-! ### The row's step -/
theorem laid : laidOutB Try.prog = true := by kernel_rfl
set_option maxRecDepth 100000 in
theorem lifted (os : Os) (started : os.Started) (H : Type) (enc : TypeId × Value → H) :
    ReturnsInHanded {} Try.checked os 12 .any (Rows.fnExactStripRatioSpec.pre6 enc Try.prog Try.f12 Rows.fnExactStripRatioRow.domain false) (Rows.fnExactStripRatioSpec.post enc Try.prog Try.f12 false true false false) := by
  refine returnsInHanded_of_change (C := Try.checked) own started (by kernel_rfl) Try.func12
    (ChangeSpec.witness6 (enc := enc) (C := Try.checked) false ⟨#[], #[.agg #[.int .i64 0, .int .i64 0, .int .i64 0, .slice none 0 0, .slice none 0 0, .slice none 0 0], .slice none 0 0, .slice none 0 0], []⟩ 8 (by kernel_rfl) (by kernel_rfl) (by kernel_rfl) (by kernel_rfl)) ?_
  intro W base args ds gs before hval0 hW hcnd _
  have hval : ∀ (j : Nat) t v, Try.f12.params[j]? = some t → args[j]? = some v → Value.okWide Try.prog W .any base t v := hval0
  have hW' := hW
  have lts : ∀ x ∈ before, x.block < W.heap.size := fun x hx => by simpa using hW'.lt x hx
  obtain ⟨p, q, hA0, hV, rfl, hfz, hnd⟩ := hW
  have hA : DataW.TrodAll enc Try.prog W 0 (fun _ => true) true Try.f12.params.toList args.toList ds p := hA0
  rw [Try.params12] at hA hval
  obtain ⟨v0, vs0, d0, ds0, p0, q0, hargs, rfl, rfl, h0, r0⟩ := trodAll_cons hA
  obtain ⟨v1, vs1, d1, ds1, p1, q1, rfl, rfl, rfl, h1, r1⟩ := trodAll_cons r0
  obtain ⟨v2, vs2, d2, ds2, p2, q2, rfl, rfl, rfl, h2, r2⟩ := trodAll_cons r1
  obtain ⟨rfl, rfl, rfl⟩ := trodAll_nil r2
  obtain rfl : args = #[v0, v1, v2] := by cases args; simp_all
  obtain ⟨rfl, rfl⟩ := trodVars_none hV
  have k0 := h0
  obtain ⟨x, y, z, m1, m2, m3, ts, gs, rs, rfl, hL⟩ := open_model (hval 0 35 v0 rfl rfl) h0
  have k1 := h1
  obtain ⟨bs1, hS1⟩ := open_list (hval 1 22 v1 rfl rfl) h1
  have k2 := h2
  obtain ⟨bs2, hS2⟩ := open_list (hval 2 22 v2 rfl rfl) h2
  clear hA0 hval0
  simp only [List.append_nil] at hW' lts
  refine (walk x y z m1 m2 m3 ts gs rs v1 bs1 v2 bs2 W hL hS1 hS2).mono fun e W' ⟨he, bel⟩ => ?_
  subst he
  exact ⟨_, rfl, _, _, _, [], _, [], hW', trodAll_mk1 (shut_bool Try.underlying4 _), (trodAll_cons_mk (Below.trod laid (by kernel_rfl) (of_decide_eq_true (by kernel_rfl)) k0 bel (fun x hx => lts x (by simp [hx]))) (trodAll_cons_mk (Below.trod laid (by kernel_rfl) (of_decide_eq_true (by kernel_rfl)) k1 bel (fun x hx => lts x (by simp [hx]))) (trodAll_cons_mk (Below.trod laid (by kernel_rfl) (of_decide_eq_true (by kernel_rfl)) k2 bel (fun x hx => lts x (by simp [hx]))) trodAll_mk0))), rfl, bel.frame _, fun h => by cases h⟩

theorem over : Rows.fnExactStripRatioRow.holds Try.pinned (OpenSpec.ofChange Rows.fnExactStripRatioSpec) :=
  OpenClaim.holds_of_wide 12 Try.f12 rfl rfl rfl rfl rfl rfl rfl ⟨rfl, rfl, rfl, rfl, rfl⟩ rfl rfl rfl rfl rfl (by kernel_rfl) Try.func12 (by kernel_rfl)
    (of_decide_eq_true (by kernel_rfl)) (by unfold Func.isWrapper; first | (rw [if_pos (by decide +kernel)]; kernel_rfl) | (rw [if_neg (by decide +kernel)]; exact ⟨rfl, rfl⟩))
    (fun os started H enc _ => lifted os started H enc)

end Go.Proofs.Ytcmdnpablnihmaa.fnExactStripRatioProof
namespace Go.Proofs.Ytcmdnpablnihmaa
theorem fnExactStripRatio_holds : Rows.FnExactStripRatioSaid := fnExactStripRatioProof.over
#print axioms fnExactStripRatio_holds
end Go.Proofs.Ytcmdnpablnihmaa
