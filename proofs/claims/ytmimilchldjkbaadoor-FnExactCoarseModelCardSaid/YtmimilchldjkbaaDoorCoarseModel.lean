/-
  The law FnExactCoarseModel holds: for all models, CoarseModel answers as its model does, its answer owns its memory, and the argument reads as it did. No conditions.
-/
import Derived.Test.YtmimilchldjkbaaDoorCards
import Derived.Test.YtmimilchldjkbaaDoorTie
import Derived.Test.YtmimilchldjkbaaDoorCO6
import Derived.Test.YtmimilchldjkbaaDoorM11D
import Derived.Test.YtmimilchldjkbaaDoorM15D
import Derived.Test.YtmimilchldjkbaaDoorOpen
import Derived.WalkKit
import Derived.ProofKit
import Derived.OpenShut
import Derived.ShutString
import Derived.ChangeOld
import Derived.Below
import Derived.Carry
import Derived.Deep.RegionWith
import Derived.Lib.SmallJoins
import Derived.Lib.Hide
import Derived.Deep.DeepCutAuto
import Derived.Deep.DeepHandedRow
import Derived.Lib.LaidTab
import Derived.OpenVars
import Derived.ChangeVars
import Derived.Deep.DeepWitnessRowRef
import Derived.Stop.LaidErr
namespace Go.Proofs.YtmimilchldjkbaaDoor.fnExactCoarseModelProof
open Go.ChangeShapes Go.WideShapes Go.ChangeAt Go.RowKit Go.Joins
open Go.ChangeMaps (open_string shut_string)
set_option linter.unusedVariables false

theorem own : ownKnob Tryd.prog.godebug = none := by kernel_rfl
theorem laid : laidOutB Tryd.prog = true := by kernel_rfl

theorem Mod.drew {w : World} {B : Nat} {v1 v2 v3 : Value} {ts gs rs : List Int} (h : Mod w B v1 v2 v3 ts gs rs) : Mod w.drew B v1 v2 v3 ts gs rs := ⟨h.t.draws 1, h.g.draws 1, h.r.draws 1, h.tg, h.tr, h.gr⟩

/-! ### The walk -/
set_option maxHeartbeats 8000000 in
set_option maxRecDepth 100000 in
theorem walk (x y z : Int) (v1 v2 v3 : Value) (ts gs rs : List Int) (w : World) (hL : Look w v1 v2 v3 ts gs rs) (hrk : RK w) :
    Calls Tryd.prog 6 #[.agg #[.int .i64 x, .int .i64 y, .int .i64 z, v1, v2, v3]] w fun e w' => e = .returned (.bool true) ∧ Below w.heap.size w w' := by
  have HK := Lib.hid hrk
  clear hrk
  have HL := Lib.hid hL
  have m1 := hL.t
  have m2 := hL.g
  have m3 := hL.r
  obtain ⟨A1, c1, rfl, t1, _⟩ := m1
  obtain ⟨A2, c2, rfl, t2, _⟩ := m2
  obtain ⟨A3, c3, rfl, t3, _⟩ := m3
  have b1 : ts.length ≤ 9223372036854775807 := by unfold maxLen at t1; omega
  have b2 : gs.length ≤ 9223372036854775807 := by unfold maxLen at t2; omega
  have b3 : rs.length ≤ 9223372036854775807 := by unfold maxLen at t3; omega
  clear hL t1 t2 t3
  have HB0 : Hid (Below w.heap.size w (w.alloc (.cells #[.int .i64 x, .int .i64 y, .int .i64 z, .slice A1 ts.length c1, .slice A2 gs.length c2, .slice A3 rs.length c3] 46))) := (Below.refl _ _).alloc (Nat.le_refl _) _
  have AX_0 : Hid (Box6 (w.alloc (.cells #[.int .i64 x, .int .i64 y, .int .i64 z, .slice A1 ts.length c1, .slice A2 gs.length c2, .slice A3 rs.length c3] 46)) w.heap.size x y z (.slice A1 ts.length c1) (.slice A2 gs.length c2) (.slice A3 rs.length c3)) := Box6.new _ _ _ _ _ _ _ _
  go_enter Tryd.func6, Tryd.ntmps6
  go_wp2_with fail
  refine (c_szModel x y z _ _ _ _ _ _ _ _ _ _ b1 b2 b3).mono ?_
  rintro e w1 ⟨⟨r, rfl, hsz⟩, hb1⟩
  have HB1 : Hid (Below w.heap.size w w1) := HB0.out.trans (hb1.mono HB0.out.size)
  have AX_1 := Lib.hid (AX_0.out.below hb1)
  have lt_ax_1 := AX_1.out.lt
  have ax_1c0 := AX_1.out.c0
  have ax_1c1 := AX_1.out.c1
  have ax_1c2 := AX_1.out.c2
  have ax_1c3 := AX_1.out.c3
  have ax_1c4 := AX_1.out.c4
  have ax_1c5 := AX_1.out.c5
  clear hb1
  rcases hsz with ⟨_, rfl⟩ | ⟨hsz, hr⟩
  · go_wp2
    go_ret
    exact ⟨rfl, HB1.out⟩
  · have hr0 : ¬ r < 0 := by omega
    have l1 : ts.length ≤ 4000000 := by omega
    have l2 : gs.length ≤ 4000000 := by omega
    have l3 : rs.length ≤ 4000000 := by omega
    clear hr
    obtain ⟨X, Y, Z, T, G, R, gg, bb, hTs, CS, CI⟩ : ∃ (X Y Z : Int) (T G R : List Int) (gg : Int) (bb : Bool), T.length + G.length + R.length ≤ 1048576 ∧ Hid (∀ (p1 p2 p3 : Value) (u : World), Look u p1 p2 p3 ts gs rs → Calls Tryd.prog 23 #[.agg #[.int .i64 x, .int .i64 y, .int .i64 z, p1, p2, p3]] u (GivesMod3 u X Y Z T G R gg bb)) ∧ Hid (∀ (p1 p2 p3 : Value) (u : World), Look u p1 p2 p3 ts gs rs → RK u → Calls Tryd.prog 25 #[.agg #[.int .i64 x, .int .i64 y, .int .i64 z, p1, p2, p3]] u (GivesMod3 u X Y Z T G R gg bb)) :=
      ⟨cmX x.toNat y.toNat z.toNat ts gs rs (((x.toNat : Int) + 1) / 2), cmX x.toNat y.toNat z.toNat ts gs rs (((y.toNat : Int) + 1) / 2), cmX x.toNat y.toNat z.toNat ts gs rs (z.toNat : Int), cmL x.toNat y.toNat z.toNat ts gs rs (cjT x.toNat y.toNat ts gs rs (x.toNat * y.toNat * z.toNat)), cmL x.toNat y.toNat z.toNat ts gs rs (cjG x.toNat y.toNat ts gs rs (x.toNat * y.toNat * z.toNat)), cmL x.toNat y.toNat z.toNat ts gs rs (cjR x.toNat y.toNat ts gs rs (x.toNat * y.toNat * z.toNat)), cmX x.toNat y.toNat z.toNat ts gs rs (cjGap x.toNat y.toNat ts gs rs (x.toNat * y.toNat * z.toNat) (coQ x.toNat y.toNat z.toNat)), cmB x.toNat y.toNat z.toNat ts gs rs, by have a1 := cmL_len x.toNat y.toNat z.toNat ts gs rs (cjT x.toNat y.toNat ts gs rs (x.toNat * y.toNat * z.toNat)); have a2 := cmL_len x.toNat y.toNat z.toNat ts gs rs (cjG x.toNat y.toNat ts gs rs (x.toNat * y.toNat * z.toNat)); have a3 := cmL_len x.toNat y.toNat z.toNat ts gs rs (cjR x.toNat y.toNat ts gs rs (x.toNat * y.toNat * z.toNat)); omega, fun p1 p2 p3 u hu => c_CoarseModelSI x y z _ _ _ ts gs rs u l1 l2 l3 hu, fun p1 p2 p3 u hu hk => c_CoarseModelI x y z _ _ _ ts gs rs u l1 l2 l3 hu hk⟩
    have hnb : (bb != bb) = false := by simp
    have hng : (gg != gg) = false := by simp
    have hnq : ((1 + (T.length : Int) + (G.length : Int) + (R.length : Int)) != (1 + (T.length : Int) + (G.length : Int) + (R.length : Int))) = false := by simp
    have hpq : ¬ (1 + (T.length : Int) + (G.length : Int) + (R.length : Int)) < 0 := by omega
    have hkq : ¬ (1 + (ts.length : Int) + (gs.length : Int) + (rs.length : Int)) < 0 := by omega
    have lT : T.length ≤ 4000000 := by omega
    have lG : G.length ≤ 4000000 := by omega
    have lR : R.length ≤ 4000000 := by omega
    go_wp2_with fail
    refine (c_toModel x y z _ _ _ ts gs rs _ l1 l2 l3 (HL.out.t.below HB1.out) (HL.out.g.below HB1.out) (HL.out.r.below HB1.out)).mono ?_
    rintro e w2 ⟨Sa, Sb, Sc, rfl, hm, hb2⟩
    have HB2 : Hid (Below w.heap.size w w2) := HB1.out.trans (hb2.mono HB1.out.size)
    have AX_2 := Lib.hid (AX_1.out.below hb2)
    have lt_ax_2 := AX_2.out.lt
    have ax_2c0 := AX_2.out.c0
    have ax_2c1 := AX_2.out.c1
    have ax_2c2 := AX_2.out.c2
    have ax_2c3 := AX_2.out.c3
    have ax_2c4 := AX_2.out.c4
    have ax_2c5 := AX_2.out.c5
    have SM_2 := Lib.hid hm
    clear hm
    clear hb2
    go_wp2_with fail
    refine (CS.out _ _ _ _ SM_2.out.look).mono ?_
    rintro e w3 ⟨Wa, Wb, Wc, rfl, hm, hb3⟩
    have HB3 : Hid (Below w.heap.size w w3) := HB2.out.trans (hb3.mono HB2.out.size)
    have AX_3 := Lib.hid (AX_2.out.below hb3)
    have SM_3 := Lib.hid (SM_2.out.below hb3)
    have lt_ax_3 := AX_3.out.lt
    have ax_3c0 := AX_3.out.c0
    have ax_3c1 := AX_3.out.c1
    have ax_3c2 := AX_3.out.c2
    have ax_3c3 := AX_3.out.c3
    have ax_3c4 := AX_3.out.c4
    have ax_3c5 := AX_3.out.c5
    have WM_3 := Lib.hid hm
    clear hm
    clear hb3
    obtain ⟨P1, P4, rfl⟩ := WM_3.out.t.shape
    obtain ⟨P2, P5, rfl⟩ := WM_3.out.g.shape
    obtain ⟨P3, P6, rfl⟩ := WM_3.out.r.shape
    go_wp2_with fail
    have hbx : Below w3.heap.size w3 (w3.alloc (Obj.cells #[.int .i64 X, .int .i64 Y, .int .i64 Z, .slice P1 T.length P4, .slice P2 G.length P5, .slice P3 R.length P6] 49)) := (Below.refl _ _).alloc (Nat.le_refl _) _
    have HB3x : Hid (Below w.heap.size w (w3.alloc (Obj.cells #[.int .i64 X, .int .i64 Y, .int .i64 Z, .slice P1 T.length P4, .slice P2 G.length P5, .slice P3 R.length P6] 49))) := HB3.out.trans (hbx.mono HB3.out.size)
    have AX_3x := Lib.hid (AX_3.out.below hbx)
    have WM_3x := Lib.hid (WM_3.out.below hbx)
    have ax_3xc0 := AX_3x.out.c0
    have ax_3xc1 := AX_3x.out.c1
    have ax_3xc2 := AX_3x.out.c2
    have ax_3xc3 := AX_3x.out.c3
    have ax_3xc4 := AX_3x.out.c4
    have ax_3xc5 := AX_3x.out.c5
    have WX_3x : Hid (Box6 (w3.alloc (Obj.cells #[.int .i64 X, .int .i64 Y, .int .i64 Z, .slice P1 T.length P4, .slice P2 G.length P5, .slice P3 R.length P6] 49)) w3.heap.size X Y Z (.slice P1 T.length P4) (.slice P2 G.length P5) (.slice P3 R.length P6)) := Box6.new _ _ _ _ _ _ _ _
    clear hbx
    go_wp2_with fail
    refine (c_toModel x y z _ _ _ ts gs rs _ l1 l2 l3 (HL.out.t.below HB3x.out) (HL.out.g.below HB3x.out) (HL.out.r.below HB3x.out)).mono ?_
    rintro e w4 ⟨Xa, Xb, Xc, rfl, hm, hb4⟩
    have HB4 : Hid (Below w.heap.size w w4) := HB3x.out.trans (hb4.mono HB3x.out.size)
    have AX_4 := Lib.hid (AX_3x.out.below hb4)
    have WM_4 := Lib.hid (WM_3x.out.below hb4)
    have WX_4 := Lib.hid (WX_3x.out.below hb4)
    have lt_ax_4 := AX_4.out.lt
    have ax_4c0 := AX_4.out.c0
    have ax_4c1 := AX_4.out.c1
    have ax_4c2 := AX_4.out.c2
    have ax_4c3 := AX_4.out.c3
    have ax_4c4 := AX_4.out.c4
    have ax_4c5 := AX_4.out.c5
    have lt_wx_4 := WX_4.out.lt
    have wx_4c0 := WX_4.out.c0
    have wx_4c1 := WX_4.out.c1
    have wx_4c2 := WX_4.out.c2
    have wx_4c3 := WX_4.out.c3
    have wx_4c4 := WX_4.out.c4
    have wx_4c5 := WX_4.out.c5
    have XM_4 := Lib.hid hm
    clear hm
    clear hb4
    obtain ⟨Q1, Q4, rfl⟩ := XM_4.out.t.shape
    obtain ⟨Q2, Q5, rfl⟩ := XM_4.out.g.shape
    obtain ⟨Q3, Q6, rfl⟩ := XM_4.out.r.shape
    go_wp2_with fail
    have hbx : Below w4.heap.size w4 (w4.alloc (Obj.cells #[.int .i64 x, .int .i64 y, .int .i64 z, .slice Q1 ts.length Q4, .slice Q2 gs.length Q5, .slice Q3 rs.length Q6] 49)) := (Below.refl _ _).alloc (Nat.le_refl _) _
    have HB4x : Hid (Below w.heap.size w (w4.alloc (Obj.cells #[.int .i64 x, .int .i64 y, .int .i64 z, .slice Q1 ts.length Q4, .slice Q2 gs.length Q5, .slice Q3 rs.length Q6] 49))) := HB4.out.trans (hbx.mono HB4.out.size)
    have AX_4x := Lib.hid (AX_4.out.below hbx)
    have WM_4x := Lib.hid (WM_4.out.below hbx)
    have WX_4x := Lib.hid (WX_4.out.below hbx)
    have XM_4x := Lib.hid (XM_4.out.below hbx)
    have ax_4xc0 := AX_4x.out.c0
    have ax_4xc1 := AX_4x.out.c1
    have ax_4xc2 := AX_4x.out.c2
    have ax_4xc3 := AX_4x.out.c3
    have ax_4xc4 := AX_4x.out.c4
    have ax_4xc5 := AX_4x.out.c5
    have wx_4xc0 := WX_4x.out.c0
    have wx_4xc1 := WX_4x.out.c1
    have wx_4xc2 := WX_4x.out.c2
    have wx_4xc3 := WX_4x.out.c3
    have wx_4xc4 := WX_4x.out.c4
    have wx_4xc5 := WX_4x.out.c5
    have XX_4x : Hid (Box6 (w4.alloc (Obj.cells #[.int .i64 x, .int .i64 y, .int .i64 z, .slice Q1 ts.length Q4, .slice Q2 gs.length Q5, .slice Q3 rs.length Q6] 49)) w4.heap.size x y z (.slice Q1 ts.length Q4) (.slice Q2 gs.length Q5) (.slice Q3 rs.length Q6)) := Box6.new _ _ _ _ _ _ _ _
    clear hbx
    go_wp2_with fail
    refine (CI.out _ _ _ _ XM_4x.out.look (HK.out.below HB4x.out)).mono ?_
    rintro e w5 ⟨Ga, Gb, Gc, rfl, hm, hb5⟩
    have HB5 : Hid (Below w.heap.size w w5) := HB4x.out.trans (hb5.mono HB4x.out.size)
    have AX_5 := Lib.hid (AX_4x.out.below hb5)
    have WM_5 := Lib.hid (WM_4x.out.below hb5)
    have WX_5 := Lib.hid (WX_4x.out.below hb5)
    have XM_5 := Lib.hid (XM_4x.out.below hb5)
    have XX_5 := Lib.hid (XX_4x.out.below hb5)
    have lt_ax_5 := AX_5.out.lt
    have ax_5c0 := AX_5.out.c0
    have ax_5c1 := AX_5.out.c1
    have ax_5c2 := AX_5.out.c2
    have ax_5c3 := AX_5.out.c3
    have ax_5c4 := AX_5.out.c4
    have ax_5c5 := AX_5.out.c5
    have lt_wx_5 := WX_5.out.lt
    have wx_5c0 := WX_5.out.c0
    have wx_5c1 := WX_5.out.c1
    have wx_5c2 := WX_5.out.c2
    have wx_5c3 := WX_5.out.c3
    have wx_5c4 := WX_5.out.c4
    have wx_5c5 := WX_5.out.c5
    have lt_xx_5 := XX_5.out.lt
    have xx_5c0 := XX_5.out.c0
    have xx_5c1 := XX_5.out.c1
    have xx_5c2 := XX_5.out.c2
    have xx_5c3 := XX_5.out.c3
    have xx_5c4 := XX_5.out.c4
    have xx_5c5 := XX_5.out.c5
    have GM_5 := Lib.hid hm
    clear hm
    clear hb5
    obtain ⟨K1, K4, rfl⟩ := GM_5.out.t.shape
    obtain ⟨K2, K5, rfl⟩ := GM_5.out.g.shape
    obtain ⟨K3, K6, rfl⟩ := GM_5.out.r.shape
    go_wp2_with fail
    have hbx : Below w5.heap.size w5 (w5.alloc (Obj.cells #[.int .i64 X, .int .i64 Y, .int .i64 Z, .slice K1 T.length K4, .slice K2 G.length K5, .slice K3 R.length K6] 49)) := (Below.refl _ _).alloc (Nat.le_refl _) _
    have HB5x : Hid (Below w.heap.size w (w5.alloc (Obj.cells #[.int .i64 X, .int .i64 Y, .int .i64 Z, .slice K1 T.length K4, .slice K2 G.length K5, .slice K3 R.length K6] 49))) := HB5.out.trans (hbx.mono HB5.out.size)
    have AX_5x := Lib.hid (AX_5.out.below hbx)
    have WM_5x := Lib.hid (WM_5.out.below hbx)
    have WX_5x := Lib.hid (WX_5.out.below hbx)
    have XM_5x := Lib.hid (XM_5.out.below hbx)
    have XX_5x := Lib.hid (XX_5.out.below hbx)
    have GM_5x := Lib.hid (GM_5.out.below hbx)
    have ax_5xc0 := AX_5x.out.c0
    have ax_5xc1 := AX_5x.out.c1
    have ax_5xc2 := AX_5x.out.c2
    have ax_5xc3 := AX_5x.out.c3
    have ax_5xc4 := AX_5x.out.c4
    have ax_5xc5 := AX_5x.out.c5
    have wx_5xc0 := WX_5x.out.c0
    have wx_5xc1 := WX_5x.out.c1
    have wx_5xc2 := WX_5x.out.c2
    have wx_5xc3 := WX_5x.out.c3
    have wx_5xc4 := WX_5x.out.c4
    have wx_5xc5 := WX_5x.out.c5
    have xx_5xc0 := XX_5x.out.c0
    have xx_5xc1 := XX_5x.out.c1
    have xx_5xc2 := XX_5x.out.c2
    have xx_5xc3 := XX_5x.out.c3
    have xx_5xc4 := XX_5x.out.c4
    have xx_5xc5 := XX_5x.out.c5
    have GX_5x : Hid (Box6 (w5.alloc (Obj.cells #[.int .i64 X, .int .i64 Y, .int .i64 Z, .slice K1 T.length K4, .slice K2 G.length K5, .slice K3 R.length K6] 49)) w5.heap.size X Y Z (.slice K1 T.length K4) (.slice K2 G.length K5) (.slice K3 R.length K6)) := Box6.new _ _ _ _ _ _ _ _
    clear hbx
    go_wp2_with fail
    refine (c_eqModel X Y Z _ _ _ _ _ _ T G R _ _ _ lT lG lR GM_5x.out WM_5x.out).mono ?_
    rintro e w6 ⟨rfl, hb6⟩
    have HB6 : Hid (Below w.heap.size w w6) := HB5x.out.trans (hb6.mono HB5x.out.size)
    have AX_6 := Lib.hid (AX_5x.out.below hb6)
    have WM_6 := Lib.hid (WM_5x.out.below hb6)
    have WX_6 := Lib.hid (WX_5x.out.below hb6)
    have XM_6 := Lib.hid (XM_5x.out.below hb6)
    have XX_6 := Lib.hid (XX_5x.out.below hb6)
    have GM_6 := Lib.hid (GM_5x.out.below hb6)
    have GX_6 := Lib.hid (GX_5x.out.below hb6)
    have lt_ax_6 := AX_6.out.lt
    have ax_6c0 := AX_6.out.c0
    have ax_6c1 := AX_6.out.c1
    have ax_6c2 := AX_6.out.c2
    have ax_6c3 := AX_6.out.c3
    have ax_6c4 := AX_6.out.c4
    have ax_6c5 := AX_6.out.c5
    have lt_wx_6 := WX_6.out.lt
    have wx_6c0 := WX_6.out.c0
    have wx_6c1 := WX_6.out.c1
    have wx_6c2 := WX_6.out.c2
    have wx_6c3 := WX_6.out.c3
    have wx_6c4 := WX_6.out.c4
    have wx_6c5 := WX_6.out.c5
    have lt_xx_6 := XX_6.out.lt
    have xx_6c0 := XX_6.out.c0
    have xx_6c1 := XX_6.out.c1
    have xx_6c2 := XX_6.out.c2
    have xx_6c3 := XX_6.out.c3
    have xx_6c4 := XX_6.out.c4
    have xx_6c5 := XX_6.out.c5
    have lt_gx_6 := GX_6.out.lt
    have gx_6c0 := GX_6.out.c0
    have gx_6c1 := GX_6.out.c1
    have gx_6c2 := GX_6.out.c2
    have gx_6c3 := GX_6.out.c3
    have gx_6c4 := GX_6.out.c4
    have gx_6c5 := GX_6.out.c5
    clear hb6
    go_upto_region 10 with fail
    go_cut [55] (fun s wx => s = .bool false ∧ Below w6.heap.size w6 wx)
    case first =>
      go_region_with (first
        | (go_at_call 24
           refine (c_toModel x y z _ _ _ ts gs rs _ l1 l2 l3 (HL.out.t.below (by exact HB6.out.drew)) (HL.out.g.below (by exact HB6.out.drew)) (HL.out.r.below (by exact HB6.out.drew))).mono ?_
           rintro e wy ⟨r1, r2, r3, rfl, hmy, hby⟩
           obtain ⟨hcy, hfy⟩ := bcell hby
           have sy := hby.size
           simp at sy hcy hfy
           have pxy := XX_6.out.lt
           have HMY := Lib.hid hmy
           have HNY : Hid (Mod wy _ (.slice Q1 ts.length Q4) (.slice Q2 gs.length Q5) (.slice Q3 rs.length Q6) ts gs rs) := Mod.below (Mod.drew XM_6.out) hby
           have HBY : Hid (Below w6.heap.size w6 wy) := (Below.refl _ _).drew.trans hby
           clear hby hmy)
        | (go_at_call 26
           refine (c_eqModel x y z _ _ _ _ _ _ ts gs rs _ _ _ l1 l2 l3 HNY.out HMY.out).mono ?_
           rintro e wz ⟨rfl, hbz⟩
           have HBZ : Hid (Below w6.heap.size w6 wz) := HBY.out.trans (hbz.mono HBY.out.size)
           clear hbz))
      all_goals
        go_wp2_with fail
        go_meet
        exact ⟨rfl, HBZ.out⟩
    case rest =>
      obtain ⟨rfl, hb7⟩ := hcut
      have HB7 : Hid (Below w.heap.size w wc) := HB6.out.trans (hb7.mono HB6.out.size)
      have AX_7 := Lib.hid (AX_6.out.below hb7)
      have WM_7 := Lib.hid (WM_6.out.below hb7)
      have WX_7 := Lib.hid (WX_6.out.below hb7)
      have XM_7 := Lib.hid (XM_6.out.below hb7)
      have XX_7 := Lib.hid (XX_6.out.below hb7)
      have GM_7 := Lib.hid (GM_6.out.below hb7)
      have GX_7 := Lib.hid (GX_6.out.below hb7)
      have lt_ax_7 := AX_7.out.lt
      have ax_7c0 := AX_7.out.c0
      have ax_7c1 := AX_7.out.c1
      have ax_7c2 := AX_7.out.c2
      have ax_7c3 := AX_7.out.c3
      have ax_7c4 := AX_7.out.c4
      have ax_7c5 := AX_7.out.c5
      have lt_wx_7 := WX_7.out.lt
      have wx_7c0 := WX_7.out.c0
      have wx_7c1 := WX_7.out.c1
      have wx_7c2 := WX_7.out.c2
      have wx_7c3 := WX_7.out.c3
      have wx_7c4 := WX_7.out.c4
      have wx_7c5 := WX_7.out.c5
      have lt_xx_7 := XX_7.out.lt
      have xx_7c0 := XX_7.out.c0
      have xx_7c1 := XX_7.out.c1
      have xx_7c2 := XX_7.out.c2
      have xx_7c3 := XX_7.out.c3
      have xx_7c4 := XX_7.out.c4
      have xx_7c5 := XX_7.out.c5
      have lt_gx_7 := GX_7.out.lt
      have gx_7c0 := GX_7.out.c0
      have gx_7c1 := GX_7.out.c1
      have gx_7c2 := GX_7.out.c2
      have gx_7c3 := GX_7.out.c3
      have gx_7c4 := GX_7.out.c4
      have gx_7c5 := GX_7.out.c5
      clear hb7
      have OW : Hid (w.heap.size < w3.heap.size) := AX_3.out.lt
      have OX : Hid (∀ k, (Value.slice Q1 ts.length Q4).ownBlock = some k ∨ (Value.slice Q2 gs.length Q5).ownBlock = some k ∨ (Value.slice Q3 rs.length Q6).ownBlock = some k → w3.heap.size < k) := fun k hk => by
        have hs := WX_3x.out.lt
        rcases hk with hk | hk | hk
        · exact Nat.lt_of_lt_of_le hs (XM_4.out.own1 k hk)
        · exact Nat.lt_of_lt_of_le hs (XM_4.out.own2 k hk)
        · exact Nat.lt_of_lt_of_le hs (XM_4.out.own3 k hk)
      go_wp2_with fail
      refine (c_markModel x y z _ _ _ ts gs rs _ 1 _ hsz (by omega) (by omega) XM_7.out).mono ?_
      rintro e w8 ⟨rfl, _, ht⟩
      have HT := Lib.hid ht
      clear ht
      have HB8 : Hid (Below w.heap.size w w8) := HT.out.below HB7.out HB7.out.size (fun k hk => Nat.le_of_lt (Nat.lt_trans OW.out (OX.out k (.inl hk)))) (fun k hk => Nat.le_of_lt (Nat.lt_trans OW.out (OX.out k (.inr (.inl hk))))) (fun k hk => Nat.le_of_lt (Nat.lt_trans OW.out (OX.out k (.inr (.inr hk)))))
      have AX_8 := Lib.hid (AX_7.out.turned HT.out (fun e => Nat.lt_irrefl _ (Nat.lt_trans OW.out (OX.out _ (.inl e)))) (fun e => Nat.lt_irrefl _ (Nat.lt_trans OW.out (OX.out _ (.inr (.inl e))))) (fun e => Nat.lt_irrefl _ (Nat.lt_trans OW.out (OX.out _ (.inr (.inr e))))))
      have WX_8 := Lib.hid (WX_7.out.turned HT.out (fun e => Nat.lt_irrefl _ (OX.out _ (.inl e))) (fun e => Nat.lt_irrefl _ (OX.out _ (.inr (.inl e)))) (fun e => Nat.lt_irrefl _ (OX.out _ (.inr (.inr e)))))
      have GX_8 := Lib.hid (GX_7.out.turned HT.out XM_5.out.top1 XM_5.out.top2 XM_5.out.top3)
      have WM_8 := Lib.hid (Mod.before WM_7.out WM_3.out XM_4.out (Nat.le_of_lt WX_3x.out.lt) HT.out)
      have GM_8 := Lib.hid (Mod.after GM_7.out GM_5.out XM_4x.out (Nat.le_refl _) HT.out)
      have ax_8c0 := AX_8.out.c0
      have ax_8c1 := AX_8.out.c1
      have ax_8c2 := AX_8.out.c2
      have ax_8c3 := AX_8.out.c3
      have ax_8c4 := AX_8.out.c4
      have ax_8c5 := AX_8.out.c5
      have lt_ax_8 := AX_8.out.lt
      have wx_8c0 := WX_8.out.c0
      have wx_8c1 := WX_8.out.c1
      have wx_8c2 := WX_8.out.c2
      have wx_8c3 := WX_8.out.c3
      have wx_8c4 := WX_8.out.c4
      have wx_8c5 := WX_8.out.c5
      have lt_wx_8 := WX_8.out.lt
      have gx_8c0 := GX_8.out.c0
      have gx_8c1 := GX_8.out.c1
      have gx_8c2 := GX_8.out.c2
      have gx_8c3 := GX_8.out.c3
      have gx_8c4 := GX_8.out.c4
      have gx_8c5 := GX_8.out.c5
      have lt_gx_8 := GX_8.out.lt
      go_wp2_with fail
      refine (c_eqModel X Y Z _ _ _ _ _ _ T G R _ _ _ lT lG lR GM_8.out WM_8.out).mono ?_
      rintro e w9 ⟨rfl, hb9⟩
      have HB9 : Hid (Below w.heap.size w w9) := HB8.out.trans (hb9.mono HB8.out.size)
      have AX_9 := Lib.hid (AX_8.out.below hb9)
      have WX_9 := Lib.hid (WX_8.out.below hb9)
      have GX_9 := Lib.hid (GX_8.out.below hb9)
      have WM_9 := Lib.hid (WM_8.out.below hb9)
      have GM_9 := Lib.hid (GM_8.out.below hb9)
      have lt_ax_9 := AX_9.out.lt
      have ax_9c0 := AX_9.out.c0
      have ax_9c1 := AX_9.out.c1
      have ax_9c2 := AX_9.out.c2
      have ax_9c3 := AX_9.out.c3
      have ax_9c4 := AX_9.out.c4
      have ax_9c5 := AX_9.out.c5
      have lt_wx_9 := WX_9.out.lt
      have wx_9c0 := WX_9.out.c0
      have wx_9c1 := WX_9.out.c1
      have wx_9c2 := WX_9.out.c2
      have wx_9c3 := WX_9.out.c3
      have wx_9c4 := WX_9.out.c4
      have wx_9c5 := WX_9.out.c5
      have lt_gx_9 := GX_9.out.lt
      have gx_9c0 := GX_9.out.c0
      have gx_9c1 := GX_9.out.c1
      have gx_9c2 := GX_9.out.c2
      have gx_9c3 := GX_9.out.c3
      have gx_9c4 := GX_9.out.c4
      have gx_9c5 := GX_9.out.c5
      clear hb9
      go_wp2_with fail
      refine (c_markModel X Y Z _ _ _ T G R _ 1 _ hTs (by omega) (by omega) GM_9.out).mono ?_
      rintro e w10 ⟨rfl, hm, ht⟩
      have HU := Lib.hid ht
      have GM_10 := Lib.hid hm
      clear ht hm
      have OG : Hid (∀ k, (Value.slice K1 T.length K4).ownBlock = some k ∨ (Value.slice K2 G.length K5).ownBlock = some k ∨ (Value.slice K3 R.length K6).ownBlock = some k → w3.heap.size < k) := fun k hk => by
        have hs := WX_4x.out.lt
        rcases hk with hk | hk | hk
        · exact Nat.lt_of_lt_of_le hs (GM_5.out.own1 k hk)
        · exact Nat.lt_of_lt_of_le hs (GM_5.out.own2 k hk)
        · exact Nat.lt_of_lt_of_le hs (GM_5.out.own3 k hk)
      have HB10 : Hid (Below w.heap.size w w10) := HU.out.below HB9.out HB9.out.size (fun k hk => Nat.le_of_lt (Nat.lt_trans OW.out (OG.out k (.inl hk)))) (fun k hk => Nat.le_of_lt (Nat.lt_trans OW.out (OG.out k (.inr (.inl hk))))) (fun k hk => Nat.le_of_lt (Nat.lt_trans OW.out (OG.out k (.inr (.inr hk)))))
      have AX_10 := Lib.hid (AX_9.out.turned HU.out (fun e => Nat.lt_irrefl _ (Nat.lt_trans OW.out (OG.out _ (.inl e)))) (fun e => Nat.lt_irrefl _ (Nat.lt_trans OW.out (OG.out _ (.inr (.inl e))))) (fun e => Nat.lt_irrefl _ (Nat.lt_trans OW.out (OG.out _ (.inr (.inr e))))))
      have WX_10 := Lib.hid (WX_9.out.turned HU.out (fun e => Nat.lt_irrefl _ (OG.out _ (.inl e))) (fun e => Nat.lt_irrefl _ (OG.out _ (.inr (.inl e)))) (fun e => Nat.lt_irrefl _ (OG.out _ (.inr (.inr e)))))
      have GX_10 := Lib.hid (GX_9.out.turned HU.out GM_5.out.top1 GM_5.out.top2 GM_5.out.top3)
      have WM_10 := Lib.hid (Mod.before WM_9.out WM_4x.out GM_5.out (Nat.le_refl _) HU.out)
      have ax_10c0 := AX_10.out.c0
      have ax_10c1 := AX_10.out.c1
      have ax_10c2 := AX_10.out.c2
      have ax_10c3 := AX_10.out.c3
      have ax_10c4 := AX_10.out.c4
      have ax_10c5 := AX_10.out.c5
      have lt_ax_10 := AX_10.out.lt
      have wx_10c0 := WX_10.out.c0
      have wx_10c1 := WX_10.out.c1
      have wx_10c2 := WX_10.out.c2
      have wx_10c3 := WX_10.out.c3
      have wx_10c4 := WX_10.out.c4
      have wx_10c5 := WX_10.out.c5
      have lt_wx_10 := WX_10.out.lt
      have gx_10c0 := GX_10.out.c0
      have gx_10c1 := GX_10.out.c1
      have gx_10c2 := GX_10.out.c2
      have gx_10c3 := GX_10.out.c3
      have gx_10c4 := GX_10.out.c4
      have gx_10c5 := GX_10.out.c5
      have lt_gx_10 := GX_10.out.lt
      go_wp2_with fail
      refine (c_heldModel X Y Z _ _ _ T.length G.length R.length _ 1 _ hTs (by omega) (by omega) GM_10.out).mono ?_
      rintro e w11 ⟨rfl, hb11⟩
      have HB11 : Hid (Below w.heap.size w w11) := HB10.out.trans (hb11.mono HB10.out.size)
      have AX_11 := Lib.hid (AX_10.out.below hb11)
      have WX_11 := Lib.hid (WX_10.out.below hb11)
      have GX_11 := Lib.hid (GX_10.out.below hb11)
      have WM_11 := Lib.hid (WM_10.out.below hb11)
      have GM_11 := Lib.hid (GM_10.out.below hb11)
      have lt_ax_11 := AX_11.out.lt
      have ax_11c0 := AX_11.out.c0
      have ax_11c1 := AX_11.out.c1
      have ax_11c2 := AX_11.out.c2
      have ax_11c3 := AX_11.out.c3
      have ax_11c4 := AX_11.out.c4
      have ax_11c5 := AX_11.out.c5
      have lt_wx_11 := WX_11.out.lt
      have wx_11c0 := WX_11.out.c0
      have wx_11c1 := WX_11.out.c1
      have wx_11c2 := WX_11.out.c2
      have wx_11c3 := WX_11.out.c3
      have wx_11c4 := WX_11.out.c4
      have wx_11c5 := WX_11.out.c5
      have lt_gx_11 := GX_11.out.lt
      have gx_11c0 := GX_11.out.c0
      have gx_11c1 := GX_11.out.c1
      have gx_11c2 := GX_11.out.c2
      have gx_11c3 := GX_11.out.c3
      have gx_11c4 := GX_11.out.c4
      have gx_11c5 := GX_11.out.c5
      clear hb11
      go_wp2_with fail
      refine (c_toModel x y z _ _ _ ts gs rs _ l1 l2 l3 (HL.out.t.below HB11.out) (HL.out.g.below HB11.out) (HL.out.r.below HB11.out)).mono ?_
      rintro e w12 ⟨Ya, Yb, Yc, rfl, hm, hb12⟩
      have HB12 : Hid (Below w.heap.size w w12) := HB11.out.trans (hb12.mono HB11.out.size)
      have AX_12 := Lib.hid (AX_11.out.below hb12)
      have WX_12 := Lib.hid (WX_11.out.below hb12)
      have GX_12 := Lib.hid (GX_11.out.below hb12)
      have WM_12 := Lib.hid (WM_11.out.below hb12)
      have GM_12 := Lib.hid (GM_11.out.below hb12)
      have lt_ax_12 := AX_12.out.lt
      have ax_12c0 := AX_12.out.c0
      have ax_12c1 := AX_12.out.c1
      have ax_12c2 := AX_12.out.c2
      have ax_12c3 := AX_12.out.c3
      have ax_12c4 := AX_12.out.c4
      have ax_12c5 := AX_12.out.c5
      have lt_wx_12 := WX_12.out.lt
      have wx_12c0 := WX_12.out.c0
      have wx_12c1 := WX_12.out.c1
      have wx_12c2 := WX_12.out.c2
      have wx_12c3 := WX_12.out.c3
      have wx_12c4 := WX_12.out.c4
      have wx_12c5 := WX_12.out.c5
      have lt_gx_12 := GX_12.out.lt
      have gx_12c0 := GX_12.out.c0
      have gx_12c1 := GX_12.out.c1
      have gx_12c2 := GX_12.out.c2
      have gx_12c3 := GX_12.out.c3
      have gx_12c4 := GX_12.out.c4
      have gx_12c5 := GX_12.out.c5
      have YM_12 := Lib.hid hm
      clear hm
      clear hb12
      go_wp2_with fail
      refine (CI.out _ _ _ _ YM_12.out.look (HK.out.below HB12.out)).mono ?_
      rintro e w13 ⟨Ha, Hb, Hc, rfl, hm, hb13⟩
      have HB13 : Hid (Below w.heap.size w w13) := HB12.out.trans (hb13.mono HB12.out.size)
      have AX_13 := Lib.hid (AX_12.out.below hb13)
      have WX_13 := Lib.hid (WX_12.out.below hb13)
      have GX_13 := Lib.hid (GX_12.out.below hb13)
      have WM_13 := Lib.hid (WM_12.out.below hb13)
      have GM_13 := Lib.hid (GM_12.out.below hb13)
      have YM_13 := Lib.hid (YM_12.out.below hb13)
      have lt_ax_13 := AX_13.out.lt
      have ax_13c0 := AX_13.out.c0
      have ax_13c1 := AX_13.out.c1
      have ax_13c2 := AX_13.out.c2
      have ax_13c3 := AX_13.out.c3
      have ax_13c4 := AX_13.out.c4
      have ax_13c5 := AX_13.out.c5
      have lt_wx_13 := WX_13.out.lt
      have wx_13c0 := WX_13.out.c0
      have wx_13c1 := WX_13.out.c1
      have wx_13c2 := WX_13.out.c2
      have wx_13c3 := WX_13.out.c3
      have wx_13c4 := WX_13.out.c4
      have wx_13c5 := WX_13.out.c5
      have lt_gx_13 := GX_13.out.lt
      have gx_13c0 := GX_13.out.c0
      have gx_13c1 := GX_13.out.c1
      have gx_13c2 := GX_13.out.c2
      have gx_13c3 := GX_13.out.c3
      have gx_13c4 := GX_13.out.c4
      have gx_13c5 := GX_13.out.c5
      have HM_13 := Lib.hid hm
      clear hm
      clear hb13
      obtain ⟨J1, J4, rfl⟩ := HM_13.out.t.shape
      obtain ⟨J2, J5, rfl⟩ := HM_13.out.g.shape
      obtain ⟨J3, J6, rfl⟩ := HM_13.out.r.shape
      go_wp2_with fail
      have hbx : Below w13.heap.size w13 (w13.alloc (Obj.cells #[.int .i64 X, .int .i64 Y, .int .i64 Z, .slice J1 T.length J4, .slice J2 G.length J5, .slice J3 R.length J6] 49)) := (Below.refl _ _).alloc (Nat.le_refl _) _
      have HB13x : Hid (Below w.heap.size w (w13.alloc (Obj.cells #[.int .i64 X, .int .i64 Y, .int .i64 Z, .slice J1 T.length J4, .slice J2 G.length J5, .slice J3 R.length J6] 49))) := HB13.out.trans (hbx.mono HB13.out.size)
      have AX_13x := Lib.hid (AX_13.out.below hbx)
      have WX_13x := Lib.hid (WX_13.out.below hbx)
      have GX_13x := Lib.hid (GX_13.out.below hbx)
      have WM_13x := Lib.hid (WM_13.out.below hbx)
      have GM_13x := Lib.hid (GM_13.out.below hbx)
      have YM_13x := Lib.hid (YM_13.out.below hbx)
      have HM_13x := Lib.hid (HM_13.out.below hbx)
      have ax_13xc0 := AX_13x.out.c0
      have ax_13xc1 := AX_13x.out.c1
      have ax_13xc2 := AX_13x.out.c2
      have ax_13xc3 := AX_13x.out.c3
      have ax_13xc4 := AX_13x.out.c4
      have ax_13xc5 := AX_13x.out.c5
      have wx_13xc0 := WX_13x.out.c0
      have wx_13xc1 := WX_13x.out.c1
      have wx_13xc2 := WX_13x.out.c2
      have wx_13xc3 := WX_13x.out.c3
      have wx_13xc4 := WX_13x.out.c4
      have wx_13xc5 := WX_13x.out.c5
      have gx_13xc0 := GX_13x.out.c0
      have gx_13xc1 := GX_13x.out.c1
      have gx_13xc2 := GX_13x.out.c2
      have gx_13xc3 := GX_13x.out.c3
      have gx_13xc4 := GX_13x.out.c4
      have gx_13xc5 := GX_13x.out.c5
      have HX_13x : Hid (Box6 (w13.alloc (Obj.cells #[.int .i64 X, .int .i64 Y, .int .i64 Z, .slice J1 T.length J4, .slice J2 G.length J5, .slice J3 R.length J6] 49)) w13.heap.size X Y Z (.slice J1 T.length J4) (.slice J2 G.length J5) (.slice J3 R.length J6)) := Box6.new _ _ _ _ _ _ _ _
      clear hbx
      go_wp2_with fail
      refine (c_eqModel X Y Z _ _ _ _ _ _ T G R _ _ _ lT lG lR HM_13x.out WM_13x.out).mono ?_
      rintro e w14 ⟨rfl, hb14⟩
      have HB14 : Hid (Below w.heap.size w w14) := HB13x.out.trans (hb14.mono HB13x.out.size)
      have AX_14 := Lib.hid (AX_13x.out.below hb14)
      have WX_14 := Lib.hid (WX_13x.out.below hb14)
      have GX_14 := Lib.hid (GX_13x.out.below hb14)
      have WM_14 := Lib.hid (WM_13x.out.below hb14)
      have GM_14 := Lib.hid (GM_13x.out.below hb14)
      have YM_14 := Lib.hid (YM_13x.out.below hb14)
      have HM_14 := Lib.hid (HM_13x.out.below hb14)
      have HX_14 := Lib.hid (HX_13x.out.below hb14)
      have lt_ax_14 := AX_14.out.lt
      have ax_14c0 := AX_14.out.c0
      have ax_14c1 := AX_14.out.c1
      have ax_14c2 := AX_14.out.c2
      have ax_14c3 := AX_14.out.c3
      have ax_14c4 := AX_14.out.c4
      have ax_14c5 := AX_14.out.c5
      have lt_wx_14 := WX_14.out.lt
      have wx_14c0 := WX_14.out.c0
      have wx_14c1 := WX_14.out.c1
      have wx_14c2 := WX_14.out.c2
      have wx_14c3 := WX_14.out.c3
      have wx_14c4 := WX_14.out.c4
      have wx_14c5 := WX_14.out.c5
      have lt_gx_14 := GX_14.out.lt
      have gx_14c0 := GX_14.out.c0
      have gx_14c1 := GX_14.out.c1
      have gx_14c2 := GX_14.out.c2
      have gx_14c3 := GX_14.out.c3
      have gx_14c4 := GX_14.out.c4
      have gx_14c5 := GX_14.out.c5
      have lt_hx_14 := HX_14.out.lt
      have hx_14c0 := HX_14.out.c0
      have hx_14c1 := HX_14.out.c1
      have hx_14c2 := HX_14.out.c2
      have hx_14c3 := HX_14.out.c3
      have hx_14c4 := HX_14.out.c4
      have hx_14c5 := HX_14.out.c5
      clear hb14
      go_wp2_with fail
      refine (c_heldModel X Y Z _ _ _ T.length G.length R.length _ 1 _ hTs (by omega) (by omega) GM_14.out).mono ?_
      rintro e w15 ⟨rfl, hb15⟩
      have HB15 : Hid (Below w.heap.size w w15) := HB14.out.trans (hb15.mono HB14.out.size)
      have AX_15 := Lib.hid (AX_14.out.below hb15)
      have WX_15 := Lib.hid (WX_14.out.below hb15)
      have GX_15 := Lib.hid (GX_14.out.below hb15)
      have WM_15 := Lib.hid (WM_14.out.below hb15)
      have GM_15 := Lib.hid (GM_14.out.below hb15)
      have YM_15 := Lib.hid (YM_14.out.below hb15)
      have HM_15 := Lib.hid (HM_14.out.below hb15)
      have HX_15 := Lib.hid (HX_14.out.below hb15)
      have lt_ax_15 := AX_15.out.lt
      have ax_15c0 := AX_15.out.c0
      have ax_15c1 := AX_15.out.c1
      have ax_15c2 := AX_15.out.c2
      have ax_15c3 := AX_15.out.c3
      have ax_15c4 := AX_15.out.c4
      have ax_15c5 := AX_15.out.c5
      have lt_wx_15 := WX_15.out.lt
      have wx_15c0 := WX_15.out.c0
      have wx_15c1 := WX_15.out.c1
      have wx_15c2 := WX_15.out.c2
      have wx_15c3 := WX_15.out.c3
      have wx_15c4 := WX_15.out.c4
      have wx_15c5 := WX_15.out.c5
      have lt_gx_15 := GX_15.out.lt
      have gx_15c0 := GX_15.out.c0
      have gx_15c1 := GX_15.out.c1
      have gx_15c2 := GX_15.out.c2
      have gx_15c3 := GX_15.out.c3
      have gx_15c4 := GX_15.out.c4
      have gx_15c5 := GX_15.out.c5
      have lt_hx_15 := HX_15.out.lt
      have hx_15c0 := HX_15.out.c0
      have hx_15c1 := HX_15.out.c1
      have hx_15c2 := HX_15.out.c2
      have hx_15c3 := HX_15.out.c3
      have hx_15c4 := HX_15.out.c4
      have hx_15c5 := HX_15.out.c5
      clear hb15
      go_wp2
      go_ret
      exact ⟨rfl, HB15.out⟩

/-! ### The row's step -/
set_option maxRecDepth 100000 in
theorem contract (H : Type) (enc : TypeId × Value → H) (W : World) (base : Nat) (args : Array Value) (ds gs : List (DataW H)) (before : List MemPlace)
    (hval0 : ∀ (j : Nat) t v, Tryd.f6.params[j]? = some t → args[j]? = some v → Value.okWide Tryd.prog W .any base t v)
    (hW : DataW.Whole enc Tryd.prog Tryd.f6.params.toList Rows.fnExactCoarseModelSpec.vars false W args.toList ds gs before) (hlaid : laidMetH Tryd.prog Rows.fnExactCoarseModelRow.laid W) :
    Calls Tryd.prog 6 args W fun e W' => ∃ v, e = .returned v ∧ Rows.fnExactCoarseModelSpec.post enc Tryd.prog Tryd.f6 false true false false W args v W' := by
  have hval : ∀ (j : Nat) t v, Tryd.f6.params[j]? = some t → args[j]? = some v → Value.okWide Tryd.prog W .any base t v := hval0
  have hL0 : laidMet Tryd.prog [("loop.example/g00914/impl.rockOrder", Lib.tabData .i64 [0, 1, 2, 3, 4])] W := hlaid
  have htab : Lib.TabIs Tryd.prog W "loop.example/g00914/impl.rockOrder" .i64 [0, 1, 2, 3, 4] := Lib.tabIs_of_head (g := 2) (t := 175) (e := 3) (n := 5) (by kernel_rfl) (by kernel_rfl) (by kernel_rfl) (by kernel_rfl) (by kernel_rfl) (by kernel_rfl) hL0
  have hrk : RK W := fun i hi => by
    have := htab.cell (g := 2) (by kernel_rfl) i (by simpa using hi)
    rcases (show i = 0 ∨ i = 1 ∨ i = 2 ∨ i = 3 ∨ i = 4 by omega) with rfl | rfl | rfl | rfl | rfl <;> exact this
  have hW' := hW
  have lts : ∀ x ∈ before, x.block < W.heap.size := fun x hx => by simpa using hW'.lt x hx
  obtain ⟨p, q, hA0, hV, rfl, hfz, hnd⟩ := hW
  have hA : DataW.TrodAll enc Tryd.prog W 0 (fun _ => true) true Tryd.f6.params.toList args.toList ds p := hA0
  rw [Tryd.params6] at hA hval
  obtain ⟨v0, vs0, d0, ds0, p0, q0, hargs, rfl, rfl, h0, r0⟩ := trodAll_cons hA
  obtain ⟨rfl, rfl, rfl⟩ := trodAll_nil r0
  obtain rfl : args = #[v0] := by cases args; simp_all
  obtain ⟨g9, t9, cs9, f9, d9, p9, rfl, _⟩ := trodVars_one hV
  have k0 := h0
  obtain ⟨x, y, z, m1, m2, m3, ts, gs, rs, rfl, hL⟩ := open_model (hval 0 46 v0 rfl rfl) h0
  clear hA0 hval0
  simp only [List.append_nil] at hW' lts
  refine (walk x y z m1 m2 m3 ts gs rs W hL hrk).mono fun e W' ⟨he, bel⟩ => ?_
  subst he
  exact ⟨_, rfl, _, _, _, [], _, _, hW', trodAll_mk1 (shut_bool Tryd.underlying4 _), (trodAll_cons_mk (Below.trod laid (by kernel_rfl) (of_decide_eq_true (by kernel_rfl)) k0 bel (fun x hx => lts x (by simp [hx]))) trodAll_mk0), Below.trodVars laid bel (by kernel_rfl) hV, bel.frame _, fun h => by cases h⟩

/-- A world for the witness: the settled one, the listed tables holding what their initialisers lay. -/
noncomputable def laidWorld (os : Os) : World :=
  { World.holding Tryd.prog os ⟨#[], #[], []⟩ with heap := ((World.holding Tryd.prog os ⟨#[], #[], []⟩).heap.modify 2 fun
      | .cells _ t frozen => .cells #[.int .i64 (0), .int .i64 (1), .int .i64 (2), .int .i64 (3), .int .i64 (4)] t frozen
      | o => o) }

set_option maxRecDepth 100000 in
theorem laid_met (os : Os) : laidMet Tryd.prog Rows.fnExactCoarseModelRow.laid ((laidWorld os).forCall (fun _ _ => 0) ⟨#[], #[.agg #[.int .i64 0, .int .i64 0, .int .i64 0, .slice none 0 0, .slice none 0 0, .slice none 0 0]], []⟩).memory :=
  laidMet_of_run' 8 (by kernel_rfl) (by kernel_rfl)
theorem reads (os : Os) {H : Type} (enc : TypeId × Value → H) : ∃ x, DataW.whole enc Tryd.prog ((laidWorld os).forCall (fun _ _ => 0) ⟨#[], #[.agg #[.int .i64 0, .int .i64 0, .int .i64 0, .slice none 0 0, .slice none 0 0, .slice none 0 0]], []⟩).memory Tryd.f6.params.toList Rows.fnExactCoarseModelSpec.vars false (#[.agg #[.int .i64 0, .int .i64 0, .int .i64 0, .slice none 0 0, .slice none 0 0, .slice none 0 0]] : Array Value).toList 8 = some x :=
  Option.isSome_iff_exists.1 (by kernel_rfl)

set_option maxRecDepth 100000 in
theorem lifted (os : Os) (started : os.Started) (H : Type) (enc : TypeId × Value → H) (F : Stop.Interp) :
    ReturnsInHanded {} Tryd.checked os 6 .any ((OpenSpec.ofChange Rows.fnExactCoarseModelSpec).preRow enc Tryd.prog Tryd.f6 Rows.fnExactCoarseModelRow.domain false Rows.fnExactCoarseModelRow.laid) (((OpenSpec.ofChange Rows.fnExactCoarseModelSpec).at F).post enc Tryd.prog Tryd.f6 false true false false) := by
  obtain ⟨x, hx⟩ := reads os enc
  refine returnsInHanded_of_row (C := Tryd.checked) (s := OpenSpec.ofChange Rows.fnExactCoarseModelSpec) own started (by kernel_rfl) Tryd.func6
    (witness_row_at (enc := enc) (C := Tryd.checked) false (laidWorld os) #[.agg #[.int .i64 0, .int .i64 0, .int .i64 0, .slice none 0 0, .slice none 0 0, .slice none 0 0]] rfl (by kernel_rfl) (by kernel_rfl) (by kernel_rfl)
      (OpenSpec.preRow_of_cond 8 hx (by kernel_rfl) (fun k hk => by cases hk) (by kernel_rfl) (laid_met os))) ?_
  intro W base args ds gs before hval hW _ _ _ hlaid _ _
  exact contract H enc W base args ds gs before hval hW hlaid

theorem said : Rows.FnExactCoarseModelSaid :=
  OpenClaim.holds_of_cond 6 Tryd.f6 rfl rfl rfl rfl rfl rfl rfl ⟨rfl, rfl, rfl, rfl, rfl⟩ rfl rfl rfl rfl rfl (by kernel_rfl) Tryd.func6 (by kernel_rfl)
    (of_decide_eq_true (by kernel_rfl)) (by unfold Func.isWrapper; first | (rw [if_pos (by decide +kernel)]; kernel_rfl) | (rw [if_neg (by decide +kernel)]; exact ⟨rfl, rfl⟩))
    (fun os started H enc _ F => by rw [OpenClaim.pre_eq_preRow]; exact lifted os started H enc F)

theorem plain (f : FuncId) (fn : Func) (hf : Tryd.pinned.checked.prog.funcNamed "loop.example/g00914/laws.FnExactCoarseModel" = some f) (hfn : Tryd.pinned.checked.prog.funcs[f]? = some fn) :
    true = Tryd.pinned.checked.prog.looks [] ∧ ∀ (j : Nat) t, fn.params[j]? = some t → Tryd.pinned.checked.prog.wantsStandIn t = false := by
  obtain rfl : f = 6 := Option.some.inj ((show Tryd.prog.funcNamed "loop.example/g00914/laws.FnExactCoarseModel" = some 6 by kernel_rfl).symm.trans hf) |>.symm
  obtain rfl : fn = Tryd.f6 := (Option.some.inj (Tryd.func6.symm.trans hfn)).symm
  refine ⟨by kernel_rfl, fun j t ht => ?_⟩
  rw [Tryd.params6] at ht
  have ht' : t = 46 := by simpa using Array.mem_of_getElem? ht
  subst ht'
  exact (show Tryd.prog.wantsStandIn 46 = false by kernel_rfl)
end Go.Proofs.YtmimilchldjkbaaDoor.fnExactCoarseModelProof
namespace Go.Proofs.YtmimilchldjkbaaDoor
theorem fnExactCoarseModel_holds : Rows.FnExactCoarseModelCardSaid :=
  Claim7.holds_tied_plain_at .later [] _ _ _ _ fnExactCoarseModelProof.said (fun _ h => by cases h) (by kernel_rfl) (fun _ h => by cases h) fnExactCoarseModel_row_tie rfl ⟨rfl, rfl⟩ (by kernel_rfl) rfl fnExactCoarseModelProof.plain (by kernel_rfl)
#print axioms fnExactCoarseModel_holds
end Go.Proofs.YtmimilchldjkbaaDoor
