/-
  The law FnExactEmptyBlocks holds: for all arguments, EmptyBlocks answers as its model does, its answer owns its memory, and the arguments read as they did. No conditions.
-/
import Derived.Test.YtcmdnpablnihmabRows
import Derived.Test.YtcmdnpablnihmabM14
import Derived.Test.YtcmdnpablnihmabM15
import Derived.Test.YtcmdnpablnihmabOpen
import Derived.WalkKit
import Derived.Lib.Hide
import Derived.Deep.DeepCutAuto
import Derived.ProofKit
import Derived.OpenShut
import Derived.ShutString
import Derived.ChangeOld
import Derived.Below
import Derived.Carry
import Derived.Deep.RegionWith
import Derived.Lib.SmallJoins
namespace Go.Proofs.Ytcmdnpablnihmab.fnExactEmptyBlocksProof
open Go.ChangeShapes Go.WideShapes Go.ChangeAt Go.RowKit Go.Joins
open Go.ChangeMaps (open_string shut_string)
set_option linter.unusedVariables false

theorem own : ownKnob Try.prog.godebug = none := by kernel_rfl

theorem Mod.drew {w : World} {B : Nat} {v1 v2 v3 : Value} {ts gs rs : List Int} (h : Mod w B v1 v2 v3 ts gs rs) : Mod w.drew B v1 v2 v3 ts gs rs := ⟨h.t.draws 1, h.g.draws 1, h.r.draws 1, h.tg, h.tr, h.gr⟩

/-! ### The walk -/
set_option maxHeartbeats 8000000 in
set_option maxRecDepth 100000 in
theorem walk (x y z : Int) (v1 v2 v3 : Value) (ts gs rs : List Int) (u1 : Value) (bs : List Int) (w : World) (hL : Look w v1 v2 v3 ts gs rs) (hS : Seen w u1 bs) :
    Calls Try.prog 8 #[.agg #[.int .i64 x, .int .i64 y, .int .i64 z, v1, v2, v3], u1] w fun e w' => e = .returned (.bool true) ∧ Below w.heap.size w w' := by
  have HL := Lib.hid hL
  have m1 := hL.t
  have m2 := hL.g
  have m3 := hL.r
  obtain ⟨A1, c1, rfl, t1, _⟩ := m1
  obtain ⟨A2, c2, rfl, t2, _⟩ := m2
  obtain ⟨A3, c3, rfl, t3, _⟩ := m3
  have b1 : ts.length ≤ 9223372036854775807 := by unfold maxLen at t1; omega
  have b2 : gs.length ≤ 9223372036854775807 := by unfold maxLen at t2; omega
  have b3 : rs.length ≤ 9223372036854775807 := by unfold maxLen at t3; omega
  clear hL t1 t2 t3
  have HS := Lib.hid hS
  obtain ⟨AV, cV, rfl, t4, _⟩ := hS
  have b4 : bs.length ≤ 9223372036854775807 := by unfold maxLen at t4; omega
  clear t4
  have HB0 : Hid (Below w.heap.size w (w.alloc (.cells #[.int .i64 x, .int .i64 y, .int .i64 z, .slice A1 ts.length c1, .slice A2 gs.length c2, .slice A3 rs.length c3] 48))) := (Below.refl _ _).alloc (Nat.le_refl _) _
  have AX_0 : Hid (Box6 (w.alloc (.cells #[.int .i64 x, .int .i64 y, .int .i64 z, .slice A1 ts.length c1, .slice A2 gs.length c2, .slice A3 rs.length c3] 48)) w.heap.size x y z (.slice A1 ts.length c1) (.slice A2 gs.length c2) (.slice A3 rs.length c3)) := Box6.new _ _ _ _ _ _ _ _
  by_cases l4 : bs.length ≤ 1048576
  case neg =>
    go_enter Try.func8, Try.ntmps8
    go_wp2
    go_ret
    exact ⟨rfl, HB0.out⟩
  case pos =>
    go_enter Try.func8, Try.ntmps8
    go_wp2_with fail
    refine (c_szModel x y z _ _ _ _ _ _ _ _ _ _ b1 b2 b3).mono ?_
    rintro e w1 ⟨⟨r, rfl, hsz⟩, hb1⟩
    have HB1 : Hid (Below w.heap.size w w1) := HB0.out.trans (hb1.mono HB0.out.size)
    have AX_1 := Lib.hid (AX_0.out.below hb1)
    have lt_ax_1 := AX_1.out.lt
    have ax_1c0 := AX_1.out.c0
    have ax_1c1 := AX_1.out.c1
    have ax_1c2 := AX_1.out.c2
    have ax_1c3 := AX_1.out.c3
    have ax_1c4 := AX_1.out.c4
    have ax_1c5 := AX_1.out.c5
    clear hb1
    rcases hsz with ⟨_, rfl⟩ | ⟨hsz, hr⟩
    · go_wp2
      go_ret
      exact ⟨rfl, HB1.out⟩
    · have hr0 : ¬ r < 0 := by omega
      have l1 : ts.length ≤ 4000000 := by omega
      have l2 : gs.length ≤ 4000000 := by omega
      have l3 : rs.length ≤ 4000000 := by omega
      clear hr
      have l5 : bs.length ≤ 4000000 := by omega
      obtain ⟨X, Y, Z, T, G, R, bb, hTs, CS, CI⟩ : ∃ (X Y Z : Int) (T G R : List Int) (bb : Bool), T.length + G.length + R.length ≤ 1048576 ∧ Hid (∀ (p1 p2 p3 : Value) (q : Value) (u : World), Look u p1 p2 p3 ts gs rs → Seen u q bs → Calls Try.prog 33 #[.agg #[.int .i64 x, .int .i64 y, .int .i64 z, p1, p2, p3], q] u (GivesMod2 u X Y Z T G R bb)) ∧ Hid (∀ (p1 p2 p3 : Value) (q : Value) (u : World), Look u p1 p2 p3 ts gs rs → Seen u q bs → Calls Try.prog 34 #[.agg #[.int .i64 x, .int .i64 y, .int .i64 z, p1, p2, p3], q] u (GivesMod2 u X Y Z T G R bb)) :=
        ⟨emX x y z ts gs rs bs x, emX x y z ts gs rs bs y, emX x y z ts gs rs bs z, emT x y z ts gs rs bs (emptN ts bs bs.length), emT x y z ts gs rs bs gs, emT x y z ts gs rs bs rs, listB x y z ts gs rs bs, by unfold emT; split <;> simp [empt_len] <;> omega, fun p1 p2 p3 q u hu hq => c_EmptyBlocksS x y z _ _ _ ts gs rs _ bs u l1 l2 l3 l5 hu hq, fun p1 p2 p3 q u hu hq => c_EmptyBlocks x y z _ _ _ ts gs rs _ bs u l1 l2 l3 l5 hu hq⟩
      have hnb : (bb != bb) = false := by simp
      have hnq : ((1 + (T.length : Int) + (G.length : Int) + (R.length : Int)) != (1 + (T.length : Int) + (G.length : Int) + (R.length : Int))) = false := by simp
      have hpq : ¬ (1 + (T.length : Int) + (G.length : Int) + (R.length : Int)) < 0 := by omega
      have hkq : ¬ (1 + (ts.length : Int) + (gs.length : Int) + (rs.length : Int) + (bs.length : Int)) < 0 := by omega
      have lT : T.length ≤ 4000000 := by omega
      have lG : G.length ≤ 4000000 := by omega
      have lR : R.length ≤ 4000000 := by omega
      go_wp2_with fail
      refine (c_toModel x y z _ _ _ ts gs rs _ l1 l2 l3 (HL.out.t.below HB1.out) (HL.out.g.below HB1.out) (HL.out.r.below HB1.out)).mono ?_
      rintro e w2 ⟨Sa, Sb, Sc, rfl, hm, hb2⟩
      have HB2 : Hid (Below w.heap.size w w2) := HB1.out.trans (hb2.mono HB1.out.size)
      have AX_2 := Lib.hid (AX_1.out.below hb2)
      have lt_ax_2 := AX_2.out.lt
      have ax_2c0 := AX_2.out.c0
      have ax_2c1 := AX_2.out.c1
      have ax_2c2 := AX_2.out.c2
      have ax_2c3 := AX_2.out.c3
      have ax_2c4 := AX_2.out.c4
      have ax_2c5 := AX_2.out.c5
      have SM_2 := Lib.hid hm
      clear hm
      clear hb2
      go_wp2_with fail
      refine (c_toIntS bs _ _ l5 (HS.out.below HB2.out)).mono ?_
      rintro e w3 ⟨Sv, rfl, hs, hb3⟩
      have HB3 : Hid (Below w.heap.size w w3) := HB2.out.trans (hb3.mono HB2.out.size)
      have AX_3 := Lib.hid (AX_2.out.below hb3)
      have SM_3 := Lib.hid (SM_2.out.below hb3)
      have lt_ax_3 := AX_3.out.lt
      have ax_3c0 := AX_3.out.c0
      have ax_3c1 := AX_3.out.c1
      have ax_3c2 := AX_3.out.c2
      have ax_3c3 := AX_3.out.c3
      have ax_3c4 := AX_3.out.c4
      have ax_3c5 := AX_3.out.c5
      have SS_3 := Lib.hid hs
      clear hs
      clear hb3
      go_wp2_with fail
      refine (CS.out _ _ _ _ _ SM_3.out.look SS_3.out.seen).mono ?_
      rintro e w4 ⟨Wa, Wb, Wc, rfl, hm, hb4⟩
      have HB4 : Hid (Below w.heap.size w w4) := HB3.out.trans (hb4.mono HB3.out.size)
      have AX_4 := Lib.hid (AX_3.out.below hb4)
      have SM_4 := Lib.hid (SM_3.out.below hb4)
      have SS_4 := Lib.hid (SS_3.out.below hb4)
      have lt_ax_4 := AX_4.out.lt
      have ax_4c0 := AX_4.out.c0
      have ax_4c1 := AX_4.out.c1
      have ax_4c2 := AX_4.out.c2
      have ax_4c3 := AX_4.out.c3
      have ax_4c4 := AX_4.out.c4
      have ax_4c5 := AX_4.out.c5
      have WM_4 := Lib.hid hm
      clear hm
      clear hb4
      obtain ⟨P1, P4, rfl⟩ := WM_4.out.t.shape
      obtain ⟨P2, P5, rfl⟩ := WM_4.out.g.shape
      obtain ⟨P3, P6, rfl⟩ := WM_4.out.r.shape
      go_wp2_with fail
      have hbx : Below w4.heap.size w4 (w4.alloc (Obj.cells #[.int .i64 X, .int .i64 Y, .int .i64 Z, .slice P1 T.length P4, .slice P2 G.length P5, .slice P3 R.length P6] 54)) := (Below.refl _ _).alloc (Nat.le_refl _) _
      have HB4x : Hid (Below w.heap.size w (w4.alloc (Obj.cells #[.int .i64 X, .int .i64 Y, .int .i64 Z, .slice P1 T.length P4, .slice P2 G.length P5, .slice P3 R.length P6] 54))) := HB4.out.trans (hbx.mono HB4.out.size)
      have AX_4x := Lib.hid (AX_4.out.below hbx)
      have WM_4x := Lib.hid (WM_4.out.below hbx)
      have ax_4xc0 := AX_4x.out.c0
      have ax_4xc1 := AX_4x.out.c1
      have ax_4xc2 := AX_4x.out.c2
      have ax_4xc3 := AX_4x.out.c3
      have ax_4xc4 := AX_4x.out.c4
      have ax_4xc5 := AX_4x.out.c5
      have WX_4x : Hid (Box6 (w4.alloc (Obj.cells #[.int .i64 X, .int .i64 Y, .int .i64 Z, .slice P1 T.length P4, .slice P2 G.length P5, .slice P3 R.length P6] 54)) w4.heap.size X Y Z (.slice P1 T.length P4) (.slice P2 G.length P5) (.slice P3 R.length P6)) := Box6.new _ _ _ _ _ _ _ _
      clear hbx
      go_wp2_with fail
      refine (c_toModel x y z _ _ _ ts gs rs _ l1 l2 l3 (HL.out.t.below HB4x.out) (HL.out.g.below HB4x.out) (HL.out.r.below HB4x.out)).mono ?_
      rintro e w5 ⟨Xa, Xb, Xc, rfl, hm, hb5⟩
      have HB5 : Hid (Below w.heap.size w w5) := HB4x.out.trans (hb5.mono HB4x.out.size)
      have AX_5 := Lib.hid (AX_4x.out.below hb5)
      have WM_5 := Lib.hid (WM_4x.out.below hb5)
      have WX_5 := Lib.hid (WX_4x.out.below hb5)
      have lt_ax_5 := AX_5.out.lt
      have ax_5c0 := AX_5.out.c0
      have ax_5c1 := AX_5.out.c1
      have ax_5c2 := AX_5.out.c2
      have ax_5c3 := AX_5.out.c3
      have ax_5c4 := AX_5.out.c4
      have ax_5c5 := AX_5.out.c5
      have lt_wx_5 := WX_5.out.lt
      have wx_5c0 := WX_5.out.c0
      have wx_5c1 := WX_5.out.c1
      have wx_5c2 := WX_5.out.c2
      have wx_5c3 := WX_5.out.c3
      have wx_5c4 := WX_5.out.c4
      have wx_5c5 := WX_5.out.c5
      have XM_5 := Lib.hid hm
      clear hm
      clear hb5
      obtain ⟨Q1, Q4, rfl⟩ := XM_5.out.t.shape
      obtain ⟨Q2, Q5, rfl⟩ := XM_5.out.g.shape
      obtain ⟨Q3, Q6, rfl⟩ := XM_5.out.r.shape
      go_wp2_with fail
      have hbx : Below w5.heap.size w5 (w5.alloc (Obj.cells #[.int .i64 x, .int .i64 y, .int .i64 z, .slice Q1 ts.length Q4, .slice Q2 gs.length Q5, .slice Q3 rs.length Q6] 54)) := (Below.refl _ _).alloc (Nat.le_refl _) _
      have HB5x : Hid (Below w.heap.size w (w5.alloc (Obj.cells #[.int .i64 x, .int .i64 y, .int .i64 z, .slice Q1 ts.length Q4, .slice Q2 gs.length Q5, .slice Q3 rs.length Q6] 54))) := HB5.out.trans (hbx.mono HB5.out.size)
      have AX_5x := Lib.hid (AX_5.out.below hbx)
      have WM_5x := Lib.hid (WM_5.out.below hbx)
      have WX_5x := Lib.hid (WX_5.out.below hbx)
      have XM_5x := Lib.hid (XM_5.out.below hbx)
      have ax_5xc0 := AX_5x.out.c0
      have ax_5xc1 := AX_5x.out.c1
      have ax_5xc2 := AX_5x.out.c2
      have ax_5xc3 := AX_5x.out.c3
      have ax_5xc4 := AX_5x.out.c4
      have ax_5xc5 := AX_5x.out.c5
      have wx_5xc0 := WX_5x.out.c0
      have wx_5xc1 := WX_5x.out.c1
      have wx_5xc2 := WX_5x.out.c2
      have wx_5xc3 := WX_5x.out.c3
      have wx_5xc4 := WX_5x.out.c4
      have wx_5xc5 := WX_5x.out.c5
      have XX_5x : Hid (Box6 (w5.alloc (Obj.cells #[.int .i64 x, .int .i64 y, .int .i64 z, .slice Q1 ts.length Q4, .slice Q2 gs.length Q5, .slice Q3 rs.length Q6] 54)) w5.heap.size x y z (.slice Q1 ts.length Q4) (.slice Q2 gs.length Q5) (.slice Q3 rs.length Q6)) := Box6.new _ _ _ _ _ _ _ _
      clear hbx
      go_wp2_with fail
      refine (c_toIntS bs _ _ l5 (HS.out.below HB5x.out)).mono ?_
      rintro e w6 ⟨Xv, rfl, hs, hb6⟩
      have HB6 : Hid (Below w.heap.size w w6) := HB5x.out.trans (hb6.mono HB5x.out.size)
      have AX_6 := Lib.hid (AX_5x.out.below hb6)
      have WM_6 := Lib.hid (WM_5x.out.below hb6)
      have WX_6 := Lib.hid (WX_5x.out.below hb6)
      have XM_6 := Lib.hid (XM_5x.out.below hb6)
      have XX_6 := Lib.hid (XX_5x.out.below hb6)
      have lt_ax_6 := AX_6.out.lt
      have ax_6c0 := AX_6.out.c0
      have ax_6c1 := AX_6.out.c1
      have ax_6c2 := AX_6.out.c2
      have ax_6c3 := AX_6.out.c3
      have ax_6c4 := AX_6.out.c4
      have ax_6c5 := AX_6.out.c5
      have lt_wx_6 := WX_6.out.lt
      have wx_6c0 := WX_6.out.c0
      have wx_6c1 := WX_6.out.c1
      have wx_6c2 := WX_6.out.c2
      have wx_6c3 := WX_6.out.c3
      have wx_6c4 := WX_6.out.c4
      have wx_6c5 := WX_6.out.c5
      have lt_xx_6 := XX_6.out.lt
      have xx_6c0 := XX_6.out.c0
      have xx_6c1 := XX_6.out.c1
      have xx_6c2 := XX_6.out.c2
      have xx_6c3 := XX_6.out.c3
      have xx_6c4 := XX_6.out.c4
      have xx_6c5 := XX_6.out.c5
      have XS_6 := Lib.hid hs
      clear hs
      clear hb6
      go_wp2_with fail
      refine (CI.out _ _ _ _ _ XM_6.out.look XS_6.out.seen).mono ?_
      rintro e w7 ⟨Ga, Gb, Gc, rfl, hm, hb7⟩
      have HB7 : Hid (Below w.heap.size w w7) := HB6.out.trans (hb7.mono HB6.out.size)
      have AX_7 := Lib.hid (AX_6.out.below hb7)
      have WM_7 := Lib.hid (WM_6.out.below hb7)
      have WX_7 := Lib.hid (WX_6.out.below hb7)
      have XM_7 := Lib.hid (XM_6.out.below hb7)
      have XX_7 := Lib.hid (XX_6.out.below hb7)
      have XS_7 := Lib.hid (XS_6.out.below hb7)
      have lt_ax_7 := AX_7.out.lt
      have ax_7c0 := AX_7.out.c0
      have ax_7c1 := AX_7.out.c1
      have ax_7c2 := AX_7.out.c2
      have ax_7c3 := AX_7.out.c3
      have ax_7c4 := AX_7.out.c4
      have ax_7c5 := AX_7.out.c5
      have lt_wx_7 := WX_7.out.lt
      have wx_7c0 := WX_7.out.c0
      have wx_7c1 := WX_7.out.c1
      have wx_7c2 := WX_7.out.c2
      have wx_7c3 := WX_7.out.c3
      have wx_7c4 := WX_7.out.c4
      have wx_7c5 := WX_7.out.c5
      have lt_xx_7 := XX_7.out.lt
      have xx_7c0 := XX_7.out.c0
      have xx_7c1 := XX_7.out.c1
      have xx_7c2 := XX_7.out.c2
      have xx_7c3 := XX_7.out.c3
      have xx_7c4 := XX_7.out.c4
      have xx_7c5 := XX_7.out.c5
      have GM_7 := Lib.hid hm
      clear hm
      clear hb7
      obtain ⟨K1, K4, rfl⟩ := GM_7.out.t.shape
      obtain ⟨K2, K5, rfl⟩ := GM_7.out.g.shape
      obtain ⟨K3, K6, rfl⟩ := GM_7.out.r.shape
      go_wp2_with fail
      have hbx : Below w7.heap.size w7 (w7.alloc (Obj.cells #[.int .i64 X, .int .i64 Y, .int .i64 Z, .slice K1 T.length K4, .slice K2 G.length K5, .slice K3 R.length K6] 54)) := (Below.refl _ _).alloc (Nat.le_refl _) _
      have HB7x : Hid (Below w.heap.size w (w7.alloc (Obj.cells #[.int .i64 X, .int .i64 Y, .int .i64 Z, .slice K1 T.length K4, .slice K2 G.length K5, .slice K3 R.length K6] 54))) := HB7.out.trans (hbx.mono HB7.out.size)
      have AX_7x := Lib.hid (AX_7.out.below hbx)
      have WM_7x := Lib.hid (WM_7.out.below hbx)
      have WX_7x := Lib.hid (WX_7.out.below hbx)
      have XM_7x := Lib.hid (XM_7.out.below hbx)
      have XX_7x := Lib.hid (XX_7.out.below hbx)
      have XS_7x := Lib.hid (XS_7.out.below hbx)
      have GM_7x := Lib.hid (GM_7.out.below hbx)
      have ax_7xc0 := AX_7x.out.c0
      have ax_7xc1 := AX_7x.out.c1
      have ax_7xc2 := AX_7x.out.c2
      have ax_7xc3 := AX_7x.out.c3
      have ax_7xc4 := AX_7x.out.c4
      have ax_7xc5 := AX_7x.out.c5
      have wx_7xc0 := WX_7x.out.c0
      have wx_7xc1 := WX_7x.out.c1
      have wx_7xc2 := WX_7x.out.c2
      have wx_7xc3 := WX_7x.out.c3
      have wx_7xc4 := WX_7x.out.c4
      have wx_7xc5 := WX_7x.out.c5
      have xx_7xc0 := XX_7x.out.c0
      have xx_7xc1 := XX_7x.out.c1
      have xx_7xc2 := XX_7x.out.c2
      have xx_7xc3 := XX_7x.out.c3
      have xx_7xc4 := XX_7x.out.c4
      have xx_7xc5 := XX_7x.out.c5
      have GX_7x : Hid (Box6 (w7.alloc (Obj.cells #[.int .i64 X, .int .i64 Y, .int .i64 Z, .slice K1 T.length K4, .slice K2 G.length K5, .slice K3 R.length K6] 54)) w7.heap.size X Y Z (.slice K1 T.length K4) (.slice K2 G.length K5) (.slice K3 R.length K6)) := Box6.new _ _ _ _ _ _ _ _
      clear hbx
      go_wp2_with fail
      refine (c_eqModel X Y Z _ _ _ _ _ _ T G R _ _ _ lT lG lR GM_7x.out WM_7x.out).mono ?_
      rintro e w8 ⟨rfl, hb8⟩
      have HB8 : Hid (Below w.heap.size w w8) := HB7x.out.trans (hb8.mono HB7x.out.size)
      have AX_8 := Lib.hid (AX_7x.out.below hb8)
      have WM_8 := Lib.hid (WM_7x.out.below hb8)
      have WX_8 := Lib.hid (WX_7x.out.below hb8)
      have XM_8 := Lib.hid (XM_7x.out.below hb8)
      have XX_8 := Lib.hid (XX_7x.out.below hb8)
      have XS_8 := Lib.hid (XS_7x.out.below hb8)
      have GM_8 := Lib.hid (GM_7x.out.below hb8)
      have GX_8 := Lib.hid (GX_7x.out.below hb8)
      have lt_ax_8 := AX_8.out.lt
      have ax_8c0 := AX_8.out.c0
      have ax_8c1 := AX_8.out.c1
      have ax_8c2 := AX_8.out.c2
      have ax_8c3 := AX_8.out.c3
      have ax_8c4 := AX_8.out.c4
      have ax_8c5 := AX_8.out.c5
      have lt_wx_8 := WX_8.out.lt
      have wx_8c0 := WX_8.out.c0
      have wx_8c1 := WX_8.out.c1
      have wx_8c2 := WX_8.out.c2
      have wx_8c3 := WX_8.out.c3
      have wx_8c4 := WX_8.out.c4
      have wx_8c5 := WX_8.out.c5
      have lt_xx_8 := XX_8.out.lt
      have xx_8c0 := XX_8.out.c0
      have xx_8c1 := XX_8.out.c1
      have xx_8c2 := XX_8.out.c2
      have xx_8c3 := XX_8.out.c3
      have xx_8c4 := XX_8.out.c4
      have xx_8c5 := XX_8.out.c5
      have lt_gx_8 := GX_8.out.lt
      have gx_8c0 := GX_8.out.c0
      have gx_8c1 := GX_8.out.c1
      have gx_8c2 := GX_8.out.c2
      have gx_8c3 := GX_8.out.c3
      have gx_8c4 := GX_8.out.c4
      have gx_8c5 := GX_8.out.c5
      clear hb8
      go_upto_region 13 with fail
      go_cut [56] (fun s wx => s = .bool false ∧ Below w8.heap.size w8 wx)
      case first =>
        go_region_with (first
          | (go_at_call 28
             refine (c_toModel x y z _ _ _ ts gs rs _ l1 l2 l3 (HL.out.t.below (by exact HB8.out.drew)) (HL.out.g.below (by exact HB8.out.drew)) (HL.out.r.below (by exact HB8.out.drew))).mono ?_
             rintro e wy ⟨r1, r2, r3, rfl, hmy, hby⟩
             obtain ⟨hcy, hfy⟩ := bcell hby
             have sy := hby.size
             simp at sy hcy hfy
             have pxy := XX_8.out.lt
             have HMY := Lib.hid hmy
             have HNY : Hid (Mod wy _ (.slice Q1 ts.length Q4) (.slice Q2 gs.length Q5) (.slice Q3 rs.length Q6) ts gs rs) := Mod.below (Mod.drew XM_8.out) hby
             have HBY : Hid (Below w8.heap.size w8 wy) := (Below.refl _ _).drew.trans hby
             clear hby hmy)
          | (go_at_call 30
             refine (c_eqModel x y z _ _ _ _ _ _ ts gs rs _ _ _ l1 l2 l3 HNY.out HMY.out).mono ?_
             rintro e wz ⟨rfl, hbz⟩
             have HBZ : Hid (Below w8.heap.size w8 wz) := HBY.out.trans (hbz.mono HBY.out.size)
             clear hbz))
        all_goals
          go_wp2_with fail
          go_meet
          exact ⟨rfl, HBZ.out⟩
      case rest =>
        obtain ⟨rfl, hb9⟩ := hcut
        have HB9 : Hid (Below w.heap.size w wc) := HB8.out.trans (hb9.mono HB8.out.size)
        have AX_9 := Lib.hid (AX_8.out.below hb9)
        have WM_9 := Lib.hid (WM_8.out.below hb9)
        have WX_9 := Lib.hid (WX_8.out.below hb9)
        have XM_9 := Lib.hid (XM_8.out.below hb9)
        have XX_9 := Lib.hid (XX_8.out.below hb9)
        have XS_9 := Lib.hid (XS_8.out.below hb9)
        have GM_9 := Lib.hid (GM_8.out.below hb9)
        have GX_9 := Lib.hid (GX_8.out.below hb9)
        have lt_ax_9 := AX_9.out.lt
        have ax_9c0 := AX_9.out.c0
        have ax_9c1 := AX_9.out.c1
        have ax_9c2 := AX_9.out.c2
        have ax_9c3 := AX_9.out.c3
        have ax_9c4 := AX_9.out.c4
        have ax_9c5 := AX_9.out.c5
        have lt_wx_9 := WX_9.out.lt
        have wx_9c0 := WX_9.out.c0
        have wx_9c1 := WX_9.out.c1
        have wx_9c2 := WX_9.out.c2
        have wx_9c3 := WX_9.out.c3
        have wx_9c4 := WX_9.out.c4
        have wx_9c5 := WX_9.out.c5
        have lt_xx_9 := XX_9.out.lt
        have xx_9c0 := XX_9.out.c0
        have xx_9c1 := XX_9.out.c1
        have xx_9c2 := XX_9.out.c2
        have xx_9c3 := XX_9.out.c3
        have xx_9c4 := XX_9.out.c4
        have xx_9c5 := XX_9.out.c5
        have lt_gx_9 := GX_9.out.lt
        have gx_9c0 := GX_9.out.c0
        have gx_9c1 := GX_9.out.c1
        have gx_9c2 := GX_9.out.c2
        have gx_9c3 := GX_9.out.c3
        have gx_9c4 := GX_9.out.c4
        have gx_9c5 := GX_9.out.c5
        clear hb9
        go_wp2_with fail
        refine (c_toIntS bs _ _ l5 (HS.out.below HB9.out)).mono ?_
        rintro e w10 ⟨yv, rfl, hs, hb10⟩
        have HB10 : Hid (Below w.heap.size w w10) := HB9.out.trans (hb10.mono HB9.out.size)
        have AX_10 := Lib.hid (AX_9.out.below hb10)
        have WM_10 := Lib.hid (WM_9.out.below hb10)
        have WX_10 := Lib.hid (WX_9.out.below hb10)
        have XM_10 := Lib.hid (XM_9.out.below hb10)
        have XX_10 := Lib.hid (XX_9.out.below hb10)
        have XS_10 := Lib.hid (XS_9.out.below hb10)
        have GM_10 := Lib.hid (GM_9.out.below hb10)
        have GX_10 := Lib.hid (GX_9.out.below hb10)
        have lt_ax_10 := AX_10.out.lt
        have ax_10c0 := AX_10.out.c0
        have ax_10c1 := AX_10.out.c1
        have ax_10c2 := AX_10.out.c2
        have ax_10c3 := AX_10.out.c3
        have ax_10c4 := AX_10.out.c4
        have ax_10c5 := AX_10.out.c5
        have lt_wx_10 := WX_10.out.lt
        have wx_10c0 := WX_10.out.c0
        have wx_10c1 := WX_10.out.c1
        have wx_10c2 := WX_10.out.c2
        have wx_10c3 := WX_10.out.c3
        have wx_10c4 := WX_10.out.c4
        have wx_10c5 := WX_10.out.c5
        have lt_xx_10 := XX_10.out.lt
        have xx_10c0 := XX_10.out.c0
        have xx_10c1 := XX_10.out.c1
        have xx_10c2 := XX_10.out.c2
        have xx_10c3 := XX_10.out.c3
        have xx_10c4 := XX_10.out.c4
        have xx_10c5 := XX_10.out.c5
        have lt_gx_10 := GX_10.out.lt
        have gx_10c0 := GX_10.out.c0
        have gx_10c1 := GX_10.out.c1
        have gx_10c2 := GX_10.out.c2
        have gx_10c3 := GX_10.out.c3
        have gx_10c4 := GX_10.out.c4
        have gx_10c5 := GX_10.out.c5
        have YS_10 := Lib.hid hs
        clear hs
        clear hb10
        go_wp2_with fail
        refine (c_eqIntS bs _ _ _ _ _ l5 XS_10.out YS_10.out).mono ?_
        rintro e w11 ⟨rfl, hb11⟩
        have HB11 : Hid (Below w.heap.size w w11) := HB10.out.trans (hb11.mono HB10.out.size)
        have AX_11 := Lib.hid (AX_10.out.below hb11)
        have WM_11 := Lib.hid (WM_10.out.below hb11)
        have WX_11 := Lib.hid (WX_10.out.below hb11)
        have XM_11 := Lib.hid (XM_10.out.below hb11)
        have XX_11 := Lib.hid (XX_10.out.below hb11)
        have XS_11 := Lib.hid (XS_10.out.below hb11)
        have GM_11 := Lib.hid (GM_10.out.below hb11)
        have GX_11 := Lib.hid (GX_10.out.below hb11)
        have YS_11 := Lib.hid (YS_10.out.below hb11)
        have lt_ax_11 := AX_11.out.lt
        have ax_11c0 := AX_11.out.c0
        have ax_11c1 := AX_11.out.c1
        have ax_11c2 := AX_11.out.c2
        have ax_11c3 := AX_11.out.c3
        have ax_11c4 := AX_11.out.c4
        have ax_11c5 := AX_11.out.c5
        have lt_wx_11 := WX_11.out.lt
        have wx_11c0 := WX_11.out.c0
        have wx_11c1 := WX_11.out.c1
        have wx_11c2 := WX_11.out.c2
        have wx_11c3 := WX_11.out.c3
        have wx_11c4 := WX_11.out.c4
        have wx_11c5 := WX_11.out.c5
        have lt_xx_11 := XX_11.out.lt
        have xx_11c0 := XX_11.out.c0
        have xx_11c1 := XX_11.out.c1
        have xx_11c2 := XX_11.out.c2
        have xx_11c3 := XX_11.out.c3
        have xx_11c4 := XX_11.out.c4
        have xx_11c5 := XX_11.out.c5
        have lt_gx_11 := GX_11.out.lt
        have gx_11c0 := GX_11.out.c0
        have gx_11c1 := GX_11.out.c1
        have gx_11c2 := GX_11.out.c2
        have gx_11c3 := GX_11.out.c3
        have gx_11c4 := GX_11.out.c4
        have gx_11c5 := GX_11.out.c5
        clear hb11
        have OW : Hid (w.heap.size < w4.heap.size) := AX_4.out.lt
        have OX : Hid (∀ k, (Value.slice Q1 ts.length Q4).ownBlock = some k ∨ (Value.slice Q2 gs.length Q5).ownBlock = some k ∨ (Value.slice Q3 rs.length Q6).ownBlock = some k → w4.heap.size < k) := fun k hk => by
          have hs := WX_4x.out.lt
          rcases hk with hk | hk | hk
          · exact Nat.lt_of_lt_of_le hs (XM_5.out.own1 k hk)
          · exact Nat.lt_of_lt_of_le hs (XM_5.out.own2 k hk)
          · exact Nat.lt_of_lt_of_le hs (XM_5.out.own3 k hk)
        go_wp2_with fail
        refine (c_markModel x y z _ _ _ ts gs rs _ 1 _ hsz (by omega) (by omega) XM_11.out).mono ?_
        rintro e w12 ⟨rfl, _, ht⟩
        have HT := Lib.hid ht
        clear ht
        have HB12 : Hid (Below w.heap.size w w12) := HT.out.below HB11.out HB11.out.size (fun k hk => Nat.le_of_lt (Nat.lt_trans OW.out (OX.out k (.inl hk)))) (fun k hk => Nat.le_of_lt (Nat.lt_trans OW.out (OX.out k (.inr (.inl hk))))) (fun k hk => Nat.le_of_lt (Nat.lt_trans OW.out (OX.out k (.inr (.inr hk)))))
        have AX_12 := Lib.hid (AX_11.out.turned HT.out (fun e => Nat.lt_irrefl _ (Nat.lt_trans OW.out (OX.out _ (.inl e)))) (fun e => Nat.lt_irrefl _ (Nat.lt_trans OW.out (OX.out _ (.inr (.inl e))))) (fun e => Nat.lt_irrefl _ (Nat.lt_trans OW.out (OX.out _ (.inr (.inr e))))))
        have WX_12 := Lib.hid (WX_11.out.turned HT.out (fun e => Nat.lt_irrefl _ (OX.out _ (.inl e))) (fun e => Nat.lt_irrefl _ (OX.out _ (.inr (.inl e)))) (fun e => Nat.lt_irrefl _ (OX.out _ (.inr (.inr e)))))
        have GX_12 := Lib.hid (GX_11.out.turned HT.out XM_7.out.top1 XM_7.out.top2 XM_7.out.top3)
        have WM_12 := Lib.hid (Mod.before WM_11.out WM_4.out XM_5.out (Nat.le_of_lt WX_4x.out.lt) HT.out)
        have GM_12 := Lib.hid (Mod.after GM_11.out GM_7.out XM_6.out (Nat.le_refl _) HT.out)
        have XS_12 := Lib.hid (Row.after XS_11.out XS_6.out XM_5x.out (Nat.le_refl _) HT.out)
        have ax_12c0 := AX_12.out.c0
        have ax_12c1 := AX_12.out.c1
        have ax_12c2 := AX_12.out.c2
        have ax_12c3 := AX_12.out.c3
        have ax_12c4 := AX_12.out.c4
        have ax_12c5 := AX_12.out.c5
        have lt_ax_12 := AX_12.out.lt
        have wx_12c0 := WX_12.out.c0
        have wx_12c1 := WX_12.out.c1
        have wx_12c2 := WX_12.out.c2
        have wx_12c3 := WX_12.out.c3
        have wx_12c4 := WX_12.out.c4
        have wx_12c5 := WX_12.out.c5
        have lt_wx_12 := WX_12.out.lt
        have gx_12c0 := GX_12.out.c0
        have gx_12c1 := GX_12.out.c1
        have gx_12c2 := GX_12.out.c2
        have gx_12c3 := GX_12.out.c3
        have gx_12c4 := GX_12.out.c4
        have gx_12c5 := GX_12.out.c5
        have lt_gx_12 := GX_12.out.lt
        go_wp2_with fail
        refine (c_markIntS bs _ _ (1 + ts.length + gs.length + rs.length) _ l5 (by omega) (by omega) XS_12.out).mono ?_
        rintro e w13 ⟨rfl, _, hg⟩
        have HG := Lib.hid hg
        clear hg
        have OS : Hid (∀ k, Xv.ownBlock = some k → w5.heap.size < k) := fun k hk => Nat.lt_of_lt_of_le XX_5x.out.lt (Row.own XS_6.out k hk)
        have OV : Hid (w4.heap.size < w5.heap.size) := WX_5.out.lt
        have HB13 : Hid (Below w.heap.size w w13) := HB12.out.grown HG.out HB12.out.size (fun k hk => by have := OS.out k hk; have := OV.out; have := OW.out; omega)
        have AX_13 := Lib.hid (AX_12.out.grown HG.out (fun e => by have := OS.out _ e; have := OV.out; have := OW.out; omega))
        have WX_13 := Lib.hid (WX_12.out.grown HG.out (fun e => by have := OS.out _ e; have := OV.out; omega))
        have GX_13 := Lib.hid (GX_12.out.grown HG.out (Row.top XS_7.out))
        have WM_13 := Lib.hid (WM_12.out.grown HG.out (apart_of WM_5x.out.t XS_6.out (Nat.le_refl _)) (apart_of WM_5x.out.g XS_6.out (Nat.le_refl _)) (apart_of WM_5x.out.r XS_6.out (Nat.le_refl _)))
        have GM_13 := Lib.hid (GM_12.out.grown HG.out (apart_of XS_6.out GM_7.out.t (Nat.le_refl _)).symm (apart_of XS_6.out GM_7.out.g (Nat.le_refl _)).symm (apart_of XS_6.out GM_7.out.r (Nat.le_refl _)).symm)
        have ax_13c0 := AX_13.out.c0
        have ax_13c1 := AX_13.out.c1
        have ax_13c2 := AX_13.out.c2
        have ax_13c3 := AX_13.out.c3
        have ax_13c4 := AX_13.out.c4
        have ax_13c5 := AX_13.out.c5
        have lt_ax_13 := AX_13.out.lt
        have wx_13c0 := WX_13.out.c0
        have wx_13c1 := WX_13.out.c1
        have wx_13c2 := WX_13.out.c2
        have wx_13c3 := WX_13.out.c3
        have wx_13c4 := WX_13.out.c4
        have wx_13c5 := WX_13.out.c5
        have lt_wx_13 := WX_13.out.lt
        have gx_13c0 := GX_13.out.c0
        have gx_13c1 := GX_13.out.c1
        have gx_13c2 := GX_13.out.c2
        have gx_13c3 := GX_13.out.c3
        have gx_13c4 := GX_13.out.c4
        have gx_13c5 := GX_13.out.c5
        have lt_gx_13 := GX_13.out.lt
        go_wp2_with fail
        refine (c_eqModel X Y Z _ _ _ _ _ _ T G R _ _ _ lT lG lR GM_13.out WM_13.out).mono ?_
        rintro e w14 ⟨rfl, hb14⟩
        have HB14 : Hid (Below w.heap.size w w14) := HB13.out.trans (hb14.mono HB13.out.size)
        have AX_14 := Lib.hid (AX_13.out.below hb14)
        have WX_14 := Lib.hid (WX_13.out.below hb14)
        have GX_14 := Lib.hid (GX_13.out.below hb14)
        have WM_14 := Lib.hid (WM_13.out.below hb14)
        have GM_14 := Lib.hid (GM_13.out.below hb14)
        have lt_ax_14 := AX_14.out.lt
        have ax_14c0 := AX_14.out.c0
        have ax_14c1 := AX_14.out.c1
        have ax_14c2 := AX_14.out.c2
        have ax_14c3 := AX_14.out.c3
        have ax_14c4 := AX_14.out.c4
        have ax_14c5 := AX_14.out.c5
        have lt_wx_14 := WX_14.out.lt
        have wx_14c0 := WX_14.out.c0
        have wx_14c1 := WX_14.out.c1
        have wx_14c2 := WX_14.out.c2
        have wx_14c3 := WX_14.out.c3
        have wx_14c4 := WX_14.out.c4
        have wx_14c5 := WX_14.out.c5
        have lt_gx_14 := GX_14.out.lt
        have gx_14c0 := GX_14.out.c0
        have gx_14c1 := GX_14.out.c1
        have gx_14c2 := GX_14.out.c2
        have gx_14c3 := GX_14.out.c3
        have gx_14c4 := GX_14.out.c4
        have gx_14c5 := GX_14.out.c5
        clear hb14
        go_wp2_with fail
        refine (c_markModel X Y Z _ _ _ T G R _ 1 _ hTs (by omega) (by omega) GM_14.out).mono ?_
        rintro e w15 ⟨rfl, hm, ht⟩
        have HU := Lib.hid ht
        have GM_15 := Lib.hid hm
        clear ht hm
        have OG : Hid (∀ k, (Value.slice K1 T.length K4).ownBlock = some k ∨ (Value.slice K2 G.length K5).ownBlock = some k ∨ (Value.slice K3 R.length K6).ownBlock = some k → w4.heap.size < k) := fun k hk => by
          have hs := WX_6.out.lt
          rcases hk with hk | hk | hk
          · exact Nat.lt_of_lt_of_le hs (GM_7.out.own1 k hk)
          · exact Nat.lt_of_lt_of_le hs (GM_7.out.own2 k hk)
          · exact Nat.lt_of_lt_of_le hs (GM_7.out.own3 k hk)
        have HB15 : Hid (Below w.heap.size w w15) := HU.out.below HB14.out HB14.out.size (fun k hk => Nat.le_of_lt (Nat.lt_trans OW.out (OG.out k (.inl hk)))) (fun k hk => Nat.le_of_lt (Nat.lt_trans OW.out (OG.out k (.inr (.inl hk))))) (fun k hk => Nat.le_of_lt (Nat.lt_trans OW.out (OG.out k (.inr (.inr hk)))))
        have AX_15 := Lib.hid (AX_14.out.turned HU.out (fun e => Nat.lt_irrefl _ (Nat.lt_trans OW.out (OG.out _ (.inl e)))) (fun e => Nat.lt_irrefl _ (Nat.lt_trans OW.out (OG.out _ (.inr (.inl e))))) (fun e => Nat.lt_irrefl _ (Nat.lt_trans OW.out (OG.out _ (.inr (.inr e))))))
        have WX_15 := Lib.hid (WX_14.out.turned HU.out (fun e => Nat.lt_irrefl _ (OG.out _ (.inl e))) (fun e => Nat.lt_irrefl _ (OG.out _ (.inr (.inl e)))) (fun e => Nat.lt_irrefl _ (OG.out _ (.inr (.inr e)))))
        have GX_15 := Lib.hid (GX_14.out.turned HU.out GM_7.out.top1 GM_7.out.top2 GM_7.out.top3)
        have WM_15 := Lib.hid (Mod.before WM_14.out WM_6.out GM_7.out (Nat.le_refl _) HU.out)
        have ax_15c0 := AX_15.out.c0
        have ax_15c1 := AX_15.out.c1
        have ax_15c2 := AX_15.out.c2
        have ax_15c3 := AX_15.out.c3
        have ax_15c4 := AX_15.out.c4
        have ax_15c5 := AX_15.out.c5
        have lt_ax_15 := AX_15.out.lt
        have wx_15c0 := WX_15.out.c0
        have wx_15c1 := WX_15.out.c1
        have wx_15c2 := WX_15.out.c2
        have wx_15c3 := WX_15.out.c3
        have wx_15c4 := WX_15.out.c4
        have wx_15c5 := WX_15.out.c5
        have lt_wx_15 := WX_15.out.lt
        have gx_15c0 := GX_15.out.c0
        have gx_15c1 := GX_15.out.c1
        have gx_15c2 := GX_15.out.c2
        have gx_15c3 := GX_15.out.c3
        have gx_15c4 := GX_15.out.c4
        have gx_15c5 := GX_15.out.c5
        have lt_gx_15 := GX_15.out.lt
        go_wp2_with fail
        refine (c_heldModel X Y Z _ _ _ T.length G.length R.length _ 1 _ hTs (by omega) (by omega) GM_15.out).mono ?_
        rintro e w16 ⟨rfl, hb16⟩
        have HB16 : Hid (Below w.heap.size w w16) := HB15.out.trans (hb16.mono HB15.out.size)
        have AX_16 := Lib.hid (AX_15.out.below hb16)
        have WX_16 := Lib.hid (WX_15.out.below hb16)
        have GX_16 := Lib.hid (GX_15.out.below hb16)
        have WM_16 := Lib.hid (WM_15.out.below hb16)
        have GM_16 := Lib.hid (GM_15.out.below hb16)
        have lt_ax_16 := AX_16.out.lt
        have ax_16c0 := AX_16.out.c0
        have ax_16c1 := AX_16.out.c1
        have ax_16c2 := AX_16.out.c2
        have ax_16c3 := AX_16.out.c3
        have ax_16c4 := AX_16.out.c4
        have ax_16c5 := AX_16.out.c5
        have lt_wx_16 := WX_16.out.lt
        have wx_16c0 := WX_16.out.c0
        have wx_16c1 := WX_16.out.c1
        have wx_16c2 := WX_16.out.c2
        have wx_16c3 := WX_16.out.c3
        have wx_16c4 := WX_16.out.c4
        have wx_16c5 := WX_16.out.c5
        have lt_gx_16 := GX_16.out.lt
        have gx_16c0 := GX_16.out.c0
        have gx_16c1 := GX_16.out.c1
        have gx_16c2 := GX_16.out.c2
        have gx_16c3 := GX_16.out.c3
        have gx_16c4 := GX_16.out.c4
        have gx_16c5 := GX_16.out.c5
        clear hb16
        go_wp2_with fail
        refine (c_toModel x y z _ _ _ ts gs rs _ l1 l2 l3 (HL.out.t.below HB16.out) (HL.out.g.below HB16.out) (HL.out.r.below HB16.out)).mono ?_
        rintro e w17 ⟨Ya, Yb, Yc, rfl, hm, hb17⟩
        have HB17 : Hid (Below w.heap.size w w17) := HB16.out.trans (hb17.mono HB16.out.size)
        have AX_17 := Lib.hid (AX_16.out.below hb17)
        have WX_17 := Lib.hid (WX_16.out.below hb17)
        have GX_17 := Lib.hid (GX_16.out.below hb17)
        have WM_17 := Lib.hid (WM_16.out.below hb17)
        have GM_17 := Lib.hid (GM_16.out.below hb17)
        have lt_ax_17 := AX_17.out.lt
        have ax_17c0 := AX_17.out.c0
        have ax_17c1 := AX_17.out.c1
        have ax_17c2 := AX_17.out.c2
        have ax_17c3 := AX_17.out.c3
        have ax_17c4 := AX_17.out.c4
        have ax_17c5 := AX_17.out.c5
        have lt_wx_17 := WX_17.out.lt
        have wx_17c0 := WX_17.out.c0
        have wx_17c1 := WX_17.out.c1
        have wx_17c2 := WX_17.out.c2
        have wx_17c3 := WX_17.out.c3
        have wx_17c4 := WX_17.out.c4
        have wx_17c5 := WX_17.out.c5
        have lt_gx_17 := GX_17.out.lt
        have gx_17c0 := GX_17.out.c0
        have gx_17c1 := GX_17.out.c1
        have gx_17c2 := GX_17.out.c2
        have gx_17c3 := GX_17.out.c3
        have gx_17c4 := GX_17.out.c4
        have gx_17c5 := GX_17.out.c5
        have YM_17 := Lib.hid hm
        clear hm
        clear hb17
        go_wp2_with fail
        refine (c_toIntS bs _ _ l5 (HS.out.below HB17.out)).mono ?_
        rintro e w18 ⟨Yv, rfl, hs, hb18⟩
        have HB18 : Hid (Below w.heap.size w w18) := HB17.out.trans (hb18.mono HB17.out.size)
        have AX_18 := Lib.hid (AX_17.out.below hb18)
        have WX_18 := Lib.hid (WX_17.out.below hb18)
        have GX_18 := Lib.hid (GX_17.out.below hb18)
        have WM_18 := Lib.hid (WM_17.out.below hb18)
        have GM_18 := Lib.hid (GM_17.out.below hb18)
        have YM_18 := Lib.hid (YM_17.out.below hb18)
        have lt_ax_18 := AX_18.out.lt
        have ax_18c0 := AX_18.out.c0
        have ax_18c1 := AX_18.out.c1
        have ax_18c2 := AX_18.out.c2
        have ax_18c3 := AX_18.out.c3
        have ax_18c4 := AX_18.out.c4
        have ax_18c5 := AX_18.out.c5
        have lt_wx_18 := WX_18.out.lt
        have wx_18c0 := WX_18.out.c0
        have wx_18c1 := WX_18.out.c1
        have wx_18c2 := WX_18.out.c2
        have wx_18c3 := WX_18.out.c3
        have wx_18c4 := WX_18.out.c4
        have wx_18c5 := WX_18.out.c5
        have lt_gx_18 := GX_18.out.lt
        have gx_18c0 := GX_18.out.c0
        have gx_18c1 := GX_18.out.c1
        have gx_18c2 := GX_18.out.c2
        have gx_18c3 := GX_18.out.c3
        have gx_18c4 := GX_18.out.c4
        have gx_18c5 := GX_18.out.c5
        have YS_18 := Lib.hid hs
        clear hs
        clear hb18
        go_wp2_with fail
        refine (CI.out _ _ _ _ _ YM_18.out.look YS_18.out.seen).mono ?_
        rintro e w19 ⟨Ha, Hb, Hc, rfl, hm, hb19⟩
        have HB19 : Hid (Below w.heap.size w w19) := HB18.out.trans (hb19.mono HB18.out.size)
        have AX_19 := Lib.hid (AX_18.out.below hb19)
        have WX_19 := Lib.hid (WX_18.out.below hb19)
        have GX_19 := Lib.hid (GX_18.out.below hb19)
        have WM_19 := Lib.hid (WM_18.out.below hb19)
        have GM_19 := Lib.hid (GM_18.out.below hb19)
        have YM_19 := Lib.hid (YM_18.out.below hb19)
        have YS_19 := Lib.hid (YS_18.out.below hb19)
        have lt_ax_19 := AX_19.out.lt
        have ax_19c0 := AX_19.out.c0
        have ax_19c1 := AX_19.out.c1
        have ax_19c2 := AX_19.out.c2
        have ax_19c3 := AX_19.out.c3
        have ax_19c4 := AX_19.out.c4
        have ax_19c5 := AX_19.out.c5
        have lt_wx_19 := WX_19.out.lt
        have wx_19c0 := WX_19.out.c0
        have wx_19c1 := WX_19.out.c1
        have wx_19c2 := WX_19.out.c2
        have wx_19c3 := WX_19.out.c3
        have wx_19c4 := WX_19.out.c4
        have wx_19c5 := WX_19.out.c5
        have lt_gx_19 := GX_19.out.lt
        have gx_19c0 := GX_19.out.c0
        have gx_19c1 := GX_19.out.c1
        have gx_19c2 := GX_19.out.c2
        have gx_19c3 := GX_19.out.c3
        have gx_19c4 := GX_19.out.c4
        have gx_19c5 := GX_19.out.c5
        have HM_19 := Lib.hid hm
        clear hm
        clear hb19
        obtain ⟨J1, J4, rfl⟩ := HM_19.out.t.shape
        obtain ⟨J2, J5, rfl⟩ := HM_19.out.g.shape
        obtain ⟨J3, J6, rfl⟩ := HM_19.out.r.shape
        go_wp2_with fail
        have hbx : Below w19.heap.size w19 (w19.alloc (Obj.cells #[.int .i64 X, .int .i64 Y, .int .i64 Z, .slice J1 T.length J4, .slice J2 G.length J5, .slice J3 R.length J6] 54)) := (Below.refl _ _).alloc (Nat.le_refl _) _
        have HB19x : Hid (Below w.heap.size w (w19.alloc (Obj.cells #[.int .i64 X, .int .i64 Y, .int .i64 Z, .slice J1 T.length J4, .slice J2 G.length J5, .slice J3 R.length J6] 54))) := HB19.out.trans (hbx.mono HB19.out.size)
        have AX_19x := Lib.hid (AX_19.out.below hbx)
        have WX_19x := Lib.hid (WX_19.out.below hbx)
        have GX_19x := Lib.hid (GX_19.out.below hbx)
        have WM_19x := Lib.hid (WM_19.out.below hbx)
        have GM_19x := Lib.hid (GM_19.out.below hbx)
        have YM_19x := Lib.hid (YM_19.out.below hbx)
        have YS_19x := Lib.hid (YS_19.out.below hbx)
        have HM_19x := Lib.hid (HM_19.out.below hbx)
        have ax_19xc0 := AX_19x.out.c0
        have ax_19xc1 := AX_19x.out.c1
        have ax_19xc2 := AX_19x.out.c2
        have ax_19xc3 := AX_19x.out.c3
        have ax_19xc4 := AX_19x.out.c4
        have ax_19xc5 := AX_19x.out.c5
        have wx_19xc0 := WX_19x.out.c0
        have wx_19xc1 := WX_19x.out.c1
        have wx_19xc2 := WX_19x.out.c2
        have wx_19xc3 := WX_19x.out.c3
        have wx_19xc4 := WX_19x.out.c4
        have wx_19xc5 := WX_19x.out.c5
        have gx_19xc0 := GX_19x.out.c0
        have gx_19xc1 := GX_19x.out.c1
        have gx_19xc2 := GX_19x.out.c2
        have gx_19xc3 := GX_19x.out.c3
        have gx_19xc4 := GX_19x.out.c4
        have gx_19xc5 := GX_19x.out.c5
        have HX_19x : Hid (Box6 (w19.alloc (Obj.cells #[.int .i64 X, .int .i64 Y, .int .i64 Z, .slice J1 T.length J4, .slice J2 G.length J5, .slice J3 R.length J6] 54)) w19.heap.size X Y Z (.slice J1 T.length J4) (.slice J2 G.length J5) (.slice J3 R.length J6)) := Box6.new _ _ _ _ _ _ _ _
        clear hbx
        go_wp2_with fail
        refine (c_eqModel X Y Z _ _ _ _ _ _ T G R _ _ _ lT lG lR HM_19x.out WM_19x.out).mono ?_
        rintro e w20 ⟨rfl, hb20⟩
        have HB20 : Hid (Below w.heap.size w w20) := HB19x.out.trans (hb20.mono HB19x.out.size)
        have AX_20 := Lib.hid (AX_19x.out.below hb20)
        have WX_20 := Lib.hid (WX_19x.out.below hb20)
        have GX_20 := Lib.hid (GX_19x.out.below hb20)
        have WM_20 := Lib.hid (WM_19x.out.below hb20)
        have GM_20 := Lib.hid (GM_19x.out.below hb20)
        have YM_20 := Lib.hid (YM_19x.out.below hb20)
        have YS_20 := Lib.hid (YS_19x.out.below hb20)
        have HM_20 := Lib.hid (HM_19x.out.below hb20)
        have HX_20 := Lib.hid (HX_19x.out.below hb20)
        have lt_ax_20 := AX_20.out.lt
        have ax_20c0 := AX_20.out.c0
        have ax_20c1 := AX_20.out.c1
        have ax_20c2 := AX_20.out.c2
        have ax_20c3 := AX_20.out.c3
        have ax_20c4 := AX_20.out.c4
        have ax_20c5 := AX_20.out.c5
        have lt_wx_20 := WX_20.out.lt
        have wx_20c0 := WX_20.out.c0
        have wx_20c1 := WX_20.out.c1
        have wx_20c2 := WX_20.out.c2
        have wx_20c3 := WX_20.out.c3
        have wx_20c4 := WX_20.out.c4
        have wx_20c5 := WX_20.out.c5
        have lt_gx_20 := GX_20.out.lt
        have gx_20c0 := GX_20.out.c0
        have gx_20c1 := GX_20.out.c1
        have gx_20c2 := GX_20.out.c2
        have gx_20c3 := GX_20.out.c3
        have gx_20c4 := GX_20.out.c4
        have gx_20c5 := GX_20.out.c5
        have lt_hx_20 := HX_20.out.lt
        have hx_20c0 := HX_20.out.c0
        have hx_20c1 := HX_20.out.c1
        have hx_20c2 := HX_20.out.c2
        have hx_20c3 := HX_20.out.c3
        have hx_20c4 := HX_20.out.c4
        have hx_20c5 := HX_20.out.c5
        clear hb20
        go_wp2_with fail
        refine (c_heldModel X Y Z _ _ _ T.length G.length R.length _ 1 _ hTs (by omega) (by omega) GM_20.out).mono ?_
        rintro e w21 ⟨rfl, hb21⟩
        have HB21 : Hid (Below w.heap.size w w21) := HB20.out.trans (hb21.mono HB20.out.size)
        have AX_21 := Lib.hid (AX_20.out.below hb21)
        have WX_21 := Lib.hid (WX_20.out.below hb21)
        have GX_21 := Lib.hid (GX_20.out.below hb21)
        have WM_21 := Lib.hid (WM_20.out.below hb21)
        have GM_21 := Lib.hid (GM_20.out.below hb21)
        have YM_21 := Lib.hid (YM_20.out.below hb21)
        have YS_21 := Lib.hid (YS_20.out.below hb21)
        have HM_21 := Lib.hid (HM_20.out.below hb21)
        have HX_21 := Lib.hid (HX_20.out.below hb21)
        have lt_ax_21 := AX_21.out.lt
        have ax_21c0 := AX_21.out.c0
        have ax_21c1 := AX_21.out.c1
        have ax_21c2 := AX_21.out.c2
        have ax_21c3 := AX_21.out.c3
        have ax_21c4 := AX_21.out.c4
        have ax_21c5 := AX_21.out.c5
        have lt_wx_21 := WX_21.out.lt
        have wx_21c0 := WX_21.out.c0
        have wx_21c1 := WX_21.out.c1
        have wx_21c2 := WX_21.out.c2
        have wx_21c3 := WX_21.out.c3
        have wx_21c4 := WX_21.out.c4
        have wx_21c5 := WX_21.out.c5
        have lt_gx_21 := GX_21.out.lt
        have gx_21c0 := GX_21.out.c0
        have gx_21c1 := GX_21.out.c1
        have gx_21c2 := GX_21.out.c2
        have gx_21c3 := GX_21.out.c3
        have gx_21c4 := GX_21.out.c4
        have gx_21c5 := GX_21.out.c5
        have lt_hx_21 := HX_21.out.lt
        have hx_21c0 := HX_21.out.c0
        have hx_21c1 := HX_21.out.c1
        have hx_21c2 := HX_21.out.c2
        have hx_21c3 := HX_21.out.c3
        have hx_21c4 := HX_21.out.c4
        have hx_21c5 := HX_21.out.c5
        clear hb21
        go_wp2
        go_ret
        exact ⟨rfl, HB21.out⟩

/-! ### The row's step -/
theorem laid : laidOutB Try.prog = true := by kernel_rfl
set_option maxRecDepth 100000 in
theorem lifted (os : Os) (started : os.Started) (H : Type) (enc : TypeId × Value → H) :
    ReturnsInHanded {} Try.checked os 8 .any (Rows.fnExactEmptyBlocksSpec.pre6 enc Try.prog Try.f8 Rows.fnExactEmptyBlocksRow.domain false) (Rows.fnExactEmptyBlocksSpec.post enc Try.prog Try.f8 false true false false) := by
  refine returnsInHanded_of_change (C := Try.checked) own started (by kernel_rfl) Try.func8
    (ChangeSpec.witness6 (enc := enc) (C := Try.checked) false ⟨#[], #[.agg #[.int .i64 0, .int .i64 0, .int .i64 0, .slice none 0 0, .slice none 0 0, .slice none 0 0], .slice none 0 0], []⟩ 8 (by kernel_rfl) (by kernel_rfl) (by kernel_rfl) (by kernel_rfl)) ?_
  intro W base args ds gs before hval0 hW hcnd _
  have hval : ∀ (j : Nat) t v, Try.f8.params[j]? = some t → args[j]? = some v → Value.okWide Try.prog W .any base t v := hval0
  have hW' := hW
  have lts : ∀ x ∈ before, x.block < W.heap.size := fun x hx => by simpa using hW'.lt x hx
  obtain ⟨p, q, hA0, hV, rfl, hfz, hnd⟩ := hW
  have hA : DataW.TrodAll enc Try.prog W 0 (fun _ => true) true Try.f8.params.toList args.toList ds p := hA0
  rw [Try.params8] at hA hval
  obtain ⟨v0, vs0, d0, ds0, p0, q0, hargs, rfl, rfl, h0, r0⟩ := trodAll_cons hA
  obtain ⟨v1, vs1, d1, ds1, p1, q1, rfl, rfl, rfl, h1, r1⟩ := trodAll_cons r0
  obtain ⟨rfl, rfl, rfl⟩ := trodAll_nil r1
  obtain rfl : args = #[v0, v1] := by cases args; simp_all
  obtain ⟨rfl, rfl⟩ := trodVars_none hV
  have k0 := h0
  obtain ⟨x, y, z, m1, m2, m3, ts, gs, rs, rfl, hL⟩ := open_model (hval 0 48 v0 rfl rfl) h0
  have k1 := h1
  obtain ⟨bs, hS⟩ := open_list (hval 1 23 v1 rfl rfl) h1
  clear hA0 hval0
  simp only [List.append_nil] at hW' lts
  refine (walk x y z m1 m2 m3 ts gs rs v1 bs W hL hS).mono fun e W' ⟨he, bel⟩ => ?_
  subst he
  exact ⟨_, rfl, _, _, _, [], _, [], hW', trodAll_mk1 (shut_bool Try.underlying4 _), (trodAll_cons_mk (Below.trod laid (by kernel_rfl) (of_decide_eq_true (by kernel_rfl)) k0 bel (fun x hx => lts x (by simp [hx]))) (trodAll_cons_mk (Below.trod laid (by kernel_rfl) (of_decide_eq_true (by kernel_rfl)) k1 bel (fun x hx => lts x (by simp [hx]))) trodAll_mk0)), rfl, bel.frame _, fun h => by cases h⟩

theorem over : Rows.fnExactEmptyBlocksRow.holds Try.pinned (OpenSpec.ofChange Rows.fnExactEmptyBlocksSpec) :=
  OpenClaim.holds_of_wide 8 Try.f8 rfl rfl rfl rfl rfl rfl rfl ⟨rfl, rfl, rfl, rfl, rfl⟩ rfl rfl rfl rfl rfl (by kernel_rfl) Try.func8 (by kernel_rfl)
    (of_decide_eq_true (by kernel_rfl)) (by unfold Func.isWrapper; first | (rw [if_pos (by decide +kernel)]; kernel_rfl) | (rw [if_neg (by decide +kernel)]; exact ⟨rfl, rfl⟩))
    (fun os started H enc _ => lifted os started H enc)

end Go.Proofs.Ytcmdnpablnihmab.fnExactEmptyBlocksProof
namespace Go.Proofs.Ytcmdnpablnihmab
theorem fnExactEmptyBlocks_holds : Rows.FnExactEmptyBlocksSaid := fnExactEmptyBlocksProof.over
#print axioms fnExactEmptyBlocks_holds
end Go.Proofs.Ytcmdnpablnihmab
