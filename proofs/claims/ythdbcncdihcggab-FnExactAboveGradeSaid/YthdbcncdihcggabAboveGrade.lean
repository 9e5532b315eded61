/-
  The law FnExactAboveGrade holds: for all arguments, AboveGrade answers as its model does, its answer owns its memory, and the arguments read as they did. No conditions.
-/
import Derived.Test.YthdbcncdihcggabRows
import Derived.Test.YthdbcncdihcggabM10
import Derived.Test.YthdbcncdihcggabM11
import Derived.Test.YthdbcncdihcggabOpen
import Derived.WalkKit
import Derived.Lib.Hide
import Derived.Deep.DeepCutAuto
import Derived.ProofKit
import Derived.OpenShut
import Derived.ShutString
import Derived.ChangeOld
import Derived.Below
import Derived.Carry
import Derived.Deep.RegionWith
import Derived.Lib.SmallJoins
namespace Go.Proofs.Ythdbcncdihcggab.fnExactAboveGradeProof
open Go.ChangeShapes Go.WideShapes Go.ChangeAt Go.RowKit Go.Joins
open Go.ChangeMaps (open_string shut_string)
set_option linter.unusedVariables false

theorem own : ownKnob Try.prog.godebug = none := by kernel_rfl

theorem Mod.drew {w : World} {B : Nat} {v1 v2 v3 : Value} {ts gs rs : List Int} (h : Mod w B v1 v2 v3 ts gs rs) : Mod w.drew B v1 v2 v3 ts gs rs := ⟨h.t.draws 1, h.g.draws 1, h.r.draws 1, h.tg, h.tr, h.gr⟩

/-! ### The walk -/
set_option maxHeartbeats 4000000 in
set_option maxRecDepth 100000 in
theorem walk (x y z : Int) (v1 v2 v3 : Value) (ts gs rs : List Int) (a1 : Int) (w : World) (hL : Look w v1 v2 v3 ts gs rs) (wf1 : (Lit.int .i64 a1).wf = true) :
    Calls Try.prog 3 #[.agg #[.int .i64 x, .int .i64 y, .int .i64 z, v1, v2, v3], .int .i64 a1] w fun e w' => e = .returned (.bool true) ∧ Below w.heap.size w w' := by
  have HL := Lib.hid hL
  have m1 := hL.t
  have m2 := hL.g
  have m3 := hL.r
  obtain ⟨A1, c1, rfl, t1, _⟩ := m1
  obtain ⟨A2, c2, rfl, t2, _⟩ := m2
  obtain ⟨A3, c3, rfl, t3, _⟩ := m3
  have b1 : ts.length ≤ 9223372036854775807 := by unfold maxLen at t1; omega
  have b2 : gs.length ≤ 9223372036854775807 := by unfold maxLen at t2; omega
  have b3 : rs.length ≤ 9223372036854775807 := by unfold maxLen at t3; omega
  clear hL t1 t2 t3
  have HB0 : Hid (Below w.heap.size w (w.alloc (.cells #[.int .i64 x, .int .i64 y, .int .i64 z, .slice A1 ts.length c1, .slice A2 gs.length c2, .slice A3 rs.length c3] 26))) := (Below.refl _ _).alloc (Nat.le_refl _) _
  have AX_0 : Hid (Box6 (w.alloc (.cells #[.int .i64 x, .int .i64 y, .int .i64 z, .slice A1 ts.length c1, .slice A2 gs.length c2, .slice A3 rs.length c3] 26)) w.heap.size x y z (.slice A1 ts.length c1) (.slice A2 gs.length c2) (.slice A3 rs.length c3)) := Box6.new _ _ _ _ _ _ _ _
  go_enter Try.func3, Try.ntmps3
  go_wp2_with fail
  refine (c_szModel x y z _ _ _ _ _ _ _ _ _ _ b1 b2 b3).mono ?_
  rintro e w1 ⟨⟨r, rfl, hsz⟩, hb1⟩
  have HB1 : Hid (Below w.heap.size w w1) := HB0.out.trans (hb1.mono HB0.out.size)
  have AX_1 := Lib.hid (AX_0.out.below hb1)
  have ax_1c0 := AX_1.out.c0
  have ax_1c1 := AX_1.out.c1
  have ax_1c2 := AX_1.out.c2
  have ax_1c3 := AX_1.out.c3
  have ax_1c4 := AX_1.out.c4
  have ax_1c5 := AX_1.out.c5
  clear hb1
  rcases hsz with ⟨_, rfl⟩ | ⟨hsz, hr⟩
  · go_wp2
    go_ret
    exact ⟨rfl, HB1.out⟩
  · have hr0 : ¬ r < 0 := by omega
    have l1 : ts.length ≤ 4000000 := by omega
    have l2 : gs.length ≤ 4000000 := by omega
    have l3 : rs.length ≤ 4000000 := by omega
    clear hr
    obtain ⟨xs, bb, hxl, CS, CI⟩ : ∃ (xs : List Int) (bb : Bool), xs.length ≤ 4000000 ∧ Hid (∀ (p1 p2 p3 : Value) (u : World), Look u p1 p2 p3 ts gs rs → Calls Try.prog 7 #[.agg #[.int .i64 x, .int .i64 y, .int .i64 z, p1, p2, p3], .int .i64 a1] u (GivesRow2 u xs bb)) ∧ Hid (∀ (p1 p2 p3 : Value) (u : World), Look u p1 p2 p3 ts gs rs → Calls Try.prog 9 #[.agg #[.int .i64 x, .int .i64 y, .int .i64 z, p1, p2, p3], .int .i64 a1] u (GivesRow2 u xs bb)) :=
      ⟨abL x y z ts gs rs a1, abB x y z ts gs rs a1, Nat.le_trans (by unfold abL; split; exact sel_len _ _; simp) l2, fun p1 p2 p3 u hu => c_AboveGradeS x y z _ _ _ ts gs rs a1 _ l1 l2 l3 hu, fun p1 p2 p3 u hu => c_AboveGrade x y z _ _ _ ts gs rs a1 _ l1 l2 l3 hu⟩
    have hnb : (bb != bb) = false := by simp
    have hnq : ((1 + (xs.length : Int)) != (1 + (xs.length : Int))) = false := by simp
    have hpq : ¬ (1 + (xs.length : Int)) < 0 := by omega
    have hkq : ¬ (1 + (ts.length : Int) + (gs.length : Int) + (rs.length : Int)) < 0 := by omega
    go_wp2_with fail
    refine (c_toModel x y z _ _ _ ts gs rs _ l1 l2 l3 (HL.out.t.below HB1.out) (HL.out.g.below HB1.out) (HL.out.r.below HB1.out)).mono ?_
    rintro e w2 ⟨Sa, Sb, Sc, rfl, hm, hb2⟩
    have HB2 : Hid (Below w.heap.size w w2) := HB1.out.trans (hb2.mono HB1.out.size)
    have AX_2 := Lib.hid (AX_1.out.below hb2)
    have ax_2c0 := AX_2.out.c0
    have ax_2c1 := AX_2.out.c1
    have ax_2c2 := AX_2.out.c2
    have ax_2c3 := AX_2.out.c3
    have ax_2c4 := AX_2.out.c4
    have ax_2c5 := AX_2.out.c5
    have SM_2 := Lib.hid hm
    clear hm
    clear hb2
    go_wp2_with fail
    refine (CS.out _ _ _ _ SM_2.out.look).mono ?_
    rintro e w3 ⟨wv, rfl, hs, hb3⟩
    have HB3 : Hid (Below w.heap.size w w3) := HB2.out.trans (hb3.mono HB2.out.size)
    have AX_3 := Lib.hid (AX_2.out.below hb3)
    have SM_3 := Lib.hid (SM_2.out.below hb3)
    have ax_3c0 := AX_3.out.c0
    have ax_3c1 := AX_3.out.c1
    have ax_3c2 := AX_3.out.c2
    have ax_3c3 := AX_3.out.c3
    have ax_3c4 := AX_3.out.c4
    have ax_3c5 := AX_3.out.c5
    have WS_3 := Lib.hid hs
    clear hs
    clear hb3
    go_wp2_with fail
    refine (c_toModel x y z _ _ _ ts gs rs _ l1 l2 l3 (HL.out.t.below HB3.out) (HL.out.g.below HB3.out) (HL.out.r.below HB3.out)).mono ?_
    rintro e w4 ⟨Xa, Xb, Xc, rfl, hm, hb4⟩
    have HB4 : Hid (Below w.heap.size w w4) := HB3.out.trans (hb4.mono HB3.out.size)
    have AX_4 := Lib.hid (AX_3.out.below hb4)
    have WS_4 := Lib.hid (WS_3.out.below hb4)
    have ax_4c0 := AX_4.out.c0
    have ax_4c1 := AX_4.out.c1
    have ax_4c2 := AX_4.out.c2
    have ax_4c3 := AX_4.out.c3
    have ax_4c4 := AX_4.out.c4
    have ax_4c5 := AX_4.out.c5
    have XM_4 := Lib.hid hm
    clear hm
    clear hb4
    obtain ⟨Q1, k1, rfl⟩ := XM_4.out.t.shape
    obtain ⟨Q2, k2, rfl⟩ := XM_4.out.g.shape
    obtain ⟨Q3, k3, rfl⟩ := XM_4.out.r.shape
    go_wp2_with fail
    have hbx : Below w4.heap.size w4 (w4.alloc (Obj.cells #[.int .i64 x, .int .i64 y, .int .i64 z, .slice Q1 ts.length k1, .slice Q2 gs.length k2, .slice Q3 rs.length k3] 32)) := (Below.refl _ _).alloc (Nat.le_refl _) _
    have HB4x : Hid (Below w.heap.size w (w4.alloc (Obj.cells #[.int .i64 x, .int .i64 y, .int .i64 z, .slice Q1 ts.length k1, .slice Q2 gs.length k2, .slice Q3 rs.length k3] 32))) := HB4.out.trans (hbx.mono HB4.out.size)
    have AX_4x := Lib.hid (AX_4.out.below hbx)
    have WS_4x := Lib.hid (WS_4.out.below hbx)
    have XM_4x := Lib.hid (XM_4.out.below hbx)
    have ax_4xc0 := AX_4x.out.c0
    have ax_4xc1 := AX_4x.out.c1
    have ax_4xc2 := AX_4x.out.c2
    have ax_4xc3 := AX_4x.out.c3
    have ax_4xc4 := AX_4x.out.c4
    have ax_4xc5 := AX_4x.out.c5
    have XX_4x : Hid (Box6 (w4.alloc (Obj.cells #[.int .i64 x, .int .i64 y, .int .i64 z, .slice Q1 ts.length k1, .slice Q2 gs.length k2, .slice Q3 rs.length k3] 32)) w4.heap.size x y z (.slice Q1 ts.length k1) (.slice Q2 gs.length k2) (.slice Q3 rs.length k3)) := Box6.new _ _ _ _ _ _ _ _
    clear hbx
    go_wp2_with fail
    refine (CI.out _ _ _ _ XM_4x.out.look).mono ?_
    rintro e w5 ⟨gv, rfl, hs, hb5⟩
    have HB5 : Hid (Below w.heap.size w w5) := HB4x.out.trans (hb5.mono HB4x.out.size)
    have AX_5 := Lib.hid (AX_4x.out.below hb5)
    have WS_5 := Lib.hid (WS_4x.out.below hb5)
    have XM_5 := Lib.hid (XM_4x.out.below hb5)
    have XX_5 := Lib.hid (XX_4x.out.below hb5)
    have ax_5c0 := AX_5.out.c0
    have ax_5c1 := AX_5.out.c1
    have ax_5c2 := AX_5.out.c2
    have ax_5c3 := AX_5.out.c3
    have ax_5c4 := AX_5.out.c4
    have ax_5c5 := AX_5.out.c5
    have xx_5c0 := XX_5.out.c0
    have xx_5c1 := XX_5.out.c1
    have xx_5c2 := XX_5.out.c2
    have xx_5c3 := XX_5.out.c3
    have xx_5c4 := XX_5.out.c4
    have xx_5c5 := XX_5.out.c5
    have GS_5 := Lib.hid hs
    clear hs
    clear hb5
    go_wp2_with fail
    refine (c_eqIntS xs _ _ _ _ _ hxl GS_5.out WS_5.out).mono ?_
    rintro e w6 ⟨rfl, hb6⟩
    have HB6 : Hid (Below w.heap.size w w6) := HB5.out.trans (hb6.mono HB5.out.size)
    have AX_6 := Lib.hid (AX_5.out.below hb6)
    have WS_6 := Lib.hid (WS_5.out.below hb6)
    have XM_6 := Lib.hid (XM_5.out.below hb6)
    have XX_6 := Lib.hid (XX_5.out.below hb6)
    have GS_6 := Lib.hid (GS_5.out.below hb6)
    have ax_6c0 := AX_6.out.c0
    have ax_6c1 := AX_6.out.c1
    have ax_6c2 := AX_6.out.c2
    have ax_6c3 := AX_6.out.c3
    have ax_6c4 := AX_6.out.c4
    have ax_6c5 := AX_6.out.c5
    have xx_6c0 := XX_6.out.c0
    have xx_6c1 := XX_6.out.c1
    have xx_6c2 := XX_6.out.c2
    have xx_6c3 := XX_6.out.c3
    have xx_6c4 := XX_6.out.c4
    have xx_6c5 := XX_6.out.c5
    clear hb6
    go_upto_region 10 with fail
    go_cut [49] (fun s wx => s = .bool false ∧ Below w6.heap.size w6 wx)
    case first =>
      go_region_with (first
        | (go_at_call 8
           refine (c_toModel x y z _ _ _ ts gs rs _ l1 l2 l3 (HL.out.t.below (by exact HB6.out.drew)) (HL.out.g.below (by exact HB6.out.drew)) (HL.out.r.below (by exact HB6.out.drew))).mono ?_
           rintro e wy ⟨r1, r2, r3, rfl, hmy, hby⟩
           obtain ⟨hcy, hfy⟩ := bcell hby
           have sy := hby.size
           simp at sy hcy hfy
           have pxy := XX_6.out.lt
           have HMY := Lib.hid hmy
           have HNY : Hid (Mod wy _ (.slice Q1 ts.length k1) (.slice Q2 gs.length k2) (.slice Q3 rs.length k3) ts gs rs) := Mod.below (Mod.drew XM_6.out) hby
           have HBY : Hid (Below w6.heap.size w6 wy) := (Below.refl _ _).drew.trans hby
           clear hby hmy)
        | (go_at_call 11
           refine (c_eqModel x y z _ _ _ _ _ _ ts gs rs _ _ _ l1 l2 l3 HNY.out HMY.out).mono ?_
           rintro e wz ⟨rfl, hbz⟩
           have HBZ : Hid (Below w6.heap.size w6 wz) := HBY.out.trans (hbz.mono HBY.out.size)
           clear hbz))
      all_goals
        go_wp2_with fail
        go_meet
        exact ⟨rfl, HBZ.out⟩
    case rest =>
      obtain ⟨rfl, hb7⟩ := hcut
      have HB7 : Hid (Below w.heap.size w wc) := HB6.out.trans (hb7.mono HB6.out.size)
      have AX_7 := Lib.hid (AX_6.out.below hb7)
      have WS_7 := Lib.hid (WS_6.out.below hb7)
      have XM_7 := Lib.hid (XM_6.out.below hb7)
      have XX_7 := Lib.hid (XX_6.out.below hb7)
      have GS_7 := Lib.hid (GS_6.out.below hb7)
      have ax_7c0 := AX_7.out.c0
      have ax_7c1 := AX_7.out.c1
      have ax_7c2 := AX_7.out.c2
      have ax_7c3 := AX_7.out.c3
      have ax_7c4 := AX_7.out.c4
      have ax_7c5 := AX_7.out.c5
      have xx_7c0 := XX_7.out.c0
      have xx_7c1 := XX_7.out.c1
      have xx_7c2 := XX_7.out.c2
      have xx_7c3 := XX_7.out.c3
      have xx_7c4 := XX_7.out.c4
      have xx_7c5 := XX_7.out.c5
      clear hb7
      have OW : Hid (w.heap.size < w3.heap.size) := AX_3.out.lt
      have PA1 : Hid (Apart wv.ownBlock (Value.slice Q1 ts.length k1).ownBlock) := apart_of WS_3.out XM_4.out.t (Nat.le_refl _)
      have PA2 : Hid (Apart wv.ownBlock (Value.slice Q2 gs.length k2).ownBlock) := apart_of WS_3.out XM_4.out.g (Nat.le_refl _)
      have PA3 : Hid (Apart wv.ownBlock (Value.slice Q3 rs.length k3).ownBlock) := apart_of WS_3.out XM_4.out.r (Nat.le_refl _)
      have PB1 : Hid (Apart gv.ownBlock (Value.slice Q1 ts.length k1).ownBlock) := (apart_of XM_4x.out.t GS_5.out (Nat.le_refl _)).symm
      have PB2 : Hid (Apart gv.ownBlock (Value.slice Q2 gs.length k2).ownBlock) := (apart_of XM_4x.out.g GS_5.out (Nat.le_refl _)).symm
      have PB3 : Hid (Apart gv.ownBlock (Value.slice Q3 rs.length k3).ownBlock) := (apart_of XM_4x.out.r GS_5.out (Nat.le_refl _)).symm
      have PC : Hid (Apart wv.ownBlock gv.ownBlock) := apart_of WS_4x.out GS_5.out (Nat.le_refl _)
      go_wp2_with fail
      refine (c_markModel x y z _ _ _ ts gs rs _ 1 _ hsz (by omega) (by omega) XM_7.out).mono ?_
      rintro e w8 ⟨rfl, _, ht⟩
      have HT8 := Lib.hid ht
      clear ht
      have HB8 : Hid (Below w.heap.size w w8) := HT8.out.below HB7.out HB7.out.size (fun k hk => Nat.le_of_lt (Nat.lt_of_lt_of_le OW.out (XM_7.out.own1 k hk))) (fun k hk => Nat.le_of_lt (Nat.lt_of_lt_of_le OW.out (XM_7.out.own2 k hk))) (fun k hk => Nat.le_of_lt (Nat.lt_of_lt_of_le OW.out (XM_7.out.own3 k hk)))
      have AX_8 := Lib.hid (AX_7.out.turned HT8.out (own_ne XM_7.out.own1 OW.out) (own_ne XM_7.out.own2 OW.out) (own_ne XM_7.out.own3 OW.out))
      have WS_8 := Lib.hid (HT8.out.row WS_7.out PA1.out PA2.out PA3.out)
      have GS_8 := Lib.hid (HT8.out.row GS_7.out PB1.out PB2.out PB3.out)
      have ax_8c0 := AX_8.out.c0
      have ax_8c1 := AX_8.out.c1
      have ax_8c2 := AX_8.out.c2
      have ax_8c3 := AX_8.out.c3
      have ax_8c4 := AX_8.out.c4
      have ax_8c5 := AX_8.out.c5
      go_wp2_with fail
      refine (c_eqIntS xs _ _ _ _ _ hxl GS_8.out WS_8.out).mono ?_
      rintro e w9 ⟨rfl, hb9⟩
      have HB9 : Hid (Below w.heap.size w w9) := HB8.out.trans (hb9.mono HB8.out.size)
      have AX_9 := Lib.hid (AX_8.out.below hb9)
      have WS_9 := Lib.hid (WS_8.out.below hb9)
      have GS_9 := Lib.hid (GS_8.out.below hb9)
      have ax_9c0 := AX_9.out.c0
      have ax_9c1 := AX_9.out.c1
      have ax_9c2 := AX_9.out.c2
      have ax_9c3 := AX_9.out.c3
      have ax_9c4 := AX_9.out.c4
      have ax_9c5 := AX_9.out.c5
      clear hb9
      go_wp2_with fail
      refine (c_markIntS xs _ _ 1 _ hxl (by omega) (by omega) GS_9.out).mono ?_
      rintro e w10 ⟨rfl, hr, hg⟩
      have GS_10 := Lib.hid hr
      have HG10 := Lib.hid hg
      clear hr hg
      have OG : Hid (∀ k, gv.ownBlock = some k → w4.heap.size < k) := fun k hk => Nat.lt_of_lt_of_le (by have := XX_4x.out.lt; exact this) (World.ownsRow.lt GS_5.out k hk).1
      have OX : Hid (w.heap.size < w4.heap.size) := AX_4.out.lt
      have HB10 : Hid (Below w.heap.size w w10) := HB9.out.grown HG10.out HB9.out.size (fun k hk => by have := OG.out k hk; have := OX.out; omega)
      have AX_10 := Lib.hid (AX_9.out.grown HG10.out (fun e => by have := OG.out _ e; have := OX.out; omega))
      have WS_10 : Hid (Row w10 _ wv xs) := World.ownsRow.kept WS_9.out HG10.out PC.out
      have ax_10c0 := AX_10.out.c0
      have ax_10c1 := AX_10.out.c1
      have ax_10c2 := AX_10.out.c2
      have ax_10c3 := AX_10.out.c3
      have ax_10c4 := AX_10.out.c4
      have ax_10c5 := AX_10.out.c5
      go_wp2_with fail
      refine (c_heldIntS gv _ xs.length 1 _ hxl (by omega) (by omega) GS_10.out).mono ?_
      rintro e w' ⟨rfl, rfl⟩
      go_wp2_with fail
      refine (c_toModel x y z _ _ _ ts gs rs _ l1 l2 l3 (HL.out.t.below HB10.out) (HL.out.g.below HB10.out) (HL.out.r.below HB10.out)).mono ?_
      rintro e w11 ⟨Ya, Yb, Yc, rfl, hm, hb11⟩
      have HB11 : Hid (Below w.heap.size w w11) := HB10.out.trans (hb11.mono HB10.out.size)
      have AX_11 := Lib.hid (AX_10.out.below hb11)
      have WS_11 := Lib.hid (WS_10.out.below hb11)
      have GS_11 := Lib.hid (GS_10.out.below hb11)
      have ax_11c0 := AX_11.out.c0
      have ax_11c1 := AX_11.out.c1
      have ax_11c2 := AX_11.out.c2
      have ax_11c3 := AX_11.out.c3
      have ax_11c4 := AX_11.out.c4
      have ax_11c5 := AX_11.out.c5
      have YM_11 := Lib.hid hm
      clear hm
      clear hb11
      go_wp2_with fail
      refine (CI.out _ _ _ _ YM_11.out.look).mono ?_
      rintro e w12 ⟨hv, rfl, hs, hb12⟩
      have HB12 : Hid (Below w.heap.size w w12) := HB11.out.trans (hb12.mono HB11.out.size)
      have AX_12 := Lib.hid (AX_11.out.below hb12)
      have WS_12 := Lib.hid (WS_11.out.below hb12)
      have GS_12 := Lib.hid (GS_11.out.below hb12)
      have YM_12 := Lib.hid (YM_11.out.below hb12)
      have ax_12c0 := AX_12.out.c0
      have ax_12c1 := AX_12.out.c1
      have ax_12c2 := AX_12.out.c2
      have ax_12c3 := AX_12.out.c3
      have ax_12c4 := AX_12.out.c4
      have ax_12c5 := AX_12.out.c5
      have YS_12 := Lib.hid hs
      clear hs
      clear hb12
      go_wp2_with fail
      refine (c_eqIntS xs _ _ _ _ _ hxl YS_12.out WS_12.out).mono ?_
      rintro e w13 ⟨rfl, hb13⟩
      have HB13 : Hid (Below w.heap.size w w13) := HB12.out.trans (hb13.mono HB12.out.size)
      have AX_13 := Lib.hid (AX_12.out.below hb13)
      have WS_13 := Lib.hid (WS_12.out.below hb13)
      have GS_13 := Lib.hid (GS_12.out.below hb13)
      have YM_13 := Lib.hid (YM_12.out.below hb13)
      have YS_13 := Lib.hid (YS_12.out.below hb13)
      have ax_13c0 := AX_13.out.c0
      have ax_13c1 := AX_13.out.c1
      have ax_13c2 := AX_13.out.c2
      have ax_13c3 := AX_13.out.c3
      have ax_13c4 := AX_13.out.c4
      have ax_13c5 := AX_13.out.c5
      clear hb13
      go_wp2_with fail
      refine (c_heldIntS gv _ xs.length 1 _ hxl (by omega) (by omega) GS_13.out).mono ?_
      rintro e w' ⟨rfl, rfl⟩
      go_wp2
      go_ret
      exact ⟨rfl, HB13.out⟩

/-! ### The row's step -/
theorem laid : laidOutB Try.prog = true := by kernel_rfl
set_option maxRecDepth 100000 in
theorem lifted (os : Os) (started : os.Started) (H : Type) (enc : TypeId × Value → H) :
    ReturnsInHanded {} Try.checked os 3 .any (Rows.fnExactAboveGradeSpec.pre6 enc Try.prog Try.f3 Rows.fnExactAboveGradeRow.domain false) (Rows.fnExactAboveGradeSpec.post enc Try.prog Try.f3 false true false false) := by
  refine returnsInHanded_of_change (C := Try.checked) own started (by kernel_rfl) Try.func3
    (ChangeSpec.witness6 (enc := enc) (C := Try.checked) false ⟨#[], #[.agg #[.int .i64 0, .int .i64 0, .int .i64 0, .slice none 0 0, .slice none 0 0, .slice none 0 0], .int .i64 0], []⟩ 8 (by kernel_rfl) (by kernel_rfl) (by kernel_rfl) (by kernel_rfl)) ?_
  intro W base args ds gs before hval0 hW hcnd _
  have hval : ∀ (j : Nat) t v, Try.f3.params[j]? = some t → args[j]? = some v → Value.okWide Try.prog W .any base t v := hval0
  have hW' := hW
  have lts : ∀ x ∈ before, x.block < W.heap.size := fun x hx => by simpa using hW'.lt x hx
  obtain ⟨p, q, hA0, hV, rfl, hfz, hnd⟩ := hW
  have hA : DataW.TrodAll enc Try.prog W 0 (fun _ => true) true Try.f3.params.toList args.toList ds p := hA0
  rw [Try.params3] at hA hval
  obtain ⟨v0, vs0, d0, ds0, p0, q0, hargs, rfl, rfl, h0, r0⟩ := trodAll_cons hA
  obtain ⟨v1, vs1, d1, ds1, p1, q1, rfl, rfl, rfl, h1, r1⟩ := trodAll_cons r0
  obtain ⟨rfl, rfl, rfl⟩ := trodAll_nil r1
  obtain rfl : args = #[v0, v1] := by cases args; simp_all
  obtain ⟨rfl, rfl⟩ := trodVars_none hV
  have k0 := h0
  obtain ⟨x, y, z, m1, m2, m3, ts, gs, rs, rfl, hL⟩ := open_model (hval 0 26 v0 rfl rfl) h0
  have k1 := h1
  obtain ⟨a1, rfl, _, _, w1⟩ := open_int Try.underlying3 (hval 1 3 v1 rfl rfl) h1
  clear hA0 hval0
  simp only [List.append_nil] at hW' lts
  refine (walk x y z m1 m2 m3 ts gs rs a1 W hL w1).mono fun e W' ⟨he, bel⟩ => ?_
  subst he
  exact ⟨_, rfl, _, _, _, [], _, [], hW', trodAll_mk1 (shut_bool Try.underlying4 _), (trodAll_cons_mk (Below.trod laid (by kernel_rfl) (of_decide_eq_true (by kernel_rfl)) k0 bel (fun x hx => lts x (by simp [hx]))) (trodAll_cons_mk (Below.trod laid (by kernel_rfl) (of_decide_eq_true (by kernel_rfl)) k1 bel (fun x hx => lts x (by simp [hx]))) trodAll_mk0)), rfl, bel.frame _, fun h => by cases h⟩

theorem over : Rows.fnExactAboveGradeRow.holds Try.pinned (OpenSpec.ofChange Rows.fnExactAboveGradeSpec) :=
  OpenClaim.holds_of_wide 3 Try.f3 rfl rfl rfl rfl rfl rfl rfl ⟨rfl, rfl, rfl, rfl, rfl⟩ rfl rfl rfl rfl rfl (by kernel_rfl) Try.func3 (by kernel_rfl)
    (of_decide_eq_true (by kernel_rfl)) (by unfold Func.isWrapper; first | (rw [if_pos (by decide +kernel)]; kernel_rfl) | (rw [if_neg (by decide +kernel)]; exact ⟨rfl, rfl⟩))
    (fun os started H enc _ => lifted os started H enc)

end Go.Proofs.Ythdbcncdihcggab.fnExactAboveGradeProof
namespace Go.Proofs.Ythdbcncdihcggab
theorem fnExactAboveGrade_holds : Rows.FnExactAboveGradeSaid := fnExactAboveGradeProof.over
#print axioms fnExactAboveGrade_holds
end Go.Proofs.Ythdbcncdihcggab
