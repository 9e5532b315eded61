/-
  The law FnExactPieceOf holds: for all arguments, PieceOf answers as its model does, and the arguments read as they did. No conditions.
-/
import Derived.Test.YtglcdgonbmdhoabRows
import Derived.Test.YtglcdgonbmdhoabQ5
import Derived.Test.YtglcdgonbmdhoabOpen
import Derived.WalkKit
import Derived.Lib.Hide
import Derived.Deep.DeepCutAuto
import Derived.ProofKit
import Derived.OpenShut
import Derived.ShutString
import Derived.ChangeOld
import Derived.Below
import Derived.Carry
import Derived.Deep.RegionWith
import Derived.Lib.SmallJoins
namespace Go.Proofs.Ytglcdgonbmdhoab.fnExactPieceOfProof
open Go.ChangeShapes Go.WideShapes Go.ChangeAt Go.RowKit Go.Joins
open Go.ChangeMaps (open_string shut_string)
set_option linter.unusedVariables false

theorem own : ownKnob Try.prog.godebug = none := by kernel_rfl

theorem Mod.drew {w : World} {B : Nat} {v1 v2 v3 : Value} {ts gs rs : List Int} (h : Mod w B v1 v2 v3 ts gs rs) : Mod w.drew B v1 v2 v3 ts gs rs := ⟨h.t.draws 1, h.g.draws 1, h.r.draws 1, h.tg, h.tr, h.gr⟩

/-! ### The walk -/
set_option maxHeartbeats 4000000 in
set_option maxRecDepth 100000 in
theorem walk (x y z : Int) (v1 v2 v3 : Value) (ts gs rs : List Int) (a1 : Int) (w : World) (hL : Look w v1 v2 v3 ts gs rs) (wf1 : (Lit.int .i64 a1).wf = true) :
    Calls Try.prog 4 #[.agg #[.int .i64 x, .int .i64 y, .int .i64 z, v1, v2, v3], .int .i64 a1] w fun e w' => e = .returned (.bool true) ∧ Below w.heap.size w w' := by
  have HL := Lib.hid hL
  have m1 := hL.t
  have m2 := hL.g
  have m3 := hL.r
  obtain ⟨A1, c1, rfl, t1, _⟩ := m1
  obtain ⟨A2, c2, rfl, t2, _⟩ := m2
  obtain ⟨A3, c3, rfl, t3, _⟩ := m3
  have b1 : ts.length ≤ 9223372036854775807 := by unfold maxLen at t1; omega
  have b2 : gs.length ≤ 9223372036854775807 := by unfold maxLen at t2; omega
  have b3 : rs.length ≤ 9223372036854775807 := by unfold maxLen at t3; omega
  clear hL t1 t2 t3
  have hne0 : (poT x y z ts gs rs a1 != poT x y z ts gs rs a1) = false := by simp
  have hne1 : (poM x y z ts gs rs a1 != poM x y z ts gs rs a1) = false := by simp
  have hne2 : (poR x y z ts gs rs a1 != poR x y z ts gs rs a1) = false := by simp
  have hne3 : (hasM x y z ts gs rs a1 != hasM x y z ts gs rs a1) = false := by simp
  have HB0 : Hid (Below w.heap.size w (w.alloc (.cells #[.int .i64 x, .int .i64 y, .int .i64 z, .slice A1 ts.length c1, .slice A2 gs.length c2, .slice A3 rs.length c3] 32))) := (Below.refl _ _).alloc (Nat.le_refl _) _
  have AX_0 : Hid (Box6 (w.alloc (.cells #[.int .i64 x, .int .i64 y, .int .i64 z, .slice A1 ts.length c1, .slice A2 gs.length c2, .slice A3 rs.length c3] 32)) w.heap.size x y z (.slice A1 ts.length c1) (.slice A2 gs.length c2) (.slice A3 rs.length c3)) := Box6.new _ _ _ _ _ _ _ _
  go_enter Try.func4, Try.ntmps4
  go_wp2_with fail
  refine (c_szModel x y z _ _ _ _ _ _ _ _ _ _ b1 b2 b3).mono ?_
  rintro e w1 ⟨⟨r, rfl, hsz⟩, hb1⟩
  have HB1 : Hid (Below w.heap.size w w1) := HB0.out.trans (hb1.mono HB0.out.size)
  have AX_1 := Lib.hid (AX_0.out.below hb1)
  have lt_ax_1 := AX_1.out.lt
  have ax_1c0 := AX_1.out.c0
  have ax_1c1 := AX_1.out.c1
  have ax_1c2 := AX_1.out.c2
  have ax_1c3 := AX_1.out.c3
  have ax_1c4 := AX_1.out.c4
  have ax_1c5 := AX_1.out.c5
  clear hb1
  rcases hsz with ⟨_, rfl⟩ | ⟨hsz, hr⟩
  · go_wp2
    go_ret
    exact ⟨rfl, HB1.out⟩
  · have hr0 : ¬ r < 0 := by omega
    have l1 : ts.length ≤ 4000000 := by omega
    have l2 : gs.length ≤ 4000000 := by omega
    have l3 : rs.length ≤ 4000000 := by omega
    clear hr
    go_wp2_with fail
    refine (c_toModel x y z _ _ _ ts gs rs _ l1 l2 l3 (HL.out.t.below HB1.out) (HL.out.g.below HB1.out) (HL.out.r.below HB1.out)).mono ?_
    rintro e w2 ⟨Sa, Sb, Sc, rfl, hm, hb2⟩
    have HB2 : Hid (Below w.heap.size w w2) := HB1.out.trans (hb2.mono HB1.out.size)
    have AX_2 := Lib.hid (AX_1.out.below hb2)
    have lt_ax_2 := AX_2.out.lt
    have ax_2c0 := AX_2.out.c0
    have ax_2c1 := AX_2.out.c1
    have ax_2c2 := AX_2.out.c2
    have ax_2c3 := AX_2.out.c3
    have ax_2c4 := AX_2.out.c4
    have ax_2c5 := AX_2.out.c5
    have SM_2 := Lib.hid hm
    clear hm
    clear hb2
    go_wp2_with fail
    refine (c_PieceOfS x y z _ _ _ ts gs rs a1 _ l1 l2 l3 SM_2.out.look).mono ?_
    rintro e w3 ⟨rfl, hb3⟩
    have HB3 : Hid (Below w.heap.size w w3) := HB2.out.trans (hb3.mono HB2.out.size)
    have AX_3 := Lib.hid (AX_2.out.below hb3)
    have SM_3 := Lib.hid (SM_2.out.below hb3)
    have lt_ax_3 := AX_3.out.lt
    have ax_3c0 := AX_3.out.c0
    have ax_3c1 := AX_3.out.c1
    have ax_3c2 := AX_3.out.c2
    have ax_3c3 := AX_3.out.c3
    have ax_3c4 := AX_3.out.c4
    have ax_3c5 := AX_3.out.c5
    clear hb3
    go_wp2_with fail
    have hbx : Below w3.heap.size w3 (w3.alloc (Obj.cells #[.int .i64 (poT x y z ts gs rs a1), .int .i64 (poM x y z ts gs rs a1), .int .i64 (poR x y z ts gs rs a1)] 25)) := (Below.refl _ _).alloc (Nat.le_refl _) _
    have HB3x : Hid (Below w.heap.size w (w3.alloc (Obj.cells #[.int .i64 (poT x y z ts gs rs a1), .int .i64 (poM x y z ts gs rs a1), .int .i64 (poR x y z ts gs rs a1)] 25))) := HB3.out.trans (hbx.mono HB3.out.size)
    have AX_3x := Lib.hid (AX_3.out.below hbx)
    have SM_3x := Lib.hid (SM_3.out.below hbx)
    have ax_3xc0 := AX_3x.out.c0
    have ax_3xc1 := AX_3x.out.c1
    have ax_3xc2 := AX_3x.out.c2
    have ax_3xc3 := AX_3x.out.c3
    have ax_3xc4 := AX_3x.out.c4
    have ax_3xc5 := AX_3x.out.c5
    have WP_3x : Hid (Box3 (w3.alloc (Obj.cells #[.int .i64 (poT x y z ts gs rs a1), .int .i64 (poM x y z ts gs rs a1), .int .i64 (poR x y z ts gs rs a1)] 25)) w3.heap.size (poT x y z ts gs rs a1) (poM x y z ts gs rs a1) (poR x y z ts gs rs a1)) := Box3.new _ _ _ _ _
    clear hbx
    go_wp2_with fail
    refine (c_toModel x y z _ _ _ ts gs rs _ l1 l2 l3 (HL.out.t.below HB3x.out) (HL.out.g.below HB3x.out) (HL.out.r.below HB3x.out)).mono ?_
    rintro e w4 ⟨Xa, Xb, Xc, rfl, hm, hb4⟩
    have HB4 : Hid (Below w.heap.size w w4) := HB3x.out.trans (hb4.mono HB3x.out.size)
    have AX_4 := Lib.hid (AX_3x.out.below hb4)
    have WP_4 := Lib.hid (WP_3x.out.below hb4)
    have lt_ax_4 := AX_4.out.lt
    have ax_4c0 := AX_4.out.c0
    have ax_4c1 := AX_4.out.c1
    have ax_4c2 := AX_4.out.c2
    have ax_4c3 := AX_4.out.c3
    have ax_4c4 := AX_4.out.c4
    have ax_4c5 := AX_4.out.c5
    have lt_wp_4 := WP_4.out.lt
    have wp_4c0 := WP_4.out.c0
    have wp_4c1 := WP_4.out.c1
    have wp_4c2 := WP_4.out.c2
    have XM_4 := Lib.hid hm
    clear hm
    clear hb4
    obtain ⟨Q1, k1, rfl⟩ := XM_4.out.t.shape
    obtain ⟨Q2, k2, rfl⟩ := XM_4.out.g.shape
    obtain ⟨Q3, k3, rfl⟩ := XM_4.out.r.shape
    go_wp2_with fail
    have hbx : Below w4.heap.size w4 (w4.alloc (Obj.cells #[.int .i64 x, .int .i64 y, .int .i64 z, .slice Q1 ts.length k1, .slice Q2 gs.length k2, .slice Q3 rs.length k3] 38)) := (Below.refl _ _).alloc (Nat.le_refl _) _
    have HB4x : Hid (Below w.heap.size w (w4.alloc (Obj.cells #[.int .i64 x, .int .i64 y, .int .i64 z, .slice Q1 ts.length k1, .slice Q2 gs.length k2, .slice Q3 rs.length k3] 38))) := HB4.out.trans (hbx.mono HB4.out.size)
    have AX_4x := Lib.hid (AX_4.out.below hbx)
    have WP_4x := Lib.hid (WP_4.out.below hbx)
    have XM_4x := Lib.hid (XM_4.out.below hbx)
    have ax_4xc0 := AX_4x.out.c0
    have ax_4xc1 := AX_4x.out.c1
    have ax_4xc2 := AX_4x.out.c2
    have ax_4xc3 := AX_4x.out.c3
    have ax_4xc4 := AX_4x.out.c4
    have ax_4xc5 := AX_4x.out.c5
    have wp_4xc0 := WP_4x.out.c0
    have wp_4xc1 := WP_4x.out.c1
    have wp_4xc2 := WP_4x.out.c2
    have XX_4x : Hid (Box6 (w4.alloc (Obj.cells #[.int .i64 x, .int .i64 y, .int .i64 z, .slice Q1 ts.length k1, .slice Q2 gs.length k2, .slice Q3 rs.length k3] 38)) w4.heap.size x y z (.slice Q1 ts.length k1) (.slice Q2 gs.length k2) (.slice Q3 rs.length k3)) := Box6.new _ _ _ _ _ _ _ _
    clear hbx
    go_wp2_with fail
    refine (c_PieceOf x y z _ _ _ ts gs rs a1 _ l1 l2 l3 XM_4x.out.look).mono ?_
    rintro e w5 ⟨rfl, hb5⟩
    have HB5 : Hid (Below w.heap.size w w5) := HB4x.out.trans (hb5.mono HB4x.out.size)
    have AX_5 := Lib.hid (AX_4x.out.below hb5)
    have WP_5 := Lib.hid (WP_4x.out.below hb5)
    have XM_5 := Lib.hid (XM_4x.out.below hb5)
    have XX_5 := Lib.hid (XX_4x.out.below hb5)
    have lt_ax_5 := AX_5.out.lt
    have ax_5c0 := AX_5.out.c0
    have ax_5c1 := AX_5.out.c1
    have ax_5c2 := AX_5.out.c2
    have ax_5c3 := AX_5.out.c3
    have ax_5c4 := AX_5.out.c4
    have ax_5c5 := AX_5.out.c5
    have lt_wp_5 := WP_5.out.lt
    have wp_5c0 := WP_5.out.c0
    have wp_5c1 := WP_5.out.c1
    have wp_5c2 := WP_5.out.c2
    have lt_xx_5 := XX_5.out.lt
    have xx_5c0 := XX_5.out.c0
    have xx_5c1 := XX_5.out.c1
    have xx_5c2 := XX_5.out.c2
    have xx_5c3 := XX_5.out.c3
    have xx_5c4 := XX_5.out.c4
    have xx_5c5 := XX_5.out.c5
    clear hb5
    go_wp2_with fail
    have hbx : Below w5.heap.size w5 (w5.alloc (Obj.cells #[.int .i64 (poT x y z ts gs rs a1), .int .i64 (poM x y z ts gs rs a1), .int .i64 (poR x y z ts gs rs a1)] 25)) := (Below.refl _ _).alloc (Nat.le_refl _) _
    have HB5x : Hid (Below w.heap.size w (w5.alloc (Obj.cells #[.int .i64 (poT x y z ts gs rs a1), .int .i64 (poM x y z ts gs rs a1), .int .i64 (poR x y z ts gs rs a1)] 25))) := HB5.out.trans (hbx.mono HB5.out.size)
    have AX_5x := Lib.hid (AX_5.out.below hbx)
    have WP_5x := Lib.hid (WP_5.out.below hbx)
    have XM_5x := Lib.hid (XM_5.out.below hbx)
    have XX_5x := Lib.hid (XX_5.out.below hbx)
    have ax_5xc0 := AX_5x.out.c0
    have ax_5xc1 := AX_5x.out.c1
    have ax_5xc2 := AX_5x.out.c2
    have ax_5xc3 := AX_5x.out.c3
    have ax_5xc4 := AX_5x.out.c4
    have ax_5xc5 := AX_5x.out.c5
    have wp_5xc0 := WP_5x.out.c0
    have wp_5xc1 := WP_5x.out.c1
    have wp_5xc2 := WP_5x.out.c2
    have xx_5xc0 := XX_5x.out.c0
    have xx_5xc1 := XX_5x.out.c1
    have xx_5xc2 := XX_5x.out.c2
    have xx_5xc3 := XX_5x.out.c3
    have xx_5xc4 := XX_5x.out.c4
    have xx_5xc5 := XX_5x.out.c5
    have GP_5x : Hid (Box3 (w5.alloc (Obj.cells #[.int .i64 (poT x y z ts gs rs a1), .int .i64 (poM x y z ts gs rs a1), .int .i64 (poR x y z ts gs rs a1)] 25)) w5.heap.size (poT x y z ts gs rs a1) (poM x y z ts gs rs a1) (poR x y z ts gs rs a1)) := Box3.new _ _ _ _ _
    clear hbx
    go_wp2_with fail
    refine (c_eqPiece _ _ _ _).mono ?_
    rintro e w6 ⟨rfl, hb6⟩
    have HB6 : Hid (Below w.heap.size w w6) := HB5x.out.trans (hb6.mono HB5x.out.size)
    have AX_6 := Lib.hid (AX_5x.out.below hb6)
    have WP_6 := Lib.hid (WP_5x.out.below hb6)
    have XM_6 := Lib.hid (XM_5x.out.below hb6)
    have XX_6 := Lib.hid (XX_5x.out.below hb6)
    have GP_6 := Lib.hid (GP_5x.out.below hb6)
    have lt_ax_6 := AX_6.out.lt
    have ax_6c0 := AX_6.out.c0
    have ax_6c1 := AX_6.out.c1
    have ax_6c2 := AX_6.out.c2
    have ax_6c3 := AX_6.out.c3
    have ax_6c4 := AX_6.out.c4
    have ax_6c5 := AX_6.out.c5
    have lt_wp_6 := WP_6.out.lt
    have wp_6c0 := WP_6.out.c0
    have wp_6c1 := WP_6.out.c1
    have wp_6c2 := WP_6.out.c2
    have lt_xx_6 := XX_6.out.lt
    have xx_6c0 := XX_6.out.c0
    have xx_6c1 := XX_6.out.c1
    have xx_6c2 := XX_6.out.c2
    have xx_6c3 := XX_6.out.c3
    have xx_6c4 := XX_6.out.c4
    have xx_6c5 := XX_6.out.c5
    have lt_gp_6 := GP_6.out.lt
    have gp_6c0 := GP_6.out.c0
    have gp_6c1 := GP_6.out.c1
    have gp_6c2 := GP_6.out.c2
    clear hb6
    go_upto_region 10 with fail
    go_cut [44] (fun s wx => s = .bool false ∧ Below w6.heap.size w6 wx)
    case first =>
      go_region_with (first
        | (go_at_call 16
           refine (c_toModel x y z _ _ _ ts gs rs _ l1 l2 l3 (HL.out.t.below (by exact HB6.out.drew)) (HL.out.g.below (by exact HB6.out.drew)) (HL.out.r.below (by exact HB6.out.drew))).mono ?_
           rintro e wy ⟨r1, r2, r3, rfl, hmy, hby⟩
           obtain ⟨hcy, hfy⟩ := bcell hby
           have sy := hby.size
           simp at sy hcy hfy
           have pxy := XX_6.out.lt
           have HMY := Lib.hid hmy
           have HNY : Hid (Mod wy _ (.slice Q1 ts.length k1) (.slice Q2 gs.length k2) (.slice Q3 rs.length k3) ts gs rs) := Mod.below (Mod.drew XM_6.out) hby
           have HBY : Hid (Below w6.heap.size w6 wy) := (Below.refl _ _).drew.trans hby
           clear hby hmy)
        | (go_at_call 19
           refine (c_eqModel x y z _ _ _ _ _ _ ts gs rs _ _ _ l1 l2 l3 HNY.out HMY.out).mono ?_
           rintro e wz ⟨rfl, hbz⟩
           have HBZ : Hid (Below w6.heap.size w6 wz) := HBY.out.trans (hbz.mono HBY.out.size)
           clear hbz))
      all_goals
        go_wp2_with fail
        go_meet
        exact ⟨rfl, HBZ.out⟩
    case rest =>
      obtain ⟨rfl, hb7⟩ := hcut
      have HB7 : Hid (Below w.heap.size w wc) := HB6.out.trans (hb7.mono HB6.out.size)
      have AX_7 := Lib.hid (AX_6.out.below hb7)
      have WP_7 := Lib.hid (WP_6.out.below hb7)
      have XM_7 := Lib.hid (XM_6.out.below hb7)
      have XX_7 := Lib.hid (XX_6.out.below hb7)
      have GP_7 := Lib.hid (GP_6.out.below hb7)
      have lt_ax_7 := AX_7.out.lt
      have ax_7c0 := AX_7.out.c0
      have ax_7c1 := AX_7.out.c1
      have ax_7c2 := AX_7.out.c2
      have ax_7c3 := AX_7.out.c3
      have ax_7c4 := AX_7.out.c4
      have ax_7c5 := AX_7.out.c5
      have lt_wp_7 := WP_7.out.lt
      have wp_7c0 := WP_7.out.c0
      have wp_7c1 := WP_7.out.c1
      have wp_7c2 := WP_7.out.c2
      have lt_xx_7 := XX_7.out.lt
      have xx_7c0 := XX_7.out.c0
      have xx_7c1 := XX_7.out.c1
      have xx_7c2 := XX_7.out.c2
      have xx_7c3 := XX_7.out.c3
      have xx_7c4 := XX_7.out.c4
      have xx_7c5 := XX_7.out.c5
      have lt_gp_7 := GP_7.out.lt
      have gp_7c0 := GP_7.out.c0
      have gp_7c1 := GP_7.out.c1
      have gp_7c2 := GP_7.out.c2
      clear hb7
      go_wp2
      go_ret
      exact ⟨rfl, HB7.out⟩

/-! ### The row's step -/
theorem laid : laidOutB Try.prog = true := by kernel_rfl
set_option maxRecDepth 100000 in
theorem lifted (os : Os) (started : os.Started) (H : Type) (enc : TypeId × Value → H) :
    ReturnsInHanded {} Try.checked os 4 .any (Rows.fnExactPieceOfSpec.pre6 enc Try.prog Try.f4 Rows.fnExactPieceOfRow.domain false) (Rows.fnExactPieceOfSpec.post enc Try.prog Try.f4 false true false false) := by
  refine returnsInHanded_of_change (C := Try.checked) own started (by kernel_rfl) Try.func4
    (ChangeSpec.witness6 (enc := enc) (C := Try.checked) false ⟨#[], #[.agg #[.int .i64 0, .int .i64 0, .int .i64 0, .slice none 0 0, .slice none 0 0, .slice none 0 0], .int .i64 0], []⟩ 8 (by kernel_rfl) (by kernel_rfl) (by kernel_rfl) (by kernel_rfl)) ?_
  intro W base args ds gs before hval0 hW hcnd _
  have hval : ∀ (j : Nat) t v, Try.f4.params[j]? = some t → args[j]? = some v → Value.okWide Try.prog W .any base t v := hval0
  have hW' := hW
  have lts : ∀ x ∈ before, x.block < W.heap.size := fun x hx => by simpa using hW'.lt x hx
  obtain ⟨p, q, hA0, hV, rfl, hfz, hnd⟩ := hW
  have hA : DataW.TrodAll enc Try.prog W 0 (fun _ => true) true Try.f4.params.toList args.toList ds p := hA0
  rw [Try.params4] at hA hval
  obtain ⟨v0, vs0, d0, ds0, p0, q0, hargs, rfl, rfl, h0, r0⟩ := trodAll_cons hA
  obtain ⟨v1, vs1, d1, ds1, p1, q1, rfl, rfl, rfl, h1, r1⟩ := trodAll_cons r0
  obtain ⟨rfl, rfl, rfl⟩ := trodAll_nil r1
  obtain rfl : args = #[v0, v1] := by cases args; simp_all
  obtain ⟨rfl, rfl⟩ := trodVars_none hV
  have k0 := h0
  obtain ⟨x, y, z, m1, m2, m3, ts, gs, rs, rfl, hL⟩ := open_model (hval 0 32 v0 rfl rfl) h0
  have k1 := h1
  obtain ⟨a1, rfl, _, _, w1⟩ := open_int Try.underlying3 (hval 1 3 v1 rfl rfl) h1
  clear hA0 hval0
  simp only [List.append_nil] at hW' lts
  refine (walk x y z m1 m2 m3 ts gs rs a1 W hL w1).mono fun e W' ⟨he, bel⟩ => ?_
  subst he
  exact ⟨_, rfl, _, _, _, [], _, [], hW', trodAll_mk1 (shut_bool Try.underlying4 _), (trodAll_cons_mk (Below.trod laid (by kernel_rfl) (of_decide_eq_true (by kernel_rfl)) k0 bel (fun x hx => lts x (by simp [hx]))) (trodAll_cons_mk (Below.trod laid (by kernel_rfl) (of_decide_eq_true (by kernel_rfl)) k1 bel (fun x hx => lts x (by simp [hx]))) trodAll_mk0)), rfl, bel.frame _, fun h => by cases h⟩

theorem over : Rows.fnExactPieceOfRow.holds Try.pinned (OpenSpec.ofChange Rows.fnExactPieceOfSpec) :=
  OpenClaim.holds_of_wide 4 Try.f4 rfl rfl rfl rfl rfl rfl rfl ⟨rfl, rfl, rfl, rfl, rfl⟩ rfl rfl rfl rfl rfl (by kernel_rfl) Try.func4 (by kernel_rfl)
    (of_decide_eq_true (by kernel_rfl)) (by unfold Func.isWrapper; first | (rw [if_pos (by decide +kernel)]; kernel_rfl) | (rw [if_neg (by decide +kernel)]; exact ⟨rfl, rfl⟩))
    (fun os started H enc _ => lifted os started H enc)

end Go.Proofs.Ytglcdgonbmdhoab.fnExactPieceOfProof
namespace Go.Proofs.Ytglcdgonbmdhoab
theorem fnExactPieceOf_holds : Rows.FnExactPieceOfSaid := fnExactPieceOfProof.over
#print axioms fnExactPieceOf_holds
end Go.Proofs.Ytglcdgonbmdhoab
