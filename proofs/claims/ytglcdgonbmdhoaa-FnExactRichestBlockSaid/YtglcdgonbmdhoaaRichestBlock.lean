/-
  The law FnExactRichestBlock holds: for all arguments, RichestBlock answers as its model does, and the arguments read as they did. No conditions.
-/
import Derived.Test.YtglcdgonbmdhoaaRows
import Derived.Test.YtglcdgonbmdhoaaM9
import Derived.Test.YtglcdgonbmdhoaaOpen
import Derived.WalkKit
import Derived.Lib.Hide
import Derived.Deep.DeepCutAuto
import Derived.ProofKit
import Derived.OpenShut
import Derived.ShutString
import Derived.ChangeOld
import Derived.Below
import Derived.Carry
import Derived.Deep.RegionWith
import Derived.Lib.SmallJoins
namespace Go.Proofs.Ytglcdgonbmdhoaa.fnExactRichestBlockProof
open Go.ChangeShapes Go.WideShapes Go.ChangeAt Go.RowKit Go.Joins
open Go.ChangeMaps (open_string shut_string)
set_option linter.unusedVariables false

theorem own : ownKnob Try.prog.godebug = none := by kernel_rfl

theorem Mod.drew {w : World} {B : Nat} {v1 v2 v3 : Value} {ts gs rs : List Int} (h : Mod w B v1 v2 v3 ts gs rs) : Mod w.drew B v1 v2 v3 ts gs rs := ⟨h.t.draws 1, h.g.draws 1, h.r.draws 1, h.tg, h.tr, h.gr⟩

/-! ### The walk -/
set_option maxHeartbeats 2000000 in
theorem walk (x y z : Int) (v1 v2 v3 : Value) (ts gs rs : List Int) (w : World) (hL : Look w v1 v2 v3 ts gs rs) :
    Calls Try.prog 6 #[.agg #[.int .i64 x, .int .i64 y, .int .i64 z, v1, v2, v3]] w fun e w' => e = .returned (.bool true) ∧ Below w.heap.size w w' := by
  have HL := Lib.hid hL
  have m1 := hL.t
  have m2 := hL.g
  have m3 := hL.r
  obtain ⟨A1, c1, rfl, t1, _⟩ := m1
  obtain ⟨A2, c2, rfl, t2, _⟩ := m2
  obtain ⟨A3, c3, rfl, t3, _⟩ := m3
  have b1 : ts.length ≤ 9223372036854775807 := by unfold maxLen at t1; omega
  have b2 : gs.length ≤ 9223372036854775807 := by unfold maxLen at t2; omega
  have b3 : rs.length ≤ 9223372036854775807 := by unfold maxLen at t3; omega
  clear hL t1 t2 t3
  have hne0 : (richV x y z ts gs rs != richV x y z ts gs rs) = false := by simp
  have hne1 : (moB x y z ts gs rs != moB x y z ts gs rs) = false := by simp
  have HB0 : Hid (Below w.heap.size w (w.alloc (.cells #[.int .i64 x, .int .i64 y, .int .i64 z, .slice A1 ts.length c1, .slice A2 gs.length c2, .slice A3 rs.length c3] 26))) := (Below.refl _ _).alloc (Nat.le_refl _) _
  have AX_0 : Hid (Box6 (w.alloc (.cells #[.int .i64 x, .int .i64 y, .int .i64 z, .slice A1 ts.length c1, .slice A2 gs.length c2, .slice A3 rs.length c3] 26)) w.heap.size x y z (.slice A1 ts.length c1) (.slice A2 gs.length c2) (.slice A3 rs.length c3)) := Box6.new _ _ _ _ _ _ _ _
  go_enter Try.func6, Try.ntmps6
  go_wp2_with fail
  refine (c_szModel x y z _ _ _ _ _ _ _ _ _ _ b1 b2 b3).mono ?_
  rintro e w1 ⟨⟨r, rfl, hsz⟩, hb1⟩
  have HB1 : Hid (Below w.heap.size w w1) := HB0.out.trans (hb1.mono HB0.out.size)
  have AX_1 := Lib.hid (AX_0.out.below hb1)
  have ax_1c0 := AX_1.out.c0
  have ax_1c1 := AX_1.out.c1
  have ax_1c2 := AX_1.out.c2
  have ax_1c3 := AX_1.out.c3
  have ax_1c4 := AX_1.out.c4
  have ax_1c5 := AX_1.out.c5
  clear hb1
  rcases hsz with ⟨_, rfl⟩ | ⟨hsz, hr⟩
  · go_wp2
    go_ret
    exact ⟨rfl, HB1.out⟩
  · have hr0 : ¬ r < 0 := by omega
    have l1 : ts.length ≤ 4000000 := by omega
    have l2 : gs.length ≤ 4000000 := by omega
    have l3 : rs.length ≤ 4000000 := by omega
    clear hr
    go_wp2_with fail
    refine (c_toModel x y z _ _ _ ts gs rs _ l1 l2 l3 (HL.out.t.below HB1.out) (HL.out.g.below HB1.out) (HL.out.r.below HB1.out)).mono ?_
    rintro e w2 ⟨Sa, Sb, Sc, rfl, hm, hb2⟩
    have HB2 : Hid (Below w.heap.size w w2) := HB1.out.trans (hb2.mono HB1.out.size)
    have AX_2 := Lib.hid (AX_1.out.below hb2)
    have ax_2c0 := AX_2.out.c0
    have ax_2c1 := AX_2.out.c1
    have ax_2c2 := AX_2.out.c2
    have ax_2c3 := AX_2.out.c3
    have ax_2c4 := AX_2.out.c4
    have ax_2c5 := AX_2.out.c5
    have SM_2 := Lib.hid hm
    clear hm
    clear hb2
    go_wp2_with fail
    refine (c_RichestBlockS x y z _ _ _ ts gs rs _ l1 l2 l3 SM_2.out.look).mono ?_
    rintro e w3 ⟨rfl, hb3⟩
    have HB3 : Hid (Below w.heap.size w w3) := HB2.out.trans (hb3.mono HB2.out.size)
    have AX_3 := Lib.hid (AX_2.out.below hb3)
    have SM_3 := Lib.hid (SM_2.out.below hb3)
    have ax_3c0 := AX_3.out.c0
    have ax_3c1 := AX_3.out.c1
    have ax_3c2 := AX_3.out.c2
    have ax_3c3 := AX_3.out.c3
    have ax_3c4 := AX_3.out.c4
    have ax_3c5 := AX_3.out.c5
    clear hb3
    go_wp2_with fail
    refine (c_toModel x y z _ _ _ ts gs rs _ l1 l2 l3 (HL.out.t.below HB3.out) (HL.out.g.below HB3.out) (HL.out.r.below HB3.out)).mono ?_
    rintro e w4 ⟨Xa, Xb, Xc, rfl, hm, hb4⟩
    have HB4 : Hid (Below w.heap.size w w4) := HB3.out.trans (hb4.mono HB3.out.size)
    have AX_4 := Lib.hid (AX_3.out.below hb4)
    have ax_4c0 := AX_4.out.c0
    have ax_4c1 := AX_4.out.c1
    have ax_4c2 := AX_4.out.c2
    have ax_4c3 := AX_4.out.c3
    have ax_4c4 := AX_4.out.c4
    have ax_4c5 := AX_4.out.c5
    have XM_4 := Lib.hid hm
    clear hm
    clear hb4
    obtain ⟨Q1, k1, rfl⟩ := XM_4.out.t.shape
    obtain ⟨Q2, k2, rfl⟩ := XM_4.out.g.shape
    obtain ⟨Q3, k3, rfl⟩ := XM_4.out.r.shape
    go_wp2_with fail
    have hbx : Below w4.heap.size w4 (w4.alloc (Obj.cells #[.int .i64 x, .int .i64 y, .int .i64 z, .slice Q1 ts.length k1, .slice Q2 gs.length k2, .slice Q3 rs.length k3] 32)) := (Below.refl _ _).alloc (Nat.le_refl _) _
    have HB4x : Hid (Below w.heap.size w (w4.alloc (Obj.cells #[.int .i64 x, .int .i64 y, .int .i64 z, .slice Q1 ts.length k1, .slice Q2 gs.length k2, .slice Q3 rs.length k3] 32))) := HB4.out.trans (hbx.mono HB4.out.size)
    have AX_4x := Lib.hid (AX_4.out.below hbx)
    have XM_4x := Lib.hid (XM_4.out.below hbx)
    have ax_4xc0 := AX_4x.out.c0
    have ax_4xc1 := AX_4x.out.c1
    have ax_4xc2 := AX_4x.out.c2
    have ax_4xc3 := AX_4x.out.c3
    have ax_4xc4 := AX_4x.out.c4
    have ax_4xc5 := AX_4x.out.c5
    have XX_4x : Hid (Box6 (w4.alloc (Obj.cells #[.int .i64 x, .int .i64 y, .int .i64 z, .slice Q1 ts.length k1, .slice Q2 gs.length k2, .slice Q3 rs.length k3] 32)) w4.heap.size x y z (.slice Q1 ts.length k1) (.slice Q2 gs.length k2) (.slice Q3 rs.length k3)) := Box6.new _ _ _ _ _ _ _ _
    clear hbx
    go_wp2_with fail
    refine (c_RichestBlock x y z _ _ _ ts gs rs _ l1 l2 l3 XM_4x.out.look).mono ?_
    rintro e w5 ⟨rfl, hb5⟩
    have HB5 : Hid (Below w.heap.size w w5) := HB4x.out.trans (hb5.mono HB4x.out.size)
    have AX_5 := Lib.hid (AX_4x.out.below hb5)
    have XM_5 := Lib.hid (XM_4x.out.below hb5)
    have XX_5 := Lib.hid (XX_4x.out.below hb5)
    have ax_5c0 := AX_5.out.c0
    have ax_5c1 := AX_5.out.c1
    have ax_5c2 := AX_5.out.c2
    have ax_5c3 := AX_5.out.c3
    have ax_5c4 := AX_5.out.c4
    have ax_5c5 := AX_5.out.c5
    have xx_5c0 := XX_5.out.c0
    have xx_5c1 := XX_5.out.c1
    have xx_5c2 := XX_5.out.c2
    have xx_5c3 := XX_5.out.c3
    have xx_5c4 := XX_5.out.c4
    have xx_5c5 := XX_5.out.c5
    clear hb5
    go_upto_region 10 with fail
    go_cut [39] (fun s wx => s = .bool false ∧ Below w5.heap.size w5 wx)
    case first =>
      go_region_with (first
        | (go_at_call 14
           refine (c_toModel x y z _ _ _ ts gs rs _ l1 l2 l3 (HL.out.t.below (by exact HB5.out.drew)) (HL.out.g.below (by exact HB5.out.drew)) (HL.out.r.below (by exact HB5.out.drew))).mono ?_
           rintro e wy ⟨r1, r2, r3, rfl, hmy, hby⟩
           obtain ⟨hcy, hfy⟩ := bcell hby
           have sy := hby.size
           simp at sy hcy hfy
           have pxy := XX_5.out.lt
           have HMY := Lib.hid hmy
           have HNY : Hid (Mod wy _ (.slice Q1 ts.length k1) (.slice Q2 gs.length k2) (.slice Q3 rs.length k3) ts gs rs) := Mod.below (Mod.drew XM_5.out) hby
           have HBY : Hid (Below w5.heap.size w5 wy) := (Below.refl _ _).drew.trans hby
           clear hby hmy)
        | (go_at_call 16
           refine (c_eqModel x y z _ _ _ _ _ _ ts gs rs _ _ _ l1 l2 l3 HNY.out HMY.out).mono ?_
           rintro e wz ⟨rfl, hbz⟩
           have HBZ : Hid (Below w5.heap.size w5 wz) := HBY.out.trans (hbz.mono HBY.out.size)
           clear hbz))
      all_goals
        go_wp2_with fail
        go_meet
        exact ⟨rfl, HBZ.out⟩
    case rest =>
      obtain ⟨rfl, hb6⟩ := hcut
      have HB6 : Hid (Below w.heap.size w wc) := HB5.out.trans (hb6.mono HB5.out.size)
      have AX_6 := Lib.hid (AX_5.out.below hb6)
      have XM_6 := Lib.hid (XM_5.out.below hb6)
      have XX_6 := Lib.hid (XX_5.out.below hb6)
      have ax_6c0 := AX_6.out.c0
      have ax_6c1 := AX_6.out.c1
      have ax_6c2 := AX_6.out.c2
      have ax_6c3 := AX_6.out.c3
      have ax_6c4 := AX_6.out.c4
      have ax_6c5 := AX_6.out.c5
      have xx_6c0 := XX_6.out.c0
      have xx_6c1 := XX_6.out.c1
      have xx_6c2 := XX_6.out.c2
      have xx_6c3 := XX_6.out.c3
      have xx_6c4 := XX_6.out.c4
      have xx_6c5 := XX_6.out.c5
      clear hb6
      go_wp2
      go_ret
      exact ⟨rfl, HB6.out⟩

/-! ### The row's step -/
theorem laid : laidOutB Try.prog = true := by kernel_rfl
set_option maxRecDepth 100000 in
theorem lifted (os : Os) (started : os.Started) (H : Type) (enc : TypeId × Value → H) :
    ReturnsInHanded {} Try.checked os 6 .any (Rows.fnExactRichestBlockSpec.pre6 enc Try.prog Try.f6 Rows.fnExactRichestBlockRow.domain false) (Rows.fnExactRichestBlockSpec.post enc Try.prog Try.f6 false true false false) := by
  refine returnsInHanded_of_change (C := Try.checked) own started (by kernel_rfl) Try.func6
    (ChangeSpec.witness6 (enc := enc) (C := Try.checked) false ⟨#[], #[.agg #[.int .i64 0, .int .i64 0, .int .i64 0, .slice none 0 0, .slice none 0 0, .slice none 0 0]], []⟩ 8 (by kernel_rfl) (by kernel_rfl) (by kernel_rfl) (by kernel_rfl)) ?_
  intro W base args ds gs before hval0 hW hcnd _
  have hval : ∀ (j : Nat) t v, Try.f6.params[j]? = some t → args[j]? = some v → Value.okWide Try.prog W .any base t v := hval0
  have hW' := hW
  have lts : ∀ x ∈ before, x.block < W.heap.size := fun x hx => by simpa using hW'.lt x hx
  obtain ⟨p, q, hA0, hV, rfl, hfz, hnd⟩ := hW
  have hA : DataW.TrodAll enc Try.prog W 0 (fun _ => true) true Try.f6.params.toList args.toList ds p := hA0
  rw [Try.params6] at hA hval
  obtain ⟨v0, vs0, d0, ds0, p0, q0, hargs, rfl, rfl, h0, r0⟩ := trodAll_cons hA
  obtain ⟨rfl, rfl, rfl⟩ := trodAll_nil r0
  obtain rfl : args = #[v0] := by cases args; simp_all
  obtain ⟨rfl, rfl⟩ := trodVars_none hV
  have k0 := h0
  obtain ⟨x, y, z, m1, m2, m3, ts, gs, rs, rfl, hL⟩ := open_model (hval 0 26 v0 rfl rfl) h0
  clear hA0 hval0
  simp only [List.append_nil] at hW' lts
  refine (walk x y z m1 m2 m3 ts gs rs W hL).mono fun e W' ⟨he, bel⟩ => ?_
  subst he
  exact ⟨_, rfl, _, _, _, [], _, [], hW', trodAll_mk1 (shut_bool Try.underlying4 _), (trodAll_cons_mk (Below.trod laid (by kernel_rfl) (of_decide_eq_true (by kernel_rfl)) k0 bel (fun x hx => lts x (by simp [hx]))) trodAll_mk0), rfl, bel.frame _, fun h => by cases h⟩

theorem over : Rows.fnExactRichestBlockRow.holds Try.pinned (OpenSpec.ofChange Rows.fnExactRichestBlockSpec) :=
  OpenClaim.holds_of_wide 6 Try.f6 rfl rfl rfl rfl rfl rfl rfl ⟨rfl, rfl, rfl, rfl, rfl⟩ rfl rfl rfl rfl rfl (by kernel_rfl) Try.func6 (by kernel_rfl)
    (of_decide_eq_true (by kernel_rfl)) (by unfold Func.isWrapper; first | (rw [if_pos (by decide +kernel)]; kernel_rfl) | (rw [if_neg (by decide +kernel)]; exact ⟨rfl, rfl⟩))
    (fun os started H enc _ => lifted os started H enc)

end Go.Proofs.Ytglcdgonbmdhoaa.fnExactRichestBlockProof
namespace Go.Proofs.Ytglcdgonbmdhoaa
theorem fnExactRichestBlock_holds : Rows.FnExactRichestBlockSaid := fnExactRichestBlockProof.over
#print axioms fnExactRichestBlock_holds
end Go.Proofs.Ytglcdgonbmdhoaa
