/-
  The law FnExactMetalOf holds: for all arguments, MetalOf answers as its model does, and the arguments read as they did. No conditions.
-/
import Derived.Test.YtglcdgonbmdhoaaRows
import Derived.Test.YtglcdgonbmdhoaaM5
import Derived.Test.YtglcdgonbmdhoaaOpen
import Derived.WalkKit
import Derived.Lib.Hide
import Derived.ProofKit
import Derived.OpenShut
import Derived.ShutString
import Derived.ChangeOld
import Derived.Below
import Derived.Carry
import Derived.Deep.RegionWith
import Derived.Lib.SmallJoins
namespace Go.Proofs.Ytglcdgonbmdhoaa.fnExactMetalOfProof
open Go.ChangeShapes Go.WideShapes Go.ChangeAt Go.RowKit Go.Joins
open Go.ChangeMaps (open_string shut_string)
set_option linter.unusedVariables false

theorem own : ownKnob Try.prog.godebug = none := by kernel_rfl

theorem Mod.drew {w : World} {B : Nat} {v1 v2 v3 : Value} {ts gs rs : List Int} (h : Mod w B v1 v2 v3 ts gs rs) : Mod w.drew B v1 v2 v3 ts gs rs := ⟨h.t.draws 1, h.g.draws 1, h.r.draws 1, h.tg, h.tr, h.gr⟩

/-! ### The walk -/
set_option maxHeartbeats 1000000 in
theorem walk (x y z : Int) (v1 v2 v3 : Value) (ts gs rs : List Int) (a1 : Int) (w : World) (hL : Look w v1 v2 v3 ts gs rs) (wf1 : (Lit.int .i64 a1).wf = true) :
    Calls Try.prog 3 #[.agg #[.int .i64 x, .int .i64 y, .int .i64 z, v1, v2, v3], .int .i64 a1] w fun e w' => e = .returned (.bool true) ∧ Below w.heap.size w w' := by
  have HL := Lib.hid hL
  have m1 := hL.t
  have m2 := hL.g
  have m3 := hL.r
  obtain ⟨A1, c1, rfl, t1, _⟩ := m1
  obtain ⟨A2, c2, rfl, t2, _⟩ := m2
  obtain ⟨A3, c3, rfl, t3, _⟩ := m3
  have b1 : ts.length ≤ 9223372036854775807 := by unfold maxLen at t1; omega
  have b2 : gs.length ≤ 9223372036854775807 := by unfold maxLen at t2; omega
  have b3 : rs.length ≤ 9223372036854775807 := by unfold maxLen at t3; omega
  clear hL t1 t2 t3
  have hne0 : (metV x y z ts gs rs a1 != metV x y z ts gs rs a1) = false := by simp
  have hne1 : (hasM x y z ts gs rs a1 != hasM x y z ts gs rs a1) = false := by simp
  go_enter Try.func3, Try.ntmps3
  go_wp2_with fail
  refine (c_szModel x y z _ _ _ _ _ _ _ _ _ _ b1 b2 b3).mono ?_
  rintro e w1 ⟨⟨r, rfl, hsz⟩, hb1⟩
  obtain ⟨hc1, hf1⟩ := bcell hb1
  have s1 := hb1.size
  simp at s1 hc1 hf1
  have p10 : w.heap.size < w1.heap.size := by omega
  have HB1 : Hid (Below w.heap.size w w1) := ((Below.refl _ _).alloc (Nat.le_refl _) _).trans (hb1.mono (by simp))
  clear hb1
  rcases hsz with ⟨_, rfl⟩ | ⟨hsz, hr⟩
  · go_wp2
    go_ret
    exact ⟨rfl, HB1.out⟩
  · have hr0 : ¬ r < 0 := by omega
    have l1 : ts.length ≤ 4000000 := by omega
    have l2 : gs.length ≤ 4000000 := by omega
    have l3 : rs.length ≤ 4000000 := by omega
    clear hr
    go_wp2_with fail
    refine (c_toModel x y z _ _ _ ts gs rs _ l1 l2 l3 (HL.out.t.below HB1.out) (HL.out.g.below HB1.out) (HL.out.r.below HB1.out)).mono ?_
    rintro e w2 ⟨p1, p2, p3, rfl, hm2, hb2⟩
    obtain ⟨hc2, hf2⟩ := bcell hb2
    have s2 := hb2.size
    have p20 : w.heap.size < w2.heap.size := by omega
    have HB2 : Hid (Below w.heap.size w w2) := HB1.out.trans (hb2.mono (by omega))
    have HM2 := Lib.hid hm2
    clear hb2 hm2
    go_wp2_with fail
    refine (c_MetalOfS x y z _ _ _ ts gs rs _ _ l1 l2 l3 HM2.out.look).mono ?_
    rintro e w3 ⟨rfl, hb3⟩
    obtain ⟨hc3, hf3⟩ := bcell hb3
    have s3 := hb3.size
    have p30 : w.heap.size < w3.heap.size := by omega
    have HB3 : Hid (Below w.heap.size w w3) := HB2.out.trans (hb3.mono (by omega))
    clear hb3
    go_wp2_with fail
    refine (c_toModel x y z _ _ _ ts gs rs _ l1 l2 l3 (HL.out.t.below HB3.out) (HL.out.g.below HB3.out) (HL.out.r.below HB3.out)).mono ?_
    rintro e w4 ⟨q1, q2, q3, rfl, hm4, hb4⟩
    obtain ⟨hc4, hf4⟩ := bcell hb4
    have s4 := hb4.size
    have p40 : w.heap.size < w4.heap.size := by omega
    have HB4 : Hid (Below w.heap.size w w4) := HB3.out.trans (hb4.mono (by omega))
    obtain ⟨Q1, k1, rfl⟩ := hm4.t.shape
    obtain ⟨Q2, k2, rfl⟩ := hm4.g.shape
    obtain ⟨Q3, k3, rfl⟩ := hm4.r.shape
    have HM4 := Lib.hid hm4
    clear hb4 hm4
    go_wp2_with fail
    have HB4' : Hid (Below w.heap.size w (w4.alloc (Obj.cells #[.int .i64 x, .int .i64 y, .int .i64 z, .slice Q1 ts.length k1, .slice Q2 gs.length k2, .slice Q3 rs.length k3] 32))) := HB4.out.alloc (by omega) _
    have HM4' : Hid (Mod (w4.alloc (Obj.cells #[.int .i64 x, .int .i64 y, .int .i64 z, .slice Q1 ts.length k1, .slice Q2 gs.length k2, .slice Q3 rs.length k3] 32)) w3.heap.size (.slice Q1 ts.length k1) (.slice Q2 gs.length k2) (.slice Q3 rs.length k3) ts gs rs) := HM4.out.below ((Below.refl _ _).alloc (Nat.le_refl _) _)
    refine (c_MetalOf x y z _ _ _ ts gs rs _ _ l1 l2 l3 HM4'.out.look).mono ?_
    rintro e w5 ⟨rfl, hb5⟩
    obtain ⟨hc5, hf5⟩ := bcell hb5
    have s5 := hb5.size
    simp at s5 hc5 hf5
    have p50 : w.heap.size < w5.heap.size := by omega
    have p51 : w4.heap.size < w5.heap.size := by omega
    have HB5 : Hid (Below w.heap.size w w5) := HB4'.out.trans (hb5.mono (by simp; omega))
    have HM5 := Lib.hid (HM4'.out.below hb5)
    clear hb5
    go_wp2_with fail
    go_region_with (first
      | (go_at_call 14
         refine (c_toModel x y z _ _ _ ts gs rs _ l1 l2 l3 (HL.out.t.below (by exact HB5.out.drew)) (HL.out.g.below (by exact HB5.out.drew)) (HL.out.r.below (by exact HB5.out.drew))).mono ?_
         rintro e w6 ⟨r1, r2, r3, rfl, hm6, hb6⟩
         obtain ⟨hc6, hf6⟩ := bcell hb6
         have s6 := hb6.size
         simp at s6 hc6 hf6
         have p60 : w4.heap.size < w6.heap.size := by omega
         have HB6 : Hid (Below w.heap.size w w6) := HB5.out.drew.trans (hb6.mono (by simp; omega))
         have HM6 := Lib.hid hm6
         have HN6 : Hid (Mod w6 w3.heap.size (.slice Q1 ts.length k1) (.slice Q2 gs.length k2) (.slice Q3 rs.length k3) ts gs rs) := Mod.below (Mod.drew HM5.out) hb6
         clear hb6 hm6)
      | (go_at_call 16
         refine (c_eqModel x y z _ _ _ _ _ _ ts gs rs _ _ _ l1 l2 l3 HN6.out HM6.out).mono ?_
         rintro e w7 ⟨rfl, hb7⟩
         have s7 := hb7.size
         have HB7 : Hid (Below w.heap.size w w7) := HB6.out.trans (hb7.mono (by omega))
         clear hb7))
    all_goals
      go_wp2
      go_ret
      exact ⟨rfl, HB7.out⟩

/-! ### The row's step -/
theorem laid : laidOutB Try.prog = true := by kernel_rfl
set_option maxRecDepth 100000 in
theorem lifted (os : Os) (started : os.Started) (H : Type) (enc : TypeId × Value → H) :
    ReturnsInHanded {} Try.checked os 3 .any (Rows.fnExactMetalOfSpec.pre6 enc Try.prog Try.f3 Rows.fnExactMetalOfRow.domain false) (Rows.fnExactMetalOfSpec.post enc Try.prog Try.f3 false true false false) := by
  refine returnsInHanded_of_change (C := Try.checked) own started (by kernel_rfl) Try.func3
    (ChangeSpec.witness6 (enc := enc) (C := Try.checked) false ⟨#[], #[.agg #[.int .i64 0, .int .i64 0, .int .i64 0, .slice none 0 0, .slice none 0 0, .slice none 0 0], .int .i64 0], []⟩ 8 (by kernel_rfl) (by kernel_rfl) (by kernel_rfl) (by kernel_rfl)) ?_
  intro W base args ds gs before hval0 hW hcnd _
  have hval : ∀ (j : Nat) t v, Try.f3.params[j]? = some t → args[j]? = some v → Value.okWide Try.prog W .any base t v := hval0
  have hW' := hW
  have lts : ∀ x ∈ before, x.block < W.heap.size := fun x hx => by simpa using hW'.lt x hx
  obtain ⟨p, q, hA0, hV, rfl, hfz, hnd⟩ := hW
  have hA : DataW.TrodAll enc Try.prog W 0 (fun _ => true) true Try.f3.params.toList args.toList ds p := hA0
  rw [Try.params3] at hA hval
  obtain ⟨v0, vs0, d0, ds0, p0, q0, hargs, rfl, rfl, h0, r0⟩ := trodAll_cons hA
  obtain ⟨v1, vs1, d1, ds1, p1, q1, rfl, rfl, rfl, h1, r1⟩ := trodAll_cons r0
  obtain ⟨rfl, rfl, rfl⟩ := trodAll_nil r1
  obtain rfl : args = #[v0, v1] := by cases args; simp_all
  obtain ⟨rfl, rfl⟩ := trodVars_none hV
  have k0 := h0
  obtain ⟨x, y, z, m1, m2, m3, ts, gs, rs, rfl, hL⟩ := open_model (hval 0 26 v0 rfl rfl) h0
  have k1 := h1
  obtain ⟨a1, rfl, _, _, w1⟩ := open_int Try.underlying3 (hval 1 3 v1 rfl rfl) h1
  clear hA0 hval0
  simp only [List.append_nil] at hW' lts
  refine (walk x y z m1 m2 m3 ts gs rs a1 W hL w1).mono fun e W' ⟨he, bel⟩ => ?_
  subst he
  exact ⟨_, rfl, _, _, _, [], _, [], hW', trodAll_mk1 (shut_bool Try.underlying4 _), (trodAll_cons_mk (Below.trod laid (by kernel_rfl) (of_decide_eq_true (by kernel_rfl)) k0 bel (fun x hx => lts x (by simp [hx]))) (trodAll_cons_mk (Below.trod laid (by kernel_rfl) (of_decide_eq_true (by kernel_rfl)) k1 bel (fun x hx => lts x (by simp [hx]))) trodAll_mk0)), rfl, bel.frame _, fun h => by cases h⟩

theorem over : Rows.fnExactMetalOfRow.holds Try.pinned (OpenSpec.ofChange Rows.fnExactMetalOfSpec) :=
  OpenClaim.holds_of_wide 3 Try.f3 rfl rfl rfl rfl rfl rfl rfl ⟨rfl, rfl, rfl, rfl, rfl⟩ rfl rfl rfl rfl rfl (by kernel_rfl) Try.func3 (by kernel_rfl)
    (of_decide_eq_true (by kernel_rfl)) (by unfold Func.isWrapper; first | (rw [if_pos (by decide +kernel)]; kernel_rfl) | (rw [if_neg (by decide +kernel)]; exact ⟨rfl, rfl⟩))
    (fun os started H enc _ => lifted os started H enc)

end Go.Proofs.Ytglcdgonbmdhoaa.fnExactMetalOfProof
namespace Go.Proofs.Ytglcdgonbmdhoaa
theorem fnExactMetalOf_holds : Rows.FnExactMetalOfSaid := fnExactMetalOfProof.over
#print axioms fnExactMetalOf_holds
end Go.Proofs.Ytglcdgonbmdhoaa
