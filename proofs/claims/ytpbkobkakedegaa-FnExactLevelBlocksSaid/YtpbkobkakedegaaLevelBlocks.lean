/-
  The law FnExactLevelBlocks holds: for all arguments, LevelBlocks answers as its model does, its answer owns its memory, and the arguments read as they did. No conditions.
-/
import Derived.Test.YtpbkobkakedegaaRows
import Derived.Test.YtpbkobkakedegaaC10
import Derived.WalkKit
import Derived.Lib.Hide
import Derived.ProofKit
import Derived.OpenShut
import Derived.ShutString
import Derived.ChangeOld
import Derived.Below
import Derived.Lib.SmallJoins
namespace Go.Proofs.Ytpbkobkakedegaa.fnExactLevelBlocksProof
open Go.ChangeShapes Go.WideShapes Go.ChangeAt Go.RowKit Go.Joins
open Go.ChangeMaps (open_string shut_string)
set_option linter.unusedVariables false

theorem own : ownKnob Try.prog.godebug = none := by kernel_rfl
theorem cellsGrid : Try.prog.cellsOf 23 = 3 := by kernel_rfl

theorem len_le (x y z : Int) (a1 : Int) : (lvL x y z a1).length ≤ 120 := by
  unfold lvL
  split
  · rename_i h
    refine Nat.le_trans (sel_len _ _) ?_
    have hg : goodB x y z = true := by unfold lvB at h; simp at h; exact h.1
    have h1 := good_box hg
    have h2 := nB_eq hg
    omega
  · simp

/-! ### The walk -/
set_option maxHeartbeats 1000000 in
theorem walk (x y z : Int) (a1 : Int) (wx : (Lit.int .i64 x).wf = true) (wy : (Lit.int .i64 y).wf = true) (wz : (Lit.int .i64 z).wf = true) (w1 : (Lit.int .i64 a1).wf = true) (w : World) :
    Calls Try.prog 7 #[.agg #[.int .i64 x, .int .i64 y, .int .i64 z], .int .i64 a1] w fun e w' => e = .returned (.bool true) ∧ Below w.heap.size w w' := by
  have hlen := len_le x y z a1
  have CS := fun u => Lib.hid (c_LevelBlocksS x y z a1 u)
  have CI := fun u => Lib.hid (c_LevelBlocks x y z a1 u)
  clear wx wy wz w1
  generalize lvL x y z a1 = xs at hlen CS CI
  generalize lvB x y z a1 = b at CS CI
  have hnb : (b != b) = false := by simp
  have HL : Hid (∃ n, xs.length = n) := ⟨_, rfl⟩
  obtain ⟨n, hn⟩ := HL
  have HN := Lib.hid hn
  rw [hn] at hlen
  clear hn
  have hnq : ((1 + (n : Int)) != (1 + (n : Int))) = false := by simp
  have hpq : ¬ (1 + (n : Int)) < 0 := by omega
  go_enter Try.func7, Try.ntmps7
  go_wp2_with fail
  refine (c_toGrid _ _ _ _).mono ?_
  rintro e w1 ⟨rfl, hb1⟩
  obtain ⟨hc1, hf1⟩ := bcell hb1
  have s1 := hb1.size
  simp at s1
  have hz1 : w.heap.size < w1.heap.size := by omega
  go_wp2_with fail
  refine ((CS _).out).mono ?_
  rintro e w2 ⟨v2, rfl, hr2, hb2⟩
  have HR2 := Lib.hid hr2
  clear hr2
  obtain ⟨hc2, hf2⟩ := bcell hb2
  have s2 := hb2.size
  have hz2 : w.heap.size < w2.heap.size := by omega
  go_wp2_with fail
  refine (c_toGrid _ _ _ _).mono ?_
  rintro e w3 ⟨rfl, hb3⟩
  have s3 := hb3.size
  go_wp2_with fail
  refine ((CI _).out).mono ?_
  rintro e w4 ⟨v4, rfl, hr4, hb4⟩
  have HR4 := Lib.hid hr4
  clear hr4
  have s4 := hb4.size
  have HR24 : Hid (Row w4 w1.heap.size v2 xs) := (HR2.out.below hb3).below hb4
  go_wp2_with fail
  refine (c_eqIntS xs v4 v2 _ _ _ (by rw [HN.out]; omega) HR4.out HR24.out).mono ?_
  rintro e w5 ⟨rfl, hb5⟩
  have s5 := hb5.size
  have HR45 : Hid (Row w5 w3.heap.size v4 xs) := HR4.out.below hb5
  have HR25 : Hid (Row w5 w1.heap.size v2 xs) := HR24.out.below hb5
  have hne : Hid (v2.ownBlock = none ∨ v2.ownBlock ≠ v4.ownBlock) := by
    cases h2 : v2.ownBlock with
    | none => exact .inl rfl
    | some g =>
      refine .inr fun h4 => ?_
      have l2 := (World.ownsRow.lt HR2.out g h2).2
      have l4 := (World.ownsRow.lt HR4.out g h4.symm).1
      omega
  go_wp2_with fail
  refine (c_markIntS xs v4 _ 1 _ (by rw [HN.out]; omega) (by omega) (by omega) HR45.out).mono ?_
  rintro e w6 ⟨rfl, hr6, hg6⟩
  rw [HN.out] at hr6 ⊢
  have HR46 := Lib.hid hr6
  have HG6 := Lib.hid hg6
  clear hr6 hg6
  have HR26 : Hid (Row w6 w1.heap.size v2 xs) := World.ownsRow.kept HR25.out HG6.out hne.out
  have s6 := HG6.out.size
  have hb05 : Below w.heap.size w w5 := (((((Below.refl _ _).alloc (Nat.le_refl _) _).trans (hb1.mono (by simp))).trans (hb2.mono (by omega))).trans (hb3.mono (by omega))).trans ((hb4.mono (by omega)).trans (hb5.mono (by omega)))
  have hr4 : Hid (∀ k, v4.ownBlock = some k → w3.heap.size ≤ k) := fun k hk => (World.ownsRow.lt HR4.out k hk).1
  have hb06 : Below w.heap.size w w6 := hb05.grown HG6.out (by omega) (fun k hk => by have := hr4.out k hk; omega)
  have HC : Hid (∀ o, w6.cell? ⟨w.heap.size, o, none⟩ = w2.cell? ⟨w.heap.size, o, none⟩) := fun o => by
    rw [World.cell?_of_block (w := w5) (HG6.out.block w.heap.size (by omega) (fun h => by have := hr4.out _ h.symm; omega)), hb5.cell (p := ⟨w.heap.size, o, none⟩) (by show w.heap.size < _; omega), hb4.cell (p := ⟨w.heap.size, o, none⟩) (by show w.heap.size < _; omega), hb3.cell (p := ⟨w.heap.size, o, none⟩) hz2]
  have d0 := HC.out 0
  have d1 := HC.out 1
  have d2 := HC.out 2
  have hz6 : w.heap.size < w6.heap.size := by omega
  go_wp2_with fail
  refine (c_heldIntS v4 _ n 1 _ (by omega) (by omega) (by omega) HR46.out).mono ?_
  rintro e w6' ⟨rfl, rfl⟩
  go_wp2_with fail
  refine (c_toGrid _ _ _ _).mono ?_
  rintro e w7 ⟨rfl, hb7⟩
  have s7 := hb7.size
  go_wp2_with fail
  refine ((CI _).out).mono ?_
  rintro e w8 ⟨v8, rfl, hr8, hb8⟩
  have HR8 := Lib.hid hr8
  clear hr8
  have s8 := hb8.size
  have HR28 : Hid (Row w8 w1.heap.size v2 xs) := (HR26.out.below hb7).below hb8
  go_wp2_with fail
  refine (c_eqIntS xs v8 v2 _ _ _ (by rw [HN.out]; omega) HR8.out HR28.out).mono ?_
  rintro e w9 ⟨rfl, hb9⟩
  have s9 := hb9.size
  have HR49 : Hid (Row w9 w3.heap.size v4 (marks 1 n)) := ((HR46.out.below hb7).below hb8).below hb9
  go_wp2_with fail
  refine (c_heldIntS v4 _ n 1 _ (by omega) (by omega) (by omega) HR49.out).mono ?_
  rintro e w9' ⟨rfl, rfl⟩
  go_wp2
  go_ret
  exact ⟨rfl, hb06.trans ((hb7.mono (by omega)).trans ((hb8.mono (by omega)).trans (hb9.mono (by omega))))⟩

/-! ### The row's step -/
set_option maxRecDepth 100000 in
theorem lifted (os : Os) (started : os.Started) (H : Type) (enc : TypeId × Value → H) :
    ReturnsInHanded {} Try.checked os 7 .any (Rows.fnExactLevelBlocksSpec.pre6 enc Try.prog Try.f7 Rows.fnExactLevelBlocksRow.domain false) (Rows.fnExactLevelBlocksSpec.post enc Try.prog Try.f7 false true false false) := by
  refine returnsInHanded_of_change (C := Try.checked) own started (by kernel_rfl) Try.func7
    (ChangeSpec.witness6 (enc := enc) (C := Try.checked) false ⟨#[], #[.agg #[.int .i64 0, .int .i64 0, .int .i64 0], .int .i64 0], []⟩ 8 (by kernel_rfl) (by kernel_rfl) (by kernel_rfl) (by kernel_rfl)) ?_
  intro W base args ds gs before hval0 hW hcnd _
  have hval : ∀ (j : Nat) t v, Try.f7.params[j]? = some t → args[j]? = some v → Value.okWide Try.prog W .any base t v := hval0
  have hW' := hW
  obtain ⟨p, q, hA0, hV, rfl, hfz, hnd⟩ := hW
  have hA : DataW.TrodAll enc Try.prog W 0 (fun _ => true) true Try.f7.params.toList args.toList ds p := hA0
  rw [Try.params7] at hA hval
  obtain ⟨v0, vs0, d0, ds0, p0, q0, hargs, rfl, rfl, h0, r0⟩ := trodAll_cons hA
  obtain ⟨v1, vs1, d1, ds1, p1, q1, rfl, rfl, rfl, h1, r1⟩ := trodAll_cons r0
  obtain ⟨rfl, rfl, rfl⟩ := trodAll_nil r1
  obtain rfl : args = #[v0, v1] := by cases args; simp_all
  obtain ⟨rfl, rfl⟩ := trodVars_none hV
  obtain ⟨c0, c1, c2, y0, y1, y2, mg, rfl, rfl, rfl, hy0, hy1, hy2⟩ := open_agg3 Try.underlying23 (by kernel_rfl) cellsGrid (hval 0 23 v0 rfl rfl) h0
  obtain ⟨x, e0, rfl, wx⟩ := DataW.trod_int Try.underlying3 hy0
  obtain ⟨y, e1, rfl, wy⟩ := DataW.trod_int Try.underlying3 hy1
  obtain ⟨z, e2, rfl, wz⟩ := DataW.trod_int Try.underlying3 hy2
  simp at e0 e1 e2
  subst e0 e1 e2
  obtain ⟨a1, rfl, rfl, rfl, w1⟩ := open_int Try.underlying3 (hval 1 3 v1 rfl rfl) h1
  clear hA0 hval0
  simp only [List.append_nil] at hW'
  refine (walk x y z a1 wx wy wz w1 W).mono fun e W' ⟨he, bel⟩ => ?_
  subst he
  exact ⟨_, rfl, _, _, _, [], [], [], hW', trodAll_mk1 (shut_bool Try.underlying4 _), (trodAll_cons_mk (shut_agg3 (y0 := (.lit (.int .i64 x), [])) (y1 := (.lit (.int .i64 y), [])) (y2 := (.lit (.int .i64 z), [])) Try.underlying23 (by kernel_rfl) cellsGrid ⟨1, by simp [DataW.trod, Try.underlying3, wx]⟩ ⟨1, by simp [DataW.trod, Try.underlying3, wy]⟩ ⟨1, by simp [DataW.trod, Try.underlying3, wz]⟩) (trodAll_cons_mk (shut_int Try.underlying3 w1) trodAll_mk0)), rfl, bel.frame _, fun h => by cases h⟩

theorem over : Rows.fnExactLevelBlocksRow.holds Try.pinned (OpenSpec.ofChange Rows.fnExactLevelBlocksSpec) :=
  OpenClaim.holds_of_wide 7 Try.f7 rfl rfl rfl rfl rfl rfl rfl ⟨rfl, rfl, rfl, rfl, rfl⟩ rfl rfl rfl rfl rfl (by kernel_rfl) Try.func7 (by kernel_rfl)
    (of_decide_eq_true (by kernel_rfl)) (by unfold Func.isWrapper; first | (rw [if_pos (by decide +kernel)]; kernel_rfl) | (rw [if_neg (by decide +kernel)]; exact ⟨rfl, rfl⟩))
    (fun os started H enc _ => lifted os started H enc)

end Go.Proofs.Ytpbkobkakedegaa.fnExactLevelBlocksProof
namespace Go.Proofs.Ytpbkobkakedegaa
theorem fnExactLevelBlocks_holds : Rows.FnExactLevelBlocksSaid := fnExactLevelBlocksProof.over
#print axioms fnExactLevelBlocks_holds
end Go.Proofs.Ytpbkobkakedegaa
