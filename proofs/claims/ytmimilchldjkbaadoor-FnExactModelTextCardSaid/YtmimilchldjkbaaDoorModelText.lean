/-
  The law FnExactModelText holds: for all models, ModelText answers as its model does, and the model reads as it did. No conditions.
-/
import Derived.Test.YtmimilchldjkbaaDoorCards
import Derived.Test.YtmimilchldjkbaaDoorTie
import Derived.Test.YtmimilchldjkbaaDoorTX3
import Derived.Test.YtmimilchldjkbaaDoorM5
import Derived.Test.YtmimilchldjkbaaDoorOpen
import Derived.WalkKit
import Derived.ProofKit
import Derived.OpenShut
import Derived.ShutString
import Derived.ChangeOld
import Derived.Below
import Derived.Carry
import Derived.Deep.RegionWith
import Derived.Lib.SmallJoins
import Derived.Lib.Hide
import Derived.Deep.DeepCutAuto
import Derived.Deep.DeepHandedRow
import Derived.Lib.LaidTab
import Derived.OpenVars
import Derived.ChangeVars
import Derived.Deep.DeepWitnessRowRef
import Derived.Stop.LaidErr
namespace Go.Proofs.YtmimilchldjkbaaDoor.fnExactModelTextProof
open Go.ChangeShapes Go.WideShapes Go.ChangeAt Go.RowKit Go.Joins
open Go.ChangeMaps (open_string shut_string)
set_option linter.unusedVariables false

theorem own : ownKnob Tryd.prog.godebug = none := by kernel_rfl
theorem laid : laidOutB Tryd.prog = true := by kernel_rfl

theorem Mod.drew {w : World} {B : Nat} {v1 v2 v3 : Value} {ts gs rs : List Int} (h : Mod w B v1 v2 v3 ts gs rs) : Mod w.drew B v1 v2 v3 ts gs rs := ⟨h.t.draws 1, h.g.draws 1, h.r.draws 1, h.tg, h.tr, h.gr⟩

/-! ### The walk -/
set_option maxHeartbeats 8000000 in
set_option maxRecDepth 100000 in
theorem walk (x y z : Int) (v1 v2 v3 : Value) (ts gs rs : List Int) (w : World) (hL : Look w v1 v2 v3 ts gs rs) (htb : TB w) :
    Calls Tryd.prog 7 #[.agg #[.int .i64 x, .int .i64 y, .int .i64 z, v1, v2, v3]] w fun e w' => e = .returned (.bool true) ∧ Below w.heap.size w w' := by
  have HL := Lib.hid hL
  have HTB := Lib.hid htb
  clear htb
  have m1 := hL.t
  have m2 := hL.g
  have m3 := hL.r
  obtain ⟨A1, c1, rfl, t1, _⟩ := m1
  obtain ⟨A2, c2, rfl, t2, _⟩ := m2
  obtain ⟨A3, c3, rfl, t3, _⟩ := m3
  have b1 : ts.length ≤ 9223372036854775807 := by unfold maxLen at t1; omega
  have b2 : gs.length ≤ 9223372036854775807 := by unfold maxLen at t2; omega
  have b3 : rs.length ≤ 9223372036854775807 := by unfold maxLen at t3; omega
  clear hL t1 t2 t3
  have hne1 : (moB x y z ts gs rs != moB x y z ts gs rs) = false := by simp
  go_enter Tryd.func7, Tryd.ntmps7
  go_wp2_with fail
  refine (c_szModel x y z _ _ _ _ _ _ _ _ _ _ b1 b2 b3).mono ?_
  rintro e w1 ⟨⟨r, rfl, hsz⟩, hb1⟩
  obtain ⟨hc1, hf1⟩ := bcell hb1
  have s1 := hb1.size
  simp at s1 hc1 hf1
  have p10 : w.heap.size < w1.heap.size := by omega
  have HB1 : Hid (Below w.heap.size w w1) := ((Below.refl _ _).alloc (Nat.le_refl _) _).trans (hb1.mono (by simp))
  clear hb1
  rcases hsz with ⟨_, rfl⟩ | ⟨hsz, hr⟩
  · go_wp2
    go_ret
    exact ⟨rfl, HB1.out⟩
  · have hr0 : ¬ r < 0 := by omega
    have l1 : ts.length ≤ 4000000 := by omega
    have l2 : gs.length ≤ 4000000 := by omega
    have l3 : rs.length ≤ 4000000 := by omega
    clear hr
    go_wp2_with fail
    refine (c_toModel x y z _ _ _ ts gs rs _ l1 l2 l3 (HL.out.t.below HB1.out) (HL.out.g.below HB1.out) (HL.out.r.below HB1.out)).mono ?_
    rintro e w2 ⟨p1, p2, p3, rfl, hm2, hb2⟩
    obtain ⟨hc2, hf2⟩ := bcell hb2
    have s2 := hb2.size
    have p20 : w.heap.size < w2.heap.size := by omega
    have HB2 : Hid (Below w.heap.size w w2) := HB1.out.trans (hb2.mono (by omega))
    have HM2 := Lib.hid hm2
    clear hb2 hm2
    go_wp2_with fail
    refine (c_ModelTextS x y z _ _ _ ts gs rs _ l1 l2 l3 HM2.out.look).mono ?_
    rintro e w3 ⟨rfl, hb3⟩
    obtain ⟨hc3, hf3⟩ := bcell hb3
    have s3 := hb3.size
    have p30 : w.heap.size < w3.heap.size := by omega
    have HB3 : Hid (Below w.heap.size w w3) := HB2.out.trans (hb3.mono (by omega))
    clear hb3
    go_wp2_with fail
    refine (c_toModel x y z _ _ _ ts gs rs _ l1 l2 l3 (HL.out.t.below HB3.out) (HL.out.g.below HB3.out) (HL.out.r.below HB3.out)).mono ?_
    rintro e w4 ⟨q1, q2, q3, rfl, hm4, hb4⟩
    obtain ⟨hc4, hf4⟩ := bcell hb4
    have s4 := hb4.size
    have p40 : w.heap.size < w4.heap.size := by omega
    have HB4 : Hid (Below w.heap.size w w4) := HB3.out.trans (hb4.mono (by omega))
    obtain ⟨Q1, k1, rfl⟩ := hm4.t.shape
    obtain ⟨Q2, k2, rfl⟩ := hm4.g.shape
    obtain ⟨Q3, k3, rfl⟩ := hm4.r.shape
    have HM4 := Lib.hid hm4
    clear hb4 hm4
    go_wp2_with fail
    have HB4' : Hid (Below w.heap.size w (w4.alloc (Obj.cells #[.int .i64 x, .int .i64 y, .int .i64 z, .slice Q1 ts.length k1, .slice Q2 gs.length k2, .slice Q3 rs.length k3] 49))) := HB4.out.alloc (by omega) _
    have HM4' : Hid (Mod (w4.alloc (Obj.cells #[.int .i64 x, .int .i64 y, .int .i64 z, .slice Q1 ts.length k1, .slice Q2 gs.length k2, .slice Q3 rs.length k3] 49)) w3.heap.size (.slice Q1 ts.length k1) (.slice Q2 gs.length k2) (.slice Q3 rs.length k3) ts gs rs) := HM4.out.below ((Below.refl _ _).alloc (Nat.le_refl _) _)
    refine (c_ModelText x y z _ _ _ ts gs rs _ l1 l2 l3 HM4'.out.look (tabIs_below HTB.out HB4'.out)).mono ?_
    rintro e w5 ⟨rfl, hb5⟩
    obtain ⟨hc5, hf5⟩ := bcell hb5
    have s5 := hb5.size
    simp at s5 hc5 hf5
    have p50 : w.heap.size < w5.heap.size := by omega
    have p51 : w4.heap.size < w5.heap.size := by omega
    have HB5 : Hid (Below w.heap.size w w5) := HB4'.out.trans (hb5.mono (by simp; omega))
    have HM5 := Lib.hid (HM4'.out.below hb5)
    clear hb5
    go_wp2_with fail
    go_region_with (first
      | (go_at_call 24
         refine (c_toModel x y z _ _ _ ts gs rs _ l1 l2 l3 (HL.out.t.below (by exact HB5.out.drew)) (HL.out.g.below (by exact HB5.out.drew)) (HL.out.r.below (by exact HB5.out.drew))).mono ?_
         rintro e w6 ⟨r1, r2, r3, rfl, hm6, hb6⟩
         obtain ⟨hc6, hf6⟩ := bcell hb6
         have s6 := hb6.size
         simp at s6 hc6 hf6
         have p60 : w4.heap.size < w6.heap.size := by omega
         have HB6 : Hid (Below w.heap.size w w6) := HB5.out.drew.trans (hb6.mono (by simp; omega))
         have HM6 := Lib.hid hm6
         have HN6 : Hid (Mod w6 w3.heap.size (.slice Q1 ts.length k1) (.slice Q2 gs.length k2) (.slice Q3 rs.length k3) ts gs rs) := Mod.below (Mod.drew HM5.out) hb6
         clear hb6 hm6)
      | (go_at_call 26
         refine (c_eqModel x y z _ _ _ _ _ _ ts gs rs _ _ _ l1 l2 l3 HN6.out HM6.out).mono ?_
         rintro e w7 ⟨rfl, hb7⟩
         have s7 := hb7.size
         have HB7 : Hid (Below w.heap.size w w7) := HB6.out.trans (hb7.mono (by omega))
         clear hb7))
    all_goals
      go_wp2
      go_ret
      exact ⟨rfl, HB7.out⟩


/-! ### The row's step -/
set_option maxRecDepth 100000 in
theorem contract (H : Type) (enc : TypeId × Value → H) (W : World) (base : Nat) (args : Array Value) (ds gs : List (DataW H)) (before : List MemPlace)
    (hval0 : ∀ (j : Nat) t v, Tryd.f7.params[j]? = some t → args[j]? = some v → Value.okWide Tryd.prog W .any base t v)
    (hW : DataW.Whole enc Tryd.prog Tryd.f7.params.toList Rows.fnExactModelTextSpec.vars false W args.toList ds gs before) (hlaid : laidMetH Tryd.prog Rows.fnExactModelTextRow.laid W) :
    Calls Tryd.prog 7 args W fun e W' => ∃ v, e = .returned v ∧ Rows.fnExactModelTextSpec.post enc Tryd.prog Tryd.f7 false true false false W args v W' := by
  have hval : ∀ (j : Nat) t v, Tryd.f7.params[j]? = some t → args[j]? = some v → Value.okWide Tryd.prog W .any base t v := hval0
  have hL0 : laidMet Tryd.prog (("math/bits.deBruijn32tab", Rows.laid_math_bits_deBruijn32tab) :: ("math/bits.deBruijn64tab", Rows.laid_math_bits_deBruijn64tab) :: [("internal/strconv.uint64pow10", Lib.tabData .u64 Lib.pow10Tab)]) W := hlaid
  have hrk : TB W := Lib.tabIs_of_head (g := 6) (t := 229) (e := 211) (n := 20) (by kernel_rfl) (by kernel_rfl) (by kernel_rfl) (by kernel_rfl) (by kernel_rfl) (by kernel_rfl) hL0.tail.tail
  have hW' := hW
  have lts : ∀ x ∈ before, x.block < W.heap.size := fun x hx => by simpa using hW'.lt x hx
  obtain ⟨p, q, hA0, hV, rfl, hfz, hnd⟩ := hW
  have hA : DataW.TrodAll enc Tryd.prog W 0 (fun _ => true) true Tryd.f7.params.toList args.toList ds p := hA0
  rw [Tryd.params7] at hA hval
  obtain ⟨v0, vs0, d0, ds0, p0, q0, hargs, rfl, rfl, h0, r0⟩ := trodAll_cons hA
  obtain ⟨rfl, rfl, rfl⟩ := trodAll_nil r0
  obtain rfl : args = #[v0] := by cases args; simp_all
  obtain ⟨rfl, rfl⟩ := trodVars_none hV
  have k0 := h0
  obtain ⟨x, y, z, m1, m2, m3, ts, gs, rs, rfl, hL⟩ := open_model (hval 0 46 v0 rfl rfl) h0
  clear hA0 hval0
  simp only [List.append_nil] at hW' lts
  refine (walk x y z m1 m2 m3 ts gs rs W hL hrk).mono fun e W' ⟨he, bel⟩ => ?_
  subst he
  exact ⟨_, rfl, _, _, _, [], _, [], hW', trodAll_mk1 (shut_bool Tryd.underlying4 _), (trodAll_cons_mk (Below.trod laid (by kernel_rfl) (of_decide_eq_true (by kernel_rfl)) k0 bel (fun x hx => lts x (by simp [hx]))) trodAll_mk0), rfl, bel.frame _, fun h => by cases h⟩

/-- A world for the witness: the settled one, the listed tables holding what their initialisers lay. -/
noncomputable def laidWorld (os : Os) : World :=
  { World.holding Tryd.prog os ⟨#[], #[], []⟩ with heap := ((((World.holding Tryd.prog os ⟨#[], #[], []⟩).heap.modify 12 fun
      | .cells _ t frozen => .cells #[.int .u8 (0), .int .u8 (1), .int .u8 (28), .int .u8 (2), .int .u8 (29), .int .u8 (14), .int .u8 (24), .int .u8 (3), .int .u8 (30), .int .u8 (22), .int .u8 (20), .int .u8 (15), .int .u8 (25), .int .u8 (17), .int .u8 (4), .int .u8 (8), .int .u8 (31), .int .u8 (27), .int .u8 (13), .int .u8 (23), .int .u8 (21), .int .u8 (19), .int .u8 (16), .int .u8 (7), .int .u8 (26), .int .u8 (12), .int .u8 (18), .int .u8 (6), .int .u8 (11), .int .u8 (5), .int .u8 (10), .int .u8 (9)] t frozen
      | o => o).modify 13 fun
      | .cells _ t frozen => .cells #[.int .u8 (0), .int .u8 (1), .int .u8 (56), .int .u8 (2), .int .u8 (57), .int .u8 (49), .int .u8 (28), .int .u8 (3), .int .u8 (61), .int .u8 (58), .int .u8 (42), .int .u8 (50), .int .u8 (38), .int .u8 (29), .int .u8 (17), .int .u8 (4), .int .u8 (62), .int .u8 (47), .int .u8 (59), .int .u8 (36), .int .u8 (45), .int .u8 (43), .int .u8 (51), .int .u8 (22), .int .u8 (53), .int .u8 (39), .int .u8 (33), .int .u8 (30), .int .u8 (24), .int .u8 (18), .int .u8 (12), .int .u8 (5), .int .u8 (63), .int .u8 (55), .int .u8 (48), .int .u8 (27), .int .u8 (60), .int .u8 (41), .int .u8 (37), .int .u8 (16), .int .u8 (46), .int .u8 (35), .int .u8 (44), .int .u8 (21), .int .u8 (52), .int .u8 (32), .int .u8 (23), .int .u8 (11), .int .u8 (54), .int .u8 (26), .int .u8 (40), .int .u8 (15), .int .u8 (34), .int .u8 (20), .int .u8 (31), .int .u8 (10), .int .u8 (25), .int .u8 (14), .int .u8 (19), .int .u8 (9), .int .u8 (13), .int .u8 (8), .int .u8 (7), .int .u8 (6)] t frozen
      | o => o).modify 6 fun
      | .cells _ t frozen => .cells #[.int .u64 (1), .int .u64 (10), .int .u64 (100), .int .u64 (1000), .int .u64 (10000), .int .u64 (100000), .int .u64 (1000000), .int .u64 (10000000), .int .u64 (100000000), .int .u64 (1000000000), .int .u64 (10000000000), .int .u64 (100000000000), .int .u64 (1000000000000), .int .u64 (10000000000000), .int .u64 (100000000000000), .int .u64 (1000000000000000), .int .u64 (10000000000000000), .int .u64 (100000000000000000), .int .u64 (1000000000000000000), .int .u64 (10000000000000000000)] t frozen
      | o => o) }

set_option maxRecDepth 100000 in
theorem laid_met (os : Os) : laidMet Tryd.prog Rows.fnExactModelTextRow.laid ((laidWorld os).forCall (fun _ _ => 0) ⟨#[], #[.agg #[.int .i64 0, .int .i64 0, .int .i64 0, .slice none 0 0, .slice none 0 0, .slice none 0 0]], []⟩).memory :=
  laidMet_of_run' 8 (by kernel_rfl) (by kernel_rfl)
theorem reads (os : Os) {H : Type} (enc : TypeId × Value → H) : ∃ x, DataW.whole enc Tryd.prog ((laidWorld os).forCall (fun _ _ => 0) ⟨#[], #[.agg #[.int .i64 0, .int .i64 0, .int .i64 0, .slice none 0 0, .slice none 0 0, .slice none 0 0]], []⟩).memory Tryd.f7.params.toList Rows.fnExactModelTextSpec.vars false (#[.agg #[.int .i64 0, .int .i64 0, .int .i64 0, .slice none 0 0, .slice none 0 0, .slice none 0 0]] : Array Value).toList 8 = some x :=
  Option.isSome_iff_exists.1 (by kernel_rfl)

set_option maxRecDepth 100000 in
theorem lifted (os : Os) (started : os.Started) (H : Type) (enc : TypeId × Value → H) (F : Stop.Interp) :
    ReturnsInHanded {} Tryd.checked os 7 .any ((OpenSpec.ofChange Rows.fnExactModelTextSpec).preRow enc Tryd.prog Tryd.f7 Rows.fnExactModelTextRow.domain false Rows.fnExactModelTextRow.laid) (((OpenSpec.ofChange Rows.fnExactModelTextSpec).at F).post enc Tryd.prog Tryd.f7 false true false false) := by
  obtain ⟨x, hx⟩ := reads os enc
  refine returnsInHanded_of_row (C := Tryd.checked) (s := OpenSpec.ofChange Rows.fnExactModelTextSpec) own started (by kernel_rfl) Tryd.func7
    (witness_row_at (enc := enc) (C := Tryd.checked) false (laidWorld os) #[.agg #[.int .i64 0, .int .i64 0, .int .i64 0, .slice none 0 0, .slice none 0 0, .slice none 0 0]] rfl (by kernel_rfl) (by kernel_rfl) (by kernel_rfl)
      (OpenSpec.preRow_of_cond 8 hx (by kernel_rfl) (fun k hk => by cases hk) (by kernel_rfl) (laid_met os))) ?_
  intro W base args ds gs before hval hW _ _ _ hlaid _ _
  exact contract H enc W base args ds gs before hval hW hlaid

theorem said : Rows.FnExactModelTextSaid :=
  OpenClaim.holds_of_cond 7 Tryd.f7 rfl rfl rfl rfl rfl rfl rfl ⟨rfl, rfl, rfl, rfl, rfl⟩ rfl rfl rfl rfl rfl (by kernel_rfl) Tryd.func7 (by kernel_rfl)
    (of_decide_eq_true (by kernel_rfl)) (by unfold Func.isWrapper; first | (rw [if_pos (by decide +kernel)]; kernel_rfl) | (rw [if_neg (by decide +kernel)]; exact ⟨rfl, rfl⟩))
    (fun os started H enc _ F => by rw [OpenClaim.pre_eq_preRow]; exact lifted os started H enc F)

theorem plain (f : FuncId) (fn : Func) (hf : Tryd.pinned.checked.prog.funcNamed "loop.example/g00914/laws.FnExactModelText" = some f) (hfn : Tryd.pinned.checked.prog.funcs[f]? = some fn) :
    true = Tryd.pinned.checked.prog.looks [] ∧ ∀ (j : Nat) t, fn.params[j]? = some t → Tryd.pinned.checked.prog.wantsStandIn t = false := by
  obtain rfl : f = 7 := Option.some.inj ((show Tryd.prog.funcNamed "loop.example/g00914/laws.FnExactModelText" = some 7 by kernel_rfl).symm.trans hf) |>.symm
  obtain rfl : fn = Tryd.f7 := (Option.some.inj (Tryd.func7.symm.trans hfn)).symm
  refine ⟨by kernel_rfl, fun j t ht => ?_⟩
  rw [Tryd.params7] at ht
  have ht' : t = 46 := by simpa using Array.mem_of_getElem? ht
  subst ht'
  exact (show Tryd.prog.wantsStandIn 46 = false by kernel_rfl)
end Go.Proofs.YtmimilchldjkbaaDoor.fnExactModelTextProof
namespace Go.Proofs.YtmimilchldjkbaaDoor
theorem fnExactModelText_holds : Rows.FnExactModelTextCardSaid :=
  Claim7.holds_tied_plain_at .later [] _ _ _ _ fnExactModelTextProof.said (fun _ h => by cases h) (by kernel_rfl) (fun _ h => by cases h) fnExactModelText_row_tie rfl ⟨rfl, rfl⟩ (by kernel_rfl) rfl fnExactModelTextProof.plain (by kernel_rfl)
#print axioms fnExactModelText_holds
end Go.Proofs.YtmimilchldjkbaaDoor
