/-
  The law FnExactTemplateOf holds: for every number, TemplateOf answers as its model does. No conditions.
-/
import Derived.Test.YthdbcncdihcggaaDoorCards
import Derived.Test.YthdbcncdihcggaaDoorTie
import Derived.Test.YthdbcncdihcggaaDoorO8
import Derived.Test.YthdbcncdihcggaaDoorL3
import Derived.Test.YthdbcncdihcggaaDoorOpenL
import Derived.WalkKit
import Derived.ProofKit
import Derived.OpenShut
import Derived.ShutString
import Derived.ChangeOld
import Derived.Below
import Derived.Carry
import Derived.Deep.RegionWith
import Derived.Lib.SmallJoins
import Derived.Lib.Hide
import Derived.Deep.DeepCutAuto
import Derived.Deep.DeepHandedRow
import Derived.Lib.LaidTab
import Derived.OpenVars
import Derived.Deep.DeepWitnessRowRef
import Derived.ChangeVars
namespace Go.Proofs.YthdbcncdihcggaaDoor.fnExactTemplateOfProof
open Go.ChangeShapes Go.WideShapes Go.ChangeAt Go.RowKit Go.Joins
open Go.ChangeMaps (open_string shut_string)
set_option linter.unusedVariables false

theorem own : ownKnob Tryd.prog.godebug = none := by kernel_rfl
theorem laid : laidOutB Tryd.prog = true := by kernel_rfl

/-! ### The walk -/
set_option maxHeartbeats 4000000 in
set_option maxRecDepth 100000 in
theorem walk (a0 : Int) (w : World) (w0 : (Lit.int IntKind.i64 a0).wf = true) (ht : TAB w) :
    Calls Tryd.prog 3 #[.int .i64 a0] w fun e w' => e = .returned (.bool true) ∧ Below w.heap.size w w' := by
  have HT := Lib.hid ht
  clear ht
  have HB0 : Hid (Below w.heap.size w w) := Below.refl _ _
  obtain ⟨nn, ys, bb, hyl, CS, CI⟩ : ∃ (nn : Nat) (ys : List Int) (bb : Bool), nn ≤ 1000000 ∧ Hid (∀ (u : World), Calls Tryd.prog 7 #[.int .i64 a0] u (GivesP2 u nn ys bb)) ∧ Hid (∀ (u : World), TAB u → Calls Tryd.prog 8 #[.int .i64 a0] u (GivesP2 u nn ys bb)) :=
    ⟨tofN a0, tofX a0, tofB a0, tofN_le a0, fun u => c_TemplateOfS a0 u, fun u hu => c_TemplateOf a0 u hu⟩
  have hnb : (bb != bb) = false := by simp
  have hnq : ((1 + (nn : Int) * 3) != (1 + (nn : Int) * 3)) = false := by simp
  have hpq : ¬ (1 + (nn : Int) * 3) < 0 := by omega
  clear w0
  go_enter Tryd.func3, Tryd.ntmps3
  go_wp2_with fail
  refine (CS.out _).mono ?_
  rintro e w1 ⟨Wv, rfl, hs, hb1⟩
  have HB1 : Hid (Below w.heap.size w w1) := HB0.out.trans (hb1.mono HB0.out.size)
  have WS_1 := Lib.hid hs
  clear hs hb1
  go_wp2_with fail
  refine (CI.out _ (HT.out.below HB1.out)).mono ?_
  rintro e w2 ⟨Gv, rfl, hs, hb2⟩
  have HB2 : Hid (Below w.heap.size w w2) := HB1.out.trans (hb2.mono HB1.out.size)
  have WS_2 := Lib.hid (WS_1.out.below hb2)
  have GS_2 := Lib.hid hs
  clear hs hb2
  have PC : Hid (Apart Wv.ownBlock Gv.ownBlock) := apart_row WS_1.out GS_2.out (Nat.le_refl _)
  go_wp2_with fail
  refine (c_eqOffsetS nn ys _ _ _ _ _ (by omega) GS_2.out WS_2.out).mono ?_
  rintro e w3 ⟨rfl, hb3⟩
  have HB3 : Hid (Below w.heap.size w w3) := HB2.out.trans (hb3.mono HB2.out.size)
  have WS_3 := Lib.hid (WS_2.out.below hb3)
  have GS_3 := Lib.hid (GS_2.out.below hb3)
  clear hb3
  go_wp2_with fail
  refine (c_markOffsetS nn ys _ _ 1 _ (by omega) (by omega) (by omega) GS_3.out).mono ?_
  rintro e w4 ⟨rfl, hr, hg⟩
  have GS_4 := Lib.hid hr
  have HG4 := Lib.hid hg
  clear hr hg
  have OG : Hid (w.heap.size ≤ w1.heap.size) := HB1.out.size
  have HB4 : Hid (Below w.heap.size w w4) := HB3.out.grown HG4.out HB3.out.size (fun k hk => Nat.le_trans OG.out (World.ownsRow.lt GS_3.out k hk).1)
  have WS_4 : Hid (RowP w4 _ Wv nn ys) := World.ownsRow.kept WS_3.out HG4.out PC.out
  go_wp2_with fail
  refine (c_heldOffsetS Gv _ nn 1 _ (by omega) (by omega) (by omega) GS_4.out).mono ?_
  rintro e w' ⟨rfl, rfl⟩
  go_wp2_with fail
  refine (CI.out _ (HT.out.below HB4.out)).mono ?_
  rintro e w5 ⟨Yv, rfl, hs, hb5⟩
  have HB5 : Hid (Below w.heap.size w w5) := HB4.out.trans (hb5.mono HB4.out.size)
  have WS_5 := Lib.hid (WS_4.out.below hb5)
  have GS_5 := Lib.hid (GS_4.out.below hb5)
  have YS_5 := Lib.hid hs
  clear hs hb5
  go_wp2_with fail
  refine (c_eqOffsetS nn ys _ _ _ _ _ (by omega) YS_5.out WS_5.out).mono ?_
  rintro e w6 ⟨rfl, hb6⟩
  have HB6 : Hid (Below w.heap.size w w6) := HB5.out.trans (hb6.mono HB5.out.size)
  have WS_6 := Lib.hid (WS_5.out.below hb6)
  have GS_6 := Lib.hid (GS_5.out.below hb6)
  clear hb6
  go_wp2_with fail
  refine (c_heldOffsetS Gv _ nn 1 _ (by omega) (by omega) (by omega) GS_6.out).mono ?_
  rintro e w' ⟨rfl, rfl⟩
  go_wp2
  go_ret
  exact ⟨rfl, HB6.out⟩


/-! ### The row's step -/
set_option maxRecDepth 100000 in
theorem contract (H : Type) (enc : TypeId × Value → H) (W : World) (base : Nat) (args : Array Value) (ds gs : List (DataW H)) (before : List MemPlace)
    (hval0 : ∀ (j : Nat) t v, Tryd.f3.params[j]? = some t → args[j]? = some v → Value.okWide Tryd.prog W .any base t v)
    (hW : DataW.Whole enc Tryd.prog Tryd.f3.params.toList Rows.fnExactTemplateOfSpec.vars false W args.toList ds gs before) (hlaid : laidMetH Tryd.prog Rows.fnExactTemplateOfRow.laid W) :
    Calls Tryd.prog 3 args W fun e W' => ∃ v, e = .returned v ∧ Rows.fnExactTemplateOfSpec.post enc Tryd.prog Tryd.f3 false true false false W args v W' := by
  have hval : ∀ (j : Nat) t v, Tryd.f3.params[j]? = some t → args[j]? = some v → Value.okWide Tryd.prog W .any base t v := hval0
  have hL0 : laidMet Tryd.prog (("loop.example/g00914/impl.standardTemplates", stdD) :: []) W := hlaid
  have hrk : TAB W := tab_of_laid hL0
  have hW' := hW
  have lts : ∀ x ∈ before, x.block < W.heap.size := fun x hx => by simpa using hW'.lt x hx
  obtain ⟨p, q, hA0, hV, rfl, hfz, hnd⟩ := hW
  have hA : DataW.TrodAll enc Tryd.prog W 0 (fun _ => true) true Tryd.f3.params.toList args.toList ds p := hA0
  rw [Tryd.params3] at hA hval
  obtain ⟨v0, vs0, d0, ds0, p0, q0, hargs, rfl, rfl, h0, r0⟩ := trodAll_cons hA
  obtain ⟨rfl, rfl, rfl⟩ := trodAll_nil r0
  obtain rfl : args = #[v0] := by cases args; simp_all
  obtain ⟨g9, t9, cs9, f9, d9, p9, rfl, _⟩ := trodVars_one hV
  have k0 := h0
  obtain ⟨a0, rfl, _, _, w0⟩ := open_int Tryd.underlying3 (hval 0 3 v0 rfl rfl) h0
  clear hA0 hval0
  simp only [List.append_nil] at hW' lts
  refine (walk a0 W w0 hrk).mono fun e W' ⟨he, bel⟩ => ?_
  subst he
  exact ⟨_, rfl, _, _, _, [], _, _, hW', trodAll_mk1 (shut_bool Tryd.underlying4 _), (trodAll_cons_mk (Below.trod laid (by kernel_rfl) (of_decide_eq_true (by kernel_rfl)) k0 bel (fun x hx => lts x (by simp [hx]))) trodAll_mk0), Below.trodVars laid bel (by kernel_rfl) hV, bel.frame _, fun h => by cases h⟩

/-- A world for the witness: the settled one, the listed table holding what its initialiser lays. -/
noncomputable def laidHeap0 (os : Os) : Array Obj :=
  Array.modify (World.holding Tryd.prog os ⟨#[], #[], []⟩).heap 0 fun
    | .cells _ t frozen => .cells #[.slice (some ⟨(World.holding Tryd.prog os ⟨#[], #[], []⟩).heap.size + 0, 0, none⟩) 1 1, .slice (some ⟨(World.holding Tryd.prog os ⟨#[], #[], []⟩).heap.size + 1, 0, none⟩) 5 5, .slice (some ⟨(World.holding Tryd.prog os ⟨#[], #[], []⟩).heap.size + 2, 0, none⟩) 9 9, .slice (some ⟨(World.holding Tryd.prog os ⟨#[], #[], []⟩).heap.size + 3, 0, none⟩) 9 9] t frozen
    | o => o
noncomputable def laidHeap1 (h0 : Array Obj) : Array Obj :=
  Array.push (Array.push (Array.push (Array.push (h0) (.cells #[.int .i64 (0), .int .i64 (0), .int .i64 (1)] 55)) (.cells #[.int .i64 (0), .int .i64 (-1), .int .i64 (1), .int .i64 (-1), .int .i64 (0), .int .i64 (1), .int .i64 (0), .int .i64 (0), .int .i64 (1), .int .i64 (1), .int .i64 (0), .int .i64 (1), .int .i64 (0), .int .i64 (1), .int .i64 (1)] 55)) (.cells #[.int .i64 (-1), .int .i64 (-1), .int .i64 (1), .int .i64 (0), .int .i64 (-1), .int .i64 (1), .int .i64 (1), .int .i64 (-1), .int .i64 (1), .int .i64 (-1), .int .i64 (0), .int .i64 (1), .int .i64 (0), .int .i64 (0), .int .i64 (1), .int .i64 (1), .int .i64 (0), .int .i64 (1), .int .i64 (-1), .int .i64 (1), .int .i64 (1), .int .i64 (0), .int .i64 (1), .int .i64 (1), .int .i64 (1), .int .i64 (1), .int .i64 (1)] 55)) (.cells #[.int .i64 (0), .int .i64 (-1), .int .i64 (1), .int .i64 (-1), .int .i64 (0), .int .i64 (1), .int .i64 (0), .int .i64 (0), .int .i64 (1), .int .i64 (1), .int .i64 (0), .int .i64 (1), .int .i64 (0), .int .i64 (1), .int .i64 (1), .int .i64 (0), .int .i64 (-2), .int .i64 (2), .int .i64 (-2), .int .i64 (0), .int .i64 (2), .int .i64 (2), .int .i64 (0), .int .i64 (2), .int .i64 (0), .int .i64 (2), .int .i64 (2)] 55)
noncomputable def laidWorld (os : Os) : World :=
  { World.holding Tryd.prog os ⟨#[], #[], []⟩ with heap := laidHeap1 (laidHeap0 os) }
set_option maxRecDepth 100000 in
theorem laid_met (os : Os) : laidMet Tryd.prog Rows.fnExactTemplateOfRow.laid ((laidWorld os).forCall (fun _ _ => 0) ⟨#[], #[.int .i64 0], []⟩).memory :=
  laidMet_of_run' 8 (by kernel_rfl) (by kernel_rfl)
theorem reads (os : Os) {H : Type} (enc : TypeId × Value → H) : ∃ x, DataW.whole enc Tryd.prog ((laidWorld os).forCall (fun _ _ => 0) ⟨#[], #[.int .i64 0], []⟩).memory Tryd.f3.params.toList Rows.fnExactTemplateOfSpec.vars false (#[.int .i64 0] : Array Value).toList 8 = some x :=
  Option.isSome_iff_exists.1 (by kernel_rfl)

set_option maxRecDepth 100000 in
theorem lifted (os : Os) (started : os.Started) (H : Type) (enc : TypeId × Value → H) (F : Stop.Interp) :
    ReturnsInHanded {} Tryd.checked os 3 .any ((OpenSpec.ofChange Rows.fnExactTemplateOfSpec).preRow enc Tryd.prog Tryd.f3 Rows.fnExactTemplateOfRow.domain false Rows.fnExactTemplateOfRow.laid) (((OpenSpec.ofChange Rows.fnExactTemplateOfSpec).at F).post enc Tryd.prog Tryd.f3 false true false false) := by
  obtain ⟨x, hx⟩ := reads os enc
  refine returnsInHanded_of_row (C := Tryd.checked) (s := OpenSpec.ofChange Rows.fnExactTemplateOfSpec) own started (by kernel_rfl) Tryd.func3
    (witness_row_atRef (enc := enc) (C := Tryd.checked) false (laidWorld os) #[.int .i64 0] rfl (by kernel_rfl) (by kernel_rfl) (by kernel_rfl)
      (OpenSpec.preRow_of_cond 8 hx (by kernel_rfl) (fun k hk => by cases hk) (by kernel_rfl) (laid_met os))) ?_
  intro W base args ds gs before hval hW _ _ _ hlaid _ _
  exact contract H enc W base args ds gs before hval hW hlaid

theorem said : Rows.FnExactTemplateOfSaid :=
  OpenClaim.holds_of_cond 3 Tryd.f3 rfl rfl rfl rfl rfl rfl rfl ⟨rfl, rfl, rfl, rfl, rfl⟩ rfl rfl rfl rfl rfl (by kernel_rfl) Tryd.func3 (by kernel_rfl)
    (of_decide_eq_true (by kernel_rfl)) (by unfold Func.isWrapper; first | (rw [if_pos (by decide +kernel)]; kernel_rfl) | (rw [if_neg (by decide +kernel)]; exact ⟨rfl, rfl⟩))
    (fun os started H enc _ F => by rw [OpenClaim.pre_eq_preRow]; exact lifted os started H enc F)

theorem plain (f : FuncId) (fn : Func) (hf : Tryd.pinned.checked.prog.funcNamed "loop.example/g00914/laws.FnExactTemplateOf" = some f) (hfn : Tryd.pinned.checked.prog.funcs[f]? = some fn) :
    false = Tryd.pinned.checked.prog.looks [] ∧ ∀ (j : Nat) t, fn.params[j]? = some t → Tryd.pinned.checked.prog.wantsStandIn t = false := by
  obtain rfl : f = 3 := Option.some.inj ((show Tryd.prog.funcNamed "loop.example/g00914/laws.FnExactTemplateOf" = some 3 by kernel_rfl).symm.trans hf) |>.symm
  obtain rfl : fn = Tryd.f3 := (Option.some.inj (Tryd.func3.symm.trans hfn)).symm
  refine ⟨by kernel_rfl, fun j t ht => ?_⟩
  rw [Tryd.params3] at ht
  have ht' : t = 3 := by simpa using Array.mem_of_getElem? ht
  subst ht'
  exact (show Tryd.prog.wantsStandIn 3 = false by kernel_rfl)
end Go.Proofs.YthdbcncdihcggaaDoor.fnExactTemplateOfProof
namespace Go.Proofs.YthdbcncdihcggaaDoor
theorem fnExactTemplateOf_holds : Rows.FnExactTemplateOfCardSaid :=
  Claim7.holds_tied_plain_at .later [] _ _ _ _ fnExactTemplateOfProof.said (fun _ h => by cases h) (by kernel_rfl) (fun _ h => by cases h) fnExactTemplateOf_row_tie rfl ⟨rfl, rfl⟩ (by kernel_rfl) rfl fnExactTemplateOfProof.plain (by kernel_rfl)
#print axioms fnExactTemplateOf_holds
end Go.Proofs.YthdbcncdihcggaaDoor
