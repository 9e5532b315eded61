/-
  The law FnExactJoinPieces holds: for all lists of pieces, the program answers as its model does, and the argument reads as it did. No conditions.
-/
import Derived.Test.YtnpbjomohncaaaaDoorCards
import Derived.Test.YtnpbjomohncaaaaDoorTie
import Derived.Test.YtnpbjomohncaaaaDoorQ8
import Derived.Test.YtnpbjomohncaaaaDoorJ5
import Derived.Test.YtnpbjomohncaaaaDoorOpen
import Derived.WalkKit
import Derived.ProofKit
import Derived.OpenShut
import Derived.ShutString
import Derived.ChangeOld
import Derived.Below
import Derived.Carry
import Derived.Deep.RegionWith
import Derived.Lib.SmallJoins
import Derived.Lib.Hide
import Derived.Deep.DeepCutAuto
import Derived.Deep.DeepHandedRow
import Derived.Lib.LaidTab
import Derived.OpenVars
import Derived.ChangeVars
namespace Go.Proofs.YtnpbjomohncaaaaDoor.fnExactJoinPiecesProof
open Go.ChangeShapes Go.WideShapes Go.ChangeAt Go.RowKit Go.Joins
open Go.ChangeMaps (open_string shut_string)
set_option linter.unusedVariables false

theorem own : ownKnob Tryd.prog.godebug = none := by kernel_rfl
theorem laid : laidOutB Tryd.prog = true := by kernel_rfl

/-! ### The walk -/
set_option maxHeartbeats 4000000 in
set_option maxRecDepth 100000 in
theorem walk (n : Nat) (xs : List Int) (v0 : Value) (w : World) (hS : SeenP w v0 n xs) (hrk : RK w) :
    Calls Tryd.prog 3 #[v0] w fun e w' => e = .returned (.bool true) ∧ Below w.heap.size w w' := by
  have HS := Lib.hid hS
  have HK := Lib.hid hrk
  obtain ⟨A, c, rfl, hm, hx, _⟩ := hS
  have b1 : n ≤ 9223372036854775807 := by unfold maxLen at hm; omega
  clear hm hx hrk
  have HB0 : Hid (Below w.heap.size w w) := Below.refl _ _
  by_cases l1 : n ≤ 1048576
  case neg =>
    go_enter Tryd.func3, Tryd.ntmps3
    go_wp2_with fail
    refine (c_szPieceS A n c 1048576 _ (by omega) (by omega) b1).mono ?_
    rintro e w' ⟨rfl, rfl⟩
    rw [if_neg (by omega)]
    go_wp2
    go_ret
    exact ⟨rfl, HB0.out⟩
  case pos =>
    have q1 : ¬ (1048576 - (n : Int)) < 0 := by omega
    obtain ⟨zt, zm, zr, zb, CS, CI⟩ : ∃ (zt zm zr : Int) (zb : Bool), Hid (∀ (p : Value) (u : World), SeenP u p n xs → Calls Tryd.prog 6 #[p] u (fun e u' => e = .returned (.tuple #[.agg #[.int .i64 zt, .int .i64 zm, .int .i64 zr], .bool zb]) ∧ Below u.heap.size u u')) ∧ Hid (∀ (p : Value) (u : World), SeenP u p n xs → RK u → Calls Tryd.prog 8 #[p] u (fun e u' => e = .returned (.tuple #[.agg #[.int .i64 zt, .int .i64 zm, .int .i64 zr], .bool zb]) ∧ Below u.heap.size u u')) :=
      ⟨joT n xs, joM n xs, joR n xs, joB n xs, fun p u hu => c_JoinPiecesS n xs p u l1 hu, fun p u hu hk => c_JoinPieces n xs p u l1 hu hk⟩
    have hnb : (zb != zb) = false := by simp
    go_enter Tryd.func3, Tryd.ntmps3
    go_wp2_with fail
    refine (c_szPieceS A n c 1048576 _ (by omega) (by omega) b1).mono ?_
    rintro e w' ⟨rfl, rfl⟩
    rw [if_pos (by omega)]
    go_wp2_with fail
    refine (c_toPieceS n xs _ _ l1 (HS.out.below HB0.out)).mono ?_
    rintro e w1 ⟨Sv, rfl, hs, hb⟩
    have HB1 : Hid (Below w.heap.size w w1) := HB0.out.trans (hb.mono HB0.out.size)
    have SP_1 := Lib.hid hs
    clear hs
    clear hb
    go_wp2_with fail
    refine (CS.out _ _ SP_1.out.seen).mono ?_
    rintro e w2 ⟨rfl, hb⟩
    have HB2 : Hid (Below w.heap.size w w2) := HB1.out.trans (hb.mono HB1.out.size)
    clear hb
    go_wp2_with fail
    have hbx : Below w2.heap.size w2 (w2.alloc (.cells #[.int .i64 zt, .int .i64 zm, .int .i64 zr] 25)) := (Below.refl _ _).alloc (Nat.le_refl _) _
    have HB2x : Hid (Below w.heap.size w (w2.alloc (.cells #[.int .i64 zt, .int .i64 zm, .int .i64 zr] 25))) := HB2.out.trans (hbx.mono HB2.out.size)
    have WT_2x : Hid (Tri (w2.alloc (.cells #[.int .i64 zt, .int .i64 zm, .int .i64 zr] 25)) w2.heap.size zt zm zr) := ⟨by simp, by simp, by simp, by simp, fun i => by simp⟩
    clear hbx
    refine (c_toPieceS n xs _ _ l1 (HS.out.below HB2x.out)).mono ?_
    rintro e w3 ⟨Xv, rfl, hs, hb⟩
    have HB3 : Hid (Below w.heap.size w w3) := HB2x.out.trans (hb.mono HB2x.out.size)
    have WT_3 := Lib.hid (WT_2x.out.below hb)
    have wt_3lt := WT_3.out.lt
    have wt_3c0 := WT_3.out.c0
    have wt_3c1 := WT_3.out.c1
    have wt_3c2 := WT_3.out.c2
    have XP_3 := Lib.hid hs
    clear hs
    clear hb
    go_wp2_with fail
    refine (CI.out _ _ XP_3.out.seen (HK.out.below HB3.out)).mono ?_
    rintro e w4 ⟨rfl, hb⟩
    have HB4 : Hid (Below w.heap.size w w4) := HB3.out.trans (hb.mono HB3.out.size)
    have WT_4 := Lib.hid (WT_3.out.below hb)
    have wt_4lt := WT_4.out.lt
    have wt_4c0 := WT_4.out.c0
    have wt_4c1 := WT_4.out.c1
    have wt_4c2 := WT_4.out.c2
    have XP_4 := Lib.hid (XP_3.out.below hb)
    clear hb
    go_wp2_with fail
    have hbx : Below w4.heap.size w4 (w4.alloc (.cells #[.int .i64 zt, .int .i64 zm, .int .i64 zr] 25)) := (Below.refl _ _).alloc (Nat.le_refl _) _
    have HB4x : Hid (Below w.heap.size w (w4.alloc (.cells #[.int .i64 zt, .int .i64 zm, .int .i64 zr] 25))) := HB4.out.trans (hbx.mono HB4.out.size)
    have GT_4x : Hid (Tri (w4.alloc (.cells #[.int .i64 zt, .int .i64 zm, .int .i64 zr] 25)) w4.heap.size zt zm zr) := ⟨by simp, by simp, by simp, by simp, fun i => by simp⟩
    have WT_4x := Lib.hid (WT_4.out.below hbx)
    have wt_4xc0 := WT_4x.out.c0
    have wt_4xc1 := WT_4x.out.c1
    have wt_4xc2 := WT_4x.out.c2
    have XP_4x := Lib.hid (XP_4.out.below hbx)
    clear hbx
    go_wp2_with fail
    refine (c_eqPiece _ _ _ _).mono ?_
    rintro e w5 ⟨rfl, hb⟩
    have HB5 : Hid (Below w.heap.size w w5) := HB4x.out.trans (hb.mono HB4x.out.size)
    have WT_5 := Lib.hid (WT_4x.out.below hb)
    have wt_5lt := WT_5.out.lt
    have wt_5c0 := WT_5.out.c0
    have wt_5c1 := WT_5.out.c1
    have wt_5c2 := WT_5.out.c2
    have XP_5 := Lib.hid (XP_4x.out.below hb)
    have GT_5 := Lib.hid (GT_4x.out.below hb)
    have gt_5lt := GT_5.out.lt
    have gt_5c0 := GT_5.out.c0
    have gt_5c1 := GT_5.out.c1
    have gt_5c2 := GT_5.out.c2
    clear hb
    go_wp2_with fail
    refine (c_toPieceS n xs _ _ l1 (HS.out.below HB5.out)).mono ?_
    rintro e w6 ⟨Yv, rfl, hs, hb⟩
    have HB6 : Hid (Below w.heap.size w w6) := HB5.out.trans (hb.mono HB5.out.size)
    have XP_6 := Lib.hid (XP_5.out.below hb)
    have YP_6 := Lib.hid hs
    clear hs
    clear hb
    go_wp2_with fail
    refine (c_eqPieceS n xs _ _ _ _ _ l1 XP_6.out YP_6.out).mono ?_
    rintro e w7 ⟨rfl, hb⟩
    have HB7 : Hid (Below w.heap.size w w7) := HB6.out.trans (hb.mono HB6.out.size)
    clear hb
    go_wp2
    go_ret
    exact ⟨rfl, HB7.out⟩


/-! ### The row's step -/
set_option maxRecDepth 100000 in
theorem contract (H : Type) (enc : TypeId × Value → H) (W : World) (base : Nat) (args : Array Value) (ds gs : List (DataW H)) (before : List MemPlace)
    (hval0 : ∀ (j : Nat) t v, Tryd.f3.params[j]? = some t → args[j]? = some v → Value.okWide Tryd.prog W .any base t v)
    (hW : DataW.Whole enc Tryd.prog Tryd.f3.params.toList Rows.fnExactJoinPiecesSpec.vars false W args.toList ds gs before) (hlaid : laidMetH Tryd.prog Rows.fnExactJoinPiecesRow.laid W) :
    Calls Tryd.prog 3 args W fun e W' => ∃ v, e = .returned v ∧ Rows.fnExactJoinPiecesSpec.post enc Tryd.prog Tryd.f3 false true false false W args v W' := by
  have hval : ∀ (j : Nat) t v, Tryd.f3.params[j]? = some t → args[j]? = some v → Value.okWide Tryd.prog W .any base t v := hval0
  have hL0 : laidMet Tryd.prog [("loop.example/g00914/impl.rockOrder", Lib.tabData .i64 [0, 1, 2, 3, 4])] W := hlaid
  have htab : Lib.TabIs Tryd.prog W "loop.example/g00914/impl.rockOrder" .i64 [0, 1, 2, 3, 4] := Lib.tabIs_of_head (g := 0) (t := 69) (e := 3) (n := 5) (by kernel_rfl) (by kernel_rfl) (by kernel_rfl) (by kernel_rfl) (by kernel_rfl) (by kernel_rfl) hL0
  have hrk : RK W := fun i hi => by
    have := htab.cell (g := 0) (by kernel_rfl) i (by simpa using hi)
    rcases (show i = 0 ∨ i = 1 ∨ i = 2 ∨ i = 3 ∨ i = 4 by omega) with rfl | rfl | rfl | rfl | rfl <;> exact this
  have hW' := hW
  have lts : ∀ x ∈ before, x.block < W.heap.size := fun x hx => by simpa using hW'.lt x hx
  obtain ⟨p, q, hA0, hV, rfl, hfz, hnd⟩ := hW
  have hA : DataW.TrodAll enc Tryd.prog W 0 (fun _ => true) true Tryd.f3.params.toList args.toList ds p := hA0
  rw [Tryd.params3] at hA hval
  obtain ⟨v0, vs0, d0, ds0, p0, q0, hargs, rfl, rfl, h0, r0⟩ := trodAll_cons hA
  obtain ⟨rfl, rfl, rfl⟩ := trodAll_nil r0
  obtain rfl : args = #[v0] := by cases args; simp_all
  obtain ⟨g9, t9, cs9, f9, d9, p9, rfl, _⟩ := trodVars_one hV
  have k0 := h0
  obtain ⟨n, xs, hS⟩ := open_pieces (hval 0 22 v0 rfl rfl) h0
  clear hA0 hval0
  simp only [List.append_nil] at hW' lts
  refine (walk n xs v0 W hS hrk).mono fun e W' ⟨he, bel⟩ => ?_
  subst he
  exact ⟨_, rfl, _, _, _, [], _, _, hW', trodAll_mk1 (shut_bool Tryd.underlying4 _), (trodAll_cons_mk (Below.trod laid (by kernel_rfl) (of_decide_eq_true (by kernel_rfl)) k0 bel (fun x hx => lts x (by simp [hx]))) trodAll_mk0), Below.trodVars laid bel (by kernel_rfl) hV, bel.frame _, fun h => by cases h⟩

/-- A world for the witness: the settled one, the listed table holding what its initialiser lays. -/
noncomputable def laidWorld (os : Os) : World :=
  { World.holding Tryd.prog os ⟨#[], #[], []⟩ with heap := ((World.holding Tryd.prog os ⟨#[], #[], []⟩).heap.modify 0 fun
      | .cells _ t frozen => .cells #[.int .i64 0, .int .i64 1, .int .i64 2, .int .i64 3, .int .i64 4] t frozen
      | o => o) }
set_option maxRecDepth 100000 in
theorem laid_met (os : Os) : laidMet Tryd.prog Rows.fnExactJoinPiecesRow.laid ((laidWorld os).forCall (fun _ _ => 0) ⟨#[], #[.slice none 0 0], []⟩).memory :=
  laidMet_of_run' 8 (by kernel_rfl) (by kernel_rfl)
theorem reads (os : Os) {H : Type} (enc : TypeId × Value → H) : ∃ x, DataW.whole enc Tryd.prog ((laidWorld os).forCall (fun _ _ => 0) ⟨#[], #[.slice none 0 0], []⟩).memory Tryd.f3.params.toList Rows.fnExactJoinPiecesSpec.vars false (#[.slice none 0 0] : Array Value).toList 8 = some x :=
  Option.isSome_iff_exists.1 (by kernel_rfl)

set_option maxRecDepth 100000 in
theorem lifted (os : Os) (started : os.Started) (H : Type) (enc : TypeId × Value → H) (F : Stop.Interp) :
    ReturnsInHanded {} Tryd.checked os 3 .any ((OpenSpec.ofChange Rows.fnExactJoinPiecesSpec).preRow enc Tryd.prog Tryd.f3 Rows.fnExactJoinPiecesRow.domain false Rows.fnExactJoinPiecesRow.laid) (((OpenSpec.ofChange Rows.fnExactJoinPiecesSpec).at F).post enc Tryd.prog Tryd.f3 false true false false) := by
  obtain ⟨x, hx⟩ := reads os enc
  refine returnsInHanded_of_row (C := Tryd.checked) (s := OpenSpec.ofChange Rows.fnExactJoinPiecesSpec) own started (by kernel_rfl) Tryd.func3
    (witness_row_at (enc := enc) (C := Tryd.checked) false (laidWorld os) #[.slice none 0 0] rfl (by kernel_rfl) (by kernel_rfl) (by kernel_rfl)
      (OpenSpec.preRow_of_cond 8 hx (by kernel_rfl) (fun k hk => by cases hk) (by kernel_rfl) (laid_met os))) ?_
  intro W base args ds gs before hval hW _ _ _ hlaid _ _
  exact contract H enc W base args ds gs before hval hW hlaid

theorem said : Rows.FnExactJoinPiecesSaid :=
  OpenClaim.holds_of_cond 3 Tryd.f3 rfl rfl rfl rfl rfl rfl rfl ⟨rfl, rfl, rfl, rfl, rfl⟩ rfl rfl rfl rfl rfl (by kernel_rfl) Tryd.func3 (by kernel_rfl)
    (of_decide_eq_true (by kernel_rfl)) (by unfold Func.isWrapper; first | (rw [if_pos (by decide +kernel)]; kernel_rfl) | (rw [if_neg (by decide +kernel)]; exact ⟨rfl, rfl⟩))
    (fun os started H enc _ F => by rw [OpenClaim.pre_eq_preRow]; exact lifted os started H enc F)

theorem plain (f : FuncId) (fn : Func) (hf : Tryd.pinned.checked.prog.funcNamed "loop.example/g00914/laws.FnExactJoinPieces" = some f) (hfn : Tryd.pinned.checked.prog.funcs[f]? = some fn) :
    false = Tryd.pinned.checked.prog.looks [] ∧ ∀ (j : Nat) t, fn.params[j]? = some t → Tryd.pinned.checked.prog.wantsStandIn t = false := by
  obtain rfl : f = 3 := Option.some.inj ((show Tryd.prog.funcNamed "loop.example/g00914/laws.FnExactJoinPieces" = some 3 by kernel_rfl).symm.trans hf) |>.symm
  obtain rfl : fn = Tryd.f3 := (Option.some.inj (Tryd.func3.symm.trans hfn)).symm
  refine ⟨by kernel_rfl, fun j t ht => ?_⟩
  rw [Tryd.params3] at ht
  have ht' : t = 22 := by simpa using Array.mem_of_getElem? ht
  subst ht'
  exact (show Tryd.prog.wantsStandIn 22 = false by kernel_rfl)
end Go.Proofs.YtnpbjomohncaaaaDoor.fnExactJoinPiecesProof
namespace Go.Proofs.YtnpbjomohncaaaaDoor
theorem fnExactJoinPieces_holds : Rows.FnExactJoinPiecesCardSaid :=
  Claim7.holds_tied_plain_at .later [] _ _ _ _ fnExactJoinPiecesProof.said (fun _ h => by cases h) (by kernel_rfl) (fun _ h => by cases h) fnExactJoinPieces_row_tie rfl ⟨rfl, rfl⟩ (by kernel_rfl) rfl fnExactJoinPiecesProof.plain (by kernel_rfl)
#print axioms fnExactJoinPieces_holds
end Go.Proofs.YtnpbjomohncaaaaDoor
