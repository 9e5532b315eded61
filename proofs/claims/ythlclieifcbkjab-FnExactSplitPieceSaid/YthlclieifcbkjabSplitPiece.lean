/-
  The law FnExactSplitPiece holds: for all arguments, SplitPiece answers as its model does, its answer owns its memory, and the arguments read as they did. No conditions.
-/
import Derived.Test.YthlclieifcbkjabRows
import Derived.Test.YthlclieifcbkjabQ8
import Derived.Test.YthlclieifcbkjabV9
import Derived.Test.YthlclieifcbkjabOpen
import Derived.WalkKit
import Derived.Lib.Hide
import Derived.Deep.DeepCutAuto
import Derived.ProofKit
import Derived.OpenShut
import Derived.ShutString
import Derived.ChangeOld
import Derived.Below
import Derived.Carry
import Derived.Deep.RegionWith
import Derived.Lib.SmallJoins
namespace Go.Proofs.Ythlclieifcbkjab.fnExactSplitPieceProof
open Go.ChangeShapes Go.WideShapes Go.ChangeAt Go.RowKit Go.Joins
open Go.ChangeMaps (open_string shut_string)
set_option linter.unusedVariables false

theorem own : ownKnob Try.prog.godebug = none := by kernel_rfl
theorem cellsGrid : Try.prog.cellsOf 37 = 3 := by kernel_rfl


/-! ### The walk -/
set_option maxHeartbeats 4000000 in
set_option maxRecDepth 100000 in
theorem walk (x y z : Int) (u1 : Value) (bs : List Int) (w : World) (hL : Seen w u1 bs) :
    Calls Try.prog 5 #[.agg #[.int .i64 x, .int .i64 y, .int .i64 z], u1] w fun e w' => e = .returned (.bool true) ∧ Below w.heap.size w w' := by
  have HLi := Lib.hid hL
  obtain ⟨AV, cV, rfl, t4, _⟩ := hL
  have b4 : bs.length ≤ 9223372036854775807 := by unfold maxLen at t4; omega
  clear t4
  have HBw : Hid (Below w.heap.size w (w.alloc (.cells #[.int .i64 x, .int .i64 y, .int .i64 z] 37))) := (Below.refl _ _).alloc (Nat.le_refl _) _
  by_cases l4 : bs.length ≤ 1048576
  case neg =>
    go_enter Try.func5, Try.ntmps5
    go_wp2
    go_ret
    exact ⟨rfl, HBw.out⟩
  case pos =>
    have l5 : bs.length ≤ 4000000 := by omega
    obtain ⟨nn, ys, bb, hyl, CS, CI⟩ : ∃ (nn : Nat) (ys : List Int) (bb : Bool), nn ≤ 1000000 ∧ Hid (∀ (p : Value) (u : World), Seen u p bs → Calls Try.prog 17 #[.agg #[.int .i64 x, .int .i64 y, .int .i64 z], p] u (GivesP2 u nn ys bb)) ∧ Hid (∀ (p : Value) (u : World), Seen u p bs → Calls Try.prog 20 #[.agg #[.int .i64 x, .int .i64 y, .int .i64 z], p] u (GivesP2 u nn ys bb)) :=
      ⟨splN x y z bs, splL x y z bs, splB x y z bs, splN_le x y z bs, fun p u hu => c_SplitPieceS x y z bs p u l5 hu, fun p u hu => c_SplitPiece x y z bs p u l5 hu⟩
    have hnb : (bb != bb) = false := by simp
    have hnq : ((1 + (nn : Int) * 3) != (1 + (nn : Int) * 3)) = false := by simp
    have hpq : ¬ (1 + (nn : Int) * 3) < 0 := by omega
    have hkq : ¬ (1 + (bs.length : Int)) < 0 := by omega
    obtain ⟨dd2, dd1, dd0⟩ := three_new w (.int .i64 x) (.int .i64 y) (.int .i64 z) 37
    have DC := Lib.hid (And.intro dd0 (And.intro dd1 dd2))
    have hsz : (w.alloc (.cells #[.int .i64 x, .int .i64 y, .int .i64 z] 37)).heap.size = w.heap.size + 1 := by simp
    clear dd0 dd1 dd2
    have KK : Hid (∀ u, Below (w.alloc (.cells #[.int .i64 x, .int .i64 y, .int .i64 z] 37)).heap.size (w.alloc (.cells #[.int .i64 x, .int .i64 y, .int .i64 z] 37)) u → u.cell? ⟨w.heap.size, 0, none⟩ = some (.int .i64 x) ∧ u.cell? ⟨w.heap.size, 1, none⟩ = some (.int .i64 y) ∧ u.cell? ⟨w.heap.size, 2, none⟩ = some (.int .i64 z)) := fun u hu => by
      obtain ⟨a0, a1, a2⟩ := DC.out
      have e : ∀ o, u.cell? ⟨w.heap.size, o, none⟩ = _ := fun o => hu.cell (p := ⟨w.heap.size, o, none⟩) (by show w.heap.size < _; omega)
      exact ⟨by rw [e]; exact a0, by rw [e]; exact a1, by rw [e]; exact a2⟩
    clear DC hsz
    have HB0 : Hid (Below (w.alloc (.cells #[.int .i64 x, .int .i64 y, .int .i64 z] 37)).heap.size (w.alloc (.cells #[.int .i64 x, .int .i64 y, .int .i64 z] 37)) (w.alloc (.cells #[.int .i64 x, .int .i64 y, .int .i64 z] 37))) := Below.refl _ _
    go_enter Try.func5, Try.ntmps5
    go_wp2_with fail
    generalize w.alloc (.cells #[.int .i64 x, .int .i64 y, .int .i64 z] 37) = W0 at *
    refine (c_toPiece _ _ _ _).mono ?_
    rintro e w1 ⟨rfl, hb1⟩
    have HB1 : Hid (Below W0.heap.size W0 w1) := HB0.out.trans (hb1.mono HB0.out.size)
    clear hb1
    go_wp2_with fail
    refine (c_toIntS bs _ _ l5 (HLi.out.below (HBw.out.trans (HB1.out.mono HBw.out.size)))).mono ?_
    rintro e w2 ⟨Sl, rfl, hs, hb2⟩
    have HB2 : Hid (Below W0.heap.size W0 w2) := HB1.out.trans (hb2.mono HB1.out.size)
    have SL_2 := Lib.hid hs
    clear hs
    clear hb2
    go_wp2_with fail
    refine (CS.out _ _ SL_2.out.seen).mono ?_
    rintro e w3 ⟨Wv, rfl, hs, hb3⟩
    have HB3 : Hid (Below W0.heap.size W0 w3) := HB2.out.trans (hb3.mono HB2.out.size)
    have SL_3 := Lib.hid (SL_2.out.below hb3)
    have WS_3 := Lib.hid hs
    clear hs
    clear hb3
    go_wp2_with fail
    refine (c_toIntS bs _ _ l5 (HLi.out.below (HBw.out.trans (HB3.out.mono HBw.out.size)))).mono ?_
    rintro e w4 ⟨Xl, rfl, hs, hb4⟩
    have HB4 : Hid (Below W0.heap.size W0 w4) := HB3.out.trans (hb4.mono HB3.out.size)
    have WS_4 := Lib.hid (WS_3.out.below hb4)
    have XL_4 := Lib.hid hs
    clear hs
    clear hb4
    obtain ⟨d0, d1, d2⟩ := KK.out w4 HB4.out
    go_wp2_with fail
    refine (c_toPiece _ _ _ _).mono ?_
    rintro e w5 ⟨rfl, hb5⟩
    have HB5 : Hid (Below W0.heap.size W0 w5) := HB4.out.trans (hb5.mono HB4.out.size)
    have WS_5 := Lib.hid (WS_4.out.below hb5)
    have XL_5 := Lib.hid (XL_4.out.below hb5)
    clear hb5
    clear d0 d1 d2
    go_wp2_with fail
    refine (CI.out _ _ XL_5.out.seen).mono ?_
    rintro e w6 ⟨Gv, rfl, hs, hb6⟩
    have HB6 : Hid (Below W0.heap.size W0 w6) := HB5.out.trans (hb6.mono HB5.out.size)
    have WS_6 := Lib.hid (WS_5.out.below hb6)
    have XL_6 := Lib.hid (XL_5.out.below hb6)
    have GS_6 := Lib.hid hs
    clear hs
    clear hb6
    go_wp2_with fail
    refine (c_eqPieceS nn ys _ _ _ _ _ (by omega) GS_6.out WS_6.out).mono ?_
    rintro e w7 ⟨rfl, hb7⟩
    have HB7 : Hid (Below W0.heap.size W0 w7) := HB6.out.trans (hb7.mono HB6.out.size)
    have WS_7 := Lib.hid (WS_6.out.below hb7)
    have XL_7 := Lib.hid (XL_6.out.below hb7)
    have GS_7 := Lib.hid (GS_6.out.below hb7)
    clear hb7
    go_wp2_with fail
    refine (c_toIntS bs _ _ l5 (HLi.out.below (HBw.out.trans (HB7.out.mono HBw.out.size)))).mono ?_
    rintro e w8 ⟨Yl, rfl, hs, hb8⟩
    have HB8 : Hid (Below W0.heap.size W0 w8) := HB7.out.trans (hb8.mono HB7.out.size)
    have WS_8 := Lib.hid (WS_7.out.below hb8)
    have XL_8 := Lib.hid (XL_7.out.below hb8)
    have GS_8 := Lib.hid (GS_7.out.below hb8)
    have YL_8 := Lib.hid hs
    clear hs
    clear hb8
    go_wp2_with fail
    refine (c_eqIntS bs _ _ _ _ _ l5 XL_8.out YL_8.out).mono ?_
    rintro e w9 ⟨rfl, hb9⟩
    have HB9 : Hid (Below W0.heap.size W0 w9) := HB8.out.trans (hb9.mono HB8.out.size)
    have WS_9 := Lib.hid (WS_8.out.below hb9)
    have XL_9 := Lib.hid (XL_8.out.below hb9)
    have GS_9 := Lib.hid (GS_8.out.below hb9)
    have YL_9 := Lib.hid (YL_8.out.below hb9)
    clear hb9
    have PC : Hid (Apart Wv.ownBlock Gv.ownBlock) := apart_row WS_5.out GS_6.out (Nat.le_refl _)
    have PA : Hid (Apart Wv.ownBlock Xl.ownBlock) := apart_row WS_3.out XL_4.out (Nat.le_refl _)
    have PB : Hid (Apart Gv.ownBlock Xl.ownBlock) := (apart_row XL_5.out GS_6.out (Nat.le_refl _)).symm
    go_wp2_with fail
    refine (c_markIntS bs _ _ 1 _ l5 (by omega) (by omega) XL_9.out).mono ?_
    rintro e w10 ⟨rfl, _, hg⟩
    have HG10 := Lib.hid hg
    clear hg
    have OX : Hid (W0.heap.size ≤ w3.heap.size) := HB3.out.size
    have HB10 : Hid (Below W0.heap.size W0 w10) := HB9.out.grown HG10.out HB9.out.size (fun k hk => Nat.le_trans OX.out (World.ownsRow.lt XL_9.out k hk).1)
    have WS_10 : Hid (RowP w10 _ Wv nn ys) := World.ownsRow.kept WS_9.out HG10.out PA.out
    have GS_10 : Hid (RowP w10 _ Gv nn ys) := World.ownsRow.kept GS_9.out HG10.out PB.out
    go_wp2_with fail
    refine (c_eqPieceS nn ys _ _ _ _ _ (by omega) GS_10.out WS_10.out).mono ?_
    rintro e w11 ⟨rfl, hb11⟩
    have HB11 : Hid (Below W0.heap.size W0 w11) := HB10.out.trans (hb11.mono HB10.out.size)
    have WS_11 := Lib.hid (WS_10.out.below hb11)
    have GS_11 := Lib.hid (GS_10.out.below hb11)
    clear hb11
    go_wp2_with fail
    refine (c_markPieceS nn ys _ _ 1 _ (by omega) (by omega) (by omega) GS_11.out).mono ?_
    rintro e w12 ⟨rfl, hr, hg⟩
    have GS_12 := Lib.hid hr
    have HG12 := Lib.hid hg
    clear hr hg
    have OG : Hid (W0.heap.size ≤ w5.heap.size) := HB5.out.size
    have HB12 : Hid (Below W0.heap.size W0 w12) := HB11.out.grown HG12.out HB11.out.size (fun k hk => Nat.le_trans OG.out (World.ownsRow.lt GS_11.out k hk).1)
    have WS_12 : Hid (RowP w12 _ Wv nn ys) := World.ownsRow.kept WS_11.out HG12.out PC.out
    go_wp2_with fail
    refine (c_heldPieceS Gv _ nn 1 _ (by omega) (by omega) (by omega) GS_12.out).mono ?_
    rintro e w' ⟨rfl, rfl⟩
    obtain ⟨d0, d1, d2⟩ := KK.out w12 HB12.out
    go_wp2_with fail
    refine (c_toPiece _ _ _ _).mono ?_
    rintro e w13 ⟨rfl, hb13⟩
    have HB13 : Hid (Below W0.heap.size W0 w13) := HB12.out.trans (hb13.mono HB12.out.size)
    have WS_13 := Lib.hid (WS_12.out.below hb13)
    have GS_13 := Lib.hid (GS_12.out.below hb13)
    clear hb13
    clear d0 d1 d2
    go_wp2_with fail
    refine (c_toIntS bs _ _ l5 (HLi.out.below (HBw.out.trans (HB13.out.mono HBw.out.size)))).mono ?_
    rintro e w14 ⟨Yl, rfl, hs, hb14⟩
    have HB14 : Hid (Below W0.heap.size W0 w14) := HB13.out.trans (hb14.mono HB13.out.size)
    have WS_14 := Lib.hid (WS_13.out.below hb14)
    have GS_14 := Lib.hid (GS_13.out.below hb14)
    have YL_14 := Lib.hid hs
    clear hs
    clear hb14
    go_wp2_with fail
    refine (CI.out _ _ YL_14.out.seen).mono ?_
    rintro e w15 ⟨Yv, rfl, hs, hb15⟩
    have HB15 : Hid (Below W0.heap.size W0 w15) := HB14.out.trans (hb15.mono HB14.out.size)
    have WS_15 := Lib.hid (WS_14.out.below hb15)
    have GS_15 := Lib.hid (GS_14.out.below hb15)
    have YL_15 := Lib.hid (YL_14.out.below hb15)
    have YS_15 := Lib.hid hs
    clear hs
    clear hb15
    go_wp2_with fail
    refine (c_eqPieceS nn ys _ _ _ _ _ (by omega) YS_15.out WS_15.out).mono ?_
    rintro e w16 ⟨rfl, hb16⟩
    have HB16 : Hid (Below W0.heap.size W0 w16) := HB15.out.trans (hb16.mono HB15.out.size)
    have WS_16 := Lib.hid (WS_15.out.below hb16)
    have GS_16 := Lib.hid (GS_15.out.below hb16)
    have YL_16 := Lib.hid (YL_15.out.below hb16)
    have YS_16 := Lib.hid (YS_15.out.below hb16)
    clear hb16
    go_wp2_with fail
    refine (c_heldPieceS Gv _ nn 1 _ (by omega) (by omega) (by omega) GS_16.out).mono ?_
    rintro e w' ⟨rfl, rfl⟩
    go_wp2
    go_ret
    exact ⟨rfl, HBw.out.trans (HB16.out.mono HBw.out.size)⟩

/-! ### The row's step -/
theorem laid : laidOutB Try.prog = true := by kernel_rfl
set_option maxRecDepth 100000 in
theorem lifted (os : Os) (started : os.Started) (H : Type) (enc : TypeId × Value → H) :
    ReturnsInHanded {} Try.checked os 5 .any (Rows.fnExactSplitPieceSpec.pre6 enc Try.prog Try.f5 Rows.fnExactSplitPieceRow.domain false) (Rows.fnExactSplitPieceSpec.post enc Try.prog Try.f5 false true false false) := by
  refine returnsInHanded_of_change (C := Try.checked) own started (by kernel_rfl) Try.func5
    (ChangeSpec.witness6 (enc := enc) (C := Try.checked) false ⟨#[], #[.agg #[.int .i64 0, .int .i64 0, .int .i64 0], .slice none 0 0], []⟩ 8 (by kernel_rfl) (by kernel_rfl) (by kernel_rfl) (by kernel_rfl)) ?_
  intro W base args ds gs before hval0 hW hcnd _
  have hval : ∀ (j : Nat) t v, Try.f5.params[j]? = some t → args[j]? = some v → Value.okWide Try.prog W .any base t v := hval0
  have hW' := hW
  have lts : ∀ x ∈ before, x.block < W.heap.size := fun x hx => by simpa using hW'.lt x hx
  obtain ⟨p, q, hA0, hV, rfl, hfz, hnd⟩ := hW
  have hA : DataW.TrodAll enc Try.prog W 0 (fun _ => true) true Try.f5.params.toList args.toList ds p := hA0
  rw [Try.params5] at hA hval
  obtain ⟨v0, vs0, d0, ds0, p0, q0, hargs, rfl, rfl, h0, r0⟩ := trodAll_cons hA
  obtain ⟨v1, vs1, d1, ds1, p1, q1, rfl, rfl, rfl, h1, r1⟩ := trodAll_cons r0
  obtain ⟨rfl, rfl, rfl⟩ := trodAll_nil r1
  obtain rfl : args = #[v0, v1] := by cases args; simp_all
  obtain ⟨rfl, rfl⟩ := trodVars_none hV
  have k0 := h0
  obtain ⟨c0, c1, c2, y0, y1, y2, mg, rfl, rfl, rfl, hy0, hy1, hy2⟩ := open_agg3 Try.underlying37 (by kernel_rfl) cellsGrid (hval 0 37 v0 rfl rfl) h0
  obtain ⟨x, e0, rfl, wx⟩ := DataW.trod_int Try.underlying3 hy0
  obtain ⟨y, e1, rfl, wy⟩ := DataW.trod_int Try.underlying3 hy1
  obtain ⟨z, e2, rfl, wz⟩ := DataW.trod_int Try.underlying3 hy2
  simp at e0 e1 e2
  subst e0 e1 e2
  have k1 := h1
  obtain ⟨bs, hL⟩ := open_list (hval 1 24 v1 rfl rfl) h1
  clear hA0 hval0
  simp only [List.append_nil] at hW' lts
  refine (walk x y z v1 bs W hL).mono fun e W' ⟨he, bel⟩ => ?_
  subst he
  exact ⟨_, rfl, _, _, _, [], _, [], hW', trodAll_mk1 (shut_bool Try.underlying4 _), (trodAll_cons_mk (Below.trod laid (by kernel_rfl) (of_decide_eq_true (by kernel_rfl)) k0 bel (fun x hx => lts x (by first | (simp [hx]; done) | (simp at hx; done) | exact absurd hx (by simp)))) (trodAll_cons_mk (Below.trod laid (by kernel_rfl) (of_decide_eq_true (by kernel_rfl)) k1 bel (fun x hx => lts x (by first | (simp [hx]; done) | (simp at hx; done) | exact absurd hx (by simp)))) trodAll_mk0)), rfl, bel.frame _, fun h => by cases h⟩

theorem over : Rows.fnExactSplitPieceRow.holds Try.pinned (OpenSpec.ofChange Rows.fnExactSplitPieceSpec) :=
  OpenClaim.holds_of_wide 5 Try.f5 rfl rfl rfl rfl rfl rfl rfl ⟨rfl, rfl, rfl, rfl, rfl⟩ rfl rfl rfl rfl rfl (by kernel_rfl) Try.func5 (by kernel_rfl)
    (of_decide_eq_true (by kernel_rfl)) (by unfold Func.isWrapper; first | (rw [if_pos (by decide +kernel)]; kernel_rfl) | (rw [if_neg (by decide +kernel)]; exact ⟨rfl, rfl⟩))
    (fun os started H enc _ => lifted os started H enc)

end Go.Proofs.Ythlclieifcbkjab.fnExactSplitPieceProof
namespace Go.Proofs.Ythlclieifcbkjab
theorem fnExactSplitPiece_holds : Rows.FnExactSplitPieceSaid := fnExactSplitPieceProof.over
#print axioms fnExactSplitPiece_holds
end Go.Proofs.Ythlclieifcbkjab
