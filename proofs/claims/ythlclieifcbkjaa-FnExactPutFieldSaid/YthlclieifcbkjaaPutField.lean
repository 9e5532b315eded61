/-
  The law FnExactPutField holds: for all arguments, PutField answers as its model does, its answer owns its memory, and the arguments read as they did. No conditions.
-/
import Derived.Test.YthlclieifcbkjaaRows
import Derived.Test.YthlclieifcbkjaaE8
import Derived.Test.YthlclieifcbkjaaE14
import Derived.Test.YthlclieifcbkjaaOpen
import Derived.WalkKit
import Derived.Lib.Hide
import Derived.Deep.DeepCutAuto
import Derived.ProofKit
import Derived.OpenShut
import Derived.ShutString
import Derived.ChangeOld
import Derived.Below
import Derived.Carry
import Derived.Deep.RegionWith
import Derived.Lib.SmallJoins
namespace Go.Proofs.Ythlclieifcbkjaa.fnExactPutFieldProof
open Go.ChangeShapes Go.WideShapes Go.ChangeAt Go.RowKit Go.Joins
open Go.ChangeMaps (open_string shut_string)
set_option linter.unusedVariables false

theorem own : ownKnob Try.prog.godebug = none := by kernel_rfl


/-! ### The walk -/
set_option maxHeartbeats 4000000 in
set_option maxRecDepth 100000 in
theorem walk (n : Nat) (xs : List Int) (v0 : Value) (a1 : Int) (n2 : Nat) (xs2 : List Int) (v2 : Value) (w : World) (hS : SeenP w v0 n xs) (wf1 : (Lit.int .i64 a1).wf = true) (hS2 : SeenP w v2 n2 xs2) :
    Calls Try.prog 7 #[v0, .int .i64 a1, v2] w fun e w' => e = .returned (.bool true) ∧ Below w.heap.size w w' := by
  have HS := Lib.hid hS
  obtain ⟨A, c, rfl, hm, hx, _⟩ := hS
  have b1 : n ≤ 9223372036854775807 := by unfold maxLen at hm; omega
  clear hm hx
  have HS2 := Lib.hid hS2
  obtain ⟨A2, c2, rfl, hm2, hx2, _⟩ := hS2
  have b2 : n2 ≤ 9223372036854775807 := by unfold maxLen at hm2; omega
  clear hm2 hx2
  have HB0 : Hid (Below w.heap.size w w) := Below.refl _ _
  by_cases l1 : n ≤ 1048576
  case neg =>
    go_enter Try.func7, Try.ntmps7
    go_wp2_with fail
    refine (c_szPartS A n c 1048576 _ (by omega) (by omega) b1).mono ?_
    rintro e w' ⟨rfl, rfl⟩
    rw [if_neg (by omega)]
    go_wp2
    go_ret
    exact ⟨rfl, HB0.out⟩
  case pos =>
    have q1 : ¬ (1048576 - (n : Int)) < 0 := by omega
    by_cases l2 : (n2 : Int) ≤ 1048576 - (n : Int)
    case neg =>
      go_enter Try.func7, Try.ntmps7
      go_wp2_with fail
      refine (c_szPartS A n c 1048576 _ (by omega) (by omega) b1).mono ?_
      rintro e w' ⟨rfl, rfl⟩
      rw [if_pos (by omega)]
      go_wp2_with fail
      refine (c_szPartS A2 n2 c2 (1048576 - (n : Int)) _ (by omega) (by omega) b2).mono ?_
      rintro e w' ⟨rfl, rfl⟩
      rw [if_neg (by omega)]
      go_wp2
      go_ret
      exact ⟨rfl, HB0.out⟩
    case pos =>
      have q2 : ¬ (1048576 - (n : Int) - (n2 : Int)) < 0 := by omega
      have l2n : n2 ≤ 1048576 := by omega
      obtain ⟨nn, ys, bb, hyl, CS, CI⟩ : ∃ (nn : Nat) (ys : List Int) (bb : Bool), nn ≤ 1000000 ∧ Hid (∀ (p : Value) (p2 : Value) (u : World), SeenC u p n xs → SeenC u p2 n2 xs2 → Calls Try.prog 26 #[p, .int .i64 a1, p2] u (GivesP2 u nn ys bb)) ∧ Hid (∀ (p : Value) (p2 : Value) (u : World), SeenC u p n xs → SeenC u p2 n2 xs2 → Calls Try.prog 27 #[p, .int .i64 a1, p2] u (GivesP2 u nn ys bb)) :=
        ⟨putN n xs a1 n2 xs2, putL n xs a1 n2 xs2, putB n xs a1 n2 xs2, putN_le n xs a1 n2 xs2, fun p p2 u hu hu2 => c_PutFieldS n xs p a1 n2 xs2 p2 u l1 l2n hu hu2, fun p p2 u hu hu2 => c_PutField n xs p a1 n2 xs2 p2 u l1 l2n hu hu2⟩
      have hnb : (bb != bb) = false := by simp
      have hnq : ((1 + (nn : Int) * 2) != (1 + (nn : Int) * 2)) = false := by simp
      have hpq : ¬ (1 + (nn : Int) * 2) < 0 := by omega
      have hkq : ¬ (1 + (n : Int) * 2) < 0 := by omega
      have hkq2 : ¬ (1 + (n : Int) * 2 + (n2 : Int) * 2) < 0 := by omega
      go_enter Try.func7, Try.ntmps7
      go_wp2_with fail
      refine (c_szPartS A n c 1048576 _ (by omega) (by omega) b1).mono ?_
      rintro e w' ⟨rfl, rfl⟩
      rw [if_pos (by omega)]
      go_wp2_with fail
      refine (c_szPartS A2 n2 c2 (1048576 - (n : Int)) _ (by omega) (by omega) b2).mono ?_
      rintro e w' ⟨rfl, rfl⟩
      rw [if_pos (by omega)]
      go_wp2_with fail
      refine (c_toPartS n xs _ _ l1 (HS.out.below HB0.out)).mono ?_
      rintro e w1 ⟨Sv, rfl, hs, hb1⟩
      have HB1 : Hid (Below w.heap.size w w1) := HB0.out.trans (hb1.mono HB0.out.size)
      have SP_1 := Lib.hid hs
      clear hs
      clear hb1
      go_wp2_with fail
      refine (c_toPartS n2 xs2 _ _ l2n (HS2.out.below HB1.out)).mono ?_
      rintro e w2 ⟨Su, rfl, hs, hb2⟩
      have HB2 : Hid (Below w.heap.size w w2) := HB1.out.trans (hb2.mono HB1.out.size)
      have SP_2 := Lib.hid (SP_1.out.below hb2)
      have SQ_2 := Lib.hid hs
      clear hs
      clear hb2
      go_wp2_with fail
      refine (CS.out _ _ _ SP_2.out.seenC SQ_2.out.seenC).mono ?_
      rintro e w3 ⟨Wv, rfl, hs, hb3⟩
      have HB3 : Hid (Below w.heap.size w w3) := HB2.out.trans (hb3.mono HB2.out.size)
      have SP_3 := Lib.hid (SP_2.out.below hb3)
      have SQ_3 := Lib.hid (SQ_2.out.below hb3)
      have WS_3 := Lib.hid hs
      clear hs
      clear hb3
      go_wp2_with fail
      refine (c_toPartS n xs _ _ l1 (HS.out.below HB3.out)).mono ?_
      rintro e w4 ⟨Xv, rfl, hs, hb4⟩
      have HB4 : Hid (Below w.heap.size w w4) := HB3.out.trans (hb4.mono HB3.out.size)
      have WS_4 := Lib.hid (WS_3.out.below hb4)
      have XP_4 := Lib.hid hs
      clear hs
      clear hb4
      go_wp2_with fail
      refine (c_toPartS n2 xs2 _ _ l2n (HS2.out.below HB4.out)).mono ?_
      rintro e w5 ⟨Xu, rfl, hs, hb5⟩
      have HB5 : Hid (Below w.heap.size w w5) := HB4.out.trans (hb5.mono HB4.out.size)
      have WS_5 := Lib.hid (WS_4.out.below hb5)
      have XP_5 := Lib.hid (XP_4.out.below hb5)
      have XQ_5 := Lib.hid hs
      clear hs
      clear hb5
      go_wp2_with fail
      refine (CI.out _ _ _ XP_5.out.seenC XQ_5.out.seenC).mono ?_
      rintro e w6 ⟨Gv, rfl, hs, hb6⟩
      have HB6 : Hid (Below w.heap.size w w6) := HB5.out.trans (hb6.mono HB5.out.size)
      have WS_6 := Lib.hid (WS_5.out.below hb6)
      have XP_6 := Lib.hid (XP_5.out.below hb6)
      have XQ_6 := Lib.hid (XQ_5.out.below hb6)
      have GS_6 := Lib.hid hs
      clear hs
      clear hb6
      go_wp2_with fail
      refine (c_eqPartS nn ys _ _ _ _ _ (by omega) GS_6.out WS_6.out).mono ?_
      rintro e w7 ⟨rfl, hb7⟩
      have HB7 : Hid (Below w.heap.size w w7) := HB6.out.trans (hb7.mono HB6.out.size)
      have WS_7 := Lib.hid (WS_6.out.below hb7)
      have XP_7 := Lib.hid (XP_6.out.below hb7)
      have XQ_7 := Lib.hid (XQ_6.out.below hb7)
      have GS_7 := Lib.hid (GS_6.out.below hb7)
      clear hb7
      go_wp2_with fail
      refine (c_toPartS n xs _ _ l1 (HS.out.below HB7.out)).mono ?_
      rintro e w8 ⟨Yv, rfl, hs, hb8⟩
      have HB8 : Hid (Below w.heap.size w w8) := HB7.out.trans (hb8.mono HB7.out.size)
      have WS_8 := Lib.hid (WS_7.out.below hb8)
      have XP_8 := Lib.hid (XP_7.out.below hb8)
      have XQ_8 := Lib.hid (XQ_7.out.below hb8)
      have GS_8 := Lib.hid (GS_7.out.below hb8)
      have YP_8 := Lib.hid hs
      clear hs
      clear hb8
      go_wp2_with fail
      refine (c_eqPartS n xs _ _ _ _ _ l1 XP_8.out YP_8.out).mono ?_
      rintro e w9 ⟨rfl, hb9⟩
      have HB9 : Hid (Below w.heap.size w w9) := HB8.out.trans (hb9.mono HB8.out.size)
      have WS_9 := Lib.hid (WS_8.out.below hb9)
      have XP_9 := Lib.hid (XP_8.out.below hb9)
      have XQ_9 := Lib.hid (XQ_8.out.below hb9)
      have GS_9 := Lib.hid (GS_8.out.below hb9)
      have YP_9 := Lib.hid (YP_8.out.below hb9)
      clear hb9
      go_wp2_with fail
      refine (c_toPartS n2 xs2 _ _ l2n (HS2.out.below HB9.out)).mono ?_
      rintro e w10 ⟨Yu, rfl, hs, hb10⟩
      have HB10 : Hid (Below w.heap.size w w10) := HB9.out.trans (hb10.mono HB9.out.size)
      have WS_10 := Lib.hid (WS_9.out.below hb10)
      have XP_10 := Lib.hid (XP_9.out.below hb10)
      have XQ_10 := Lib.hid (XQ_9.out.below hb10)
      have GS_10 := Lib.hid (GS_9.out.below hb10)
      have YQ_10 := Lib.hid hs
      clear hs
      clear hb10
      go_wp2_with fail
      refine (c_eqPartS n2 xs2 _ _ _ _ _ l2n XQ_10.out YQ_10.out).mono ?_
      rintro e w11 ⟨rfl, hb11⟩
      have HB11 : Hid (Below w.heap.size w w11) := HB10.out.trans (hb11.mono HB10.out.size)
      have WS_11 := Lib.hid (WS_10.out.below hb11)
      have XP_11 := Lib.hid (XP_10.out.below hb11)
      have XQ_11 := Lib.hid (XQ_10.out.below hb11)
      have GS_11 := Lib.hid (GS_10.out.below hb11)
      have YQ_11 := Lib.hid (YQ_10.out.below hb11)
      clear hb11
      have PC : Hid (Apart Wv.ownBlock Gv.ownBlock) := apart_row WS_5.out GS_6.out (Nat.le_refl _)
      have PA1 : Hid (Apart Wv.ownBlock Xv.ownBlock) := apart_row WS_3.out XP_4.out (Nat.le_refl _)
      have PB1 : Hid (Apart Gv.ownBlock Xv.ownBlock) := (apart_row XP_5.out GS_6.out (Nat.le_refl _)).symm
      have PA2 : Hid (Apart Wv.ownBlock Xu.ownBlock) := apart_row WS_4.out XQ_5.out (Nat.le_refl _)
      have PB2 : Hid (Apart Gv.ownBlock Xu.ownBlock) := (apart_row XQ_5.out GS_6.out (Nat.le_refl _)).symm
      go_wp2_with fail
      refine (c_markPartS n xs _ _ (1) _ l1 (by omega) (by omega) XP_11.out).mono ?_
      rintro e w12 ⟨rfl, _, hg⟩
      have HG12 := Lib.hid hg
      clear hg
      have OX1 : Hid (w.heap.size ≤ w3.heap.size) := HB3.out.size
      have HB12 : Hid (Below w.heap.size w w12) := HB11.out.grown HG12.out HB11.out.size (fun k hk => Nat.le_trans OX1.out (World.ownsRow.lt XP_11.out k hk).1)
      have WS_12 : Hid (RowP w12 _ Wv nn ys) := World.ownsRow.kept WS_11.out HG12.out PA1.out
      have GS_12 : Hid (RowP w12 _ Gv nn ys) := World.ownsRow.kept GS_11.out HG12.out PB1.out
      have PX : Hid (Apart Xu.ownBlock Xv.ownBlock) := (apart_row XP_4.out XQ_5.out (Nat.le_refl _)).symm
      have XQ_12 : Hid (RowP w12 _ Xu n2 xs2) := World.ownsRow.kept XQ_11.out HG12.out PX.out
      go_wp2_with fail
      refine (c_markPartS n2 xs2 _ _ (1 + (n : Int) * 2) _ l2n (by omega) (by omega) XQ_12.out).mono ?_
      rintro e w13 ⟨rfl, _, hg⟩
      have HG13 := Lib.hid hg
      clear hg
      have OX2 : Hid (w.heap.size ≤ w4.heap.size) := HB4.out.size
      have HB13 : Hid (Below w.heap.size w w13) := HB12.out.grown HG13.out HB12.out.size (fun k hk => Nat.le_trans OX2.out (World.ownsRow.lt XQ_12.out k hk).1)
      have WS_13 : Hid (RowP w13 _ Wv nn ys) := World.ownsRow.kept WS_12.out HG13.out PA2.out
      have GS_13 : Hid (RowP w13 _ Gv nn ys) := World.ownsRow.kept GS_12.out HG13.out PB2.out
      go_wp2_with fail
      refine (c_eqPartS nn ys _ _ _ _ _ (by omega) GS_13.out WS_13.out).mono ?_
      rintro e w14 ⟨rfl, hb14⟩
      have HB14 : Hid (Below w.heap.size w w14) := HB13.out.trans (hb14.mono HB13.out.size)
      have WS_14 := Lib.hid (WS_13.out.below hb14)
      have GS_14 := Lib.hid (GS_13.out.below hb14)
      clear hb14
      go_wp2_with fail
      refine (c_markPartS nn ys _ _ 1 _ (by omega) (by omega) (by omega) GS_14.out).mono ?_
      rintro e w15 ⟨rfl, hr, hg⟩
      have GS_15 := Lib.hid hr
      have HG15 := Lib.hid hg
      clear hr hg
      have OG : Hid (w.heap.size ≤ w5.heap.size) := HB5.out.size
      have HB15 : Hid (Below w.heap.size w w15) := HB14.out.grown HG15.out HB14.out.size (fun k hk => Nat.le_trans OG.out (World.ownsRow.lt GS_14.out k hk).1)
      have WS_15 : Hid (RowP w15 _ Wv nn ys) := World.ownsRow.kept WS_14.out HG15.out PC.out
      go_wp2_with fail
      refine (c_heldPartS Gv _ nn 1 _ (by omega) (by omega) (by omega) GS_15.out).mono ?_
      rintro e w' ⟨rfl, rfl⟩
      go_wp2_with fail
      refine (c_toPartS n xs _ _ l1 (HS.out.below HB15.out)).mono ?_
      rintro e w16 ⟨Yv, rfl, hs, hb16⟩
      have HB16 : Hid (Below w.heap.size w w16) := HB15.out.trans (hb16.mono HB15.out.size)
      have WS_16 := Lib.hid (WS_15.out.below hb16)
      have GS_16 := Lib.hid (GS_15.out.below hb16)
      have YP_16 := Lib.hid hs
      clear hs
      clear hb16
      go_wp2_with fail
      refine (c_toPartS n2 xs2 _ _ l2n (HS2.out.below HB16.out)).mono ?_
      rintro e w17 ⟨Yu, rfl, hs, hb17⟩
      have HB17 : Hid (Below w.heap.size w w17) := HB16.out.trans (hb17.mono HB16.out.size)
      have WS_17 := Lib.hid (WS_16.out.below hb17)
      have GS_17 := Lib.hid (GS_16.out.below hb17)
      have YP_17 := Lib.hid (YP_16.out.below hb17)
      have YQ_17 := Lib.hid hs
      clear hs
      clear hb17
      go_wp2_with fail
      refine (CI.out _ _ _ YP_17.out.seenC YQ_17.out.seenC).mono ?_
      rintro e w18 ⟨Yv, rfl, hs, hb18⟩
      have HB18 : Hid (Below w.heap.size w w18) := HB17.out.trans (hb18.mono HB17.out.size)
      have WS_18 := Lib.hid (WS_17.out.below hb18)
      have GS_18 := Lib.hid (GS_17.out.below hb18)
      have YP_18 := Lib.hid (YP_17.out.below hb18)
      have YQ_18 := Lib.hid (YQ_17.out.below hb18)
      have YS_18 := Lib.hid hs
      clear hs
      clear hb18
      go_wp2_with fail
      refine (c_eqPartS nn ys _ _ _ _ _ (by omega) YS_18.out WS_18.out).mono ?_
      rintro e w19 ⟨rfl, hb19⟩
      have HB19 : Hid (Below w.heap.size w w19) := HB18.out.trans (hb19.mono HB18.out.size)
      have WS_19 := Lib.hid (WS_18.out.below hb19)
      have GS_19 := Lib.hid (GS_18.out.below hb19)
      have YP_19 := Lib.hid (YP_18.out.below hb19)
      have YQ_19 := Lib.hid (YQ_18.out.below hb19)
      have YS_19 := Lib.hid (YS_18.out.below hb19)
      clear hb19
      go_wp2_with fail
      refine (c_heldPartS Gv _ nn 1 _ (by omega) (by omega) (by omega) GS_19.out).mono ?_
      rintro e w' ⟨rfl, rfl⟩
      go_wp2
      go_ret
      exact ⟨rfl, HB19.out⟩

/-! ### The row's step -/
theorem laid : laidOutB Try.prog = true := by kernel_rfl
set_option maxRecDepth 100000 in
theorem lifted (os : Os) (started : os.Started) (H : Type) (enc : TypeId × Value → H) :
    ReturnsInHanded {} Try.checked os 7 .any (Rows.fnExactPutFieldSpec.pre6 enc Try.prog Try.f7 Rows.fnExactPutFieldRow.domain false) (Rows.fnExactPutFieldSpec.post enc Try.prog Try.f7 false true false false) := by
  refine returnsInHanded_of_change (C := Try.checked) own started (by kernel_rfl) Try.func7
    (ChangeSpec.witness6 (enc := enc) (C := Try.checked) false ⟨#[], #[.slice none 0 0, .int .i64 0, .slice none 0 0], []⟩ 8 (by kernel_rfl) (by kernel_rfl) (by kernel_rfl) (by kernel_rfl)) ?_
  intro W base args ds gs before hval0 hW hcnd _
  have hval : ∀ (j : Nat) t v, Try.f7.params[j]? = some t → args[j]? = some v → Value.okWide Try.prog W .any base t v := hval0
  have hW' := hW
  have lts : ∀ x ∈ before, x.block < W.heap.size := fun x hx => by simpa using hW'.lt x hx
  obtain ⟨p, q, hA0, hV, rfl, hfz, hnd⟩ := hW
  have hA : DataW.TrodAll enc Try.prog W 0 (fun _ => true) true Try.f7.params.toList args.toList ds p := hA0
  rw [Try.params7] at hA hval
  obtain ⟨v0, vs0, d0, ds0, p0, q0, hargs, rfl, rfl, h0, r0⟩ := trodAll_cons hA
  obtain ⟨v1, vs1, d1, ds1, p1, q1, rfl, rfl, rfl, h1, r1⟩ := trodAll_cons r0
  obtain ⟨v2, vs2, d2, ds2, p2, q2, rfl, rfl, rfl, h2, r2⟩ := trodAll_cons r1
  obtain ⟨rfl, rfl, rfl⟩ := trodAll_nil r2
  obtain rfl : args = #[v0, v1, v2] := by cases args; simp_all
  obtain ⟨rfl, rfl⟩ := trodVars_none hV
  have k0 := h0
  obtain ⟨n, xs, hS⟩ := open_pieces (hval 0 22 v0 rfl rfl) h0
  have k1 := h1
  obtain ⟨a1, rfl, _, _, w1⟩ := open_int Try.underlying3 (hval 1 3 v1 rfl rfl) h1
  have k2 := h2
  obtain ⟨n2, xs2, hS2⟩ := open_pieces (hval 2 22 v2 rfl rfl) h2
  clear hA0 hval0
  simp only [List.append_nil] at hW' lts
  refine (walk n xs v0 a1 n2 xs2 v2 W hS w1 hS2).mono fun e W' ⟨he, bel⟩ => ?_
  subst he
  exact ⟨_, rfl, _, _, _, [], _, [], hW', trodAll_mk1 (shut_bool Try.underlying4 _), (trodAll_cons_mk (Below.trod laid (by kernel_rfl) (of_decide_eq_true (by kernel_rfl)) k0 bel (fun x hx => lts x (by simp [hx]))) (trodAll_cons_mk (Below.trod laid (by kernel_rfl) (of_decide_eq_true (by kernel_rfl)) k1 bel (fun x hx => lts x (by simp [hx]))) (trodAll_cons_mk (Below.trod laid (by kernel_rfl) (of_decide_eq_true (by kernel_rfl)) k2 bel (fun x hx => lts x (by simp [hx]))) trodAll_mk0))), rfl, bel.frame _, fun h => by cases h⟩

theorem over : Rows.fnExactPutFieldRow.holds Try.pinned (OpenSpec.ofChange Rows.fnExactPutFieldSpec) :=
  OpenClaim.holds_of_wide 7 Try.f7 rfl rfl rfl rfl rfl rfl rfl ⟨rfl, rfl, rfl, rfl, rfl⟩ rfl rfl rfl rfl rfl (by kernel_rfl) Try.func7 (by kernel_rfl)
    (of_decide_eq_true (by kernel_rfl)) (by unfold Func.isWrapper; first | (rw [if_pos (by decide +kernel)]; kernel_rfl) | (rw [if_neg (by decide +kernel)]; exact ⟨rfl, rfl⟩))
    (fun os started H enc _ => lifted os started H enc)

end Go.Proofs.Ythlclieifcbkjaa.fnExactPutFieldProof
namespace Go.Proofs.Ythlclieifcbkjaa
theorem fnExactPutField_holds : Rows.FnExactPutFieldSaid := fnExactPutFieldProof.over
#print axioms fnExactPutField_holds
end Go.Proofs.Ythlclieifcbkjaa
