/-
  The law FnExactHalfSlopes holds: for all grids and pairs of numbers, HalfSlopes answers as its model does. No conditions.
-/
import Derived.Test.YtmimilchldjkbaaDoorCards
import Derived.Test.YtmimilchldjkbaaDoorTie
import Derived.Test.YtmimilchldjkbaaDoorSU3
import Derived.Test.YtmimilchldjkbaaDoorSU0
import Derived.Test.YtmimilchldjkbaaDoorK7
import Derived.Test.YtmimilchldjkbaaDoorOpenL
import Derived.WalkKit
import Derived.ProofKit
import Derived.OpenShut
import Derived.ShutString
import Derived.ChangeOld
import Derived.Below
import Derived.Carry
import Derived.Deep.RegionWith
import Derived.Lib.SmallJoins
import Derived.Lib.Hide
import Derived.Deep.DeepCutAuto
import Derived.Deep.DeepHandedRow
import Derived.Lib.LaidTab
import Derived.OpenVars
import Derived.ChangeVars
import Derived.Deep.DeepWitnessRowRef
namespace Go.Proofs.YtmimilchldjkbaaDoor.fnExactHalfSlopesProof
open Go.ChangeShapes Go.WideShapes Go.ChangeAt Go.RowKit Go.Joins
open Go.ChangeMaps (open_string shut_string)
set_option linter.unusedVariables false

theorem own : ownKnob Tryd.prog.godebug = none := by kernel_rfl
theorem laid : laidOutB Tryd.prog = true := by kernel_rfl

/-! ### The walk -/
set_option maxHeartbeats 8000000 in
set_option maxRecDepth 100000 in
theorem walk (x y z a1 a2 : Int) (w : World) (w1 : (Lit.int IntKind.i64 a1).wf = true) (w2 : (Lit.int IntKind.i64 a2).wf = true) (ht : TAB w) :
    Calls Tryd.prog 4 #[.agg #[.int .i64 x, .int .i64 y, .int .i64 z], .int .i64 a1, .int .i64 a2] w fun e w' => e = .returned (.bool true) ∧ Below w.heap.size w w' := by
  have HT := Lib.hid ht
  clear ht
  have HGD : Hid (∀ u, Calls Tryd.prog 11 #[.agg #[.int .i64 x, .int .i64 y, .int .i64 z]] u fun e w' => e = .returned (.agg #[.int .i64 x, .int .i64 y, .int .i64 z]) ∧ Below u.heap.size u w') := fun u => c_toGrid x y z u
  obtain ⟨n, tss, ss, bb, hn, hnl, htl, htt, hts, CS, CI⟩ : ∃ (n : Nat) (tss : List (List Int)) (ss : List Int) (bb : Bool), n ≤ 1000 ∧ ss.length = n ∧ tss.length ≤ 4 ∧ totN tss tss.length ≤ 1000 ∧ Short3 tss ∧ Hid (∀ (u : World), Calls Tryd.prog 16 #[.agg #[.int .i64 x, .int .i64 y, .int .i64 z], .int .i64 a1, .int .i64 a2] u (GivesS2 u ss tss bb)) ∧ Hid (∀ (u : World), TAB u → Calls Tryd.prog 17 #[.agg #[.int .i64 x, .int .i64 y, .int .i64 z], .int .i64 a1, .int .i64 a2] u (GivesS2 u ss tss bb)) :=
    ⟨(hsS x y z a1 a2).length, hsT x y z a1 a2, hsS x y z a1 a2, hsB x y z a1 a2, hs_box.1, rfl, hs_box.2.1, hs_box.2.2.1, hs_box.2.2.2, fun u => c_HalfSlopesS x y z a1 a2 u, fun u hu => c_HalfSlopes x y z a1 a2 u hu⟩
  have hnb : (bb != bb) = false := by simp
  have HTS := Lib.hid hts
  obtain ⟨M, hM⟩ : ∃ M : Int, M = 1 + (n : Int) + (totN tss tss.length : Nat) := ⟨_, rfl⟩
  have hnq : (M != M) = false := by simp
  have hpq : ¬ M < 0 := by omega
  have CM : Hid (∀ (v1 v2 : Value) (B U : Nat) (u : World), OwnS u B U v1 v2 ss tss → B ≤ u.heap.size → U ≤ u.heap.size → Calls Tryd.prog 14 #[.agg #[v1, v2], .int .i64 1] u fun e w' => e = .returned (.int .i64 M) ∧ OwnS w' B U v1 v2 (marks 1 n) (marksTo (1 + (n : Int)) tss tss.length) ∧ Below B u w' ∧ Above U u w') := fun v1 v2 B U u h h1 h2 => by
    have := c_markSlopes2 v1 v2 B U ss tss u (by omega) (by omega) (by omega) (by omega) h h1 h2
    rw [hnl, ← hM] at this
    exact this
  have CH : Hid (∀ (v1 v2 : Value) (B U : Nat) (u : World), OwnS u B U v1 v2 (marks 1 n) (marksTo (1 + (n : Int)) tss tss.length) → Calls Tryd.prog 15 #[.agg #[v1, v2], .int .i64 1] u fun e w' => e = .returned (.int .i64 M) ∧ Below u.heap.size u w') := fun v1 v2 B U u h => by
    have := c_heldSlopes v1 v2 B U n tss u (by omega) (by omega) (by omega) (by omega) h
    rw [← hM] at this
    exact this
  have CE : Hid (∀ (v1 v2 u1 u2 : Value) (B1 U1 B2 U2 : Nat) (u : World), OwnS u B1 U1 v1 v2 ss tss → OwnS u B2 U2 u1 u2 ss tss → U1 ≤ u.heap.size → U2 ≤ u.heap.size → Calls Tryd.prog 13 #[.agg #[v1, v2], .agg #[u1, u2]] u fun e w' => e = .returned (.bool true) ∧ Below u.heap.size u w') := fun v1 v2 u1 u2 B1 U1 B2 U2 u h h' h1 h2 => c_eqSlopes v1 v2 u1 u2 B1 U1 B2 U2 ss tss u (by omega) (by omega) HTS.out h h' h1 h2
  have HSh : Hid (∀ (u : World) (B U : Nat) (v1 v2 : Value), OwnS u B U v1 v2 ss tss → ∃ A1 c1 A2 c2, v1 = .slice A1 n c1 ∧ v2 = .slice A2 tss.length c2) := fun u B U v1 v2 h => by
    obtain ⟨A1, c1, e1⟩ := h.s.shape
    obtain ⟨A2, c2, e2⟩ := h.t.shape
    exact ⟨A1, c1, A2, c2, by rw [e1, hnl], e2⟩
  generalize hm : marksTo (1 + (n : Int)) tss tss.length = mss at *
  generalize hk : marks 1 n = ms at *
  clear hm hk hM hnl htt hts
  have HB0 : Hid (Below w.heap.size w (w.alloc (.cells #[.int .i64 x, .int .i64 y, .int .i64 z] 23))) := (Below.refl _ _).alloc (Nat.le_refl _) _
  have AG_0 : Hid (Box3 (w.alloc (.cells #[.int .i64 x, .int .i64 y, .int .i64 z] 23)) w.heap.size x y z) := Box3.new _ _ _ _ _
  go_enter Tryd.func4, Tryd.ntmps4
  go_wp2_with fail
  generalize w.alloc (.cells #[.int .i64 x, .int .i64 y, .int .i64 z] 23) = w0 at *
  refine (HGD.out _).mono ?_
  rintro e w1 ⟨rfl, hb⟩
  have HB1 : Hid (Below w.heap.size w w1) := HB0.out.trans (hb.mono HB0.out.size)
  have AG_1 := Lib.hid (AG_0.out.below hb)
  have cAG0_1 := AG_1.out.c0
  have cAG1_1 := AG_1.out.c1
  have cAG2_1 := AG_1.out.c2
  have lAG_1 := AG_1.out.lt
  clear hb
  go_wp2_with fail
  refine (CS.out _).mono ?_
  rintro e w2 ⟨v1, v2, rfl, ho, hb⟩
  obtain ⟨WA, Wc, WE, Wd, rfl, rfl⟩ := HSh.out _ _ _ _ _ ho
  have HB2 : Hid (Below w.heap.size w w2) := HB1.out.trans (hb.mono HB1.out.size)
  have AG_2 := Lib.hid (AG_1.out.below hb)
  have cAG0_2 := AG_2.out.c0
  have cAG1_2 := AG_2.out.c1
  have cAG2_2 := AG_2.out.c2
  have lAG_2 := AG_2.out.lt
  have WO_2 := Lib.hid ho
  have UWO_2 : Hid (w2.heap.size ≤ w2.heap.size) := Nat.le_refl _
  clear ho hb
  have hb : Below w2.heap.size w2 (w2.alloc (.cells #[.slice WA n Wc, .slice WE tss.length Wd] 27)) := (Below.refl _ _).alloc (Nat.le_refl _) _
  have HB2x : Hid (Below w.heap.size w (w2.alloc (.cells #[.slice WA n Wc, .slice WE tss.length Wd] 27))) := HB2.out.trans (hb.mono HB2.out.size)
  have AG_2x := Lib.hid (AG_2.out.below hb)
  have WO_2x := Lib.hid (WO_2.out.below hb UWO_2.out)
  have UWO_2x := Lib.hid (Nat.le_trans UWO_2.out hb.size)
  have WB_2x : Hid (Mine2 (w2.alloc (.cells #[.slice WA n Wc, .slice WE tss.length Wd] 27)) w2.heap.size (.slice WA n Wc) (.slice WE tss.length Wd)) := Mine2.new _ _ _ _
  clear hb
  go_wp2_with fail
  generalize w2.alloc (.cells #[.slice WA n Wc, .slice WE tss.length Wd] 27) = w2x at *
  have cAG0_2x := AG_2x.out.c0
  have cAG1_2x := AG_2x.out.c1
  have cAG2_2x := AG_2x.out.c2
  have lAG_2x := AG_2x.out.lt
  have cWB0_2x := WB_2x.out.c0
  have cWB1_2x := WB_2x.out.c1
  have lWB_2x := WB_2x.out.lt
  refine (HGD.out _).mono ?_
  rintro e w3 ⟨rfl, hb⟩
  have HB3 : Hid (Below w.heap.size w w3) := HB2x.out.trans (hb.mono HB2x.out.size)
  have AG_3 := Lib.hid (AG_2x.out.below hb)
  have WO_3 := Lib.hid (WO_2x.out.below hb UWO_2x.out)
  have UWO_3 := Lib.hid (Nat.le_trans UWO_2x.out hb.size)
  have WB_3 := Lib.hid (WB_2x.out.below hb)
  have cAG0_3 := AG_3.out.c0
  have cAG1_3 := AG_3.out.c1
  have cAG2_3 := AG_3.out.c2
  have lAG_3 := AG_3.out.lt
  have cWB0_3 := WB_3.out.c0
  have cWB1_3 := WB_3.out.c1
  have lWB_3 := WB_3.out.lt
  clear hb
  go_wp2_with fail
  refine (CI.out _ (HT.out.below HB3.out)).mono ?_
  rintro e w4 ⟨v1, v2, rfl, ho, hb⟩
  obtain ⟨GA, Gc, GE, Gd, rfl, rfl⟩ := HSh.out _ _ _ _ _ ho
  have HB4 : Hid (Below w.heap.size w w4) := HB3.out.trans (hb.mono HB3.out.size)
  have AG_4 := Lib.hid (AG_3.out.below hb)
  have WO_4 := Lib.hid (WO_3.out.below hb UWO_3.out)
  have UWO_4 := Lib.hid (Nat.le_trans UWO_3.out hb.size)
  have WB_4 := Lib.hid (WB_3.out.below hb)
  have cAG0_4 := AG_4.out.c0
  have cAG1_4 := AG_4.out.c1
  have cAG2_4 := AG_4.out.c2
  have lAG_4 := AG_4.out.lt
  have cWB0_4 := WB_4.out.c0
  have cWB1_4 := WB_4.out.c1
  have lWB_4 := WB_4.out.lt
  have HZG := Lib.hid hb.size
  have GO_4 := Lib.hid ho
  have UGO_4 : Hid (w4.heap.size ≤ w4.heap.size) := Nat.le_refl _
  clear ho hb
  have hb : Below w4.heap.size w4 (w4.alloc (.cells #[.slice GA n Gc, .slice GE tss.length Gd] 27)) := (Below.refl _ _).alloc (Nat.le_refl _) _
  have HB4x : Hid (Below w.heap.size w (w4.alloc (.cells #[.slice GA n Gc, .slice GE tss.length Gd] 27))) := HB4.out.trans (hb.mono HB4.out.size)
  have AG_4x := Lib.hid (AG_4.out.below hb)
  have WO_4x := Lib.hid (WO_4.out.below hb UWO_4.out)
  have UWO_4x := Lib.hid (Nat.le_trans UWO_4.out hb.size)
  have WB_4x := Lib.hid (WB_4.out.below hb)
  have GO_4x := Lib.hid (GO_4.out.below hb UGO_4.out)
  have UGO_4x := Lib.hid (Nat.le_trans UGO_4.out hb.size)
  have GB_4x : Hid (Mine2 (w4.alloc (.cells #[.slice GA n Gc, .slice GE tss.length Gd] 27)) w4.heap.size (.slice GA n Gc) (.slice GE tss.length Gd)) := Mine2.new _ _ _ _
  clear hb
  go_wp2_with fail
  generalize w4.alloc (.cells #[.slice GA n Gc, .slice GE tss.length Gd] 27) = w4x at *
  have cAG0_4x := AG_4x.out.c0
  have cAG1_4x := AG_4x.out.c1
  have cAG2_4x := AG_4x.out.c2
  have lAG_4x := AG_4x.out.lt
  have cWB0_4x := WB_4x.out.c0
  have cWB1_4x := WB_4x.out.c1
  have lWB_4x := WB_4x.out.lt
  have cGB0_4x := GB_4x.out.c0
  have cGB1_4x := GB_4x.out.c1
  have lGB_4x := GB_4x.out.lt
  refine (CE.out _ _ _ _ _ _ _ _ _ GO_4x.out WO_4x.out UGO_4x.out UWO_4x.out).mono ?_
  rintro e w5 ⟨rfl, hb⟩
  have HB5 : Hid (Below w.heap.size w w5) := HB4x.out.trans (hb.mono HB4x.out.size)
  have AG_5 := Lib.hid (AG_4x.out.below hb)
  have WO_5 := Lib.hid (WO_4x.out.below hb UWO_4x.out)
  have UWO_5 := Lib.hid (Nat.le_trans UWO_4x.out hb.size)
  have WB_5 := Lib.hid (WB_4x.out.below hb)
  have GO_5 := Lib.hid (GO_4x.out.below hb UGO_4x.out)
  have UGO_5 := Lib.hid (Nat.le_trans UGO_4x.out hb.size)
  have GB_5 := Lib.hid (GB_4x.out.below hb)
  have cAG0_5 := AG_5.out.c0
  have cAG1_5 := AG_5.out.c1
  have cAG2_5 := AG_5.out.c2
  have lAG_5 := AG_5.out.lt
  have cWB0_5 := WB_5.out.c0
  have cWB1_5 := WB_5.out.c1
  have lWB_5 := WB_5.out.lt
  have cGB0_5 := GB_5.out.c0
  have cGB1_5 := GB_5.out.c1
  have lGB_5 := GB_5.out.lt
  clear hb
  go_wp2_with fail
  refine (CM.out _ _ _ _ _ GO_5.out (Nat.le_trans HZG.out UGO_5.out) UGO_5.out).mono ?_
  rintro e w6 ⟨rfl, ho, hb, ha⟩
  have HB6 : Hid (Below w.heap.size w w6) := HB5.out.trans (hb.mono HB3.out.size)
  have AG_6 := Lib.hid (AG_5.out.under hb AG_3.out.lt)
  have WB_6 := Lib.hid (WB_5.out.under hb WB_3.out.lt)
  have WO_6 := Lib.hid (WO_5.out.below hb UWO_3.out)
  have UWO_6 := Lib.hid (Nat.le_trans UWO_5.out hb.size)
  have GB_6 := Lib.hid (GB_5.out.above ha (Nat.le_refl _) hb.size)
  have GO_6 := Lib.hid ho
  have UGO_6 := Lib.hid (Nat.le_trans UGO_5.out hb.size)
  clear ho hb ha
  have cAG0_6 := AG_6.out.c0
  have cAG1_6 := AG_6.out.c1
  have cAG2_6 := AG_6.out.c2
  have lAG_6 := AG_6.out.lt
  have cWB0_6 := WB_6.out.c0
  have cWB1_6 := WB_6.out.c1
  have lWB_6 := WB_6.out.lt
  have cGB0_6 := GB_6.out.c0
  have cGB1_6 := GB_6.out.c1
  have lGB_6 := GB_6.out.lt
  go_wp2_with fail
  refine (CH.out _ _ _ _ _ GO_6.out).mono ?_
  rintro e w7 ⟨rfl, hb⟩
  have HB7 : Hid (Below w.heap.size w w7) := HB6.out.trans (hb.mono HB6.out.size)
  have AG_7 := Lib.hid (AG_6.out.below hb)
  have WO_7 := Lib.hid (WO_6.out.below hb UWO_6.out)
  have UWO_7 := Lib.hid (Nat.le_trans UWO_6.out hb.size)
  have WB_7 := Lib.hid (WB_6.out.below hb)
  have GO_7 := Lib.hid (GO_6.out.below hb UGO_6.out)
  have UGO_7 := Lib.hid (Nat.le_trans UGO_6.out hb.size)
  have GB_7 := Lib.hid (GB_6.out.below hb)
  have cAG0_7 := AG_7.out.c0
  have cAG1_7 := AG_7.out.c1
  have cAG2_7 := AG_7.out.c2
  have lAG_7 := AG_7.out.lt
  have cWB0_7 := WB_7.out.c0
  have cWB1_7 := WB_7.out.c1
  have lWB_7 := WB_7.out.lt
  have cGB0_7 := GB_7.out.c0
  have cGB1_7 := GB_7.out.c1
  have lGB_7 := GB_7.out.lt
  clear hb
  go_wp2_with fail
  refine (HGD.out _).mono ?_
  rintro e w8 ⟨rfl, hb⟩
  have HB8 : Hid (Below w.heap.size w w8) := HB7.out.trans (hb.mono HB7.out.size)
  have AG_8 := Lib.hid (AG_7.out.below hb)
  have WO_8 := Lib.hid (WO_7.out.below hb UWO_7.out)
  have UWO_8 := Lib.hid (Nat.le_trans UWO_7.out hb.size)
  have WB_8 := Lib.hid (WB_7.out.below hb)
  have GO_8 := Lib.hid (GO_7.out.below hb UGO_7.out)
  have UGO_8 := Lib.hid (Nat.le_trans UGO_7.out hb.size)
  have GB_8 := Lib.hid (GB_7.out.below hb)
  have cAG0_8 := AG_8.out.c0
  have cAG1_8 := AG_8.out.c1
  have cAG2_8 := AG_8.out.c2
  have lAG_8 := AG_8.out.lt
  have cWB0_8 := WB_8.out.c0
  have cWB1_8 := WB_8.out.c1
  have lWB_8 := WB_8.out.lt
  have cGB0_8 := GB_8.out.c0
  have cGB1_8 := GB_8.out.c1
  have lGB_8 := GB_8.out.lt
  clear hb
  go_wp2_with fail
  refine (CI.out _ (HT.out.below HB8.out)).mono ?_
  rintro e w9 ⟨v1, v2, rfl, ho, hb⟩
  obtain ⟨HA, Hc, HE, Hd, rfl, rfl⟩ := HSh.out _ _ _ _ _ ho
  have HB9 : Hid (Below w.heap.size w w9) := HB8.out.trans (hb.mono HB8.out.size)
  have AG_9 := Lib.hid (AG_8.out.below hb)
  have WO_9 := Lib.hid (WO_8.out.below hb UWO_8.out)
  have UWO_9 := Lib.hid (Nat.le_trans UWO_8.out hb.size)
  have WB_9 := Lib.hid (WB_8.out.below hb)
  have GO_9 := Lib.hid (GO_8.out.below hb UGO_8.out)
  have UGO_9 := Lib.hid (Nat.le_trans UGO_8.out hb.size)
  have GB_9 := Lib.hid (GB_8.out.below hb)
  have cAG0_9 := AG_9.out.c0
  have cAG1_9 := AG_9.out.c1
  have cAG2_9 := AG_9.out.c2
  have lAG_9 := AG_9.out.lt
  have cWB0_9 := WB_9.out.c0
  have cWB1_9 := WB_9.out.c1
  have lWB_9 := WB_9.out.lt
  have cGB0_9 := GB_9.out.c0
  have cGB1_9 := GB_9.out.c1
  have lGB_9 := GB_9.out.lt
  have HO_9 := Lib.hid ho
  have UHO_9 : Hid (w9.heap.size ≤ w9.heap.size) := Nat.le_refl _
  clear ho hb
  have hb : Below w9.heap.size w9 (w9.alloc (.cells #[.slice HA n Hc, .slice HE tss.length Hd] 27)) := (Below.refl _ _).alloc (Nat.le_refl _) _
  have HB9x : Hid (Below w.heap.size w (w9.alloc (.cells #[.slice HA n Hc, .slice HE tss.length Hd] 27))) := HB9.out.trans (hb.mono HB9.out.size)
  have AG_9x := Lib.hid (AG_9.out.below hb)
  have WO_9x := Lib.hid (WO_9.out.below hb UWO_9.out)
  have UWO_9x := Lib.hid (Nat.le_trans UWO_9.out hb.size)
  have WB_9x := Lib.hid (WB_9.out.below hb)
  have GO_9x := Lib.hid (GO_9.out.below hb UGO_9.out)
  have UGO_9x := Lib.hid (Nat.le_trans UGO_9.out hb.size)
  have GB_9x := Lib.hid (GB_9.out.below hb)
  have HO_9x := Lib.hid (HO_9.out.below hb UHO_9.out)
  have UHO_9x := Lib.hid (Nat.le_trans UHO_9.out hb.size)
  have HB_9x : Hid (Mine2 (w9.alloc (.cells #[.slice HA n Hc, .slice HE tss.length Hd] 27)) w9.heap.size (.slice HA n Hc) (.slice HE tss.length Hd)) := Mine2.new _ _ _ _
  clear hb
  go_wp2_with fail
  generalize w9.alloc (.cells #[.slice HA n Hc, .slice HE tss.length Hd] 27) = w9x at *
  have cAG0_9x := AG_9x.out.c0
  have cAG1_9x := AG_9x.out.c1
  have cAG2_9x := AG_9x.out.c2
  have lAG_9x := AG_9x.out.lt
  have cWB0_9x := WB_9x.out.c0
  have cWB1_9x := WB_9x.out.c1
  have lWB_9x := WB_9x.out.lt
  have cGB0_9x := GB_9x.out.c0
  have cGB1_9x := GB_9x.out.c1
  have lGB_9x := GB_9x.out.lt
  have cHB0_9x := HB_9x.out.c0
  have cHB1_9x := HB_9x.out.c1
  have lHB_9x := HB_9x.out.lt
  refine (CE.out _ _ _ _ _ _ _ _ _ HO_9x.out WO_9x.out UHO_9x.out UWO_9x.out).mono ?_
  rintro e w10 ⟨rfl, hb⟩
  have HB10 : Hid (Below w.heap.size w w10) := HB9x.out.trans (hb.mono HB9x.out.size)
  have AG_10 := Lib.hid (AG_9x.out.below hb)
  have WO_10 := Lib.hid (WO_9x.out.below hb UWO_9x.out)
  have UWO_10 := Lib.hid (Nat.le_trans UWO_9x.out hb.size)
  have WB_10 := Lib.hid (WB_9x.out.below hb)
  have GO_10 := Lib.hid (GO_9x.out.below hb UGO_9x.out)
  have UGO_10 := Lib.hid (Nat.le_trans UGO_9x.out hb.size)
  have GB_10 := Lib.hid (GB_9x.out.below hb)
  have HO_10 := Lib.hid (HO_9x.out.below hb UHO_9x.out)
  have UHO_10 := Lib.hid (Nat.le_trans UHO_9x.out hb.size)
  have HB_10 := Lib.hid (HB_9x.out.below hb)
  have cAG0_10 := AG_10.out.c0
  have cAG1_10 := AG_10.out.c1
  have cAG2_10 := AG_10.out.c2
  have lAG_10 := AG_10.out.lt
  have cWB0_10 := WB_10.out.c0
  have cWB1_10 := WB_10.out.c1
  have lWB_10 := WB_10.out.lt
  have cGB0_10 := GB_10.out.c0
  have cGB1_10 := GB_10.out.c1
  have lGB_10 := GB_10.out.lt
  have cHB0_10 := HB_10.out.c0
  have cHB1_10 := HB_10.out.c1
  have lHB_10 := HB_10.out.lt
  clear hb
  go_wp2_with fail
  refine (CH.out _ _ _ _ _ GO_10.out).mono ?_
  rintro e w11 ⟨rfl, hb⟩
  have HB11 : Hid (Below w.heap.size w w11) := HB10.out.trans (hb.mono HB10.out.size)
  have AG_11 := Lib.hid (AG_10.out.below hb)
  have WO_11 := Lib.hid (WO_10.out.below hb UWO_10.out)
  have UWO_11 := Lib.hid (Nat.le_trans UWO_10.out hb.size)
  have WB_11 := Lib.hid (WB_10.out.below hb)
  have GO_11 := Lib.hid (GO_10.out.below hb UGO_10.out)
  have UGO_11 := Lib.hid (Nat.le_trans UGO_10.out hb.size)
  have GB_11 := Lib.hid (GB_10.out.below hb)
  have HO_11 := Lib.hid (HO_10.out.below hb UHO_10.out)
  have UHO_11 := Lib.hid (Nat.le_trans UHO_10.out hb.size)
  have HB_11 := Lib.hid (HB_10.out.below hb)
  have cAG0_11 := AG_11.out.c0
  have cAG1_11 := AG_11.out.c1
  have cAG2_11 := AG_11.out.c2
  have lAG_11 := AG_11.out.lt
  have cWB0_11 := WB_11.out.c0
  have cWB1_11 := WB_11.out.c1
  have lWB_11 := WB_11.out.lt
  have cGB0_11 := GB_11.out.c0
  have cGB1_11 := GB_11.out.c1
  have lGB_11 := GB_11.out.lt
  have cHB0_11 := HB_11.out.c0
  have cHB1_11 := HB_11.out.c1
  have lHB_11 := HB_11.out.lt
  clear hb
  go_wp2
  go_ret
  exact ⟨rfl, HB11.out⟩


/-! ### The row's step -/
set_option maxRecDepth 100000 in
theorem contract (H : Type) (enc : TypeId × Value → H) (W : World) (base : Nat) (args : Array Value) (ds gs : List (DataW H)) (before : List MemPlace)
    (hval0 : ∀ (j : Nat) t v, Tryd.f4.params[j]? = some t → args[j]? = some v → Value.okWide Tryd.prog W .any base t v)
    (hW : DataW.Whole enc Tryd.prog Tryd.f4.params.toList Rows.fnExactHalfSlopesSpec.vars false W args.toList ds gs before) (hlaid : laidMetH Tryd.prog Rows.fnExactHalfSlopesRow.laid W) :
    Calls Tryd.prog 4 args W fun e W' => ∃ v, e = .returned v ∧ Rows.fnExactHalfSlopesSpec.post enc Tryd.prog Tryd.f4 false true false false W args v W' := by
  have hval : ∀ (j : Nat) t v, Tryd.f4.params[j]? = some t → args[j]? = some v → Value.okWide Tryd.prog W .any base t v := hval0
  have hL0 : laidMet Tryd.prog (("loop.example/g00914/impl.standardTemplates", stdD) :: []) W := hlaid
  have hrk : TAB W := tab_of_laid hL0
  have hW' := hW
  have lts : ∀ x ∈ before, x.block < W.heap.size := fun x hx => by simpa using hW'.lt x hx
  obtain ⟨p, q, hA0, hV, rfl, hfz, hnd⟩ := hW
  have hA : DataW.TrodAll enc Tryd.prog W 0 (fun _ => true) true Tryd.f4.params.toList args.toList ds p := hA0
  rw [Tryd.params4] at hA hval
  obtain ⟨v0, vs0, d0, ds0, p0, q0, hargs, rfl, rfl, h0, r0⟩ := trodAll_cons hA
  obtain ⟨v1, vs1, d1, ds1, p1, q1, rfl, rfl, rfl, h1, r1⟩ := trodAll_cons r0
  obtain ⟨v2, vs2, d2, ds2, p2, q2, rfl, rfl, rfl, h2, r2⟩ := trodAll_cons r1
  obtain ⟨rfl, rfl, rfl⟩ := trodAll_nil r2
  obtain rfl : args = #[v0, v1, v2] := by cases args; simp_all
  obtain ⟨g9, t9, cs9, f9, d9, p9, rfl, _⟩ := trodVars_one hV
  have k0 := h0
  obtain ⟨x, y, z, rfl⟩ := open_grid (hval 0 23 v0 rfl rfl) h0
  have k1 := h1
  obtain ⟨a1, rfl, _, _, w1⟩ := open_int Tryd.underlying3 (hval 1 3 v1 rfl rfl) h1
  have k2 := h2
  obtain ⟨a2, rfl, _, _, w2⟩ := open_int Tryd.underlying3 (hval 2 3 v2 rfl rfl) h2
  clear hA0 hval0
  simp only [List.append_nil] at hW' lts
  refine (walk x y z a1 a2 W  w1 w2 hrk).mono fun e W' ⟨he, bel⟩ => ?_
  subst he
  exact ⟨_, rfl, _, _, _, [], _, _, hW', trodAll_mk1 (shut_bool Tryd.underlying4 _), (trodAll_cons_mk (Below.trod laid (by kernel_rfl) (of_decide_eq_true (by kernel_rfl)) k0 bel (fun x hx => lts x (by simp [hx]))) (trodAll_cons_mk (Below.trod laid (by kernel_rfl) (of_decide_eq_true (by kernel_rfl)) k1 bel (fun x hx => lts x (by simp [hx]))) (trodAll_cons_mk (Below.trod laid (by kernel_rfl) (of_decide_eq_true (by kernel_rfl)) k2 bel (fun x hx => lts x (by simp [hx]))) trodAll_mk0))), Below.trodVars laid bel (by kernel_rfl) hV, bel.frame _, fun h => by cases h⟩

/-- A world for the witness: the settled one, the listed table holding what its initialiser lays. -/
noncomputable def laidHeap0 (os : Os) : Array Obj :=
  Array.modify (World.holding Tryd.prog os ⟨#[], #[], []⟩).heap 0 fun
    | .cells _ t frozen => .cells #[.slice (some ⟨(World.holding Tryd.prog os ⟨#[], #[], []⟩).heap.size + 0, 0, none⟩) 1 1, .slice (some ⟨(World.holding Tryd.prog os ⟨#[], #[], []⟩).heap.size + 1, 0, none⟩) 5 5, .slice (some ⟨(World.holding Tryd.prog os ⟨#[], #[], []⟩).heap.size + 2, 0, none⟩) 9 9, .slice (some ⟨(World.holding Tryd.prog os ⟨#[], #[], []⟩).heap.size + 3, 0, none⟩) 9 9] t frozen
    | o => o
noncomputable def laidHeap1 (h0 : Array Obj) : Array Obj :=
  Array.push (Array.push (Array.push (Array.push (h0) (.cells #[.int .i64 (0), .int .i64 (0), .int .i64 (1)] 133)) (.cells #[.int .i64 (0), .int .i64 (-1), .int .i64 (1), .int .i64 (-1), .int .i64 (0), .int .i64 (1), .int .i64 (0), .int .i64 (0), .int .i64 (1), .int .i64 (1), .int .i64 (0), .int .i64 (1), .int .i64 (0), .int .i64 (1), .int .i64 (1)] 133)) (.cells #[.int .i64 (-1), .int .i64 (-1), .int .i64 (1), .int .i64 (0), .int .i64 (-1), .int .i64 (1), .int .i64 (1), .int .i64 (-1), .int .i64 (1), .int .i64 (-1), .int .i64 (0), .int .i64 (1), .int .i64 (0), .int .i64 (0), .int .i64 (1), .int .i64 (1), .int .i64 (0), .int .i64 (1), .int .i64 (-1), .int .i64 (1), .int .i64 (1), .int .i64 (0), .int .i64 (1), .int .i64 (1), .int .i64 (1), .int .i64 (1), .int .i64 (1)] 133)) (.cells #[.int .i64 (0), .int .i64 (-1), .int .i64 (1), .int .i64 (-1), .int .i64 (0), .int .i64 (1), .int .i64 (0), .int .i64 (0), .int .i64 (1), .int .i64 (1), .int .i64 (0), .int .i64 (1), .int .i64 (0), .int .i64 (1), .int .i64 (1), .int .i64 (0), .int .i64 (-2), .int .i64 (2), .int .i64 (-2), .int .i64 (0), .int .i64 (2), .int .i64 (2), .int .i64 (0), .int .i64 (2), .int .i64 (0), .int .i64 (2), .int .i64 (2)] 133)
noncomputable def laidWorld (os : Os) : World :=
  { World.holding Tryd.prog os ⟨#[], #[], []⟩ with heap := laidHeap1 (laidHeap0 os) }

set_option maxRecDepth 100000 in
theorem laid_met (os : Os) : laidMet Tryd.prog Rows.fnExactHalfSlopesRow.laid ((laidWorld os).forCall (fun _ _ => 0) ⟨#[], #[.agg #[.int .i64 0, .int .i64 0, .int .i64 0], .int .i64 0, .int .i64 0], []⟩).memory :=
  laidMet_of_run' 8 (by kernel_rfl) (by kernel_rfl)
theorem reads (os : Os) {H : Type} (enc : TypeId × Value → H) : ∃ x, DataW.whole enc Tryd.prog ((laidWorld os).forCall (fun _ _ => 0) ⟨#[], #[.agg #[.int .i64 0, .int .i64 0, .int .i64 0], .int .i64 0, .int .i64 0], []⟩).memory Tryd.f4.params.toList Rows.fnExactHalfSlopesSpec.vars false (#[.agg #[.int .i64 0, .int .i64 0, .int .i64 0], .int .i64 0, .int .i64 0] : Array Value).toList 8 = some x :=
  Option.isSome_iff_exists.1 (by kernel_rfl)

set_option maxRecDepth 100000 in
theorem lifted (os : Os) (started : os.Started) (H : Type) (enc : TypeId × Value → H) (F : Stop.Interp) :
    ReturnsInHanded {} Tryd.checked os 4 .any ((OpenSpec.ofChange Rows.fnExactHalfSlopesSpec).preRow enc Tryd.prog Tryd.f4 Rows.fnExactHalfSlopesRow.domain false Rows.fnExactHalfSlopesRow.laid) (((OpenSpec.ofChange Rows.fnExactHalfSlopesSpec).at F).post enc Tryd.prog Tryd.f4 false true false false) := by
  obtain ⟨x, hx⟩ := reads os enc
  refine returnsInHanded_of_row (C := Tryd.checked) (s := OpenSpec.ofChange Rows.fnExactHalfSlopesSpec) own started (by kernel_rfl) Tryd.func4
    (witness_row_atRef (enc := enc) (C := Tryd.checked) false (laidWorld os) #[.agg #[.int .i64 0, .int .i64 0, .int .i64 0], .int .i64 0, .int .i64 0] rfl (by kernel_rfl) (by kernel_rfl) (by kernel_rfl)
      (OpenSpec.preRow_of_cond 8 hx (by kernel_rfl) (fun k hk => by cases hk) (by kernel_rfl) (laid_met os))) ?_
  intro W base args ds gs before hval hW _ _ _ hlaid _ _
  exact contract H enc W base args ds gs before hval hW hlaid

theorem said : Rows.FnExactHalfSlopesSaid :=
  OpenClaim.holds_of_cond 4 Tryd.f4 rfl rfl rfl rfl rfl rfl rfl ⟨rfl, rfl, rfl, rfl, rfl⟩ rfl rfl rfl rfl rfl (by kernel_rfl) Tryd.func4 (by kernel_rfl)
    (of_decide_eq_true (by kernel_rfl)) (by unfold Func.isWrapper; first | (rw [if_pos (by decide +kernel)]; kernel_rfl) | (rw [if_neg (by decide +kernel)]; exact ⟨rfl, rfl⟩))
    (fun os started H enc _ F => by rw [OpenClaim.pre_eq_preRow]; exact lifted os started H enc F)

theorem plain (f : FuncId) (fn : Func) (hf : Tryd.pinned.checked.prog.funcNamed "loop.example/g00914/laws.FnExactHalfSlopes" = some f) (hfn : Tryd.pinned.checked.prog.funcs[f]? = some fn) :
    true = Tryd.pinned.checked.prog.looks [] ∧ ∀ (j : Nat) t, fn.params[j]? = some t → Tryd.pinned.checked.prog.wantsStandIn t = false := by
  obtain rfl : f = 4 := Option.some.inj ((show Tryd.prog.funcNamed "loop.example/g00914/laws.FnExactHalfSlopes" = some 4 by kernel_rfl).symm.trans hf) |>.symm
  obtain rfl : fn = Tryd.f4 := (Option.some.inj (Tryd.func4.symm.trans hfn)).symm
  refine ⟨by kernel_rfl, fun j t ht => ?_⟩
  rw [Tryd.params4] at ht
  have ht' : t = 23 ∨ t = 3 ∨ t = 3 := by simpa using Array.mem_of_getElem? ht
  rcases ht' with rfl | rfl | rfl
  · exact (show Tryd.prog.wantsStandIn 23 = false by kernel_rfl)
  · exact (show Tryd.prog.wantsStandIn 3 = false by kernel_rfl)
  · exact (show Tryd.prog.wantsStandIn 3 = false by kernel_rfl)
end Go.Proofs.YtmimilchldjkbaaDoor.fnExactHalfSlopesProof
namespace Go.Proofs.YtmimilchldjkbaaDoor
theorem fnExactHalfSlopes_holds : Rows.FnExactHalfSlopesCardSaid :=
  Claim7.holds_tied_plain_at .later [] _ _ _ _ fnExactHalfSlopesProof.said (fun _ h => by cases h) (by kernel_rfl) (fun _ h => by cases h) fnExactHalfSlopes_row_tie rfl ⟨rfl, rfl⟩ (by kernel_rfl) rfl fnExactHalfSlopesProof.plain (by kernel_rfl)
#print axioms fnExactHalfSlopes_holds
end Go.Proofs.YtmimilchldjkbaaDoor
