/-
  The law FnExactSlopesText holds: for all grids and slopes, SlopesText answers as its model does, and the slopes read as they did. No conditions.
-/
import Derived.Test.YtmimilchldjkbaaDoorCards
import Derived.Test.YtmimilchldjkbaaDoorTie
import Derived.Test.YtmimilchldjkbaaDoorTS3
import Derived.Test.YtmimilchldjkbaaDoorK7
import Derived.Test.YtmimilchldjkbaaDoorOpenL
import Derived.WalkKit
import Derived.ProofKit
import Derived.OpenShut
import Derived.ShutString
import Derived.ChangeOld
import Derived.Below
import Derived.Carry
import Derived.Deep.RegionWith
import Derived.Lib.SmallJoins
import Derived.Lib.Hide
import Derived.Deep.DeepCutAuto
import Derived.Deep.DeepHandedRow
import Derived.Lib.LaidTab
import Derived.OpenVars
import Derived.ChangeVars
import Derived.Deep.DeepWitnessRowRef
import Derived.Stop.LaidErr
namespace Go.Proofs.YtmimilchldjkbaaDoor.fnExactSlopesTextProof
open Go.ChangeShapes Go.WideShapes Go.ChangeAt Go.RowKit Go.Joins
open Go.ChangeMaps (open_string shut_string)
set_option linter.unusedVariables false

theorem own : ownKnob Tryd.prog.godebug = none := by kernel_rfl
theorem laid : laidOutB Tryd.prog = true := by kernel_rfl

/-! ### The walk -/
set_option maxHeartbeats 4000000 in
set_option maxRecDepth 100000 in
theorem walk (x y z : Int) (v1 v2 : Value) (ss : List Int) (tss : List (List Int)) (w : World) (hL : LookS w v1 v2 ss tss) (htb : TB w) :
    Calls Tryd.prog 5 #[.agg #[.int .i64 x, .int .i64 y, .int .i64 z], .agg #[v1, v2]] w fun e w' => e = .returned (.bool true) ∧ Below w.heap.size w w' := by
  have HL := Lib.hid hL
  have HTB := Lib.hid htb
  clear htb
  obtain ⟨A1, c1, rfl, _, _⟩ := hL.s
  obtain ⟨A2, c2, rfl, _⟩ := hL.t.shape
  clear hL
  have HGD : Hid (∀ u, Calls Tryd.prog 11 #[.agg #[.int .i64 x, .int .i64 y, .int .i64 z]] u fun e w' => e = .returned (.agg #[.int .i64 x, .int .i64 y, .int .i64 z]) ∧ Below u.heap.size u w') := fun u => c_toGrid x y z u
  have HB0 : Hid (Below w.heap.size w ((w.alloc (.cells #[.int .i64 x, .int .i64 y, .int .i64 z] 23)).alloc (.cells #[.slice A1 ss.length c1, .slice A2 tss.length c2] 39))) := ((Below.refl _ _).alloc (Nat.le_refl _) _).alloc (by simp) _
  have AG_0 : Hid (Box3 ((w.alloc (.cells #[.int .i64 x, .int .i64 y, .int .i64 z] 23)).alloc (.cells #[.slice A1 ss.length c1, .slice A2 tss.length c2] 39)) w.heap.size x y z) := (Box3.new _ _ _ _ _).below ((Below.refl _ _).alloc (Nat.le_refl _) _)
  have AS_0 : Hid (Mine2 ((w.alloc (.cells #[.int .i64 x, .int .i64 y, .int .i64 z] 23)).alloc (.cells #[.slice A1 ss.length c1, .slice A2 tss.length c2] 39)) (w.heap.size + 1) (.slice A1 ss.length c1) (.slice A2 tss.length c2)) := by
    have := Mine2.new (w.alloc (.cells #[.int .i64 x, .int .i64 y, .int .i64 z] 23)) (.slice A1 ss.length c1) (.slice A2 tss.length c2) 39
    simp at this
    exact this
  have hne0 : (sloV x y z ss tss != sloV x y z ss tss) = false := by simp
  go_enter Tryd.func5, Tryd.ntmps5
  go_wp2_with fail
  generalize ((w.alloc (.cells #[.int .i64 x, .int .i64 y, .int .i64 z] 23)).alloc (.cells #[.slice A1 ss.length c1, .slice A2 tss.length c2] 39)) = w0 at *
  go_wp2_with fail
  refine (c_szSlopes _ _ ss tss _ (HL.out.below HB0.out)).mono ?_
  rintro e w1 ⟨⟨r, rfl, hsz⟩, hb1⟩
  have HB1 : Hid (Below w.heap.size w w1) := HB0.out.trans (hb1.mono HB0.out.size)
  have AG_1 := Lib.hid (AG_0.out.below hb1)
  have AS_1 := Lib.hid (AS_0.out.below hb1)
  have cAG0_1 := AG_1.out.c0
  have cAG1_1 := AG_1.out.c1
  have cAG2_1 := AG_1.out.c2
  have cAS0_1 := AS_1.out.c0
  have cAS1_1 := AS_1.out.c1
  clear hb1
  rcases hsz with rfl | ⟨hsz, hr⟩
  · go_wp2
    go_ret
    exact ⟨rfl, HB1.out⟩
  · have hr0 : ¬ r < 0 := by omega
    have l1 : ss.length ≤ 1048576 := by omega
    have l1' : ss.length ≤ 4000000 := by omega
    have l2 : Hid (ShortT tss) := shortT_of (left := 1048576) (by omega) (by omega)
    have l3 : tss.length ≤ 1048576 := by omega
    have L3 : Hid (Short3 tss) := fun i hi => by have := l2.out.2 i hi; omega
    clear hr
    clear hsz
    have CC : Hid (∀ u, Below w.heap.size w u → Calls Tryd.prog 20 #[.agg #[.slice A1 ss.length c1, .slice A2 tss.length c2]] u (GivesS u ss tss)) := fun u hu => c_toSlopes _ _ ss tss u l1' l2.out (HL.out.below hu)
    have CS : Hid (∀ (p1 p2 : Value) (u : World), LookS u p1 p2 ss tss → Calls Tryd.prog 19 #[.agg #[.int .i64 x, .int .i64 y, .int .i64 z], .agg #[p1, p2]] u (fun e u' => e = .returned (.tuple #[.string (stS x y z ss tss), .bool (sloV x y z ss tss)]) ∧ Below u.heap.size u u')) := fun p1 p2 u hu => c_SlopesTextS x y z p1 p2 ss tss u l1' l2.out hu
    have CI : Hid (∀ (p1 p2 : Value) (u : World), LookS u p1 p2 ss tss → Below w.heap.size w u → Calls Tryd.prog 21 #[.agg #[.int .i64 x, .int .i64 y, .int .i64 z], .agg #[p1, p2]] u (fun e u' => e = .returned (.tuple #[.string (stS x y z ss tss), .bool (sloV x y z ss tss)]) ∧ Below u.heap.size u u')) := fun p1 p2 u hu hub => c_SlopesText x y z p1 p2 ss tss u l1' l2.out hu (tabIs_below HTB.out hub)
    go_upto_region 5 with fail
    go_cut [6, 7] from 16 to 23 (fun s6 s7 wx => s6 = .string (stS x y z ss tss) ∧ s7 = .bool (sloV x y z ss tss) ∧ Below w1.heap.size w1 wx)
    case first =>
      have KD : Hid (Below w1.heap.size w1 w1.drew) := (Below.refl _ _).drew
      have KE : Hid (∀ u, Below w1.heap.size w1 u → u.cell? ⟨w.heap.size, 0, none⟩ = some (.int .i64 x) ∧ u.cell? ⟨w.heap.size, 1, none⟩ = some (.int .i64 y) ∧ u.cell? ⟨w.heap.size, 2, none⟩ = some (.int .i64 z) ∧ u.cell? ⟨w.heap.size + 1, 0, none⟩ = some (.slice A1 ss.length c1) ∧ u.cell? ⟨w.heap.size + 1, 1, none⟩ = some (.slice A2 tss.length c2)) := fun u hu => by
        have h1 := AG_1.out.below hu
        have h2 := AS_1.out.below hu
        exact ⟨h1.c0, h1.c1, h1.c2, h2.c0, h2.c1⟩
      have KB : Hid (∀ u, Below w1.heap.size w1 u → Below w.heap.size w u) := fun u hu => HB1.out.trans (hu.mono HB1.out.size)
      go_region_held3 (fun u => u.cell? ⟨w.heap.size, 0, none⟩ = some (.int .i64 x) ∧ u.cell? ⟨w.heap.size, 1, none⟩ = some (.int .i64 y) ∧ u.cell? ⟨w.heap.size, 2, none⟩ = some (.int .i64 z) ∧ u.cell? ⟨w.heap.size + 1, 0, none⟩ = some (.slice A1 ss.length c1) ∧ u.cell? ⟨w.heap.size + 1, 1, none⟩ = some (.slice A2 tss.length c2)) (first | with_reducible exact KE.out _ KD.out | with_reducible exact KE.out _ UA.out | with_reducible exact KE.out _ US.out | with_reducible exact KE.out _ UF.out)
        (first
          | (go_at_call 11; (with_reducible refine (HGD.out _).mono ?_); rintro e wa ⟨rfl, hb⟩; have UA : Hid (Below w1.heap.size w1 wa) := US.out.trans (hb.mono US.out.size); have SA := Lib.hid (SS.out.below hb (Nat.le_refl _)); clear hb)
          | (go_at_call 11; (with_reducible refine (HGD.out _).mono ?_); rintro e wa ⟨rfl, hb⟩; have UA : Hid (Below w1.heap.size w1 wa) := KD.out.trans (hb.mono KD.out.size); clear hb)
          | (go_at_call 20; (with_reducible refine (CC.out _ (KB.out _ UA.out)).mono ?_); rintro e ws ⟨sa, sb, rfl, hs, hb⟩; have US : Hid (Below w1.heap.size w1 ws) := UA.out.trans (hb.mono UA.out.size); have SS := Lib.hid hs; clear hb hs)
          | (go_at_call 20; (with_reducible refine (CC.out _ (KB.out _ KD.out)).mono ?_); rintro e ws ⟨sa, sb, rfl, hs, hb⟩; have US : Hid (Below w1.heap.size w1 ws) := KD.out.trans (hb.mono KD.out.size); have SS := Lib.hid hs; clear hb hs)
          | (go_at_call 19; (with_reducible refine (CS.out _ _ _ SA.out.look).mono ?_); rintro e wf ⟨rfl, hb⟩; have UF : Hid (Below w1.heap.size w1 wf) := UA.out.trans (hb.mono UA.out.size); clear hb)
          | (go_at_call 19; (with_reducible refine (CS.out _ _ _ SS.out.look).mono ?_); rintro e wf ⟨rfl, hb⟩; have UF : Hid (Below w1.heap.size w1 wf) := US.out.trans (hb.mono US.out.size); clear hb))
      all_goals
        go_wp2_with fail
        go_meet
        exact ⟨rfl, rfl, UF.out⟩
    case rest =>
      obtain ⟨rfl, rfl, hb2⟩ := hcut
      obtain ⟨w2, ew2⟩ : ∃ u, u = wc := ⟨_, rfl⟩
      subst ew2
      have HB2 : Hid (Below w.heap.size w w2) := HB1.out.trans (hb2.mono HB1.out.size)
      have AG_2 := Lib.hid (AG_1.out.below hb2)
      have AS_2 := Lib.hid (AS_1.out.below hb2)
      have cAG0_2 := AG_2.out.c0
      have cAG1_2 := AG_2.out.c1
      have cAG2_2 := AG_2.out.c2
      have cAS0_2 := AS_2.out.c0
      have cAS1_2 := AS_2.out.c1
      clear hb2
      go_wp2_with fail
      refine (CC.out _ HB2.out).mono ?_
      rintro e w3 ⟨xa, xb, rfl, hs, hb3⟩
      have HB3 : Hid (Below w.heap.size w w3) := HB2.out.trans (hb3.mono HB2.out.size)
      have AG_3 := Lib.hid (AG_2.out.below hb3)
      have AS_3 := Lib.hid (AS_2.out.below hb3)
      have cAG0_3 := AG_3.out.c0
      have cAG1_3 := AG_3.out.c1
      have cAG2_3 := AG_3.out.c2
      have cAS0_3 := AS_3.out.c0
      have cAS1_3 := AS_3.out.c1
      have XM_3 := Lib.hid hs
      have UXM_3 : Hid (_ ≤ _) := Nat.le_refl w3.heap.size
      have HBX : Hid (w2.heap.size ≤ w3.heap.size) := hb3.size
      clear hs
      clear hb3
      obtain ⟨Q1, k1, hq1⟩ := XM_3.out.s.shape
      obtain ⟨Q2, k2, hq2⟩ := XM_3.out.t.shape
      subst hq1
      subst hq2
      have hbx : Below w3.heap.size w3 (w3.alloc (Obj.cells #[.slice Q1 ss.length k1, .slice Q2 tss.length k2] 27)) := (Below.refl _ _).alloc (Nat.le_refl _) _
      have HB4 : Hid (Below w.heap.size w (w3.alloc (Obj.cells #[.slice Q1 ss.length k1, .slice Q2 tss.length k2] 27))) := HB3.out.trans (hbx.mono HB3.out.size)
      have AG_4 := Lib.hid (AG_3.out.below hbx)
      have AS_4 := Lib.hid (AS_3.out.below hbx)
      have XM_4 := Lib.hid (XM_3.out.below hbx UXM_3.out)
      have UXM_4 := Lib.hid (Nat.le_trans UXM_3.out hbx.size)
      have XX_4 : Hid (Mine2 (w3.alloc (Obj.cells #[.slice Q1 ss.length k1, .slice Q2 tss.length k2] 27)) w3.heap.size (.slice Q1 ss.length k1) (.slice Q2 tss.length k2)) := Mine2.new _ _ _ _
      clear hbx
      go_upto_region 7 with fail
      generalize w3.alloc (Obj.cells #[.slice Q1 ss.length k1, .slice Q2 tss.length k2] 27) = w4 at *
      have cAG0_4 := AG_4.out.c0
      have cAG1_4 := AG_4.out.c1
      have cAG2_4 := AG_4.out.c2
      have cAS0_4 := AS_4.out.c0
      have cAS1_4 := AS_4.out.c1
      have cXX0_4 := XX_4.out.c0
      have cXX1_4 := XX_4.out.c1
      go_upto_region 7 with fail
      go_cut [9, 10] from 26 to 32 (fun s9 s10 wx => s9 = .string (stS x y z ss tss) ∧ s10 = .bool (sloV x y z ss tss) ∧ Below w4.heap.size w4 wx)
      case first =>
        have KD : Hid (Below w4.heap.size w4 w4.drew) := (Below.refl _ _).drew
        have KE : Hid (∀ u, Below w4.heap.size w4 u → u.cell? ⟨w.heap.size, 0, none⟩ = some (.int .i64 x) ∧ u.cell? ⟨w.heap.size, 1, none⟩ = some (.int .i64 y) ∧ u.cell? ⟨w.heap.size, 2, none⟩ = some (.int .i64 z) ∧ u.cell? ⟨w3.heap.size, 0, none⟩ = some (.slice Q1 ss.length k1) ∧ u.cell? ⟨w3.heap.size, 1, none⟩ = some (.slice Q2 tss.length k2)) := fun u hu => by
          have h1 := AG_4.out.below hu
          have h2 := XX_4.out.below hu
          exact ⟨h1.c0, h1.c1, h1.c2, h2.c0, h2.c1⟩
        have KB : Hid (∀ u, Below w4.heap.size w4 u → Below w.heap.size w u) := fun u hu => HB4.out.trans (hu.mono HB4.out.size)
        go_region_held3 (fun u => u.cell? ⟨w.heap.size, 0, none⟩ = some (.int .i64 x) ∧ u.cell? ⟨w.heap.size, 1, none⟩ = some (.int .i64 y) ∧ u.cell? ⟨w.heap.size, 2, none⟩ = some (.int .i64 z) ∧ u.cell? ⟨w3.heap.size, 0, none⟩ = some (.slice Q1 ss.length k1) ∧ u.cell? ⟨w3.heap.size, 1, none⟩ = some (.slice Q2 tss.length k2)) (first | with_reducible exact KE.out _ KD.out | with_reducible exact KE.out _ UA.out | with_reducible exact KE.out _ UF.out)
          (first
            | (go_at_call 11; (with_reducible refine (HGD.out _).mono ?_); rintro e wa ⟨rfl, hb⟩; have UA : Hid (Below w4.heap.size w4 wa) := KD.out.trans (hb.mono KD.out.size); have SA := Lib.hid (XM_4.out.below UA.out UXM_4.out); clear hb)
            | (go_at_call 21; (with_reducible refine (CI.out _ _ _ SA.out.look (KB.out _ UA.out)).mono ?_); rintro e wf ⟨rfl, hb⟩; have UF : Hid (Below w4.heap.size w4 wf) := UA.out.trans (hb.mono UA.out.size); clear hb))
        all_goals
          go_wp2_with fail
          go_meet
          exact ⟨rfl, rfl, UF.out⟩
      case rest =>
        obtain ⟨rfl, rfl, hb5⟩ := hcut
        obtain ⟨w5, ew5⟩ : ∃ u, u = wc := ⟨_, rfl⟩
        subst ew5
        have HB5 : Hid (Below w.heap.size w w5) := HB4.out.trans (hb5.mono HB4.out.size)
        have AG_5 := Lib.hid (AG_4.out.below hb5)
        have AS_5 := Lib.hid (AS_4.out.below hb5)
        have XM_5 := Lib.hid (XM_4.out.below hb5 UXM_4.out)
        have UXM_5 := Lib.hid (Nat.le_trans UXM_4.out hb5.size)
        have XX_5 := Lib.hid (XX_4.out.below hb5)
        have cAG0_5 := AG_5.out.c0
        have cAG1_5 := AG_5.out.c1
        have cAG2_5 := AG_5.out.c2
        have cAS0_5 := AS_5.out.c0
        have cAS1_5 := AS_5.out.c1
        have cXX0_5 := XX_5.out.c0
        have cXX1_5 := XX_5.out.c1
        clear hb5
        go_upto_region 10 with fail
        go_cut [45] from 41 to 45 (fun s45 wx => s45 = .bool false ∧ Below w5.heap.size w5 wx)
        case first =>
          have KD : Hid (Below w5.heap.size w5 w5.drew) := (Below.refl _ _).drew
          have KE : Hid (∀ u, Below w5.heap.size w5 u → u.cell? ⟨w.heap.size + 1, 0, none⟩ = some (.slice A1 ss.length c1) ∧ u.cell? ⟨w.heap.size + 1, 1, none⟩ = some (.slice A2 tss.length c2) ∧ u.cell? ⟨w3.heap.size, 0, none⟩ = some (.slice Q1 ss.length k1) ∧ u.cell? ⟨w3.heap.size, 1, none⟩ = some (.slice Q2 tss.length k2)) := fun u hu => by
            have h1 := AS_5.out.below hu
            have h2 := XX_5.out.below hu
            exact ⟨h1.c0, h1.c1, h2.c0, h2.c1⟩
          have KB : Hid (∀ u, Below w5.heap.size w5 u → Below w.heap.size w u) := fun u hu => HB5.out.trans (hu.mono HB5.out.size)
          go_region_held3 (fun u => u.cell? ⟨w.heap.size + 1, 0, none⟩ = some (.slice A1 ss.length c1) ∧ u.cell? ⟨w.heap.size + 1, 1, none⟩ = some (.slice A2 tss.length c2) ∧ u.cell? ⟨w3.heap.size, 0, none⟩ = some (.slice Q1 ss.length k1) ∧ u.cell? ⟨w3.heap.size, 1, none⟩ = some (.slice Q2 tss.length k2)) (first | with_reducible exact KE.out _ KD.out | with_reducible exact KE.out _ US.out | with_reducible exact KE.out _ UF.out)
            (first
              | (go_at_call 20; (with_reducible refine (CC.out _ (KB.out _ KD.out)).mono ?_); rintro e ws ⟨sa, sb, rfl, hs, hb⟩; have US : Hid (Below w5.heap.size w5 ws) := KD.out.trans (hb.mono KD.out.size); have SS := Lib.hid hs; have SA := Lib.hid (XM_5.out.below US.out UXM_5.out); clear hb hs)
              | (go_at_call 13; (with_reducible refine (c_eqSlopes _ _ _ _ _ _ _ _ ss tss _ l1' l3 L3.out SA.out SS.out (Nat.le_trans UXM_5.out US.out.size) (Nat.le_refl _)).mono ?_); rintro e wf ⟨rfl, hb⟩; have UF : Hid (Below w5.heap.size w5 wf) := US.out.trans (hb.mono US.out.size); clear hb))
          all_goals
            go_wp2_with fail
            go_meet
            exact ⟨rfl, UF.out⟩
        case rest =>
          obtain ⟨rfl, hb6⟩ := hcut
          obtain ⟨w6, ew6⟩ : ∃ u, u = wc := ⟨_, rfl⟩
          subst ew6
          have HB6 : Hid (Below w.heap.size w w6) := HB5.out.trans (hb6.mono HB5.out.size)
          have AG_6 := Lib.hid (AG_5.out.below hb6)
          have AS_6 := Lib.hid (AS_5.out.below hb6)
          have XM_6 := Lib.hid (XM_5.out.below hb6 UXM_5.out)
          have UXM_6 := Lib.hid (Nat.le_trans UXM_5.out hb6.size)
          have XX_6 := Lib.hid (XX_5.out.below hb6)
          have cAG0_6 := AG_6.out.c0
          have cAG1_6 := AG_6.out.c1
          have cAG2_6 := AG_6.out.c2
          have cAS0_6 := AS_6.out.c0
          have cAS1_6 := AS_6.out.c1
          have cXX0_6 := XX_6.out.c0
          have cXX1_6 := XX_6.out.c1
          clear hb6
          go_wp2
          go_ret
          exact ⟨rfl, HB6.out⟩

/-! ### The row's step -/
set_option maxRecDepth 100000 in
theorem contract (H : Type) (enc : TypeId × Value → H) (W : World) (base : Nat) (args : Array Value) (ds gs : List (DataW H)) (before : List MemPlace)
    (hval0 : ∀ (j : Nat) t v, Tryd.f5.params[j]? = some t → args[j]? = some v → Value.okWide Tryd.prog W .any base t v)
    (hW : DataW.Whole enc Tryd.prog Tryd.f5.params.toList Rows.fnExactSlopesTextSpec.vars false W args.toList ds gs before) (hlaid : laidMetH Tryd.prog Rows.fnExactSlopesTextRow.laid W) :
    Calls Tryd.prog 5 args W fun e W' => ∃ v, e = .returned v ∧ Rows.fnExactSlopesTextSpec.post enc Tryd.prog Tryd.f5 false true false false W args v W' := by
  have hval : ∀ (j : Nat) t v, Tryd.f5.params[j]? = some t → args[j]? = some v → Value.okWide Tryd.prog W .any base t v := hval0
  have hL0 : laidMet Tryd.prog (("math/bits.deBruijn32tab", Rows.laid_math_bits_deBruijn32tab) :: ("math/bits.deBruijn64tab", Rows.laid_math_bits_deBruijn64tab) :: [("internal/strconv.uint64pow10", Lib.tabData .u64 Lib.pow10Tab)]) W := hlaid
  have hrk : TB W := Lib.tabIs_of_head (g := 6) (t := 229) (e := 211) (n := 20) (by kernel_rfl) (by kernel_rfl) (by kernel_rfl) (by kernel_rfl) (by kernel_rfl) (by kernel_rfl) hL0.tail.tail
  have hW' := hW
  have lts : ∀ x ∈ before, x.block < W.heap.size := fun x hx => by simpa using hW'.lt x hx
  obtain ⟨p, q, hA0, hV, rfl, hfz, hnd⟩ := hW
  have hA : DataW.TrodAll enc Tryd.prog W 0 (fun _ => true) true Tryd.f5.params.toList args.toList ds p := hA0
  rw [Tryd.params5] at hA hval
  obtain ⟨v0, vs0, d0, ds0, p0, q0, hargs, rfl, rfl, h0, r0⟩ := trodAll_cons hA
  obtain ⟨v1, vs1, d1, ds1, p1, q1, rfl, rfl, rfl, h1, r1⟩ := trodAll_cons r0
  obtain ⟨rfl, rfl, rfl⟩ := trodAll_nil r1
  obtain rfl : args = #[v0, v1] := by cases args; simp_all
  obtain ⟨rfl, rfl⟩ := trodVars_none hV
  have k0 := h0
  obtain ⟨x, y, z, rfl⟩ := open_grid (hval 0 23 v0 rfl rfl) h0
  have k1 := h1
  obtain ⟨s1, s2, ss, tss, rfl, hSl⟩ := open_slopes (hval 1 39 v1 rfl rfl) h1
  clear hA0 hval0
  simp only [List.append_nil] at hW' lts
  refine (walk x y z s1 s2 ss tss W  hSl hrk).mono fun e W' ⟨he, bel⟩ => ?_
  subst he
  exact ⟨_, rfl, _, _, _, [], _, [], hW', trodAll_mk1 (shut_bool Tryd.underlying4 _), (trodAll_cons_mk (Below.trod laid (by kernel_rfl) (of_decide_eq_true (by kernel_rfl)) k0 bel (fun x hx => lts x (by simp [hx]))) (trodAll_cons_mk (Below.trod laid (by kernel_rfl) (of_decide_eq_true (by kernel_rfl)) k1 bel (fun x hx => lts x (by simp [hx]))) trodAll_mk0)), rfl, bel.frame _, fun h => by cases h⟩

/-- A world for the witness: the settled one, the listed tables holding what their initialisers lay. -/
noncomputable def laidWorld (os : Os) : World :=
  { World.holding Tryd.prog os ⟨#[], #[], []⟩ with heap := ((((World.holding Tryd.prog os ⟨#[], #[], []⟩).heap.modify 12 fun
      | .cells _ t frozen => .cells #[.int .u8 (0), .int .u8 (1), .int .u8 (28), .int .u8 (2), .int .u8 (29), .int .u8 (14), .int .u8 (24), .int .u8 (3), .int .u8 (30), .int .u8 (22), .int .u8 (20), .int .u8 (15), .int .u8 (25), .int .u8 (17), .int .u8 (4), .int .u8 (8), .int .u8 (31), .int .u8 (27), .int .u8 (13), .int .u8 (23), .int .u8 (21), .int .u8 (19), .int .u8 (16), .int .u8 (7), .int .u8 (26), .int .u8 (12), .int .u8 (18), .int .u8 (6), .int .u8 (11), .int .u8 (5), .int .u8 (10), .int .u8 (9)] t frozen
      | o => o).modify 13 fun
      | .cells _ t frozen => .cells #[.int .u8 (0), .int .u8 (1), .int .u8 (56), .int .u8 (2), .int .u8 (57), .int .u8 (49), .int .u8 (28), .int .u8 (3), .int .u8 (61), .int .u8 (58), .int .u8 (42), .int .u8 (50), .int .u8 (38), .int .u8 (29), .int .u8 (17), .int .u8 (4), .int .u8 (62), .int .u8 (47), .int .u8 (59), .int .u8 (36), .int .u8 (45), .int .u8 (43), .int .u8 (51), .int .u8 (22), .int .u8 (53), .int .u8 (39), .int .u8 (33), .int .u8 (30), .int .u8 (24), .int .u8 (18), .int .u8 (12), .int .u8 (5), .int .u8 (63), .int .u8 (55), .int .u8 (48), .int .u8 (27), .int .u8 (60), .int .u8 (41), .int .u8 (37), .int .u8 (16), .int .u8 (46), .int .u8 (35), .int .u8 (44), .int .u8 (21), .int .u8 (52), .int .u8 (32), .int .u8 (23), .int .u8 (11), .int .u8 (54), .int .u8 (26), .int .u8 (40), .int .u8 (15), .int .u8 (34), .int .u8 (20), .int .u8 (31), .int .u8 (10), .int .u8 (25), .int .u8 (14), .int .u8 (19), .int .u8 (9), .int .u8 (13), .int .u8 (8), .int .u8 (7), .int .u8 (6)] t frozen
      | o => o).modify 6 fun
      | .cells _ t frozen => .cells #[.int .u64 (1), .int .u64 (10), .int .u64 (100), .int .u64 (1000), .int .u64 (10000), .int .u64 (100000), .int .u64 (1000000), .int .u64 (10000000), .int .u64 (100000000), .int .u64 (1000000000), .int .u64 (10000000000), .int .u64 (100000000000), .int .u64 (1000000000000), .int .u64 (10000000000000), .int .u64 (100000000000000), .int .u64 (1000000000000000), .int .u64 (10000000000000000), .int .u64 (100000000000000000), .int .u64 (1000000000000000000), .int .u64 (10000000000000000000)] t frozen
      | o => o) }

set_option maxRecDepth 100000 in
theorem laid_met (os : Os) : laidMet Tryd.prog Rows.fnExactSlopesTextRow.laid ((laidWorld os).forCall (fun _ _ => 0) ⟨#[], #[.agg #[.int .i64 0, .int .i64 0, .int .i64 0], .agg #[.slice none 0 0, .slice none 0 0]], []⟩).memory :=
  laidMet_of_run' 8 (by kernel_rfl) (by kernel_rfl)
theorem reads (os : Os) {H : Type} (enc : TypeId × Value → H) : ∃ x, DataW.whole enc Tryd.prog ((laidWorld os).forCall (fun _ _ => 0) ⟨#[], #[.agg #[.int .i64 0, .int .i64 0, .int .i64 0], .agg #[.slice none 0 0, .slice none 0 0]], []⟩).memory Tryd.f5.params.toList Rows.fnExactSlopesTextSpec.vars false (#[.agg #[.int .i64 0, .int .i64 0, .int .i64 0], .agg #[.slice none 0 0, .slice none 0 0]] : Array Value).toList 8 = some x :=
  Option.isSome_iff_exists.1 (by kernel_rfl)

set_option maxRecDepth 100000 in
theorem lifted (os : Os) (started : os.Started) (H : Type) (enc : TypeId × Value → H) (F : Stop.Interp) :
    ReturnsInHanded {} Tryd.checked os 5 .any ((OpenSpec.ofChange Rows.fnExactSlopesTextSpec).preRow enc Tryd.prog Tryd.f5 Rows.fnExactSlopesTextRow.domain false Rows.fnExactSlopesTextRow.laid) (((OpenSpec.ofChange Rows.fnExactSlopesTextSpec).at F).post enc Tryd.prog Tryd.f5 false true false false) := by
  obtain ⟨x, hx⟩ := reads os enc
  refine returnsInHanded_of_row (C := Tryd.checked) (s := OpenSpec.ofChange Rows.fnExactSlopesTextSpec) own started (by kernel_rfl) Tryd.func5
    (witness_row_at (enc := enc) (C := Tryd.checked) false (laidWorld os) #[.agg #[.int .i64 0, .int .i64 0, .int .i64 0], .agg #[.slice none 0 0, .slice none 0 0]] rfl (by kernel_rfl) (by kernel_rfl) (by kernel_rfl)
      (OpenSpec.preRow_of_cond 8 hx (by kernel_rfl) (fun k hk => by cases hk) (by kernel_rfl) (laid_met os))) ?_
  intro W base args ds gs before hval hW _ _ _ hlaid _ _
  exact contract H enc W base args ds gs before hval hW hlaid

theorem said : Rows.FnExactSlopesTextSaid :=
  OpenClaim.holds_of_cond 5 Tryd.f5 rfl rfl rfl rfl rfl rfl rfl ⟨rfl, rfl, rfl, rfl, rfl⟩ rfl rfl rfl rfl rfl (by kernel_rfl) Tryd.func5 (by kernel_rfl)
    (of_decide_eq_true (by kernel_rfl)) (by unfold Func.isWrapper; first | (rw [if_pos (by decide +kernel)]; kernel_rfl) | (rw [if_neg (by decide +kernel)]; exact ⟨rfl, rfl⟩))
    (fun os started H enc _ F => by rw [OpenClaim.pre_eq_preRow]; exact lifted os started H enc F)

theorem plain (f : FuncId) (fn : Func) (hf : Tryd.pinned.checked.prog.funcNamed "loop.example/g00914/laws.FnExactSlopesText" = some f) (hfn : Tryd.pinned.checked.prog.funcs[f]? = some fn) :
    true = Tryd.pinned.checked.prog.looks [] ∧ ∀ (j : Nat) t, fn.params[j]? = some t → Tryd.pinned.checked.prog.wantsStandIn t = false := by
  obtain rfl : f = 5 := Option.some.inj ((show Tryd.prog.funcNamed "loop.example/g00914/laws.FnExactSlopesText" = some 5 by kernel_rfl).symm.trans hf) |>.symm
  obtain rfl : fn = Tryd.f5 := (Option.some.inj (Tryd.func5.symm.trans hfn)).symm
  refine ⟨by kernel_rfl, fun j t ht => ?_⟩
  rw [Tryd.params5] at ht
  have ht' : t = 23 ∨ t = 39 := by simpa using Array.mem_of_getElem? ht
  rcases ht' with rfl | rfl
  · exact (show Tryd.prog.wantsStandIn 23 = false by kernel_rfl)
  · exact (show Tryd.prog.wantsStandIn 39 = false by kernel_rfl)
end Go.Proofs.YtmimilchldjkbaaDoor.fnExactSlopesTextProof
namespace Go.Proofs.YtmimilchldjkbaaDoor
theorem fnExactSlopesText_holds : Rows.FnExactSlopesTextCardSaid :=
  Claim7.holds_tied_plain_at .later [] _ _ _ _ fnExactSlopesTextProof.said (fun _ h => by cases h) (by kernel_rfl) (fun _ h => by cases h) fnExactSlopesText_row_tie rfl ⟨rfl, rfl⟩ (by kernel_rfl) rfl fnExactSlopesTextProof.plain (by kernel_rfl)
#print axioms fnExactSlopesText_holds
end Go.Proofs.YtmimilchldjkbaaDoor
