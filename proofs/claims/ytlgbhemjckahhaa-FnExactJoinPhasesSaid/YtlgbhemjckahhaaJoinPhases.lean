/-
  The law FnExactJoinPhases holds: for all arguments, JoinPhases answers as its model does, its answer owns its memory, and the arguments read as they did. No conditions.
-/
import Derived.Test.YtlgbhemjckahhaaRows
import Derived.Test.YtlgbhemjckahhaaTP4
import Derived.Test.YtlgbhemjckahhaaTRa
import Derived.Test.YtlgbhemjckahhaaN2
import Derived.Test.YtlgbhemjckahhaaR4
import Derived.Test.YtlgbhemjckahhaaOM
import Derived.Test.YtlgbhemjckahhaaJF
import Derived.WalkKit
import Derived.Lib.Hide
import Derived.Deep.DeepCutAuto
import Derived.ProofKit
import Derived.OpenShut
import Derived.ShutString
import Derived.ChangeOld
import Derived.Below
import Derived.Carry
import Derived.Deep.RegionWith
import Derived.Deep.RegionHeld3
import Derived.Lib.SmallJoins
namespace Go.Proofs.Ytlgbhemjckahhaa.fnExactJoinPhasesProof
open Go.ChangeShapes Go.WideShapes Go.ChangeAt Go.RowKit Go.Joins
set_option linter.unusedVariables false

theorem own : ownKnob Try.prog.godebug = none := by kernel_rfl

/-! ### The walk -/
set_option maxHeartbeats 4000000 in
set_option maxRecDepth 100000 in
theorem walk (x y z : Int) (m1 m2 m3 : Value) (ts gs rs : List Int) (xss : List (List Int)) (v1 : Value) (pss : List (List Int)) (v2 : Value) (a3 : Int) (w : World) (hMo : Look w m1 m2 m3 ts gs rs) (hR : SeenL w v1 xss) (hR2 : SeenL w v2 pss) (wf3 : (Lit.int .i64 a3).wf = true) :
    Calls Try.prog 10 #[.agg #[.int .i64 x, .int .i64 y, .int .i64 z, m1, m2, m3], v1, v2, .int .i64 a3] w fun e w' => e = .returned (.bool true) ∧ Below w.heap.size w w' := by
  have HS := Lib.hid hR
  obtain ⟨A, c, rfl, hm⟩ := hR.shape
  clear hR hm
  have HS2 := Lib.hid hR2
  obtain ⟨A9, c9, rfl, hm9⟩ := hR2.shape
  clear hR2 hm9
  have HL := Lib.hid hMo
  have n1 := hMo.t
  have n2 := hMo.g
  have n3 := hMo.r
  obtain ⟨A1, c1, rfl, t1, _⟩ := n1
  obtain ⟨A2, c2, rfl, t2, _⟩ := n2
  obtain ⟨A3, c3, rfl, t3, _⟩ := n3
  have b1 : ts.length ≤ 9223372036854775807 := by unfold maxLen at t1; omega
  have b2 : gs.length ≤ 9223372036854775807 := by unfold maxLen at t2; omega
  have b3 : rs.length ≤ 9223372036854775807 := by unfold maxLen at t3; omega
  clear hMo t1 t2 t3
  obtain ⟨wg, hwg⟩ : ∃ wg, w.alloc (.cells #[.int .i64 x, .int .i64 y, .int .i64 z, .slice A1 ts.length c1, .slice A2 gs.length c2, .slice A3 rs.length c3] 48) = wg := ⟨_, rfl⟩
  have HB0 : Hid (Below w.heap.size w wg) := by rw [← hwg]; exact (Below.refl _ _).alloc (Nat.le_refl _) _
  have AX_0 : Hid (Box6 wg w.heap.size x y z (.slice A1 ts.length c1) (.slice A2 gs.length c2) (.slice A3 rs.length c3)) := by rw [← hwg]; exact Box6.new _ _ _ _ _ _ _ _
  have HC0 : Hid (Below wg.heap.size wg wg) := Below.refl _ _
  obtain ⟨cA0, cA1, cA2, cA3, cA4, cA5⟩ : _ ∧ _ ∧ _ ∧ _ ∧ _ ∧ _ := ⟨(AX_0.out.below HC0.out).c0, (AX_0.out.below HC0.out).c1, (AX_0.out.below HC0.out).c2, (AX_0.out.below HC0.out).c3, (AX_0.out.below HC0.out).c4, (AX_0.out.below HC0.out).c5⟩
  have zwg : w.heap.size < wg.heap.size := by rw [← hwg]; simp
  go_enter Try.func10, Try.ntmps10
  go_wp2_with fail
  refine (c_szModel x y z _ _ _ _ _ _ _ _ _ _ b1 b2 b3).mono ?_
  rintro e w1 ⟨⟨r0, rfl, hszm⟩, hb1⟩
  have HB1 : Hid (Below w.heap.size w w1) := HB0.out.trans (hb1.mono HB0.out.size)
  have HC1 : Hid (Below wg.heap.size wg w1) := HC0.out.trans (hb1.mono HC0.out.size)
  clear cA0 cA1 cA2 cA3 cA4 cA5
  obtain ⟨cA0, cA1, cA2, cA3, cA4, cA5⟩ : _ ∧ _ ∧ _ ∧ _ ∧ _ ∧ _ := ⟨(AX_0.out.below HC1.out).c0, (AX_0.out.below HC1.out).c1, (AX_0.out.below HC1.out).c2, (AX_0.out.below HC1.out).c3, (AX_0.out.below HC1.out).c4, (AX_0.out.below HC1.out).c5⟩
  clear hb1
  rcases hszm with ⟨_, rfl⟩ | ⟨hszm, hrm⟩
  · go_wp2
    go_ret
    exact ⟨rfl, HB1.out⟩
  have hr0_ : ¬ r0 < 0 := by omega
  have l1 : ts.length ≤ 4000000 := by omega
  have l2 : gs.length ≤ 4000000 := by omega
  have l3 : rs.length ≤ 4000000 := by omega
  have r00 : 0 ≤ r0 := by omega
  have r01 : r0 ≤ 1048576 := by omega
  have HRm := Lib.hid hrm
  clear hrm
  go_wp2_with fail
  refine (c_szIntSS xss _ r0 _ (by omega) (by omega) (HS.out.below HB1.out)).mono ?_
  rintro e w' ⟨⟨r, rfl, hsz⟩, rfl⟩
  rcases hsz with rfl | ⟨hsz, hr⟩
  case inl =>
    go_wp2
    go_ret
    exact ⟨rfl, HB1.out⟩
  case inr =>
    have hr0 : ¬ r < 0 := by omega
    have hsh : Hid (ShortL xss) := shortL_of hsz (by omega)
    have hsl : xss.length ≤ 1048576 := by omega
    have hss : Hid (Short xss) := hsh.out.2
    have htt : totN xss xss.length ≤ 1048576 := by omega
    have HRr := Lib.hid hr
    have hr1 : r ≤ 1048576 := by omega
    clear hr hsz
    go_wp2_with fail
    refine (c_szIntSS pss _ r _ (by omega) (by omega) (HS2.out.below HB1.out)).mono ?_
    rintro e w' ⟨⟨r2, rfl, hsz2⟩, rfl⟩
    rcases hsz2 with rfl | ⟨hsz2, hr2⟩
    case inl =>
      go_wp2
      go_ret
      exact ⟨rfl, HB1.out⟩
    case inr =>
      have hr20 : ¬ r2 < 0 := by omega
      have hsh2 : Hid (ShortL pss) := shortL_of hsz2 (by omega)
      have hsl2 : pss.length ≤ 1048576 := by omega
      have hss2 : Hid (Short pss) := hsh2.out.2
      have htt2 : totN pss pss.length ≤ 1048576 := by omega
      have htq : totN xss xss.length + totN pss pss.length ≤ 1048576 := by have := HRr.out; omega
      have htM : ts.length + gs.length + rs.length + totN xss xss.length + totN pss pss.length ≤ 1048576 := by have := HRm.out; have := HRr.out; omega
      clear hr2 hsz2
      obtain ⟨yss, bb, hxl, hxs, hxt, CS, CI⟩ : ∃ (yss : List (List Int)) (bb : Bool), yss.length ≤ 1048576 ∧ Hid (Short yss) ∧ totN yss yss.length ≤ 1048576 ∧ Hid (∀ (p1 p2 p3 : Value) (p : Value) (q : Value) (B9 U9 : Nat) (u : World), Look u p1 p2 p3 ts gs rs → SeenL u p xss → Rows u B9 U9 q pss → Calls Try.prog 40 #[.agg #[.int .i64 x, .int .i64 y, .int .i64 z, p1, p2, p3], p, q, .int .i64 a3] u (GivesRows2 u yss bb)) ∧ Hid (∀ (p1 p2 p3 : Value) (p : Value) (q : Value) (B9 U9 : Nat) (u : World), Look u p1 p2 p3 ts gs rs → SeenL u p xss → Rows u B9 U9 q pss → Calls Try.prog 41 #[.agg #[.int .i64 x, .int .i64 y, .int .i64 z, p1, p2, p3], p, q, .int .i64 a3] u (GivesRows2 u yss bb)) :=
        ⟨jpA x y z ts gs rs xss pss a3, jpB x y z ts gs rs xss pss a3, (jp_facts x y z ts gs rs xss pss a3).1, (jp_facts x y z ts gs rs xss pss a3).2.1, (jp_facts x y z ts gs rs xss pss a3).2.2, fun p1 p2 p3 p q B9 U9 u hum0 hu hu9 => c_JoinPhasesS x y z p1 p2 p3 ts gs rs xss pss a3 p q u l1 l2 l3 hsh.out hsh2.out hum0 hu hu9.seen, fun p1 p2 p3 p q B9 U9 u hum0 hu hu9 => c_JoinPhases x y z p1 p2 p3 ts gs rs xss pss a3 p q u l1 l2 l3 hsh.out hsh2.out hum0 hu hu9.seen⟩
      obtain ⟨tt, htq⟩ : ∃ tt, totN yss yss.length = tt := ⟨_, rfl⟩
      have HTT := Lib.hid htq
      rw [htq] at hxt
      clear htq
      have hnb : (bb != bb) = false := by simp
      have hnq : ((1 + (tt : Int)) != (1 + (tt : Int))) = false := by simp
      have hpq : ¬ (1 + (tt : Int)) < 0 := by omega
      have HM : Hid (∀ (v : Value) (B U : Nat) (u : World), Rows u B U v yss → B ≤ u.heap.size → Calls Try.prog 19 #[v, .int .i64 1] u fun e w' => e = .returned (.int .i64 (1 + (tt : Int))) ∧ Rows w' B U v (marksTo 1 yss yss.length) ∧ Below B u w') := fun v B U u h hB => by
        rw [← HTT.out]; exact c_markIntSS yss v B U 1 u hxl (by rw [HTT.out]; exact hxt) (by omega) (by omega) h hB
      have HD : Hid (∀ (v : Value) (B U : Nat) (u : World), Rows u B U v (marksTo 1 yss yss.length) → Calls Try.prog 20 #[v, .int .i64 1] u fun e w' => e = .returned (.int .i64 (1 + (tt : Int))) ∧ u = w') := fun v B U u h => by
        rw [← HTT.out]; exact c_heldIntSS yss v B U 1 u hxl (by rw [HTT.out]; exact hxt) (by omega) (by omega) h
      generalize marksTo 1 yss yss.length = MK at *
      have hkq : ¬ (1 + (ts.length : Int) + (gs.length : Int) + (rs.length : Int) + (totN xss xss.length : Int) + (totN pss pss.length : Int)) < 0 := by omega
      go_wp2_with fail
      refine (c_toModel x y z _ _ _ ts gs rs _ l1 l2 l3 (HL.out.t.below HB1.out) (HL.out.g.below HB1.out) (HL.out.r.below HB1.out)).mono ?_
      rintro e w2 ⟨Spa, Spb, Spc, rfl, hm, hb2⟩
      have HB2 : Hid (Below w.heap.size w w2) := HB1.out.trans (hb2.mono HB1.out.size)
      have HC2 : Hid (Below wg.heap.size wg w2) := HC1.out.trans (hb2.mono HC1.out.size)
      clear cA0 cA1 cA2 cA3 cA4 cA5
      obtain ⟨cA0, cA1, cA2, cA3, cA4, cA5⟩ : _ ∧ _ ∧ _ ∧ _ ∧ _ ∧ _ := ⟨(AX_0.out.below HC2.out).c0, (AX_0.out.below HC2.out).c1, (AX_0.out.below HC2.out).c2, (AX_0.out.below HC2.out).c3, (AX_0.out.below HC2.out).c4, (AX_0.out.below HC2.out).c5⟩
      have SpMo_2 := Lib.hid hm
      clear hm
      clear hb2
      go_wp2_with fail
      refine (c_toIntSS xss _ _ hsh.out (HS.out.below HB2.out)).mono ?_
      rintro e w3 ⟨Spv, rfl, hs, hb3⟩
      have HB3 : Hid (Below w.heap.size w w3) := HB2.out.trans (hb3.mono HB2.out.size)
      have HC3 : Hid (Below wg.heap.size wg w3) := HC2.out.trans (hb3.mono HC2.out.size)
      clear cA0 cA1 cA2 cA3 cA4 cA5
      obtain ⟨cA0, cA1, cA2, cA3, cA4, cA5⟩ : _ ∧ _ ∧ _ ∧ _ ∧ _ ∧ _ := ⟨(AX_0.out.below HC3.out).c0, (AX_0.out.below HC3.out).c1, (AX_0.out.below HC3.out).c2, (AX_0.out.below HC3.out).c3, (AX_0.out.below HC3.out).c4, (AX_0.out.below HC3.out).c5⟩
      have SpMo_3 := Lib.hid (SpMo_2.out.below hb3)
      have SpP_3 := Lib.hid hs
      have USpP_3 : Hid (_ ≤ _) := Nat.le_refl w3.heap.size
      clear hs
      clear hb3
      go_wp2_with fail
      refine (c_toIntSS pss _ _ hsh2.out (HS2.out.below HB3.out)).mono ?_
      rintro e w4 ⟨Spq, rfl, hs, hb4⟩
      have HB4 : Hid (Below w.heap.size w w4) := HB3.out.trans (hb4.mono HB3.out.size)
      have HC4 : Hid (Below wg.heap.size wg w4) := HC3.out.trans (hb4.mono HC3.out.size)
      clear cA0 cA1 cA2 cA3 cA4 cA5
      obtain ⟨cA0, cA1, cA2, cA3, cA4, cA5⟩ : _ ∧ _ ∧ _ ∧ _ ∧ _ ∧ _ := ⟨(AX_0.out.below HC4.out).c0, (AX_0.out.below HC4.out).c1, (AX_0.out.below HC4.out).c2, (AX_0.out.below HC4.out).c3, (AX_0.out.below HC4.out).c4, (AX_0.out.below HC4.out).c5⟩
      have SpMo_4 := Lib.hid (SpMo_3.out.below hb4)
      have SpP_4 := Lib.hid (SpP_3.out.below hb4 USpP_3.out)
      have USpP_4 := Lib.hid (Nat.le_trans USpP_3.out hb4.size)
      have SpQ_4 := Lib.hid hs
      have USpQ_4 : Hid (_ ≤ _) := Nat.le_refl w4.heap.size
      clear hs
      clear hb4
      go_wp2_with fail
      refine (CS.out _ _ _ _ _ _ _ _ SpMo_4.out.look SpP_4.out.seen SpQ_4.out).mono ?_
      rintro e w5 ⟨Wv, rfl, hs, hb5⟩
      have HB5 : Hid (Below w.heap.size w w5) := HB4.out.trans (hb5.mono HB4.out.size)
      have HC5 : Hid (Below wg.heap.size wg w5) := HC4.out.trans (hb5.mono HC4.out.size)
      clear cA0 cA1 cA2 cA3 cA4 cA5
      obtain ⟨cA0, cA1, cA2, cA3, cA4, cA5⟩ : _ ∧ _ ∧ _ ∧ _ ∧ _ ∧ _ := ⟨(AX_0.out.below HC5.out).c0, (AX_0.out.below HC5.out).c1, (AX_0.out.below HC5.out).c2, (AX_0.out.below HC5.out).c3, (AX_0.out.below HC5.out).c4, (AX_0.out.below HC5.out).c5⟩
      have SpMo_5 := Lib.hid (SpMo_4.out.below hb5)
      have SpP_5 := Lib.hid (SpP_4.out.below hb5 USpP_4.out)
      have USpP_5 := Lib.hid (Nat.le_trans USpP_4.out hb5.size)
      have SpQ_5 := Lib.hid (SpQ_4.out.below hb5 USpQ_4.out)
      have USpQ_5 := Lib.hid (Nat.le_trans USpQ_4.out hb5.size)
      have WS_5 := Lib.hid hs
      have UWS_5 : Hid (_ ≤ _) := Nat.le_refl w5.heap.size
      clear hs
      clear hb5
      have UM_5 : Hid (w5.heap.size ≤ w5.heap.size) := Nat.le_refl _
      go_wp2_with fail
      refine (c_toModel x y z _ _ _ ts gs rs _ l1 l2 l3 (HL.out.t.below HB5.out) (HL.out.g.below HB5.out) (HL.out.r.below HB5.out)).mono ?_
      rintro e w6 ⟨Xa, Xb, Xc, rfl, hm, hb6⟩
      have HB6 : Hid (Below w.heap.size w w6) := HB5.out.trans (hb6.mono HB5.out.size)
      have HC6 : Hid (Below wg.heap.size wg w6) := HC5.out.trans (hb6.mono HC5.out.size)
      clear cA0 cA1 cA2 cA3 cA4 cA5
      obtain ⟨cA0, cA1, cA2, cA3, cA4, cA5⟩ : _ ∧ _ ∧ _ ∧ _ ∧ _ ∧ _ := ⟨(AX_0.out.below HC6.out).c0, (AX_0.out.below HC6.out).c1, (AX_0.out.below HC6.out).c2, (AX_0.out.below HC6.out).c3, (AX_0.out.below HC6.out).c4, (AX_0.out.below HC6.out).c5⟩
      have WS_6 := Lib.hid (WS_5.out.below hb6 UWS_5.out)
      have UWS_6 := Lib.hid (Nat.le_trans UWS_5.out hb6.size)
      have XMo_6 := Lib.hid hm
      clear hm
      clear hb6
      obtain ⟨Q1, k1, rfl⟩ := XMo_6.out.t.shape
      obtain ⟨Q2, k2, rfl⟩ := XMo_6.out.g.shape
      obtain ⟨Q3, k3, rfl⟩ := XMo_6.out.r.shape
      go_wp2_with fail
      have hbx : Below w6.heap.size w6 (w6.alloc (Obj.cells #[.int .i64 x, .int .i64 y, .int .i64 z, .slice Q1 ts.length k1, .slice Q2 gs.length k2, .slice Q3 rs.length k3] 52)) := (Below.refl _ _).alloc (Nat.le_refl _) _
      have XX_7 : Hid (Box6 (w6.alloc (Obj.cells #[.int .i64 x, .int .i64 y, .int .i64 z, .slice Q1 ts.length k1, .slice Q2 gs.length k2, .slice Q3 rs.length k3] 52)) w6.heap.size x y z (.slice Q1 ts.length k1) (.slice Q2 gs.length k2) (.slice Q3 rs.length k3)) := Box6.new _ _ _ _ _ _ _ _
      generalize w6.alloc (Obj.cells #[.int .i64 x, .int .i64 y, .int .i64 z, .slice Q1 ts.length k1, .slice Q2 gs.length k2, .slice Q3 rs.length k3] 52) = w7 at *
      have HB7 : Hid (Below w.heap.size w w7) := HB6.out.trans (hbx.mono HB6.out.size)
      have HC7 : Hid (Below wg.heap.size wg w7) := HC6.out.trans (hbx.mono HC6.out.size)
      clear cA0 cA1 cA2 cA3 cA4 cA5
      obtain ⟨cA0, cA1, cA2, cA3, cA4, cA5⟩ : _ ∧ _ ∧ _ ∧ _ ∧ _ ∧ _ := ⟨(AX_0.out.below HC7.out).c0, (AX_0.out.below HC7.out).c1, (AX_0.out.below HC7.out).c2, (AX_0.out.below HC7.out).c3, (AX_0.out.below HC7.out).c4, (AX_0.out.below HC7.out).c5⟩
      have WS_7 := Lib.hid (WS_6.out.below hbx UWS_6.out)
      have UWS_7 := Lib.hid (Nat.le_trans UWS_6.out hbx.size)
      have XMo_7 := Lib.hid (XMo_6.out.below hbx)
      clear hbx
      have XB_7 : Hid (w7.heap.size ≤ w7.heap.size) := Nat.le_refl _
      go_wp2_with fail
      refine (c_toIntSS xss _ _ hsh.out (HS.out.below HB7.out)).mono ?_
      rintro e w8 ⟨Xv, rfl, hs, hb8⟩
      have HB8 : Hid (Below w.heap.size w w8) := HB7.out.trans (hb8.mono HB7.out.size)
      have HC8 : Hid (Below wg.heap.size wg w8) := HC7.out.trans (hb8.mono HC7.out.size)
      clear cA0 cA1 cA2 cA3 cA4 cA5
      obtain ⟨cA0, cA1, cA2, cA3, cA4, cA5⟩ : _ ∧ _ ∧ _ ∧ _ ∧ _ ∧ _ := ⟨(AX_0.out.below HC8.out).c0, (AX_0.out.below HC8.out).c1, (AX_0.out.below HC8.out).c2, (AX_0.out.below HC8.out).c3, (AX_0.out.below HC8.out).c4, (AX_0.out.below HC8.out).c5⟩
      have WS_8 := Lib.hid (WS_7.out.below hb8 UWS_7.out)
      have UWS_8 := Lib.hid (Nat.le_trans UWS_7.out hb8.size)
      have XMo_8 := Lib.hid (XMo_7.out.below hb8)
      have XX_8 := Lib.hid (XX_7.out.below hb8)
      have XB_8 := Lib.hid (Nat.le_trans XB_7.out hb8.size)
      have XP_8 := Lib.hid hs
      have UXP_8 : Hid (_ ≤ _) := Nat.le_refl w8.heap.size
      clear hs
      clear hb8
      have QB_8 : Hid (w8.heap.size ≤ w8.heap.size) := Nat.le_refl _
      go_wp2_with fail
      refine (c_toIntSS pss _ _ hsh2.out (HS2.out.below HB8.out)).mono ?_
      rintro e w9 ⟨Xq, rfl, hs, hb9⟩
      have HB9 : Hid (Below w.heap.size w w9) := HB8.out.trans (hb9.mono HB8.out.size)
      have HC9 : Hid (Below wg.heap.size wg w9) := HC8.out.trans (hb9.mono HC8.out.size)
      clear cA0 cA1 cA2 cA3 cA4 cA5
      obtain ⟨cA0, cA1, cA2, cA3, cA4, cA5⟩ : _ ∧ _ ∧ _ ∧ _ ∧ _ ∧ _ := ⟨(AX_0.out.below HC9.out).c0, (AX_0.out.below HC9.out).c1, (AX_0.out.below HC9.out).c2, (AX_0.out.below HC9.out).c3, (AX_0.out.below HC9.out).c4, (AX_0.out.below HC9.out).c5⟩
      have WS_9 := Lib.hid (WS_8.out.below hb9 UWS_8.out)
      have UWS_9 := Lib.hid (Nat.le_trans UWS_8.out hb9.size)
      have XMo_9 := Lib.hid (XMo_8.out.below hb9)
      have XX_9 := Lib.hid (XX_8.out.below hb9)
      have XB_9 := Lib.hid (Nat.le_trans XB_8.out hb9.size)
      have XP_9 := Lib.hid (XP_8.out.below hb9 UXP_8.out)
      have UXP_9 := Lib.hid (Nat.le_trans UXP_8.out hb9.size)
      have QB_9 := Lib.hid (Nat.le_trans QB_8.out hb9.size)
      have XQ_9 := Lib.hid hs
      have UXQ_9 : Hid (_ ≤ _) := Nat.le_refl w9.heap.size
      clear hs
      clear hb9
      have GZ_9 : Hid (w9.heap.size ≤ w9.heap.size) := Nat.le_refl _
      obtain ⟨cX0, cX1, cX2, cX3, cX4, cX5⟩ : _ ∧ _ ∧ _ ∧ _ ∧ _ ∧ _ := ⟨XX_9.out.c0, XX_9.out.c1, XX_9.out.c2, XX_9.out.c3, XX_9.out.c4, XX_9.out.c5⟩
      go_wp2_with fail
      refine (CI.out _ _ _ _ _ _ _ _ XMo_9.out.look XP_9.out.seen XQ_9.out).mono ?_
      rintro e w10 ⟨Gv, rfl, hs, hb10⟩
      have HB10 : Hid (Below w.heap.size w w10) := HB9.out.trans (hb10.mono HB9.out.size)
      have HC10 : Hid (Below wg.heap.size wg w10) := HC9.out.trans (hb10.mono HC9.out.size)
      clear cA0 cA1 cA2 cA3 cA4 cA5
      obtain ⟨cA0, cA1, cA2, cA3, cA4, cA5⟩ : _ ∧ _ ∧ _ ∧ _ ∧ _ ∧ _ := ⟨(AX_0.out.below HC10.out).c0, (AX_0.out.below HC10.out).c1, (AX_0.out.below HC10.out).c2, (AX_0.out.below HC10.out).c3, (AX_0.out.below HC10.out).c4, (AX_0.out.below HC10.out).c5⟩
      have WS_10 := Lib.hid (WS_9.out.below hb10 UWS_9.out)
      have UWS_10 := Lib.hid (Nat.le_trans UWS_9.out hb10.size)
      have XMo_10 := Lib.hid (XMo_9.out.below hb10)
      have XX_10 := Lib.hid (XX_9.out.below hb10)
      have XB_10 := Lib.hid (Nat.le_trans XB_9.out hb10.size)
      have XP_10 := Lib.hid (XP_9.out.below hb10 UXP_9.out)
      have UXP_10 := Lib.hid (Nat.le_trans UXP_9.out hb10.size)
      have QB_10 := Lib.hid (Nat.le_trans QB_9.out hb10.size)
      have XQ_10 := Lib.hid (XQ_9.out.below hb10 UXQ_9.out)
      have UXQ_10 := Lib.hid (Nat.le_trans UXQ_9.out hb10.size)
      have GZ_10 := Lib.hid (Nat.le_trans GZ_9.out hb10.size)
      have GS_10 := Lib.hid hs
      have UGS_10 : Hid (_ ≤ _) := Nat.le_refl w10.heap.size
      clear hs
      clear hb10
      clear cX0 cX1 cX2 cX3 cX4 cX5
      go_wp2_with fail
      refine (c_eqIntSS yss _ _ _ _ _ _ _ hxl hxs.out GS_10.out WS_10.out UGS_10.out UWS_10.out).mono ?_
      rintro e w11 ⟨rfl, hb11⟩
      have HB11 : Hid (Below w.heap.size w w11) := HB10.out.trans (hb11.mono HB10.out.size)
      have HC11 : Hid (Below wg.heap.size wg w11) := HC10.out.trans (hb11.mono HC10.out.size)
      clear cA0 cA1 cA2 cA3 cA4 cA5
      obtain ⟨cA0, cA1, cA2, cA3, cA4, cA5⟩ : _ ∧ _ ∧ _ ∧ _ ∧ _ ∧ _ := ⟨(AX_0.out.below HC11.out).c0, (AX_0.out.below HC11.out).c1, (AX_0.out.below HC11.out).c2, (AX_0.out.below HC11.out).c3, (AX_0.out.below HC11.out).c4, (AX_0.out.below HC11.out).c5⟩
      have WS_11 := Lib.hid (WS_10.out.below hb11 UWS_10.out)
      have UWS_11 := Lib.hid (Nat.le_trans UWS_10.out hb11.size)
      have XMo_11 := Lib.hid (XMo_10.out.below hb11)
      have XX_11 := Lib.hid (XX_10.out.below hb11)
      have XB_11 := Lib.hid (Nat.le_trans XB_10.out hb11.size)
      have XP_11 := Lib.hid (XP_10.out.below hb11 UXP_10.out)
      have UXP_11 := Lib.hid (Nat.le_trans UXP_10.out hb11.size)
      have QB_11 := Lib.hid (Nat.le_trans QB_10.out hb11.size)
      have XQ_11 := Lib.hid (XQ_10.out.below hb11 UXQ_10.out)
      have UXQ_11 := Lib.hid (Nat.le_trans UXQ_10.out hb11.size)
      have GZ_11 := Lib.hid (Nat.le_trans GZ_10.out hb11.size)
      have GS_11 := Lib.hid (GS_10.out.below hb11 UGS_10.out)
      have UGS_11 := Lib.hid (Nat.le_trans UGS_10.out hb11.size)
      clear hb11
      obtain ⟨cX0, cX1, cX2, cX3, cX4, cX5⟩ : _ ∧ _ ∧ _ ∧ _ ∧ _ ∧ _ := ⟨XX_11.out.c0, XX_11.out.c1, XX_11.out.c2, XX_11.out.c3, XX_11.out.c4, XX_11.out.c5⟩
      go_upto_region 18 with fail
      go_cut [75] (fun s wx => s = .bool false ∧ Below w11.heap.size w11 wx)
      case first =>
        go_region_with (first
          | (go_at_call 36
             refine (c_toModel x y z _ _ _ ts gs rs _ l1 l2 l3 (HL.out.t.below (by exact HB11.out.drew)) (HL.out.g.below (by exact HB11.out.drew)) (HL.out.r.below (by exact HB11.out.drew))).mono ?_
             rintro e wy ⟨r1, r2, r3, rfl, hmy, hby⟩
             obtain ⟨hcy, hfy⟩ := bcell hby
             have sy := hby.size
             simp at sy hcy hfy
             have pxy := XX_11.out.lt
             have HMY := Lib.hid hmy
             have HNY : Hid (Mod wy _ (.slice Q1 ts.length k1) (.slice Q2 gs.length k2) (.slice Q3 rs.length k3) ts gs rs) := Mod.below (Mod.drew XMo_11.out) hby
             have HBY : Hid (Below w11.heap.size w11 wy) := (Below.refl _ _).drew.trans hby
             clear hby hmy)
          | (go_at_call 38
             refine (c_eqModel x y z _ _ _ _ _ _ ts gs rs _ _ _ l1 l2 l3 HNY.out HMY.out).mono ?_
             rintro e wz ⟨rfl, hbz⟩
             have HBZ : Hid (Below w11.heap.size w11 wz) := HBY.out.trans (hbz.mono HBY.out.size)
             clear hbz))
        all_goals
          go_wp2_with fail
          go_meet
          exact ⟨rfl, HBZ.out⟩
      case rest =>
        obtain ⟨rfl, hb12⟩ := hcut
        clear cX0 cX1 cX2 cX3 cX4 cX5
        generalize wc = w12 at *
        have HB12 : Hid (Below w.heap.size w w12) := HB11.out.trans (hb12.mono HB11.out.size)
        have HC12 : Hid (Below wg.heap.size wg w12) := HC11.out.trans (hb12.mono HC11.out.size)
        clear cA0 cA1 cA2 cA3 cA4 cA5
        obtain ⟨cA0, cA1, cA2, cA3, cA4, cA5⟩ : _ ∧ _ ∧ _ ∧ _ ∧ _ ∧ _ := ⟨(AX_0.out.below HC12.out).c0, (AX_0.out.below HC12.out).c1, (AX_0.out.below HC12.out).c2, (AX_0.out.below HC12.out).c3, (AX_0.out.below HC12.out).c4, (AX_0.out.below HC12.out).c5⟩
        have WS_12 := Lib.hid (WS_11.out.below hb12 UWS_11.out)
        have UWS_12 := Lib.hid (Nat.le_trans UWS_11.out hb12.size)
        have XMo_12 := Lib.hid (XMo_11.out.below hb12)
        have XX_12 := Lib.hid (XX_11.out.below hb12)
        have XB_12 := Lib.hid (Nat.le_trans XB_11.out hb12.size)
        have XP_12 := Lib.hid (XP_11.out.below hb12 UXP_11.out)
        have UXP_12 := Lib.hid (Nat.le_trans UXP_11.out hb12.size)
        have QB_12 := Lib.hid (Nat.le_trans QB_11.out hb12.size)
        have XQ_12 := Lib.hid (XQ_11.out.below hb12 UXQ_11.out)
        have UXQ_12 := Lib.hid (Nat.le_trans UXQ_11.out hb12.size)
        have GZ_12 := Lib.hid (Nat.le_trans GZ_11.out hb12.size)
        have GS_12 := Lib.hid (GS_11.out.below hb12 UGS_11.out)
        have UGS_12 := Lib.hid (Nat.le_trans UGS_11.out hb12.size)
        clear hb12
        go_wp2_with fail
        refine (c_toIntSS xss _ _ hsh.out (HS.out.below HB12.out)).mono ?_
        rintro e w13 ⟨Yv, rfl, hs, hb13⟩
        have HB13 : Hid (Below w.heap.size w w13) := HB12.out.trans (hb13.mono HB12.out.size)
        have HC13 : Hid (Below wg.heap.size wg w13) := HC12.out.trans (hb13.mono HC12.out.size)
        clear cA0 cA1 cA2 cA3 cA4 cA5
        obtain ⟨cA0, cA1, cA2, cA3, cA4, cA5⟩ : _ ∧ _ ∧ _ ∧ _ ∧ _ ∧ _ := ⟨(AX_0.out.below HC13.out).c0, (AX_0.out.below HC13.out).c1, (AX_0.out.below HC13.out).c2, (AX_0.out.below HC13.out).c3, (AX_0.out.below HC13.out).c4, (AX_0.out.below HC13.out).c5⟩
        have WS_13 := Lib.hid (WS_12.out.below hb13 UWS_12.out)
        have UWS_13 := Lib.hid (Nat.le_trans UWS_12.out hb13.size)
        have XMo_13 := Lib.hid (XMo_12.out.below hb13)
        have XX_13 := Lib.hid (XX_12.out.below hb13)
        have XB_13 := Lib.hid (Nat.le_trans XB_12.out hb13.size)
        have XP_13 := Lib.hid (XP_12.out.below hb13 UXP_12.out)
        have UXP_13 := Lib.hid (Nat.le_trans UXP_12.out hb13.size)
        have QB_13 := Lib.hid (Nat.le_trans QB_12.out hb13.size)
        have XQ_13 := Lib.hid (XQ_12.out.below hb13 UXQ_12.out)
        have UXQ_13 := Lib.hid (Nat.le_trans UXQ_12.out hb13.size)
        have GZ_13 := Lib.hid (Nat.le_trans GZ_12.out hb13.size)
        have GS_13 := Lib.hid (GS_12.out.below hb13 UGS_12.out)
        have UGS_13 := Lib.hid (Nat.le_trans UGS_12.out hb13.size)
        have YP_13 := Lib.hid hs
        have UYP_13 : Hid (_ ≤ _) := Nat.le_refl w13.heap.size
        clear hs
        clear hb13
        go_wp2_with fail
        refine (c_eqIntSS xss _ _ _ _ _ _ _ hsl hss.out XP_13.out YP_13.out UXP_13.out UYP_13.out).mono ?_
        rintro e w14 ⟨rfl, hb14⟩
        have HB14 : Hid (Below w.heap.size w w14) := HB13.out.trans (hb14.mono HB13.out.size)
        have HC14 : Hid (Below wg.heap.size wg w14) := HC13.out.trans (hb14.mono HC13.out.size)
        clear cA0 cA1 cA2 cA3 cA4 cA5
        obtain ⟨cA0, cA1, cA2, cA3, cA4, cA5⟩ : _ ∧ _ ∧ _ ∧ _ ∧ _ ∧ _ := ⟨(AX_0.out.below HC14.out).c0, (AX_0.out.below HC14.out).c1, (AX_0.out.below HC14.out).c2, (AX_0.out.below HC14.out).c3, (AX_0.out.below HC14.out).c4, (AX_0.out.below HC14.out).c5⟩
        have WS_14 := Lib.hid (WS_13.out.below hb14 UWS_13.out)
        have UWS_14 := Lib.hid (Nat.le_trans UWS_13.out hb14.size)
        have XMo_14 := Lib.hid (XMo_13.out.below hb14)
        have XX_14 := Lib.hid (XX_13.out.below hb14)
        have XB_14 := Lib.hid (Nat.le_trans XB_13.out hb14.size)
        have XP_14 := Lib.hid (XP_13.out.below hb14 UXP_13.out)
        have UXP_14 := Lib.hid (Nat.le_trans UXP_13.out hb14.size)
        have QB_14 := Lib.hid (Nat.le_trans QB_13.out hb14.size)
        have XQ_14 := Lib.hid (XQ_13.out.below hb14 UXQ_13.out)
        have UXQ_14 := Lib.hid (Nat.le_trans UXQ_13.out hb14.size)
        have GZ_14 := Lib.hid (Nat.le_trans GZ_13.out hb14.size)
        have GS_14 := Lib.hid (GS_13.out.below hb14 UGS_13.out)
        have UGS_14 := Lib.hid (Nat.le_trans UGS_13.out hb14.size)
        have YP_14 := Lib.hid (YP_13.out.below hb14 UYP_13.out)
        have UYP_14 := Lib.hid (Nat.le_trans UYP_13.out hb14.size)
        clear hb14
        go_wp2_with fail
        refine (c_toIntSS pss _ _ hsh2.out (HS2.out.below HB14.out)).mono ?_
        rintro e w15 ⟨Yq, rfl, hs, hb15⟩
        have HB15 : Hid (Below w.heap.size w w15) := HB14.out.trans (hb15.mono HB14.out.size)
        have HC15 : Hid (Below wg.heap.size wg w15) := HC14.out.trans (hb15.mono HC14.out.size)
        clear cA0 cA1 cA2 cA3 cA4 cA5
        obtain ⟨cA0, cA1, cA2, cA3, cA4, cA5⟩ : _ ∧ _ ∧ _ ∧ _ ∧ _ ∧ _ := ⟨(AX_0.out.below HC15.out).c0, (AX_0.out.below HC15.out).c1, (AX_0.out.below HC15.out).c2, (AX_0.out.below HC15.out).c3, (AX_0.out.below HC15.out).c4, (AX_0.out.below HC15.out).c5⟩
        have WS_15 := Lib.hid (WS_14.out.below hb15 UWS_14.out)
        have UWS_15 := Lib.hid (Nat.le_trans UWS_14.out hb15.size)
        have XMo_15 := Lib.hid (XMo_14.out.below hb15)
        have XX_15 := Lib.hid (XX_14.out.below hb15)
        have XB_15 := Lib.hid (Nat.le_trans XB_14.out hb15.size)
        have XP_15 := Lib.hid (XP_14.out.below hb15 UXP_14.out)
        have UXP_15 := Lib.hid (Nat.le_trans UXP_14.out hb15.size)
        have QB_15 := Lib.hid (Nat.le_trans QB_14.out hb15.size)
        have XQ_15 := Lib.hid (XQ_14.out.below hb15 UXQ_14.out)
        have UXQ_15 := Lib.hid (Nat.le_trans UXQ_14.out hb15.size)
        have GZ_15 := Lib.hid (Nat.le_trans GZ_14.out hb15.size)
        have GS_15 := Lib.hid (GS_14.out.below hb15 UGS_14.out)
        have UGS_15 := Lib.hid (Nat.le_trans UGS_14.out hb15.size)
        have YQ_15 := Lib.hid hs
        have UYQ_15 : Hid (_ ≤ _) := Nat.le_refl w15.heap.size
        clear hs
        clear hb15
        go_wp2_with fail
        refine (c_eqIntSS pss _ _ _ _ _ _ _ hsl2 hss2.out XQ_15.out YQ_15.out UXQ_15.out UYQ_15.out).mono ?_
        rintro e w16 ⟨rfl, hb16⟩
        have HB16 : Hid (Below w.heap.size w w16) := HB15.out.trans (hb16.mono HB15.out.size)
        have HC16 : Hid (Below wg.heap.size wg w16) := HC15.out.trans (hb16.mono HC15.out.size)
        clear cA0 cA1 cA2 cA3 cA4 cA5
        obtain ⟨cA0, cA1, cA2, cA3, cA4, cA5⟩ : _ ∧ _ ∧ _ ∧ _ ∧ _ ∧ _ := ⟨(AX_0.out.below HC16.out).c0, (AX_0.out.below HC16.out).c1, (AX_0.out.below HC16.out).c2, (AX_0.out.below HC16.out).c3, (AX_0.out.below HC16.out).c4, (AX_0.out.below HC16.out).c5⟩
        have WS_16 := Lib.hid (WS_15.out.below hb16 UWS_15.out)
        have UWS_16 := Lib.hid (Nat.le_trans UWS_15.out hb16.size)
        have XMo_16 := Lib.hid (XMo_15.out.below hb16)
        have XX_16 := Lib.hid (XX_15.out.below hb16)
        have XB_16 := Lib.hid (Nat.le_trans XB_15.out hb16.size)
        have XP_16 := Lib.hid (XP_15.out.below hb16 UXP_15.out)
        have UXP_16 := Lib.hid (Nat.le_trans UXP_15.out hb16.size)
        have QB_16 := Lib.hid (Nat.le_trans QB_15.out hb16.size)
        have XQ_16 := Lib.hid (XQ_15.out.below hb16 UXQ_15.out)
        have UXQ_16 := Lib.hid (Nat.le_trans UXQ_15.out hb16.size)
        have GZ_16 := Lib.hid (Nat.le_trans GZ_15.out hb16.size)
        have GS_16 := Lib.hid (GS_15.out.below hb16 UGS_15.out)
        have UGS_16 := Lib.hid (Nat.le_trans UGS_15.out hb16.size)
        have YQ_16 := Lib.hid (YQ_15.out.below hb16 UYQ_15.out)
        have UYQ_16 := Lib.hid (Nat.le_trans UYQ_15.out hb16.size)
        clear hb16
        obtain ⟨cX0, cX1, cX2, cX3, cX4, cX5⟩ : _ ∧ _ ∧ _ ∧ _ ∧ _ ∧ _ := ⟨XX_16.out.c0, XX_16.out.c1, XX_16.out.c2, XX_16.out.c3, XX_16.out.c4, XX_16.out.c5⟩
        go_wp2_with fail
        refine (c_markModelG x y z _ _ _ ts gs rs _ 1 _ hszm (by omega) (by omega) XMo_16.out).mono ?_
        rintro e w17 ⟨rfl, _, ht⟩
        have HT := Lib.hid ht
        clear ht cX0 cX1 cX2 cX3 cX4 cX5
        have HB17 : Hid (Below w.heap.size w w17) := HT.out.turned.below HB16.out HB16.out.size (fun k hk => Nat.le_trans HB5.out.size (XMo_16.out.own1 k hk)) (fun k hk => Nat.le_trans HB5.out.size (XMo_16.out.own2 k hk)) (fun k hk => Nat.le_trans HB5.out.size (XMo_16.out.own3 k hk))
        have HC17 : Hid (Below wg.heap.size wg w17) := HT.out.turned.below HC16.out HC16.out.size (fun k hk => Nat.le_trans HC5.out.size (XMo_16.out.own1 k hk)) (fun k hk => Nat.le_trans HC5.out.size (XMo_16.out.own2 k hk)) (fun k hk => Nat.le_trans HC5.out.size (XMo_16.out.own3 k hk))
        clear cA0 cA1 cA2 cA3 cA4 cA5
        obtain ⟨cA0, cA1, cA2, cA3, cA4, cA5⟩ : _ ∧ _ ∧ _ ∧ _ ∧ _ ∧ _ := ⟨(AX_0.out.below HC17.out).c0, (AX_0.out.below HC17.out).c1, (AX_0.out.below HC17.out).c2, (AX_0.out.below HC17.out).c3, (AX_0.out.below HC17.out).c4, (AX_0.out.below HC17.out).c5⟩
        have XB_17 := Lib.hid (Nat.le_trans XB_16.out HT.out.turned.size)
        have GZ_17 := Lib.hid (Nat.le_trans GZ_16.out HT.out.turned.size)
        have QB_17 := Lib.hid (Nat.le_trans QB_16.out HT.out.turned.size)
        have WS_17 := Lib.hid (HT.out.rows WS_16.out UWS_16.out fun k _ hu => out_lo XMo_16.out.own1 XMo_16.out.own2 XMo_16.out.own3 UWS_5.out hu)
        have UWS_17 := Lib.hid (Nat.le_trans UWS_16.out HT.out.turned.size)
        have XP_17 := Lib.hid (HT.out.rows XP_16.out UXP_16.out fun k hk _ => out_hi XMo_7.out.top1 XMo_7.out.top2 XMo_7.out.top3 (Nat.le_refl _) hk)
        have UXP_17 := Lib.hid (Nat.le_trans UXP_16.out HT.out.turned.size)
        have XQ_17 := Lib.hid (HT.out.rows XQ_16.out UXQ_16.out fun k hk _ => out_hi XMo_8.out.top1 XMo_8.out.top2 XMo_8.out.top3 (Nat.le_refl _) hk)
        have UXQ_17 := Lib.hid (Nat.le_trans UXQ_16.out HT.out.turned.size)
        have GS_17 := Lib.hid (HT.out.rows GS_16.out UGS_16.out fun k hk _ => out_hi XMo_9.out.top1 XMo_9.out.top2 XMo_9.out.top3 (Nat.le_refl _) hk)
        have UGS_17 := Lib.hid (Nat.le_trans UGS_16.out HT.out.turned.size)
        go_wp2_with fail
        refine (c_markIntSS2 xss _ _ _ (1 + (ts.length : Int) + (gs.length : Int) + (rs.length : Int)) _ hsl htt (by omega) (by omega) XP_17.out XB_17.out).mono ?_
        rintro e w18 ⟨rfl, _, hbm, ham⟩
        have HB18 : Hid (Below w.heap.size w w18) := HB17.out.trans (hbm.mono HB7.out.size)
        have HC18 : Hid (Below wg.heap.size wg w18) := HC17.out.trans (hbm.mono HC7.out.size)
        clear cA0 cA1 cA2 cA3 cA4 cA5
        obtain ⟨cA0, cA1, cA2, cA3, cA4, cA5⟩ : _ ∧ _ ∧ _ ∧ _ ∧ _ ∧ _ := ⟨(AX_0.out.below HC18.out).c0, (AX_0.out.below HC18.out).c1, (AX_0.out.below HC18.out).c2, (AX_0.out.below HC18.out).c3, (AX_0.out.below HC18.out).c4, (AX_0.out.below HC18.out).c5⟩
        have XB_18 := Lib.hid (Nat.le_trans XB_17.out hbm.size)
        have GZ_18 := Lib.hid (Nat.le_trans GZ_17.out hbm.size)
        have WS_18 := Lib.hid (WS_17.out.below hbm UWS_7.out)
        have UWS_18 := Lib.hid (Nat.le_trans UWS_17.out hbm.size)
        have GS_18 := Lib.hid (GS_17.out.stays fun k hk hu => ham k (Nat.le_trans UXP_9.out hk) (Nat.lt_of_lt_of_le hu UGS_17.out))
        have UGS_18 := Lib.hid (Nat.le_trans UGS_17.out hbm.size)
        have XQ_18 := Lib.hid (XQ_17.out.stays fun k hk hu => ham k (Nat.le_trans UXP_8.out hk) (Nat.lt_of_lt_of_le hu UXQ_17.out))
        have UXQ_18 := Lib.hid (Nat.le_trans UXQ_17.out hbm.size)
        have QB_18 := Lib.hid (Nat.le_trans QB_17.out hbm.size)
        clear hbm ham
        go_wp2_with fail
        refine (c_markIntSS2 pss _ _ _ (1 + (ts.length : Int) + (gs.length : Int) + (rs.length : Int) + (totN xss xss.length : Int)) _ hsl2 htt2 (by omega) (by omega) XQ_18.out QB_18.out).mono ?_
        rintro e w19 ⟨rfl, _, hbm, ham⟩
        have HB19 : Hid (Below w.heap.size w w19) := HB18.out.trans (hbm.mono HB8.out.size)
        have HC19 : Hid (Below wg.heap.size wg w19) := HC18.out.trans (hbm.mono HC8.out.size)
        clear cA0 cA1 cA2 cA3 cA4 cA5
        obtain ⟨cA0, cA1, cA2, cA3, cA4, cA5⟩ : _ ∧ _ ∧ _ ∧ _ ∧ _ ∧ _ := ⟨(AX_0.out.below HC19.out).c0, (AX_0.out.below HC19.out).c1, (AX_0.out.below HC19.out).c2, (AX_0.out.below HC19.out).c3, (AX_0.out.below HC19.out).c4, (AX_0.out.below HC19.out).c5⟩
        have XB_19 := Lib.hid (Nat.le_trans XB_18.out hbm.size)
        have GZ_19 := Lib.hid (Nat.le_trans GZ_18.out hbm.size)
        have WS_19 := Lib.hid (WS_18.out.below hbm (Nat.le_trans UWS_7.out XB_8.out))
        have UWS_19 := Lib.hid (Nat.le_trans UWS_18.out hbm.size)
        have GS_19 := Lib.hid (GS_18.out.stays fun k hk hu => ham k (Nat.le_trans UXQ_9.out hk) (Nat.lt_of_lt_of_le hu UGS_18.out))
        have UGS_19 := Lib.hid (Nat.le_trans UGS_18.out hbm.size)
        clear hbm ham
        go_wp2_with fail
        refine (c_eqIntSS yss _ _ _ _ _ _ _ hxl hxs.out GS_19.out WS_19.out UGS_19.out UWS_19.out).mono ?_
        rintro e w20 ⟨rfl, hb20⟩
        have HB20 : Hid (Below w.heap.size w w20) := HB19.out.trans (hb20.mono HB19.out.size)
        have HC20 : Hid (Below wg.heap.size wg w20) := HC19.out.trans (hb20.mono HC19.out.size)
        clear cA0 cA1 cA2 cA3 cA4 cA5
        obtain ⟨cA0, cA1, cA2, cA3, cA4, cA5⟩ : _ ∧ _ ∧ _ ∧ _ ∧ _ ∧ _ := ⟨(AX_0.out.below HC20.out).c0, (AX_0.out.below HC20.out).c1, (AX_0.out.below HC20.out).c2, (AX_0.out.below HC20.out).c3, (AX_0.out.below HC20.out).c4, (AX_0.out.below HC20.out).c5⟩
        have WS_20 := Lib.hid (WS_19.out.below hb20 UWS_19.out)
        have UWS_20 := Lib.hid (Nat.le_trans UWS_19.out hb20.size)
        have GS_20 := Lib.hid (GS_19.out.below hb20 UGS_19.out)
        have UGS_20 := Lib.hid (Nat.le_trans UGS_19.out hb20.size)
        have XB_20 := Lib.hid (Nat.le_trans XB_19.out hb20.size)
        have GZ_20 := Lib.hid (Nat.le_trans GZ_19.out hb20.size)
        clear hb20
        go_wp2_with fail
        refine (HM.out _ _ _ _ GS_20.out GZ_20.out).mono ?_
        rintro e w21 ⟨rfl, hr, hbm⟩
        have GS_21 := Lib.hid hr
        have UGS_21 := Lib.hid (Nat.le_trans UGS_20.out hbm.size)
        have HB21 : Hid (Below w.heap.size w w21) := HB20.out.trans (hbm.mono HB9.out.size)
        have HC21 : Hid (Below wg.heap.size wg w21) := HC20.out.trans (hbm.mono HC9.out.size)
        clear cA0 cA1 cA2 cA3 cA4 cA5
        obtain ⟨cA0, cA1, cA2, cA3, cA4, cA5⟩ : _ ∧ _ ∧ _ ∧ _ ∧ _ ∧ _ := ⟨(AX_0.out.below HC21.out).c0, (AX_0.out.below HC21.out).c1, (AX_0.out.below HC21.out).c2, (AX_0.out.below HC21.out).c3, (AX_0.out.below HC21.out).c4, (AX_0.out.below HC21.out).c5⟩
        have WS_21 := Lib.hid (WS_20.out.below hbm (Nat.le_trans UWS_7.out XB_9.out))
        have UWS_21 := Lib.hid (Nat.le_trans UWS_20.out hbm.size)
        clear hr hbm
        go_wp2_with fail
        refine (HD.out _ _ _ _ GS_21.out).mono ?_
        rintro e w' ⟨rfl, rfl⟩
        go_wp2_with fail
        refine (c_toModel x y z _ _ _ ts gs rs _ l1 l2 l3 (HL.out.t.below HB21.out) (HL.out.g.below HB21.out) (HL.out.r.below HB21.out)).mono ?_
        rintro e w22 ⟨Ya, Yb, Yc, rfl, hm, hb22⟩
        have HB22 : Hid (Below w.heap.size w w22) := HB21.out.trans (hb22.mono HB21.out.size)
        have HC22 : Hid (Below wg.heap.size wg w22) := HC21.out.trans (hb22.mono HC21.out.size)
        clear cA0 cA1 cA2 cA3 cA4 cA5
        obtain ⟨cA0, cA1, cA2, cA3, cA4, cA5⟩ : _ ∧ _ ∧ _ ∧ _ ∧ _ ∧ _ := ⟨(AX_0.out.below HC22.out).c0, (AX_0.out.below HC22.out).c1, (AX_0.out.below HC22.out).c2, (AX_0.out.below HC22.out).c3, (AX_0.out.below HC22.out).c4, (AX_0.out.below HC22.out).c5⟩
        have WS_22 := Lib.hid (WS_21.out.below hb22 UWS_21.out)
        have UWS_22 := Lib.hid (Nat.le_trans UWS_21.out hb22.size)
        have GS_22 := Lib.hid (GS_21.out.below hb22 UGS_21.out)
        have UGS_22 := Lib.hid (Nat.le_trans UGS_21.out hb22.size)
        have YMo_22 := Lib.hid hm
        clear hm
        clear hb22
        go_wp2_with fail
        refine (c_toIntSS xss _ _ hsh.out (HS.out.below HB22.out)).mono ?_
        rintro e w23 ⟨Yv, rfl, hs, hb23⟩
        have HB23 : Hid (Below w.heap.size w w23) := HB22.out.trans (hb23.mono HB22.out.size)
        have HC23 : Hid (Below wg.heap.size wg w23) := HC22.out.trans (hb23.mono HC22.out.size)
        clear cA0 cA1 cA2 cA3 cA4 cA5
        obtain ⟨cA0, cA1, cA2, cA3, cA4, cA5⟩ : _ ∧ _ ∧ _ ∧ _ ∧ _ ∧ _ := ⟨(AX_0.out.below HC23.out).c0, (AX_0.out.below HC23.out).c1, (AX_0.out.below HC23.out).c2, (AX_0.out.below HC23.out).c3, (AX_0.out.below HC23.out).c4, (AX_0.out.below HC23.out).c5⟩
        have WS_23 := Lib.hid (WS_22.out.below hb23 UWS_22.out)
        have UWS_23 := Lib.hid (Nat.le_trans UWS_22.out hb23.size)
        have GS_23 := Lib.hid (GS_22.out.below hb23 UGS_22.out)
        have UGS_23 := Lib.hid (Nat.le_trans UGS_22.out hb23.size)
        have YMo_23 := Lib.hid (YMo_22.out.below hb23)
        have YP_23 := Lib.hid hs
        have UYP_23 : Hid (_ ≤ _) := Nat.le_refl w23.heap.size
        clear hs
        clear hb23
        go_wp2_with fail
        refine (c_toIntSS pss _ _ hsh2.out (HS2.out.below HB23.out)).mono ?_
        rintro e w24 ⟨Yq, rfl, hs, hb24⟩
        have HB24 : Hid (Below w.heap.size w w24) := HB23.out.trans (hb24.mono HB23.out.size)
        have HC24 : Hid (Below wg.heap.size wg w24) := HC23.out.trans (hb24.mono HC23.out.size)
        clear cA0 cA1 cA2 cA3 cA4 cA5
        obtain ⟨cA0, cA1, cA2, cA3, cA4, cA5⟩ : _ ∧ _ ∧ _ ∧ _ ∧ _ ∧ _ := ⟨(AX_0.out.below HC24.out).c0, (AX_0.out.below HC24.out).c1, (AX_0.out.below HC24.out).c2, (AX_0.out.below HC24.out).c3, (AX_0.out.below HC24.out).c4, (AX_0.out.below HC24.out).c5⟩
        have WS_24 := Lib.hid (WS_23.out.below hb24 UWS_23.out)
        have UWS_24 := Lib.hid (Nat.le_trans UWS_23.out hb24.size)
        have GS_24 := Lib.hid (GS_23.out.below hb24 UGS_23.out)
        have UGS_24 := Lib.hid (Nat.le_trans UGS_23.out hb24.size)
        have YMo_24 := Lib.hid (YMo_23.out.below hb24)
        have YP_24 := Lib.hid (YP_23.out.below hb24 UYP_23.out)
        have UYP_24 := Lib.hid (Nat.le_trans UYP_23.out hb24.size)
        have YQ_24 := Lib.hid hs
        have UYQ_24 : Hid (_ ≤ _) := Nat.le_refl w24.heap.size
        clear hs
        clear hb24
        go_wp2_with fail
        refine (CI.out _ _ _ _ _ _ _ _ YMo_24.out.look YP_24.out.seen YQ_24.out).mono ?_
        rintro e w25 ⟨Yv, rfl, hs, hb25⟩
        have HB25 : Hid (Below w.heap.size w w25) := HB24.out.trans (hb25.mono HB24.out.size)
        have HC25 : Hid (Below wg.heap.size wg w25) := HC24.out.trans (hb25.mono HC24.out.size)
        clear cA0 cA1 cA2 cA3 cA4 cA5
        obtain ⟨cA0, cA1, cA2, cA3, cA4, cA5⟩ : _ ∧ _ ∧ _ ∧ _ ∧ _ ∧ _ := ⟨(AX_0.out.below HC25.out).c0, (AX_0.out.below HC25.out).c1, (AX_0.out.below HC25.out).c2, (AX_0.out.below HC25.out).c3, (AX_0.out.below HC25.out).c4, (AX_0.out.below HC25.out).c5⟩
        have WS_25 := Lib.hid (WS_24.out.below hb25 UWS_24.out)
        have UWS_25 := Lib.hid (Nat.le_trans UWS_24.out hb25.size)
        have GS_25 := Lib.hid (GS_24.out.below hb25 UGS_24.out)
        have UGS_25 := Lib.hid (Nat.le_trans UGS_24.out hb25.size)
        have YMo_25 := Lib.hid (YMo_24.out.below hb25)
        have YP_25 := Lib.hid (YP_24.out.below hb25 UYP_24.out)
        have UYP_25 := Lib.hid (Nat.le_trans UYP_24.out hb25.size)
        have YQ_25 := Lib.hid (YQ_24.out.below hb25 UYQ_24.out)
        have UYQ_25 := Lib.hid (Nat.le_trans UYQ_24.out hb25.size)
        have YS_25 := Lib.hid hs
        have UYS_25 : Hid (_ ≤ _) := Nat.le_refl w25.heap.size
        clear hs
        clear hb25
        go_wp2_with fail
        refine (c_eqIntSS yss _ _ _ _ _ _ _ hxl hxs.out YS_25.out WS_25.out UYS_25.out UWS_25.out).mono ?_
        rintro e w26 ⟨rfl, hb26⟩
        have HB26 : Hid (Below w.heap.size w w26) := HB25.out.trans (hb26.mono HB25.out.size)
        have HC26 : Hid (Below wg.heap.size wg w26) := HC25.out.trans (hb26.mono HC25.out.size)
        clear cA0 cA1 cA2 cA3 cA4 cA5
        obtain ⟨cA0, cA1, cA2, cA3, cA4, cA5⟩ : _ ∧ _ ∧ _ ∧ _ ∧ _ ∧ _ := ⟨(AX_0.out.below HC26.out).c0, (AX_0.out.below HC26.out).c1, (AX_0.out.below HC26.out).c2, (AX_0.out.below HC26.out).c3, (AX_0.out.below HC26.out).c4, (AX_0.out.below HC26.out).c5⟩
        have WS_26 := Lib.hid (WS_25.out.below hb26 UWS_25.out)
        have UWS_26 := Lib.hid (Nat.le_trans UWS_25.out hb26.size)
        have GS_26 := Lib.hid (GS_25.out.below hb26 UGS_25.out)
        have UGS_26 := Lib.hid (Nat.le_trans UGS_25.out hb26.size)
        have YMo_26 := Lib.hid (YMo_25.out.below hb26)
        have YP_26 := Lib.hid (YP_25.out.below hb26 UYP_25.out)
        have UYP_26 := Lib.hid (Nat.le_trans UYP_25.out hb26.size)
        have YQ_26 := Lib.hid (YQ_25.out.below hb26 UYQ_25.out)
        have UYQ_26 := Lib.hid (Nat.le_trans UYQ_25.out hb26.size)
        have YS_26 := Lib.hid (YS_25.out.below hb26 UYS_25.out)
        have UYS_26 := Lib.hid (Nat.le_trans UYS_25.out hb26.size)
        clear hb26
        go_wp2_with fail
        refine (HD.out _ _ _ _ GS_26.out).mono ?_
        rintro e w' ⟨rfl, rfl⟩
        go_wp2
        go_ret
        exact ⟨rfl, HB26.out⟩

/-! ### The row's step -/
theorem laid : laidOutB Try.prog = true := by kernel_rfl
set_option maxRecDepth 100000 in
set_option maxHeartbeats 8000000 in
theorem lifted (os : Os) (started : os.Started) (H : Type) (enc : TypeId × Value → H) :
    ReturnsInHanded {} Try.checked os 10 .any (Rows.fnExactJoinPhasesSpec.pre6 enc Try.prog Try.f10 Rows.fnExactJoinPhasesRow.domain false) (Rows.fnExactJoinPhasesSpec.post enc Try.prog Try.f10 false true false false) := by
  refine returnsInHanded_of_change (C := Try.checked) own started (by kernel_rfl) Try.func10
    (ChangeSpec.witness6 (enc := enc) (C := Try.checked) false ⟨#[], #[.agg #[.int .i64 0, .int .i64 0, .int .i64 0, .slice none 0 0, .slice none 0 0, .slice none 0 0], .slice none 0 0, .slice none 0 0, .int .i64 0], []⟩ 8 (by kernel_rfl) (by kernel_rfl) (by kernel_rfl) (by kernel_rfl)) ?_
  intro W base args ds gs before hval0 hW hcnd _
  have hval : ∀ (j : Nat) t v, Try.f10.params[j]? = some t → args[j]? = some v → Value.okWide Try.prog W .any base t v := hval0
  have hW' := hW
  have lts : ∀ x ∈ before, x.block < W.heap.size := fun x hx => by simpa using hW'.lt x hx
  obtain ⟨p, q, hA0, hV, rfl, hfz, hnd⟩ := hW
  have hA : DataW.TrodAll enc Try.prog W 0 (fun _ => true) true Try.f10.params.toList args.toList ds p := hA0
  rw [Try.params10] at hA hval
  obtain ⟨v0, vs0, d0, ds0, p0, q0, hargs, rfl, rfl, h0, r0⟩ := trodAll_cons hA
  obtain ⟨v1, vs1, d1, ds1, p1, q1, rfl, rfl, rfl, h1, r1⟩ := trodAll_cons r0
  obtain ⟨v2, vs2, d2, ds2, p2, q2, rfl, rfl, rfl, h2, r2⟩ := trodAll_cons r1
  obtain ⟨v3, vs3, d3, ds3, p3, q3, rfl, rfl, rfl, h3, r3⟩ := trodAll_cons r2
  obtain ⟨rfl, rfl, rfl⟩ := trodAll_nil r3
  obtain rfl : args = #[v0, v1, v2, v3] := by cases args; simp_all
  obtain ⟨rfl, rfl⟩ := trodVars_none hV
  have k0 := h0
  obtain ⟨x, y, z, m1, m2, m3, ts, gs, rs, rfl, hMo⟩ := open_model (hval 0 48 v0 rfl rfl) h0
  have k1 := h1
  obtain ⟨xss, hR⟩ := open_rows (hval 1 22 v1 rfl rfl) h1
  have k2 := h2
  obtain ⟨pss, hR2⟩ := open_rows (hval 2 22 v2 rfl rfl) h2
  have k3 := h3
  obtain ⟨a3, rfl, _, _, w3⟩ := open_int Try.underlying3 (hval 3 3 v3 rfl rfl) h3
  clear hA0 hval0
  simp only [List.append_nil] at hW' lts
  refine (walk x y z m1 m2 m3 ts gs rs xss v1 pss v2 a3 W hMo hR hR2 w3).mono fun e W' ⟨he, bel⟩ => ?_
  subst he
  exact ⟨_, rfl, _, _, _, [], _, [], hW', trodAll_mk1 (shut_bool Try.underlying4 _), (trodAll_cons_mk (Below.trod laid (by kernel_rfl) (of_decide_eq_true (by kernel_rfl)) k0 bel (fun x hx => lts x (by simp [hx]))) (trodAll_cons_mk (Below.trod laid (by kernel_rfl) (of_decide_eq_true (by kernel_rfl)) k1 bel (fun x hx => lts x (by simp [hx]))) (trodAll_cons_mk (Below.trod laid (by kernel_rfl) (of_decide_eq_true (by kernel_rfl)) k2 bel (fun x hx => lts x (by simp [hx]))) (trodAll_cons_mk (Below.trod laid (by kernel_rfl) (of_decide_eq_true (by kernel_rfl)) k3 bel (fun x hx => lts x (by simp [hx]))) trodAll_mk0)))), rfl, bel.frame _, fun h => by cases h⟩

set_option maxHeartbeats 8000000 in
theorem closed : joinedFacts Try.prog 10 Try.f10 Rows.fnExactJoinPhasesSpec Rows.fnExactJoinPhasesRow = true := by
  unfold joinedFacts
  simp only [Bool.and_eq_true]
  refine ⟨⟨⟨⟨⟨⟨⟨⟨⟨⟨⟨⟨⟨⟨⟨⟨⟨⟨⟨⟨⟨⟨⟨⟨⟨⟨⟨⟨⟨⟨⟨?_, ?_⟩, ?_⟩, ?_⟩, ?_⟩, ?_⟩, ?_⟩, ?_⟩, ?_⟩, ?_⟩, ?_⟩, ?_⟩, ?_⟩, ?_⟩, ?_⟩, ?_⟩, ?_⟩, ?_⟩, ?_⟩, ?_⟩, ?_⟩, ?_⟩, ?_⟩, ?_⟩, ?_⟩, ?_⟩, ?_⟩, ?_⟩, ?_⟩, ?_⟩, ?_⟩, ?_⟩
  · as_aux_lemma => kernel_rfl
  · as_aux_lemma => kernel_rfl
  · as_aux_lemma => kernel_rfl
  · as_aux_lemma => kernel_rfl
  · as_aux_lemma => kernel_rfl
  · as_aux_lemma => kernel_rfl
  · as_aux_lemma => kernel_rfl
  · as_aux_lemma => kernel_rfl
  · as_aux_lemma => kernel_rfl
  · as_aux_lemma => kernel_rfl
  · as_aux_lemma => kernel_rfl
  · as_aux_lemma => kernel_rfl
  · as_aux_lemma => kernel_rfl
  · as_aux_lemma => kernel_rfl
  · as_aux_lemma => kernel_rfl
  · as_aux_lemma => kernel_rfl
  · as_aux_lemma => kernel_rfl
  · as_aux_lemma => kernel_rfl
  · as_aux_lemma => kernel_rfl
  · as_aux_lemma => kernel_rfl
  · as_aux_lemma => kernel_rfl
  · as_aux_lemma => kernel_rfl
  · as_aux_lemma => kernel_rfl
  · as_aux_lemma => kernel_rfl
  · as_aux_lemma => kernel_rfl
  · exact jf_may
  · exact (congrArg (fun b => (Rows.fnExactJoinPhasesRow.lifted == b)) jf_lifts).trans (by kernel_rfl)
  · exact (congrArg (fun o => (o == some Rows.fnExactJoinPhasesRow.make)) jf_make).trans (by kernel_rfl)
  · as_aux_lemma => kernel_rfl
  · as_aux_lemma => kernel_rfl
  · as_aux_lemma => kernel_rfl
  · as_aux_lemma => kernel_rfl

set_option maxHeartbeats 8000000 in
theorem over : Rows.fnExactJoinPhasesRow.holds Try.pinned (OpenSpec.ofChange Rows.fnExactJoinPhasesSpec) :=
  OpenClaim.holds_of_wide 10 Try.f10 rfl rfl rfl rfl rfl rfl rfl ⟨rfl, rfl, rfl, rfl, rfl⟩ rfl rfl rfl rfl rfl (by kernel_rfl) Try.func10 closed
    (of_decide_eq_true (by kernel_rfl)) (by unfold Func.isWrapper; first | (rw [if_pos (by decide +kernel)]; kernel_rfl) | (rw [if_neg (by decide +kernel)]; exact ⟨rfl, rfl⟩))
    (fun os started H enc _ => lifted os started H enc)
end Go.Proofs.Ytlgbhemjckahhaa.fnExactJoinPhasesProof
namespace Go.Proofs.Ytlgbhemjckahhaa
theorem fnExactJoinPhases_holds : Rows.FnExactJoinPhasesSaid := fnExactJoinPhasesProof.over
#print axioms fnExactJoinPhases_holds
end Go.Proofs.Ytlgbhemjckahhaa
