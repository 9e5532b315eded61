/-
  Contracts: EmptyBlocks, in the program and in the model of it.
-/
import Derived.Test.YtcmdnpablnihmabM13
namespace Go.Proofs.Ytcmdnpablnihmab
open Go.RowKit
set_option linter.unusedVariables false

/-- The tonnes when the first j blocks of a list are emptied. -/
def emptN (ts bs : List Int) : Nat → List Int
  | 0 => ts
  | j + 1 => (emptN ts bs j).set (bs.getD j 0).toNat 0
theorem empt_len (ts bs : List Int) : ∀ j, (emptN ts bs j).length = ts.length
  | 0 => rfl
  | j + 1 => by unfold emptN; rw [List.length_set, empt_len ts bs j]
def emX (x y z : Int) (ts gs rs bs : List Int) (t : Int) : Int := if listB x y z ts gs rs bs then t else 0
def emT (x y z : Int) (ts gs rs bs l : List Int) : List Int := if listB x y z ts gs rs bs then l else []

set_option maxHeartbeats 4000000 in
theorem c_EmptyBlocks (x y z : Int) (v1 v2 v3 : Value) (ts gs rs : List Int) (v : Value) (bs : List Int) (w : World) (l1 : ts.length ≤ 4000000) (l2 : gs.length ≤ 4000000) (l3 : rs.length ≤ 4000000) (hl : bs.length ≤ 4000000) (h : Look w v1 v2 v3 ts gs rs) (hs : Seen w v bs) :
    Calls Try.prog 34 #[.agg #[.int .i64 x, .int .i64 y, .int .i64 z, v1, v2, v3], v] w (GivesMod2 w (emX x y z ts gs rs bs x) (emX x y z ts gs rs bs y) (emX x y z ts gs rs bs z) (emT x y z ts gs rs bs (emptN ts bs bs.length)) (emT x y z ts gs rs bs gs) (emT x y z ts gs rs bs rs) (listB x y z ts gs rs bs)) := by
  have H := Lib.hid h
  obtain ⟨A1, c1, rfl⟩ := h.t.shape
  obtain ⟨A2, c2, rfl⟩ := h.g.shape
  obtain ⟨A3, c3, rfl⟩ := h.r.shape
  clear h
  have HS := Lib.hid hs
  obtain ⟨AV, cV, rfl, hm, hA⟩ := hs
  clear hm
  have HX0 : Hid (Box6 ((w.alloc (.cells #[.int .i64 x, .int .i64 y, .int .i64 z, .slice A1 ts.length c1, .slice A2 gs.length c2, .slice A3 rs.length c3] 54)).alloc (.cells #[.int .i64 0, .int .i64 0, .int .i64 0, .slice none 0 0, .slice none 0 0, .slice none 0 0] 54)) w.heap.size x y z (.slice A1 ts.length c1) (.slice A2 gs.length c2) (.slice A3 rs.length c3)) := (Box6.new _ _ _ _ _ _ _ _).below ((Below.refl _ _).alloc (Nat.le_refl _) _)
  have HB0 : Hid (Below w.heap.size w ((w.alloc (.cells #[.int .i64 x, .int .i64 y, .int .i64 z, .slice A1 ts.length c1, .slice A2 gs.length c2, .slice A3 rs.length c3] 54)).alloc (.cells #[.int .i64 0, .int .i64 0, .int .i64 0, .slice none 0 0, .slice none 0 0, .slice none 0 0] 54))) := ((Below.refl _ _).alloc (Nat.le_refl _) _).alloc (by simp) _
  have HM0 : Hid (Mine6 ((w.alloc (.cells #[.int .i64 x, .int .i64 y, .int .i64 z, .slice A1 ts.length c1, .slice A2 gs.length c2, .slice A3 rs.length c3] 54)).alloc (.cells #[.int .i64 0, .int .i64 0, .int .i64 0, .slice none 0 0, .slice none 0 0, .slice none 0 0] 54)) (w.heap.size + 1) (.int .i64 0) (.int .i64 0) (.int .i64 0) (.slice none 0 0) (.slice none 0 0) (.slice none 0 0)) := by
    have := Mine6.new (w.alloc (.cells #[.int .i64 x, .int .i64 y, .int .i64 z, .slice A1 ts.length c1, .slice A2 gs.length c2, .slice A3 rs.length c3] 54)) (.int .i64 0) (.int .i64 0) (.int .i64 0) (.slice none 0 0) (.slice none 0 0) (.slice none 0 0) 54
    rw [World.size_alloc] at this
    exact this
  unfold emX emT
  cases hm : moB x y z ts gs rs
  · have HM := Lib.hid hm
    rw [show listB x y z ts gs rs bs = false by unfold listB; rw [hm]; rfl]
    simp only [Bool.false_eq_true, if_false]
    clear hm hA
    go_enter Try.func34, Try.ntmps34
    go_wp2_with fail
    refine (c_IsModel x y z _ _ _ ts gs rs _ l1 l2 l3 (H.out.below HB0.out)).mono ?_
    rintro e w1 ⟨rfl, hb1⟩
    rw [HM.out]
    have HX1 := Lib.hid (HX0.out.below hb1)
    have HM1 := Lib.hid (HM0.out.below hb1)
    have HB1 : Hid (Below w.heap.size w w1) := HB0.out.trans (hb1.mono HB0.out.size)
    clear hb1
    have d1_0 := HX1.out.c0
    have d1_1 := HX1.out.c1
    have d1_2 := HX1.out.c2
    have d1_3 := HX1.out.c3
    have d1_4 := HX1.out.c4
    have d1_5 := HX1.out.c5
    have m1_0 := HM1.out.c0
    have g1_0 := HM1.out.f 0
    have m1_1 := HM1.out.c1
    have g1_1 := HM1.out.f 1
    have m1_2 := HM1.out.c2
    have g1_2 := HM1.out.f 2
    have m1_3 := HM1.out.c3
    have g1_3 := HM1.out.f 3
    have m1_4 := HM1.out.c4
    have g1_4 := HM1.out.f 4
    have m1_5 := HM1.out.c5
    have g1_5 := HM1.out.f 5
    go_wp2
    have HP := Lib.hid (put6_mine (.int .i64 0) (.int .i64 0) (.int .i64 0) (.slice none 0 0) (.slice none 0 0) (.slice none 0 0) HM1.out)
    have HBE : Hid (Below w.heap.size w (put6 w1 (w.heap.size + 1) (.int .i64 0) (.int .i64 0) (.int .i64 0) (.slice none 0 0) (.slice none 0 0) (.slice none 0 0))) := put6_below _ _ _ _ _ _ HB1.out (by omega)
    have HQ : Hid (Mod (put6 w1 (w.heap.size + 1) (.int .i64 0) (.int .i64 0) (.int .i64 0) (.slice none 0 0) (.slice none 0 0) (.slice none 0 0)) w.heap.size (.slice none 0 0) (.slice none 0 0) (.slice none 0 0) [] [] []) := Mod.nil _ _
    unfold put6 at *
    generalize ((((((w1.setCell ⟨w.heap.size + 1, 0, none⟩ (.int .i64 0)).setCell ⟨w.heap.size + 1, 1, none⟩ (.int .i64 0)).setCell ⟨w.heap.size + 1, 2, none⟩ (.int .i64 0)).setCell ⟨w.heap.size + 1, 3, none⟩ (.slice none 0 0)).setCell ⟨w.heap.size + 1, 4, none⟩ (.slice none 0 0)).setCell ⟨w.heap.size + 1, 5, none⟩ (.slice none 0 0)) = we at *
    have f0 := HP.out.c0
    have f1 := HP.out.c1
    have f2 := HP.out.c2
    have f3 := HP.out.c3
    have f4 := HP.out.c4
    have f5 := HP.out.c5
    refine bodyPost_ret (v := .tuple #[.agg #[.int .i64 0, .int .i64 0, .int .i64 0, .slice none 0 0, .slice none 0 0, .slice none 0 0], .bool false]) (by simp [results, Try.results34, go_sem, f0, f1, f2, f3, f4, f5]) rfl ⟨_, _, _, rfl, HQ.out, HBE.out⟩
  · have HM := Lib.hid hm
    have HG := Lib.hid (mo_true hm).1
    cases hr : risB (x * y * z) bs
    · have HR := Lib.hid hr
      rw [show listB x y z ts gs rs bs = false by unfold listB; rw [hr, Bool.and_false]]
      simp only [Bool.false_eq_true, if_false]
      clear hm hr hA
      go_enter Try.func34, Try.ntmps34
      go_wp2_with fail
      refine (c_IsModel x y z _ _ _ ts gs rs _ l1 l2 l3 (H.out.below HB0.out)).mono ?_
      rintro e w1 ⟨rfl, hb1⟩
      rw [HM.out]
      have HX1 := Lib.hid (HX0.out.below hb1)
      have HM1 := Lib.hid (HM0.out.below hb1)
      have HB1 : Hid (Below w.heap.size w w1) := HB0.out.trans (hb1.mono HB0.out.size)
      clear hb1
      have d1_0 := HX1.out.c0
      have d1_1 := HX1.out.c1
      have d1_2 := HX1.out.c2
      have d1_3 := HX1.out.c3
      have d1_4 := HX1.out.c4
      have d1_5 := HX1.out.c5
      have m1_0 := HM1.out.c0
      have g1_0 := HM1.out.f 0
      have m1_1 := HM1.out.c1
      have g1_1 := HM1.out.f 1
      have m1_2 := HM1.out.c2
      have g1_2 := HM1.out.f 2
      have m1_3 := HM1.out.c3
      have g1_3 := HM1.out.f 3
      have m1_4 := HM1.out.c4
      have g1_4 := HM1.out.f 4
      have m1_5 := HM1.out.c5
      have g1_5 := HM1.out.f 5
      go_wp2_with fail
      refine (c_isBlockList x y z bs _ _ HG.out hl (HS.out.below HB1.out)).mono ?_
      rintro e w2 ⟨rfl, hb2⟩
      rw [HR.out]
      have HX2 := Lib.hid (HX1.out.below hb2)
      have HM2 := Lib.hid (HM1.out.below hb2)
      have HB2 : Hid (Below w.heap.size w w2) := HB1.out.trans (hb2.mono HB1.out.size)
      clear hb2
      have d2_0 := HX2.out.c0
      have d2_1 := HX2.out.c1
      have d2_2 := HX2.out.c2
      have d2_3 := HX2.out.c3
      have d2_4 := HX2.out.c4
      have d2_5 := HX2.out.c5
      have m2_0 := HM2.out.c0
      have g2_0 := HM2.out.f 0
      have m2_1 := HM2.out.c1
      have g2_1 := HM2.out.f 1
      have m2_2 := HM2.out.c2
      have g2_2 := HM2.out.f 2
      have m2_3 := HM2.out.c3
      have g2_3 := HM2.out.f 3
      have m2_4 := HM2.out.c4
      have g2_4 := HM2.out.f 4
      have m2_5 := HM2.out.c5
      have g2_5 := HM2.out.f 5
      go_wp2
      have HP := Lib.hid (put6_mine (.int .i64 0) (.int .i64 0) (.int .i64 0) (.slice none 0 0) (.slice none 0 0) (.slice none 0 0) HM2.out)
      have HBE : Hid (Below w.heap.size w (put6 w2 (w.heap.size + 1) (.int .i64 0) (.int .i64 0) (.int .i64 0) (.slice none 0 0) (.slice none 0 0) (.slice none 0 0))) := put6_below _ _ _ _ _ _ HB2.out (by omega)
      have HQ : Hid (Mod (put6 w2 (w.heap.size + 1) (.int .i64 0) (.int .i64 0) (.int .i64 0) (.slice none 0 0) (.slice none 0 0) (.slice none 0 0)) w.heap.size (.slice none 0 0) (.slice none 0 0) (.slice none 0 0) [] [] []) := Mod.nil _ _
      unfold put6 at *
      generalize ((((((w2.setCell ⟨w.heap.size + 1, 0, none⟩ (.int .i64 0)).setCell ⟨w.heap.size + 1, 1, none⟩ (.int .i64 0)).setCell ⟨w.heap.size + 1, 2, none⟩ (.int .i64 0)).setCell ⟨w.heap.size + 1, 3, none⟩ (.slice none 0 0)).setCell ⟨w.heap.size + 1, 4, none⟩ (.slice none 0 0)).setCell ⟨w.heap.size + 1, 5, none⟩ (.slice none 0 0)) = we at *
      have f0 := HP.out.c0
      have f1 := HP.out.c1
      have f2 := HP.out.c2
      have f3 := HP.out.c3
      have f4 := HP.out.c4
      have f5 := HP.out.c5
      refine bodyPost_ret (v := .tuple #[.agg #[.int .i64 0, .int .i64 0, .int .i64 0, .slice none 0 0, .slice none 0 0, .slice none 0 0], .bool false]) (by simp [results, Try.results34, go_sem, f0, f1, f2, f3, f4, f5]) rfl ⟨_, _, _, rfl, HQ.out, HBE.out⟩
    · have HR := Lib.hid hr
      have hL : listB x y z ts gs rs bs = true := by unfold listB; rw [hm, hr]; rfl
      rw [hL]
      simp only [if_true]
      have N : Hid (0 < ts.length ∧ 0 < gs.length ∧ 0 < rs.length) := by
        have h1 := mo_true (list_true hL).1
        obtain ⟨x1, x2, y1, y2, z1, z2, _⟩ := good_true h1.1
        have : 0 < x * y * z := Int.mul_pos (Int.mul_pos (by omega) (by omega)) (by omega)
        exact ⟨by omega, by omega, by omega⟩
      have E1 : Hid (∀ j : Nat, j < bs.length → ∃ b off, AV = some ⟨b, off, none⟩ ∧ b < w.heap.size ∧ w.cell? ⟨b, off + j, none⟩ = some (.int .i64 (bs.getD j 0))) := fun j hj => by
        obtain ⟨b, off, rfl, hb, hc⟩ := hA (by omega)
        exact ⟨b, off, rfl, hb, hc j hj⟩
      have E2 : Hid (∀ j : Nat, j < bs.length → ∃ k : Nat, bs.getD j 0 = (k : Int) ∧ k < ts.length) := fun j hj => by
        obtain ⟨k, e, hk⟩ := list_at hL hj
        obtain ⟨k1, _⟩ := metal_box (list_true hL).1 hk
        exact ⟨k, e, k1⟩
      have EL : Hid (∀ j, (emptN ts bs j).length = ts.length) := empt_len ts bs
      have ES : Hid (∀ j, emptN ts bs (j + 1) = (emptN ts bs j).set (bs.getD j 0).toNat 0) := fun j => rfl
      have EZ : Hid (emptN ts bs 0 = ts) := rfl
      generalize emptN ts bs = E at *
      clear hm hr hA hL
      have HC2 := Lib.hid (fun (u : World) (hu : Below w.heap.size w u) => c_isBlockList x y z bs (.slice AV bs.length cV) u HG.out hl (HS.out.below hu))
      generalize hn : bs.length = n at *
      clear hn
      go_enter Try.func34, Try.ntmps34
      go_wp2_with fail
      refine (c_IsModel x y z _ _ _ ts gs rs _ l1 l2 l3 (H.out.below HB0.out)).mono ?_
      rintro e w1 ⟨rfl, hb1⟩
      rw [HM.out]
      have HX1 := Lib.hid (HX0.out.below hb1)
      have HM1 := Lib.hid (HM0.out.below hb1)
      have HB1 : Hid (Below w.heap.size w w1) := HB0.out.trans (hb1.mono HB0.out.size)
      clear hb1
      have d1_0 := HX1.out.c0
      have d1_1 := HX1.out.c1
      have d1_2 := HX1.out.c2
      have d1_3 := HX1.out.c3
      have d1_4 := HX1.out.c4
      have d1_5 := HX1.out.c5
      have m1_0 := HM1.out.c0
      have g1_0 := HM1.out.f 0
      have m1_1 := HM1.out.c1
      have g1_1 := HM1.out.f 1
      have m1_2 := HM1.out.c2
      have g1_2 := HM1.out.f 2
      have m1_3 := HM1.out.c3
      have g1_3 := HM1.out.f 3
      have m1_4 := HM1.out.c4
      have g1_4 := HM1.out.f 4
      have m1_5 := HM1.out.c5
      have g1_5 := HM1.out.f 5
      go_wp2_with fail
      refine (HC2.out _ HB1.out).mono ?_
      rintro e w2 ⟨rfl, hb2⟩
      rw [HR.out]
      have HX2 := Lib.hid (HX1.out.below hb2)
      have HM2 := Lib.hid (HM1.out.below hb2)
      have HB2 : Hid (Below w.heap.size w w2) := HB1.out.trans (hb2.mono HB1.out.size)
      clear hb2
      have d2_0 := HX2.out.c0
      have d2_1 := HX2.out.c1
      have d2_2 := HX2.out.c2
      have d2_3 := HX2.out.c3
      have d2_4 := HX2.out.c4
      have d2_5 := HX2.out.c5
      have m2_0 := HM2.out.c0
      have g2_0 := HM2.out.f 0
      have m2_1 := HM2.out.c1
      have g2_1 := HM2.out.f 1
      have m2_2 := HM2.out.c2
      have g2_2 := HM2.out.f 2
      have m2_3 := HM2.out.c3
      have g2_3 := HM2.out.f 3
      have m2_4 := HM2.out.c4
      have g2_4 := HM2.out.f 4
      have m2_5 := HM2.out.c5
      have g2_5 := HM2.out.f 5
      go_wp2_with fail
      refine (c_copyModel x y z _ _ _ ts gs rs _ l1 l2 l3 N.out.1 N.out.2.1 N.out.2.2 (H.out.below HB2.out)).mono ?_
      rintro e w3 ⟨p1, p2, p3, rfl, hq, hb3⟩
      have HX3 := Lib.hid (HX2.out.below hb3)
      have HM3 := Lib.hid (HM2.out.below hb3)
      have HB3 : Hid (Below w.heap.size w w3) := HB2.out.trans (hb3.mono HB2.out.size)
      have HQ3 := Lib.hid hq
      clear hq
      clear hb3
      have d3_0 := HX3.out.c0
      have d3_1 := HX3.out.c1
      have d3_2 := HX3.out.c2
      have d3_3 := HX3.out.c3
      have d3_4 := HX3.out.c4
      have d3_5 := HX3.out.c5
      have m3_0 := HM3.out.c0
      have g3_0 := HM3.out.f 0
      have m3_1 := HM3.out.c1
      have g3_1 := HM3.out.f 1
      have m3_2 := HM3.out.c2
      have g3_2 := HM3.out.f 2
      have m3_3 := HM3.out.c3
      have g3_3 := HM3.out.f 3
      have m3_4 := HM3.out.c4
      have g3_4 := HM3.out.f 4
      have m3_5 := HM3.out.c5
      have g3_5 := HM3.out.f 5
      obtain ⟨g1, e1, rfl, ge1, gl1⟩ := HQ3.out.t.form N.out.1
      obtain ⟨P2, e2, rfl⟩ := HQ3.out.g.shape
      obtain ⟨P3, e3, rfl⟩ := HQ3.out.r.shape
      have zz := HM2.out.lt
      have zb := HB2.out.size
      have hbx : Below w3.heap.size w3 (w3.alloc (.cells #[.int .i64 x, .int .i64 y, .int .i64 z, .slice (some ⟨g1, 0, none⟩) ts.length e1, .slice P2 gs.length e2, .slice P3 rs.length e3] 54)) := (Below.refl _ _).alloc (Nat.le_refl _) _
      have HCX : Hid (Box6 (w3.alloc (.cells #[.int .i64 x, .int .i64 y, .int .i64 z, .slice (some ⟨g1, 0, none⟩) ts.length e1, .slice P2 gs.length e2, .slice P3 rs.length e3] 54)) w3.heap.size x y z (.slice (some ⟨g1, 0, none⟩) ts.length e1) (.slice P2 gs.length e2) (.slice P3 rs.length e3)) := Box6.new _ _ _ _ _ _ _ _
      have HQa := Lib.hid (HQ3.out.below hbx)
      have HMa := Lib.hid (HM3.out.below hbx)
      have HBa : Hid (Below w.heap.size w (w3.alloc (.cells #[.int .i64 x, .int .i64 y, .int .i64 z, .slice (some ⟨g1, 0, none⟩) ts.length e1, .slice P2 gs.length e2, .slice P3 rs.length e3] 54))) := HB3.out.trans (hbx.mono HB3.out.size)
      clear hbx
      go_upto_region 4 with fail
      generalize w3.alloc (.cells #[.int .i64 x, .int .i64 y, .int .i64 z, .slice (some ⟨g1, 0, none⟩) ts.length e1, .slice P2 gs.length e2, .slice P3 rs.length e3] 54) = wa at *
      go_wp2_with fail
      go_loopw [24] (fun i wr => ∃ j : Nat, j ≤ n ∧ i = .int .i64 j ∧ Mod wr w2.heap.size (.slice (some ⟨g1, 0, none⟩) ts.length e1) (.slice P2 gs.length e2) (.slice P3 rs.length e3) (E j) gs rs ∧ Below w.heap.size w wr ∧ Box6 wr w3.heap.size x y z (.slice (some ⟨g1, 0, none⟩) ts.length e1) (.slice P2 gs.length e2) (.slice P3 rs.length e3) ∧ Mine6 wr (w.heap.size + 1) (.int .i64 0) (.int .i64 0) (.int .i64 0) (.slice none 0 0) (.slice none 0 0) (.slice none 0 0)) (fun i _ => n - (intOf i).toNat)
      case atStart => exact ⟨0, Nat.zero_le _, rfl, by rw [EZ.out]; exact HQa.out, HBa.out, HCX.out, HMa.out⟩
      case round =>
        obtain ⟨j, hj, rfl, hq, hbw, hbx, hmx⟩ := hrel
        have HQ := Lib.hid hq
        have HB := Lib.hid hbw
        have HX := Lib.hid hbx
        have HMr := Lib.hid hmx
        clear hq hbw hbx hmx
        by_cases hlt : j < n
        · obtain ⟨b, off, rfl, hbl, hcc⟩ := E1.out j hlt
          obtain ⟨k, ek, k1⟩ := E2.out j hlt
          have q1 : wr.cell? ⟨b, off + j, none⟩ = some (.int .i64 (bs.getD j 0)) := by rw [HB.out.cell (p := ⟨b, off + j, none⟩) hbl]; exact hcc
          rw [ek] at q1
          have es : Hid ((E j).set k 0 = E (j + 1)) := by have := ES.out j; rw [ek] at this; exact this.symm
          have el := EL.out j
          have x3 := HX.out.c3
          have qa := HQ.out.t.cellN el.symm k (by rw [el]; exact k1)
          have fa := HQ.out.t.frozenN el.symm k
          have N1 := Lib.hid (HQ.out.set1 el.symm k 0)
          have N2 := Lib.hid (HX.out.far (a := ⟨g1, k, none⟩) (by show g1 ≠ _; omega) (.int .i64 0))
          have N3 := Lib.hid (HMr.out.far (a := ⟨g1, k, none⟩) (by show g1 ≠ _; omega) (.int .i64 0))
          have N4 : Hid (Below w.heap.size w (wr.setCell ⟨g1, k, none⟩ (.int .i64 0))) := HB.out.setCell (by show _ ≤ g1; omega) _
          rw [es.out] at N1
          clear ek hcc hbl el es
          have a0 : (0 : Int) ≤ (k : Int) := by omega
          have a1 : (k : Int) < (ts.length : Int) := by omega
          have b1 : (0 : Int) ≤ (j : Int) := by omega
          have b2 : (j : Int) < (n : Int) := by omega
          generalize (E j).getD k 0 = t at qa
          go_wp2
          go_roundw
          case rel => exact ⟨j + 1, by omega, by go_num, N1.out, N4.out, N2.out, N3.out⟩
          case measure => simp [intOf]; omega
        · obtain rfl : j = n := by omega
          have x0 := HX.out.c0
          have x1 := HX.out.c1
          have x2 := HX.out.c2
          have x3 := HX.out.c3
          have x4 := HX.out.c4
          have x5 := HX.out.c5
          have mr_0 := HMr.out.c0
          have gr_0 := HMr.out.f 0
          have mr_1 := HMr.out.c1
          have gr_1 := HMr.out.f 1
          have mr_2 := HMr.out.c2
          have gr_2 := HMr.out.f 2
          have mr_3 := HMr.out.c3
          have gr_3 := HMr.out.f 3
          have mr_4 := HMr.out.c4
          have gr_4 := HMr.out.f 4
          have mr_5 := HMr.out.c5
          have gr_5 := HMr.out.f 5
          go_wp2
          have HP := Lib.hid (put6_mine (.int .i64 x) (.int .i64 y) (.int .i64 z) (.slice (some ⟨g1, 0, none⟩) ts.length e1) (.slice P2 gs.length e2) (.slice P3 rs.length e3) HMr.out)
          have HBE : Hid (Below w.heap.size w (put6 wr (w.heap.size + 1) (.int .i64 x) (.int .i64 y) (.int .i64 z) (.slice (some ⟨g1, 0, none⟩) ts.length e1) (.slice P2 gs.length e2) (.slice P3 rs.length e3))) := put6_below _ _ _ _ _ _ HB.out (by omega)
          have HQ : Hid (Mod (put6 wr (w.heap.size + 1) (.int .i64 x) (.int .i64 y) (.int .i64 z) (.slice (some ⟨g1, 0, none⟩) ts.length e1) (.slice P2 gs.length e2) (.slice P3 rs.length e3)) w.heap.size (.slice (some ⟨g1, 0, none⟩) ts.length e1) (.slice P2 gs.length e2) (.slice P3 rs.length e3) (E j) gs rs) := (HQ.out.put6 _ _ _ _ _ _ (by omega)).mono (by omega)
          unfold put6 at *
          generalize ((((((wr.setCell ⟨w.heap.size + 1, 0, none⟩ (.int .i64 x)).setCell ⟨w.heap.size + 1, 1, none⟩ (.int .i64 y)).setCell ⟨w.heap.size + 1, 2, none⟩ (.int .i64 z)).setCell ⟨w.heap.size + 1, 3, none⟩ (.slice (some ⟨g1, 0, none⟩) ts.length e1)).setCell ⟨w.heap.size + 1, 4, none⟩ (.slice P2 gs.length e2)).setCell ⟨w.heap.size + 1, 5, none⟩ (.slice P3 rs.length e3)) = we at *
          have f0 := HP.out.c0
          have f1 := HP.out.c1
          have f2 := HP.out.c2
          have f3 := HP.out.c3
          have f4 := HP.out.c4
          have f5 := HP.out.c5
          refine bodyPost_ret (v := .tuple #[.agg #[.int .i64 x, .int .i64 y, .int .i64 z, .slice (some ⟨g1, 0, none⟩) ts.length e1, .slice P2 gs.length e2, .slice P3 rs.length e3], .bool true]) (by simp [results, Try.results34, go_sem, f0, f1, f2, f3, f4, f5]) rfl ⟨_, _, _, rfl, HQ.out, HBE.out⟩

set_option maxHeartbeats 4000000 in
theorem c_EmptyBlocksS (x y z : Int) (v1 v2 v3 : Value) (ts gs rs : List Int) (v : Value) (bs : List Int) (w : World) (l1 : ts.length ≤ 4000000) (l2 : gs.length ≤ 4000000) (l3 : rs.length ≤ 4000000) (hl : bs.length ≤ 4000000) (h : Look w v1 v2 v3 ts gs rs) (hs : Seen w v bs) :
    Calls Try.prog 33 #[.agg #[.int .i64 x, .int .i64 y, .int .i64 z, v1, v2, v3], v] w (GivesMod2 w (emX x y z ts gs rs bs x) (emX x y z ts gs rs bs y) (emX x y z ts gs rs bs z) (emT x y z ts gs rs bs (emptN ts bs bs.length)) (emT x y z ts gs rs bs gs) (emT x y z ts gs rs bs rs) (listB x y z ts gs rs bs)) := by
  have H := Lib.hid h
  obtain ⟨A1, c1, rfl⟩ := h.t.shape
  obtain ⟨A2, c2, rfl⟩ := h.g.shape
  obtain ⟨A3, c3, rfl⟩ := h.r.shape
  clear h
  have HS := Lib.hid hs
  obtain ⟨AV, cV, rfl, hm, hA⟩ := hs
  clear hm
  have HX0 : Hid (Box6 ((w.alloc (.cells #[.int .i64 x, .int .i64 y, .int .i64 z, .slice A1 ts.length c1, .slice A2 gs.length c2, .slice A3 rs.length c3] 54)).alloc (.cells #[.int .i64 0, .int .i64 0, .int .i64 0, .slice none 0 0, .slice none 0 0, .slice none 0 0] 54)) w.heap.size x y z (.slice A1 ts.length c1) (.slice A2 gs.length c2) (.slice A3 rs.length c3)) := (Box6.new _ _ _ _ _ _ _ _).below ((Below.refl _ _).alloc (Nat.le_refl _) _)
  have HB0 : Hid (Below w.heap.size w ((w.alloc (.cells #[.int .i64 x, .int .i64 y, .int .i64 z, .slice A1 ts.length c1, .slice A2 gs.length c2, .slice A3 rs.length c3] 54)).alloc (.cells #[.int .i64 0, .int .i64 0, .int .i64 0, .slice none 0 0, .slice none 0 0, .slice none 0 0] 54))) := ((Below.refl _ _).alloc (Nat.le_refl _) _).alloc (by simp) _
  have HM0 : Hid (Mine6 ((w.alloc (.cells #[.int .i64 x, .int .i64 y, .int .i64 z, .slice A1 ts.length c1, .slice A2 gs.length c2, .slice A3 rs.length c3] 54)).alloc (.cells #[.int .i64 0, .int .i64 0, .int .i64 0, .slice none 0 0, .slice none 0 0, .slice none 0 0] 54)) (w.heap.size + 1) (.int .i64 0) (.int .i64 0) (.int .i64 0) (.slice none 0 0) (.slice none 0 0) (.slice none 0 0)) := by
    have := Mine6.new (w.alloc (.cells #[.int .i64 x, .int .i64 y, .int .i64 z, .slice A1 ts.length c1, .slice A2 gs.length c2, .slice A3 rs.length c3] 54)) (.int .i64 0) (.int .i64 0) (.int .i64 0) (.slice none 0 0) (.slice none 0 0) (.slice none 0 0) 54
    rw [World.size_alloc] at this
    exact this
  unfold emX emT
  cases hL : listB x y z ts gs rs bs
  · have HLI := Lib.hid hL
    simp only [Bool.false_eq_true, if_false]
    clear hL hA
    go_enter Try.func33, Try.ntmps33
    go_wp2_with fail
    refine (c_moList x y z _ _ _ ts gs rs _ bs _ l1 l2 l3 hl (H.out.below HB0.out) (HS.out.below HB0.out)).mono ?_
    rintro e w1 ⟨rfl, hb1⟩
    rw [HLI.out]
    have HX1 := Lib.hid (HX0.out.below hb1)
    have HM1 := Lib.hid (HM0.out.below hb1)
    have HB1 : Hid (Below w.heap.size w w1) := HB0.out.trans (hb1.mono HB0.out.size)
    clear hb1
    have d1_0 := HX1.out.c0
    have d1_1 := HX1.out.c1
    have d1_2 := HX1.out.c2
    have d1_3 := HX1.out.c3
    have d1_4 := HX1.out.c4
    have d1_5 := HX1.out.c5
    have m1_0 := HM1.out.c0
    have g1_0 := HM1.out.f 0
    have m1_1 := HM1.out.c1
    have g1_1 := HM1.out.f 1
    have m1_2 := HM1.out.c2
    have g1_2 := HM1.out.f 2
    have m1_3 := HM1.out.c3
    have g1_3 := HM1.out.f 3
    have m1_4 := HM1.out.c4
    have g1_4 := HM1.out.f 4
    have m1_5 := HM1.out.c5
    have g1_5 := HM1.out.f 5
    go_wp2
    have HP := Lib.hid (put6_mine (.int .i64 0) (.int .i64 0) (.int .i64 0) (.slice none 0 0) (.slice none 0 0) (.slice none 0 0) HM1.out)
    have HBE : Hid (Below w.heap.size w (put6 w1 (w.heap.size + 1) (.int .i64 0) (.int .i64 0) (.int .i64 0) (.slice none 0 0) (.slice none 0 0) (.slice none 0 0))) := put6_below _ _ _ _ _ _ HB1.out (by omega)
    have HQ : Hid (Mod (put6 w1 (w.heap.size + 1) (.int .i64 0) (.int .i64 0) (.int .i64 0) (.slice none 0 0) (.slice none 0 0) (.slice none 0 0)) w.heap.size (.slice none 0 0) (.slice none 0 0) (.slice none 0 0) [] [] []) := Mod.nil _ _
    unfold put6 at *
    generalize ((((((w1.setCell ⟨w.heap.size + 1, 0, none⟩ (.int .i64 0)).setCell ⟨w.heap.size + 1, 1, none⟩ (.int .i64 0)).setCell ⟨w.heap.size + 1, 2, none⟩ (.int .i64 0)).setCell ⟨w.heap.size + 1, 3, none⟩ (.slice none 0 0)).setCell ⟨w.heap.size + 1, 4, none⟩ (.slice none 0 0)).setCell ⟨w.heap.size + 1, 5, none⟩ (.slice none 0 0)) = we at *
    have f0 := HP.out.c0
    have f1 := HP.out.c1
    have f2 := HP.out.c2
    have f3 := HP.out.c3
    have f4 := HP.out.c4
    have f5 := HP.out.c5
    refine bodyPost_ret (v := .tuple #[.agg #[.int .i64 0, .int .i64 0, .int .i64 0, .slice none 0 0, .slice none 0 0, .slice none 0 0], .bool false]) (by simp [results, Try.results33, go_sem, f0, f1, f2, f3, f4, f5]) rfl ⟨_, _, _, rfl, HQ.out, HBE.out⟩
  · have HLI := Lib.hid hL
    simp only [if_true]
    have N : Hid (0 < ts.length ∧ 0 < gs.length ∧ 0 < rs.length) := by
      have h1 := mo_true (list_true hL).1
      obtain ⟨x1, x2, y1, y2, z1, z2, _⟩ := good_true h1.1
      have : 0 < x * y * z := Int.mul_pos (Int.mul_pos (by omega) (by omega)) (by omega)
      exact ⟨by omega, by omega, by omega⟩
    have E1 : Hid (∀ j : Nat, j < bs.length → ∃ b off, AV = some ⟨b, off, none⟩ ∧ b < w.heap.size ∧ w.cell? ⟨b, off + j, none⟩ = some (.int .i64 (bs.getD j 0))) := fun j hj => by
      obtain ⟨b, off, rfl, hb, hc⟩ := hA (by omega)
      exact ⟨b, off, rfl, hb, hc j hj⟩
    have E2 : Hid (∀ j : Nat, j < bs.length → ∃ k : Nat, bs.getD j 0 = (k : Int) ∧ k < ts.length) := fun j hj => by
      obtain ⟨k, e, hk⟩ := list_at hL hj
      obtain ⟨k1, _⟩ := metal_box (list_true hL).1 hk
      exact ⟨k, e, k1⟩
    have EL : Hid (∀ j, (emptN ts bs j).length = ts.length) := empt_len ts bs
    have ES : Hid (∀ j, emptN ts bs (j + 1) = (emptN ts bs j).set (bs.getD j 0).toNat 0) := fun j => rfl
    have EZ : Hid (emptN ts bs 0 = ts) := rfl
    generalize emptN ts bs = E at *
    clear hA hL
    have HC1 := Lib.hid (fun (u : World) (hu : Below w.heap.size w u) => c_moList x y z (.slice A1 ts.length c1) (.slice A2 gs.length c2) (.slice A3 rs.length c3) ts gs rs (.slice AV bs.length cV) bs u l1 l2 l3 hl (H.out.below hu) (HS.out.below hu))
    generalize hn : bs.length = n at *
    clear hn
    go_enter Try.func33, Try.ntmps33
    go_wp2_with fail
    refine (HC1.out _ HB0.out).mono ?_
    rintro e w1 ⟨rfl, hb1⟩
    rw [HLI.out]
    have HX1 := Lib.hid (HX0.out.below hb1)
    have HM1 := Lib.hid (HM0.out.below hb1)
    have HB1 : Hid (Below w.heap.size w w1) := HB0.out.trans (hb1.mono HB0.out.size)
    clear hb1
    have d1_0 := HX1.out.c0
    have d1_1 := HX1.out.c1
    have d1_2 := HX1.out.c2
    have d1_3 := HX1.out.c3
    have d1_4 := HX1.out.c4
    have d1_5 := HX1.out.c5
    have m1_0 := HM1.out.c0
    have g1_0 := HM1.out.f 0
    have m1_1 := HM1.out.c1
    have g1_1 := HM1.out.f 1
    have m1_2 := HM1.out.c2
    have g1_2 := HM1.out.f 2
    have m1_3 := HM1.out.c3
    have g1_3 := HM1.out.f 3
    have m1_4 := HM1.out.c4
    have g1_4 := HM1.out.f 4
    have m1_5 := HM1.out.c5
    have g1_5 := HM1.out.f 5
    go_wp2_with fail
    refine (c_moOwn x y z _ _ _ ts gs rs _ l1 l2 l3 N.out.1 N.out.2.1 N.out.2.2 (H.out.below HB1.out)).mono ?_
    rintro e w2 ⟨p1, p2, p3, rfl, hq, hb2⟩
    have HX2 := Lib.hid (HX1.out.below hb2)
    have HM2 := Lib.hid (HM1.out.below hb2)
    have HB2 : Hid (Below w.heap.size w w2) := HB1.out.trans (hb2.mono HB1.out.size)
    have HQ2 := Lib.hid hq
    clear hq
    clear hb2
    have d2_0 := HX2.out.c0
    have d2_1 := HX2.out.c1
    have d2_2 := HX2.out.c2
    have d2_3 := HX2.out.c3
    have d2_4 := HX2.out.c4
    have d2_5 := HX2.out.c5
    have m2_0 := HM2.out.c0
    have g2_0 := HM2.out.f 0
    have m2_1 := HM2.out.c1
    have g2_1 := HM2.out.f 1
    have m2_2 := HM2.out.c2
    have g2_2 := HM2.out.f 2
    have m2_3 := HM2.out.c3
    have g2_3 := HM2.out.f 3
    have m2_4 := HM2.out.c4
    have g2_4 := HM2.out.f 4
    have m2_5 := HM2.out.c5
    have g2_5 := HM2.out.f 5
    obtain ⟨g1, e1, rfl, ge1, gl1⟩ := HQ2.out.t.form N.out.1
    obtain ⟨P2, e2, rfl⟩ := HQ2.out.g.shape
    obtain ⟨P3, e3, rfl⟩ := HQ2.out.r.shape
    have zz := HM1.out.lt
    have zb := HB1.out.size
    have hbx : Below w2.heap.size w2 (w2.alloc (.cells #[.int .i64 x, .int .i64 y, .int .i64 z, .slice (some ⟨g1, 0, none⟩) ts.length e1, .slice P2 gs.length e2, .slice P3 rs.length e3] 54)) := (Below.refl _ _).alloc (Nat.le_refl _) _
    have HCX : Hid (Box6 (w2.alloc (.cells #[.int .i64 x, .int .i64 y, .int .i64 z, .slice (some ⟨g1, 0, none⟩) ts.length e1, .slice P2 gs.length e2, .slice P3 rs.length e3] 54)) w2.heap.size x y z (.slice (some ⟨g1, 0, none⟩) ts.length e1) (.slice P2 gs.length e2) (.slice P3 rs.length e3)) := Box6.new _ _ _ _ _ _ _ _
    have HQa := Lib.hid (HQ2.out.below hbx)
    have HMa := Lib.hid (HM2.out.below hbx)
    have HBa : Hid (Below w.heap.size w (w2.alloc (.cells #[.int .i64 x, .int .i64 y, .int .i64 z, .slice (some ⟨g1, 0, none⟩) ts.length e1, .slice P2 gs.length e2, .slice P3 rs.length e3] 54))) := HB2.out.trans (hbx.mono HB2.out.size)
    clear hbx
    go_upto_region 4 with fail
    generalize w2.alloc (.cells #[.int .i64 x, .int .i64 y, .int .i64 z, .slice (some ⟨g1, 0, none⟩) ts.length e1, .slice P2 gs.length e2, .slice P3 rs.length e3] 54) = wa at *
    go_wp2_with fail
    go_loopw [18] (fun i wr => ∃ j : Nat, j ≤ n ∧ i = .int .i64 j ∧ Mod wr w1.heap.size (.slice (some ⟨g1, 0, none⟩) ts.length e1) (.slice P2 gs.length e2) (.slice P3 rs.length e3) (E j) gs rs ∧ Below w.heap.size w wr ∧ Box6 wr w2.heap.size x y z (.slice (some ⟨g1, 0, none⟩) ts.length e1) (.slice P2 gs.length e2) (.slice P3 rs.length e3) ∧ Mine6 wr (w.heap.size + 1) (.int .i64 0) (.int .i64 0) (.int .i64 0) (.slice none 0 0) (.slice none 0 0) (.slice none 0 0)) (fun i _ => n - (intOf i).toNat)
    case atStart => exact ⟨0, Nat.zero_le _, rfl, by rw [EZ.out]; exact HQa.out, HBa.out, HCX.out, HMa.out⟩
    case round =>
      obtain ⟨j, hj, rfl, hq, hbw, hbx, hmx⟩ := hrel
      have HQ := Lib.hid hq
      have HB := Lib.hid hbw
      have HX := Lib.hid hbx
      have HMr := Lib.hid hmx
      clear hq hbw hbx hmx
      by_cases hlt : j < n
      · obtain ⟨b, off, rfl, hbl, hcc⟩ := E1.out j hlt
        obtain ⟨k, ek, k1⟩ := E2.out j hlt
        have q1 : wr.cell? ⟨b, off + j, none⟩ = some (.int .i64 (bs.getD j 0)) := by rw [HB.out.cell (p := ⟨b, off + j, none⟩) hbl]; exact hcc
        rw [ek] at q1
        have es : Hid ((E j).set k 0 = E (j + 1)) := by have := ES.out j; rw [ek] at this; exact this.symm
        have el := EL.out j
        have x3 := HX.out.c3
        have qa := HQ.out.t.cellN el.symm k (by rw [el]; exact k1)
        have fa := HQ.out.t.frozenN el.symm k
        have N1 := Lib.hid (HQ.out.set1 el.symm k 0)
        have N2 := Lib.hid (HX.out.far (a := ⟨g1, k, none⟩) (by show g1 ≠ _; omega) (.int .i64 0))
        have N3 := Lib.hid (HMr.out.far (a := ⟨g1, k, none⟩) (by show g1 ≠ _; omega) (.int .i64 0))
        have N4 : Hid (Below w.heap.size w (wr.setCell ⟨g1, k, none⟩ (.int .i64 0))) := HB.out.setCell (by show _ ≤ g1; omega) _
        rw [es.out] at N1
        clear ek hcc hbl el es
        have a0 : (0 : Int) ≤ (k : Int) := by omega
        have a1 : (k : Int) < (ts.length : Int) := by omega
        have b1 : (0 : Int) ≤ (j : Int) := by omega
        have b2 : (j : Int) < (n : Int) := by omega
        generalize (E j).getD k 0 = t at qa
        go_wp2
        go_roundw
        case rel => exact ⟨j + 1, by omega, by go_num, N1.out, N4.out, N2.out, N3.out⟩
        case measure => simp [intOf]; omega
      · obtain rfl : j = n := by omega
        have x0 := HX.out.c0
        have x1 := HX.out.c1
        have x2 := HX.out.c2
        have x3 := HX.out.c3
        have x4 := HX.out.c4
        have x5 := HX.out.c5
        have mr_0 := HMr.out.c0
        have gr_0 := HMr.out.f 0
        have mr_1 := HMr.out.c1
        have gr_1 := HMr.out.f 1
        have mr_2 := HMr.out.c2
        have gr_2 := HMr.out.f 2
        have mr_3 := HMr.out.c3
        have gr_3 := HMr.out.f 3
        have mr_4 := HMr.out.c4
        have gr_4 := HMr.out.f 4
        have mr_5 := HMr.out.c5
        have gr_5 := HMr.out.f 5
        go_wp2
        have HP := Lib.hid (put6_mine (.int .i64 x) (.int .i64 y) (.int .i64 z) (.slice (some ⟨g1, 0, none⟩) ts.length e1) (.slice P2 gs.length e2) (.slice P3 rs.length e3) HMr.out)
        have HBE : Hid (Below w.heap.size w (put6 wr (w.heap.size + 1) (.int .i64 x) (.int .i64 y) (.int .i64 z) (.slice (some ⟨g1, 0, none⟩) ts.length e1) (.slice P2 gs.length e2) (.slice P3 rs.length e3))) := put6_below _ _ _ _ _ _ HB.out (by omega)
        have HQ : Hid (Mod (put6 wr (w.heap.size + 1) (.int .i64 x) (.int .i64 y) (.int .i64 z) (.slice (some ⟨g1, 0, none⟩) ts.length e1) (.slice P2 gs.length e2) (.slice P3 rs.length e3)) w.heap.size (.slice (some ⟨g1, 0, none⟩) ts.length e1) (.slice P2 gs.length e2) (.slice P3 rs.length e3) (E j) gs rs) := (HQ.out.put6 _ _ _ _ _ _ (by omega)).mono (by omega)
        unfold put6 at *
        generalize ((((((wr.setCell ⟨w.heap.size + 1, 0, none⟩ (.int .i64 x)).setCell ⟨w.heap.size + 1, 1, none⟩ (.int .i64 y)).setCell ⟨w.heap.size + 1, 2, none⟩ (.int .i64 z)).setCell ⟨w.heap.size + 1, 3, none⟩ (.slice (some ⟨g1, 0, none⟩) ts.length e1)).setCell ⟨w.heap.size + 1, 4, none⟩ (.slice P2 gs.length e2)).setCell ⟨w.heap.size + 1, 5, none⟩ (.slice P3 rs.length e3)) = we at *
        have f0 := HP.out.c0
        have f1 := HP.out.c1
        have f2 := HP.out.c2
        have f3 := HP.out.c3
        have f4 := HP.out.c4
        have f5 := HP.out.c5
        refine bodyPost_ret (v := .tuple #[.agg #[.int .i64 x, .int .i64 y, .int .i64 z, .slice (some ⟨g1, 0, none⟩) ts.length e1, .slice P2 gs.length e2, .slice P3 rs.length e3], .bool true]) (by simp [results, Try.results33, go_sem, f0, f1, f2, f3, f4, f5]) rfl ⟨_, _, _, rfl, HQ.out, HBE.out⟩
end Go.Proofs.Ytcmdnpablnihmab
