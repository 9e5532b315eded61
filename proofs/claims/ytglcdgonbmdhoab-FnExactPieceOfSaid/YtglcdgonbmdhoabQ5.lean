/-
  Contracts of chapter 3: PieceOf, in the program and in the model.
-/
import Derived.Test.YtglcdgonbmdhoabQ4
namespace Go.Proofs.Ytglcdgonbmdhoab
open Go.RowKit
set_option linter.unusedVariables false

/-- A block of three cells of the call's own. -/
structure Mine (w : World) (b : Nat) (u0 u1 u2 : Value) : Prop where
  lt : b < w.heap.size
  c0 : w.cell? ⟨b, 0, none⟩ = some u0
  c1 : w.cell? ⟨b, 1, none⟩ = some u1
  c2 : w.cell? ⟨b, 2, none⟩ = some u2
  f0 : w.frozen? ⟨b, 0, none⟩ = false
  f1 : w.frozen? ⟨b, 1, none⟩ = false
  f2 : w.frozen? ⟨b, 2, none⟩ = false
theorem Mine.below {w w' : World} {b : Nat} {u0 u1 u2 : Value} (h : Mine w b u0 u1 u2) (hb : Below w.heap.size w w') : Mine w' b u0 u1 u2 :=
  ⟨Nat.lt_of_lt_of_le h.lt hb.size, by rw [hb.cell (p := ⟨b, 0, none⟩) h.lt]; exact h.c0, by rw [hb.cell (p := ⟨b, 1, none⟩) h.lt]; exact h.c1, by rw [hb.cell (p := ⟨b, 2, none⟩) h.lt]; exact h.c2,
    by rw [hb.frozen (p := ⟨b, 0, none⟩) h.lt]; exact h.f0, by rw [hb.frozen (p := ⟨b, 1, none⟩) h.lt]; exact h.f1, by rw [hb.frozen (p := ⟨b, 2, none⟩) h.lt]; exact h.f2⟩

def poT (x y z : Int) (ts gs rs : List Int) (i : Int) : Int := if hasM x y z ts gs rs i then ts.getD i.toNat 0 else 0
def poM (x y z : Int) (ts gs rs : List Int) (i : Int) : Int := if hasM x y z ts gs rs i then metal ts gs i.toNat else 0
def poR (x y z : Int) (ts gs rs : List Int) (i : Int) : Int := if hasM x y z ts gs rs i then rs.getD i.toNat 0 else 0

set_option maxHeartbeats 2000000 in
theorem c_PieceOf (x y z : Int) (v1 v2 v3 : Value) (ts gs rs : List Int) (i : Int) (w : World) (l1 : ts.length ≤ 4000000) (l2 : gs.length ≤ 4000000) (l3 : rs.length ≤ 4000000) (h : Look w v1 v2 v3 ts gs rs) :
    Calls Try.prog 17 #[.agg #[.int .i64 x, .int .i64 y, .int .i64 z, v1, v2, v3], .int .i64 i] w fun e w' => e = .returned (.tuple #[.agg #[.int .i64 (poT x y z ts gs rs i), .int .i64 (poM x y z ts gs rs i), .int .i64 (poR x y z ts gs rs i)], .bool (hasM x y z ts gs rs i)]) ∧ Below w.heap.size w w' := by
  have H := Lib.hid h
  obtain ⟨A1, c1, rfl⟩ := h.t.shape
  obtain ⟨A2, c2, rfl⟩ := h.g.shape
  obtain ⟨A3, c3, rfl⟩ := h.r.shape
  clear h
  have HX0 : Hid (Box6 ((w.alloc (.cells #[.int .i64 x, .int .i64 y, .int .i64 z, .slice A1 ts.length c1, .slice A2 gs.length c2, .slice A3 rs.length c3] 38)).alloc (.cells #[.int .i64 0, .int .i64 0, .int .i64 0] 25)) w.heap.size x y z (.slice A1 ts.length c1) (.slice A2 gs.length c2) (.slice A3 rs.length c3)) := (Box6.new _ _ _ _ _ _ _ _).below ((Below.refl _ _).alloc (Nat.le_refl _) _)
  have HB0 : Hid (Below w.heap.size w ((w.alloc (.cells #[.int .i64 x, .int .i64 y, .int .i64 z, .slice A1 ts.length c1, .slice A2 gs.length c2, .slice A3 rs.length c3] 38)).alloc (.cells #[.int .i64 0, .int .i64 0, .int .i64 0] 25))) := ((Below.refl _ _).alloc (Nat.le_refl _) _).alloc (by simp) _
  have HM0 : Hid (Mine ((w.alloc (.cells #[.int .i64 x, .int .i64 y, .int .i64 z, .slice A1 ts.length c1, .slice A2 gs.length c2, .slice A3 rs.length c3] 38)).alloc (.cells #[.int .i64 0, .int .i64 0, .int .i64 0] 25)) (w.heap.size + 1) (.int .i64 0) (.int .i64 0) (.int .i64 0)) := ⟨by simp, by simp, by simp, by simp, by simp, by simp, by simp⟩
  unfold poT poM poR
  cases hm : moB x y z ts gs rs
  · have HM := Lib.hid hm
    rw [show hasM x y z ts gs rs i = false by unfold hasM; rw [hm]; rfl]
    simp only [Bool.false_eq_true, if_false]
    clear hm
    go_enter Try.func17, Try.ntmps17
    go_wp2_with fail
    refine (c_IsModel x y z _ _ _ ts gs rs _ l1 l2 l3 (H.out.below HB0.out)).mono ?_
    rintro e w1 ⟨rfl, hb1⟩
    rw [HM.out]
    have HX1 := Lib.hid (HX0.out.below hb1)
    have HM1 := Lib.hid (HM0.out.below hb1)
    have HB1 : Hid (Below w.heap.size w w1) := HB0.out.trans (hb1.mono HB0.out.size)
    clear hb1
    have d1_0 := HX1.out.c0
    have d1_1 := HX1.out.c1
    have d1_2 := HX1.out.c2
    have d1_3 := HX1.out.c3
    have d1_4 := HX1.out.c4
    have d1_5 := HX1.out.c5
    have m1_0 := HM1.out.c0
    have g1_0 := HM1.out.f0
    have m1_1 := HM1.out.c1
    have g1_1 := HM1.out.f1
    have m1_2 := HM1.out.c2
    have g1_2 := HM1.out.f2
    go_wp2
    obtain ⟨f0, f1, f2⟩ := put3 (.int .i64 0) (.int .i64 0) (.int .i64 0) HM1.out.c0 HM1.out.c1 HM1.out.c2
    have HBE : Hid (Below w.heap.size w (((w1.setCell ⟨w.heap.size + 1, 0, none⟩ (.int .i64 0)).setCell ⟨w.heap.size + 1, 1, none⟩ (.int .i64 0)).setCell ⟨w.heap.size + 1, 2, none⟩ (.int .i64 0))) := ((HB1.out.setCell (by show _ ≤ w.heap.size + 1; omega) _).setCell (by show _ ≤ w.heap.size + 1; omega) _).setCell (by show _ ≤ w.heap.size + 1; omega) _
    generalize ((w1.setCell ⟨w.heap.size + 1, 0, none⟩ (.int .i64 0)).setCell ⟨w.heap.size + 1, 1, none⟩ (.int .i64 0)).setCell ⟨w.heap.size + 1, 2, none⟩ (.int .i64 0) = we at *
    refine bodyPost_ret (v := .tuple #[.agg #[.int .i64 0, .int .i64 0, .int .i64 0], .bool false]) (by simp [results, Try.results17, go_sem, f0, f1, f2]) rfl ⟨rfl, HBE.out⟩
  · have HM := Lib.hid hm
    have hhas : hasM x y z ts gs rs i = hasB x y z i := by unfold hasM hasB; rw [hm, (mo_true hm).1]
    rw [hhas]
    clear hhas
    cases hi : hasB x y z i
    · have HI := Lib.hid hi
      simp only [Bool.false_eq_true, if_false]
      clear hm hi
      go_enter Try.func17, Try.ntmps17
      go_wp2_with fail
      refine (c_IsModel x y z _ _ _ ts gs rs _ l1 l2 l3 (H.out.below HB0.out)).mono ?_
      rintro e w1 ⟨rfl, hb1⟩
      rw [HM.out]
      have HX1 := Lib.hid (HX0.out.below hb1)
      have HM1 := Lib.hid (HM0.out.below hb1)
      have HB1 : Hid (Below w.heap.size w w1) := HB0.out.trans (hb1.mono HB0.out.size)
      clear hb1
      have d1_0 := HX1.out.c0
      have d1_1 := HX1.out.c1
      have d1_2 := HX1.out.c2
      have d1_3 := HX1.out.c3
      have d1_4 := HX1.out.c4
      have d1_5 := HX1.out.c5
      have m1_0 := HM1.out.c0
      have g1_0 := HM1.out.f0
      have m1_1 := HM1.out.c1
      have g1_1 := HM1.out.f1
      have m1_2 := HM1.out.c2
      have g1_2 := HM1.out.f2
      go_wp2_with fail
      refine (c_isBlock _ _ _ _ _).mono ?_
      rintro e w2 ⟨rfl, hb2⟩
      rw [HI.out]
      have HX2 := Lib.hid (HX1.out.below hb2)
      have HM2 := Lib.hid (HM1.out.below hb2)
      have HB2 : Hid (Below w.heap.size w w2) := HB1.out.trans (hb2.mono HB1.out.size)
      clear hb2
      have d2_0 := HX2.out.c0
      have d2_1 := HX2.out.c1
      have d2_2 := HX2.out.c2
      have d2_3 := HX2.out.c3
      have d2_4 := HX2.out.c4
      have d2_5 := HX2.out.c5
      have m2_0 := HM2.out.c0
      have g2_0 := HM2.out.f0
      have m2_1 := HM2.out.c1
      have g2_1 := HM2.out.f1
      have m2_2 := HM2.out.c2
      have g2_2 := HM2.out.f2
      go_wp2
      obtain ⟨f0, f1, f2⟩ := put3 (.int .i64 0) (.int .i64 0) (.int .i64 0) HM2.out.c0 HM2.out.c1 HM2.out.c2
      have HBE : Hid (Below w.heap.size w (((w2.setCell ⟨w.heap.size + 1, 0, none⟩ (.int .i64 0)).setCell ⟨w.heap.size + 1, 1, none⟩ (.int .i64 0)).setCell ⟨w.heap.size + 1, 2, none⟩ (.int .i64 0))) := ((HB2.out.setCell (by show _ ≤ w.heap.size + 1; omega) _).setCell (by show _ ≤ w.heap.size + 1; omega) _).setCell (by show _ ≤ w.heap.size + 1; omega) _
      generalize ((w2.setCell ⟨w.heap.size + 1, 0, none⟩ (.int .i64 0)).setCell ⟨w.heap.size + 1, 1, none⟩ (.int .i64 0)).setCell ⟨w.heap.size + 1, 2, none⟩ (.int .i64 0) = we at *
      refine bodyPost_ret (v := .tuple #[.agg #[.int .i64 0, .int .i64 0, .int .i64 0], .bool false]) (by simp [results, Try.results17, go_sem, f0, f1, f2]) rfl ⟨rfl, HBE.out⟩
    · have HI := Lib.hid hi
      simp only [if_true]
      obtain ⟨_, hi0, hi1⟩ := has_true hi
      obtain ⟨k, rfl⟩ := Int.eq_ofNat_of_zero_le hi0
      obtain ⟨k1, k2, k3, t0, t1, g0, g1, r0, r1, m0, m1⟩ := metal_box hm hi1
      have HC := Lib.hid (fun (u : World) (hu : Below w.heap.size w u) => c_pieceIn x y z _ _ _ ts gs rs k u (H.out.below hu) k1 k2 k3 l1 l2 l3 t0 t1 g0 g1)
      simp only [Int.toNat_natCast]
      clear hm hi k1 k2 k3 t0 t1 g0 g1 r0 r1 m0 m1 hi0 hi1
      generalize ts.getD k 0 = t at *
      generalize metal ts gs k = m at *
      generalize rs.getD k 0 = r at *
      go_enter Try.func17, Try.ntmps17
      go_wp2_with fail
      refine (c_IsModel x y z _ _ _ ts gs rs _ l1 l2 l3 (H.out.below HB0.out)).mono ?_
      rintro e w1 ⟨rfl, hb1⟩
      rw [HM.out]
      have HX1 := Lib.hid (HX0.out.below hb1)
      have HM1 := Lib.hid (HM0.out.below hb1)
      have HB1 : Hid (Below w.heap.size w w1) := HB0.out.trans (hb1.mono HB0.out.size)
      clear hb1
      have d1_0 := HX1.out.c0
      have d1_1 := HX1.out.c1
      have d1_2 := HX1.out.c2
      have d1_3 := HX1.out.c3
      have d1_4 := HX1.out.c4
      have d1_5 := HX1.out.c5
      have m1_0 := HM1.out.c0
      have g1_0 := HM1.out.f0
      have m1_1 := HM1.out.c1
      have g1_1 := HM1.out.f1
      have m1_2 := HM1.out.c2
      have g1_2 := HM1.out.f2
      go_wp2_with fail
      refine (c_isBlock _ _ _ _ _).mono ?_
      rintro e w2 ⟨rfl, hb2⟩
      rw [HI.out]
      have HX2 := Lib.hid (HX1.out.below hb2)
      have HM2 := Lib.hid (HM1.out.below hb2)
      have HB2 : Hid (Below w.heap.size w w2) := HB1.out.trans (hb2.mono HB1.out.size)
      clear hb2
      have d2_0 := HX2.out.c0
      have d2_1 := HX2.out.c1
      have d2_2 := HX2.out.c2
      have d2_3 := HX2.out.c3
      have d2_4 := HX2.out.c4
      have d2_5 := HX2.out.c5
      have m2_0 := HM2.out.c0
      have g2_0 := HM2.out.f0
      have m2_1 := HM2.out.c1
      have g2_1 := HM2.out.f1
      have m2_2 := HM2.out.c2
      have g2_2 := HM2.out.f2
      go_wp2_with fail
      refine (HC.out _ HB2.out).mono ?_
      rintro e w3 ⟨rfl, hb3⟩
      have HX3 := Lib.hid (HX2.out.below hb3)
      have HM3 := Lib.hid (HM2.out.below hb3)
      have HB3 : Hid (Below w.heap.size w w3) := HB2.out.trans (hb3.mono HB2.out.size)
      clear hb3
      have d3_0 := HX3.out.c0
      have d3_1 := HX3.out.c1
      have d3_2 := HX3.out.c2
      have d3_3 := HX3.out.c3
      have d3_4 := HX3.out.c4
      have d3_5 := HX3.out.c5
      have m3_0 := HM3.out.c0
      have g3_0 := HM3.out.f0
      have m3_1 := HM3.out.c1
      have g3_1 := HM3.out.f1
      have m3_2 := HM3.out.c2
      have g3_2 := HM3.out.f2
      go_wp2
      obtain ⟨f0, f1, f2⟩ := put3 (.int .i64 t) (.int .i64 m) (.int .i64 r) HM3.out.c0 HM3.out.c1 HM3.out.c2
      have HBE : Hid (Below w.heap.size w (((w3.setCell ⟨w.heap.size + 1, 0, none⟩ (.int .i64 t)).setCell ⟨w.heap.size + 1, 1, none⟩ (.int .i64 m)).setCell ⟨w.heap.size + 1, 2, none⟩ (.int .i64 r))) := ((HB3.out.setCell (by show _ ≤ w.heap.size + 1; omega) _).setCell (by show _ ≤ w.heap.size + 1; omega) _).setCell (by show _ ≤ w.heap.size + 1; omega) _
      generalize ((w3.setCell ⟨w.heap.size + 1, 0, none⟩ (.int .i64 t)).setCell ⟨w.heap.size + 1, 1, none⟩ (.int .i64 m)).setCell ⟨w.heap.size + 1, 2, none⟩ (.int .i64 r) = we at *
      refine bodyPost_ret (v := .tuple #[.agg #[.int .i64 t, .int .i64 m, .int .i64 r], .bool true]) (by simp [results, Try.results17, go_sem, f0, f1, f2]) rfl ⟨rfl, HBE.out⟩

set_option maxHeartbeats 2000000 in
theorem c_PieceOfS (x y z : Int) (v1 v2 v3 : Value) (ts gs rs : List Int) (i : Int) (w : World) (l1 : ts.length ≤ 4000000) (l2 : gs.length ≤ 4000000) (l3 : rs.length ≤ 4000000) (h : Look w v1 v2 v3 ts gs rs) :
    Calls Try.prog 15 #[.agg #[.int .i64 x, .int .i64 y, .int .i64 z, v1, v2, v3], .int .i64 i] w fun e w' => e = .returned (.tuple #[.agg #[.int .i64 (poT x y z ts gs rs i), .int .i64 (poM x y z ts gs rs i), .int .i64 (poR x y z ts gs rs i)], .bool (hasM x y z ts gs rs i)]) ∧ Below w.heap.size w w' := by
  have H := Lib.hid h
  obtain ⟨A1, c1, rfl⟩ := h.t.shape
  obtain ⟨A2, c2, rfl⟩ := h.g.shape
  obtain ⟨A3, c3, rfl⟩ := h.r.shape
  clear h
  have HX0 : Hid (Box6 ((w.alloc (.cells #[.int .i64 x, .int .i64 y, .int .i64 z, .slice A1 ts.length c1, .slice A2 gs.length c2, .slice A3 rs.length c3] 38)).alloc (.cells #[.int .i64 0, .int .i64 0, .int .i64 0] 25)) w.heap.size x y z (.slice A1 ts.length c1) (.slice A2 gs.length c2) (.slice A3 rs.length c3)) := (Box6.new _ _ _ _ _ _ _ _).below ((Below.refl _ _).alloc (Nat.le_refl _) _)
  have HB0 : Hid (Below w.heap.size w ((w.alloc (.cells #[.int .i64 x, .int .i64 y, .int .i64 z, .slice A1 ts.length c1, .slice A2 gs.length c2, .slice A3 rs.length c3] 38)).alloc (.cells #[.int .i64 0, .int .i64 0, .int .i64 0] 25))) := ((Below.refl _ _).alloc (Nat.le_refl _) _).alloc (by simp) _
  have HM0 : Hid (Mine ((w.alloc (.cells #[.int .i64 x, .int .i64 y, .int .i64 z, .slice A1 ts.length c1, .slice A2 gs.length c2, .slice A3 rs.length c3] 38)).alloc (.cells #[.int .i64 0, .int .i64 0, .int .i64 0] 25)) (w.heap.size + 1) (.int .i64 0) (.int .i64 0) (.int .i64 0)) := ⟨by simp, by simp, by simp, by simp, by simp, by simp, by simp⟩
  unfold poT poM poR
  cases hi : hasM x y z ts gs rs i
  · have HI := Lib.hid hi
    simp only [Bool.false_eq_true, if_false]
    clear hi
    go_enter Try.func15, Try.ntmps15
    go_wp2_with fail
    refine (c_moHas x y z _ _ _ ts gs rs i _ l1 l2 l3 (H.out.below HB0.out)).mono ?_
    rintro e w1 ⟨rfl, hb1⟩
    rw [HI.out]
    have HX1 := Lib.hid (HX0.out.below hb1)
    have HM1 := Lib.hid (HM0.out.below hb1)
    have HB1 : Hid (Below w.heap.size w w1) := HB0.out.trans (hb1.mono HB0.out.size)
    clear hb1
    have d1_0 := HX1.out.c0
    have d1_1 := HX1.out.c1
    have d1_2 := HX1.out.c2
    have d1_3 := HX1.out.c3
    have d1_4 := HX1.out.c4
    have d1_5 := HX1.out.c5
    have m1_0 := HM1.out.c0
    have g1_0 := HM1.out.f0
    have m1_1 := HM1.out.c1
    have g1_1 := HM1.out.f1
    have m1_2 := HM1.out.c2
    have g1_2 := HM1.out.f2
    go_wp2
    obtain ⟨f0, f1, f2⟩ := put3 (.int .i64 0) (.int .i64 0) (.int .i64 0) HM1.out.c0 HM1.out.c1 HM1.out.c2
    have HBE : Hid (Below w.heap.size w (((w1.setCell ⟨w.heap.size + 1, 0, none⟩ (.int .i64 0)).setCell ⟨w.heap.size + 1, 1, none⟩ (.int .i64 0)).setCell ⟨w.heap.size + 1, 2, none⟩ (.int .i64 0))) := ((HB1.out.setCell (by show _ ≤ w.heap.size + 1; omega) _).setCell (by show _ ≤ w.heap.size + 1; omega) _).setCell (by show _ ≤ w.heap.size + 1; omega) _
    generalize ((w1.setCell ⟨w.heap.size + 1, 0, none⟩ (.int .i64 0)).setCell ⟨w.heap.size + 1, 1, none⟩ (.int .i64 0)).setCell ⟨w.heap.size + 1, 2, none⟩ (.int .i64 0) = we at *
    refine bodyPost_ret (v := .tuple #[.agg #[.int .i64 0, .int .i64 0, .int .i64 0], .bool false]) (by simp [results, Try.results15, go_sem, f0, f1, f2]) rfl ⟨rfl, HBE.out⟩
  · have HI := Lib.hid hi
    simp only [if_true]
    have hm : moB x y z ts gs rs = true := by unfold hasM at hi; simp at hi; exact hi.1
    have hi0 : 0 ≤ i := by unfold hasM at hi; simp at hi; exact hi.2.1
    have hi1 : i < x * y * z := by unfold hasM at hi; simp at hi; exact hi.2.2
    obtain ⟨k, rfl⟩ := Int.eq_ofNat_of_zero_le hi0
    obtain ⟨k1, k2, k3, t0, t1, g0, g1, r0, r1, m0, m1⟩ := metal_box hm hi1
    have HC := Lib.hid (fun (u : World) (hu : Below w.heap.size w u) => c_sbOf x y z _ _ _ ts gs rs k u (H.out.below hu) k1 k2 k3 l1 l2 l3 t0 t1 g0 g1)
    simp only [Int.toNat_natCast]
    clear hm hi k1 k2 k3 t0 t1 g0 g1 r0 r1 m0 m1 hi0 hi1
    generalize ts.getD k 0 = t at *
    generalize metal ts gs k = m at *
    generalize rs.getD k 0 = r at *
    go_enter Try.func15, Try.ntmps15
    go_wp2_with fail
    refine (c_moHas x y z _ _ _ ts gs rs k _ l1 l2 l3 (H.out.below HB0.out)).mono ?_
    rintro e w1 ⟨rfl, hb1⟩
    rw [HI.out]
    have HX1 := Lib.hid (HX0.out.below hb1)
    have HM1 := Lib.hid (HM0.out.below hb1)
    have HB1 : Hid (Below w.heap.size w w1) := HB0.out.trans (hb1.mono HB0.out.size)
    clear hb1
    have d1_0 := HX1.out.c0
    have d1_1 := HX1.out.c1
    have d1_2 := HX1.out.c2
    have d1_3 := HX1.out.c3
    have d1_4 := HX1.out.c4
    have d1_5 := HX1.out.c5
    have m1_0 := HM1.out.c0
    have g1_0 := HM1.out.f0
    have m1_1 := HM1.out.c1
    have g1_1 := HM1.out.f1
    have m1_2 := HM1.out.c2
    have g1_2 := HM1.out.f2
    go_wp2_with fail
    refine (HC.out _ HB1.out).mono ?_
    rintro e w2 ⟨rfl, hb2⟩
    have HX2 := Lib.hid (HX1.out.below hb2)
    have HM2 := Lib.hid (HM1.out.below hb2)
    have HB2 : Hid (Below w.heap.size w w2) := HB1.out.trans (hb2.mono HB1.out.size)
    clear hb2
    have d2_0 := HX2.out.c0
    have d2_1 := HX2.out.c1
    have d2_2 := HX2.out.c2
    have d2_3 := HX2.out.c3
    have d2_4 := HX2.out.c4
    have d2_5 := HX2.out.c5
    have m2_0 := HM2.out.c0
    have g2_0 := HM2.out.f0
    have m2_1 := HM2.out.c1
    have g2_1 := HM2.out.f1
    have m2_2 := HM2.out.c2
    have g2_2 := HM2.out.f2
    go_wp2
    obtain ⟨f0, f1, f2⟩ := put3 (.int .i64 t) (.int .i64 m) (.int .i64 r) HM2.out.c0 HM2.out.c1 HM2.out.c2
    have HBE : Hid (Below w.heap.size w (((w2.setCell ⟨w.heap.size + 1, 0, none⟩ (.int .i64 t)).setCell ⟨w.heap.size + 1, 1, none⟩ (.int .i64 m)).setCell ⟨w.heap.size + 1, 2, none⟩ (.int .i64 r))) := ((HB2.out.setCell (by show _ ≤ w.heap.size + 1; omega) _).setCell (by show _ ≤ w.heap.size + 1; omega) _).setCell (by show _ ≤ w.heap.size + 1; omega) _
    generalize ((w2.setCell ⟨w.heap.size + 1, 0, none⟩ (.int .i64 t)).setCell ⟨w.heap.size + 1, 1, none⟩ (.int .i64 m)).setCell ⟨w.heap.size + 1, 2, none⟩ (.int .i64 r) = we at *
    refine bodyPost_ret (v := .tuple #[.agg #[.int .i64 t, .int .i64 m, .int .i64 r], .bool true]) (by simp [results, Try.results15, go_sem, f0, f1, f2]) rfl ⟨rfl, HBE.out⟩
end Go.Proofs.Ytglcdgonbmdhoab
