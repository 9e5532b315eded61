/-
  Contracts: PriceValue, in the program and in the model of it.
-/
import Derived.Test.YtdodmcmkelegoaaW8
import Derived.Test.YtdodmcmkelegoaaDN
namespace Go.Proofs.Ytdodmcmkelegoaa
open Go.RowKit
set_option linter.unusedVariables false

def pvB (x y z : Int) (ts gs rs : List Int) (p q r s i : Int) : Bool := hasM x y z ts gs rs i && priB p q r s
def pvV (x y z : Int) (ts gs rs : List Int) (p q r s i : Int) : Int := if pvB x y z ts gs rs p q r s i then worV (metal ts gs i.toNat) (ts.getD i.toNat 0) p q r s else 0
theorem pv_no {x y z : Int} {ts gs rs : List Int} {p q r s i : Int} (h : pvB x y z ts gs rs p q r s i = false) : pvV x y z ts gs rs p q r s i = 0 := by unfold pvV; rw [h]; rfl
theorem pv_yes {x y z : Int} {ts gs rs : List Int} {p q r s i : Int} (h : pvB x y z ts gs rs p q r s i = true) : pvV x y z ts gs rs p q r s i = worV (metal ts gs i.toNat) (ts.getD i.toNat 0) p q r s := by unfold pvV; rw [h]; rfl

set_option maxHeartbeats 2000000 in
set_option maxRecDepth 100000 in
theorem c_PriceValue (x y z : Int) (v1 v2 v3 : Value) (ts gs rs : List Int) (p q r s : Int) (i : Int) (w : World) (l1 : ts.length ≤ 4000000) (l2 : gs.length ≤ 4000000) (l3 : rs.length ≤ 4000000) (h : Look w v1 v2 v3 ts gs rs) :
    Calls Try.prog 28 #[.agg #[.int .i64 x, .int .i64 y, .int .i64 z, v1, v2, v3], .agg #[.int .i64 p, .int .i64 q, .int .i64 r, .int .i64 s], .int .i64 i] w fun e w' => e = .returned (.tuple #[.int .i64 (pvV x y z ts gs rs p q r s i), .bool (pvB x y z ts gs rs p q r s i)]) ∧ Below w.heap.size w w' := by
  have H := Lib.hid h
  obtain ⟨A1, c1, rfl⟩ := h.t.shape
  obtain ⟨A2, c2, rfl⟩ := h.g.shape
  obtain ⟨A3, c3, rfl⟩ := h.r.shape
  clear h
  have HX0 : Hid (Box6 ((w.alloc (.cells #[.int .i64 x, .int .i64 y, .int .i64 z, .slice A1 ts.length c1, .slice A2 gs.length c2, .slice A3 rs.length c3] 34)).alloc (.cells #[.int .i64 p, .int .i64 q, .int .i64 r, .int .i64 s] 51)) w.heap.size x y z (.slice A1 ts.length c1) (.slice A2 gs.length c2) (.slice A3 rs.length c3)) := (Box6.new _ _ _ _ _ _ _ _).below ((Below.refl _ _).alloc (Nat.le_refl _) _)
  have HY0 : Hid (Box4 ((w.alloc (.cells #[.int .i64 x, .int .i64 y, .int .i64 z, .slice A1 ts.length c1, .slice A2 gs.length c2, .slice A3 rs.length c3] 34)).alloc (.cells #[.int .i64 p, .int .i64 q, .int .i64 r, .int .i64 s] 51)) (w.heap.size + 1) p q r s) := by
    have := Box4.new (w.alloc (.cells #[.int .i64 x, .int .i64 y, .int .i64 z, .slice A1 ts.length c1, .slice A2 gs.length c2, .slice A3 rs.length c3] 34)) p q r s 51
    simp at this
    exact this
  have HB0 : Hid (Below w.heap.size w ((w.alloc (.cells #[.int .i64 x, .int .i64 y, .int .i64 z, .slice A1 ts.length c1, .slice A2 gs.length c2, .slice A3 rs.length c3] 34)).alloc (.cells #[.int .i64 p, .int .i64 q, .int .i64 r, .int .i64 s] 51))) := ((Below.refl _ _).alloc (Nat.le_refl _) _).alloc (by simp) _
  have HI : Hid (∀ u, Below w.heap.size w u → Calls Try.prog 65 #[.agg #[.int .i64 x, .int .i64 y, .int .i64 z, .slice A1 ts.length c1, .slice A2 gs.length c2, .slice A3 rs.length c3]] u fun e w' => e = .returned (.bool (moB x y z ts gs rs)) ∧ Below u.heap.size u w') := fun u hu => c_IsModel x y z _ _ _ ts gs rs u l1 l2 l3 (H.out.below hu)
  have HP : Hid (∀ u, Below w.heap.size w u → Calls Try.prog 74 #[.agg #[.int .i64 p, .int .i64 q, .int .i64 r, .int .i64 s]] u fun e w' => e = .returned (.bool (priB p q r s)) ∧ Below u.heap.size u w') := fun u hu => c_ArePrices p q r s u
  have HH : Hid (∀ u, Below w.heap.size w u → Calls Try.prog 66 #[.agg #[.int .i64 x, .int .i64 y, .int .i64 z], .int .i64 i] u fun e w' => e = .returned (.bool (hasB x y z i)) ∧ Below u.heap.size u w') := fun u hu => c_isBlock x y z i u
  cases hm : moB x y z ts gs rs
  · have e : pvB x y z ts gs rs p q r s i = false := by unfold pvB hasM; rw [hm]; rfl
    rw [pv_no e, e]
    rw [hm] at HI
    clear hm e HP HH
    go_enter Try.func28, Try.ntmps28
    go_wp2_with fail
    refine (HI.out _ HB0.out).mono ?_
    rintro e w1 ⟨rfl, hb1⟩
    have HX1 := Lib.hid (HX0.out.below hb1)
    have HY1 := Lib.hid (HY0.out.below hb1)
    have HB1 : Hid (Below w.heap.size w w1) := HB0.out.trans (hb1.mono HB0.out.size)
    clear hb1
    have d1_0 := HX1.out.c0
    have d1_1 := HX1.out.c1
    have d1_2 := HX1.out.c2
    have d1_3 := HX1.out.c3
    have d1_4 := HX1.out.c4
    have d1_5 := HX1.out.c5
    have f1_0 := HY1.out.c0
    have f1_1 := HY1.out.c1
    have f1_2 := HY1.out.c2
    have f1_3 := HY1.out.c3
    go_wp2
    go_ret2
    exact ⟨rfl, HB1.out⟩
  · rw [hm] at HI
    have hh : hasM x y z ts gs rs i = hasB x y z i := by unfold hasM hasB; rw [hm, (mo_true hm).1]
    cases hp : priB p q r s
    · have e : pvB x y z ts gs rs p q r s i = false := by unfold pvB; rw [hp, Bool.and_false]
      rw [pv_no e, e]
      rw [hp] at HP
      clear hm hh hp e HH
      go_enter Try.func28, Try.ntmps28
      go_wp2_with fail
      refine (HI.out _ HB0.out).mono ?_
      rintro e w1 ⟨rfl, hb1⟩
      have HX1 := Lib.hid (HX0.out.below hb1)
      have HY1 := Lib.hid (HY0.out.below hb1)
      have HB1 : Hid (Below w.heap.size w w1) := HB0.out.trans (hb1.mono HB0.out.size)
      clear hb1
      have d1_0 := HX1.out.c0
      have d1_1 := HX1.out.c1
      have d1_2 := HX1.out.c2
      have d1_3 := HX1.out.c3
      have d1_4 := HX1.out.c4
      have d1_5 := HX1.out.c5
      have f1_0 := HY1.out.c0
      have f1_1 := HY1.out.c1
      have f1_2 := HY1.out.c2
      have f1_3 := HY1.out.c3
      go_wp2_with fail
      refine (HP.out _ HB1.out).mono ?_
      rintro e w2 ⟨rfl, hb2⟩
      have HX2 := Lib.hid (HX1.out.below hb2)
      have HY2 := Lib.hid (HY1.out.below hb2)
      have HB2 : Hid (Below w.heap.size w w2) := HB1.out.trans (hb2.mono HB1.out.size)
      clear hb2
      have d2_0 := HX2.out.c0
      have d2_1 := HX2.out.c1
      have d2_2 := HX2.out.c2
      have d2_3 := HX2.out.c3
      have d2_4 := HX2.out.c4
      have d2_5 := HX2.out.c5
      have f2_0 := HY2.out.c0
      have f2_1 := HY2.out.c1
      have f2_2 := HY2.out.c2
      have f2_3 := HY2.out.c3
      go_wp2
      go_ret2
      exact ⟨rfl, HB2.out⟩
    · rw [hp] at HP
      cases hi : hasB x y z i
      · have e : pvB x y z ts gs rs p q r s i = false := by unfold pvB; rw [hh, hi]; rfl
        rw [pv_no e, e]
        rw [hi] at HH
        clear hm hh hp hi e
        go_enter Try.func28, Try.ntmps28
        go_wp2_with fail
        refine (HI.out _ HB0.out).mono ?_
        rintro e w1 ⟨rfl, hb1⟩
        have HX1 := Lib.hid (HX0.out.below hb1)
        have HY1 := Lib.hid (HY0.out.below hb1)
        have HB1 : Hid (Below w.heap.size w w1) := HB0.out.trans (hb1.mono HB0.out.size)
        clear hb1
        have d1_0 := HX1.out.c0
        have d1_1 := HX1.out.c1
        have d1_2 := HX1.out.c2
        have d1_3 := HX1.out.c3
        have d1_4 := HX1.out.c4
        have d1_5 := HX1.out.c5
        have f1_0 := HY1.out.c0
        have f1_1 := HY1.out.c1
        have f1_2 := HY1.out.c2
        have f1_3 := HY1.out.c3
        go_wp2_with fail
        refine (HP.out _ HB1.out).mono ?_
        rintro e w2 ⟨rfl, hb2⟩
        have HX2 := Lib.hid (HX1.out.below hb2)
        have HY2 := Lib.hid (HY1.out.below hb2)
        have HB2 : Hid (Below w.heap.size w w2) := HB1.out.trans (hb2.mono HB1.out.size)
        clear hb2
        have d2_0 := HX2.out.c0
        have d2_1 := HX2.out.c1
        have d2_2 := HX2.out.c2
        have d2_3 := HX2.out.c3
        have d2_4 := HX2.out.c4
        have d2_5 := HX2.out.c5
        have f2_0 := HY2.out.c0
        have f2_1 := HY2.out.c1
        have f2_2 := HY2.out.c2
        have f2_3 := HY2.out.c3
        go_wp2_with fail
        refine (HH.out _ HB2.out).mono ?_
        rintro e w3 ⟨rfl, hb3⟩
        have HX3 := Lib.hid (HX2.out.below hb3)
        have HY3 := Lib.hid (HY2.out.below hb3)
        have HB3 : Hid (Below w.heap.size w w3) := HB2.out.trans (hb3.mono HB2.out.size)
        clear hb3
        have d3_0 := HX3.out.c0
        have d3_1 := HX3.out.c1
        have d3_2 := HX3.out.c2
        have d3_3 := HX3.out.c3
        have d3_4 := HX3.out.c4
        have d3_5 := HX3.out.c5
        have f3_0 := HY3.out.c0
        have f3_1 := HY3.out.c1
        have f3_2 := HY3.out.c2
        have f3_3 := HY3.out.c3
        go_wp2
        go_ret2
        exact ⟨rfl, HB3.out⟩
      · have e : pvB x y z ts gs rs p q r s i = true := by unfold pvB; rw [hh, hi, hp]; rfl
        rw [pv_yes e, e]
        rw [hi] at HH
        obtain ⟨_, hi0, hi1⟩ := has_true hi
        obtain ⟨k, rfl⟩ := Int.eq_ofNat_of_zero_le hi0
        obtain ⟨k1, k2, k3, t0, t1, g0, g1, r0, r1, m0, m1⟩ := metal_box hm hi1
        simp only [Int.toNat_natCast]
        have HW : Hid (∀ u, Below w.heap.size w u → Calls Try.prog 75 #[.agg #[.int .i64 x, .int .i64 y, .int .i64 z, .slice A1 ts.length c1, .slice A2 gs.length c2, .slice A3 rs.length c3], .agg #[.int .i64 p, .int .i64 q, .int .i64 r, .int .i64 s], .int .i64 (k : Int)] u fun e w' => e = .returned (.int .i64 (worV (metal ts gs k) (ts.getD k 0) p q r s)) ∧ Below u.heap.size u w') := fun u hu => c_worthAt x y z _ _ _ ts gs rs p q r s k u (H.out.below hu) k1 k2 l1 l2 t0 t1 g0 g1 hp
        generalize worV (metal ts gs k) (ts.getD k 0) p q r s = V at *
        clear hm hh hp hi e hi0 hi1 k1 k2 k3 t0 t1 g0 g1 r0 r1 m0 m1
        go_enter Try.func28, Try.ntmps28
        go_wp2_with fail
        refine (HI.out _ HB0.out).mono ?_
        rintro e w1 ⟨rfl, hb1⟩
        have HX1 := Lib.hid (HX0.out.below hb1)
        have HY1 := Lib.hid (HY0.out.below hb1)
        have HB1 : Hid (Below w.heap.size w w1) := HB0.out.trans (hb1.mono HB0.out.size)
        clear hb1
        have d1_0 := HX1.out.c0
        have d1_1 := HX1.out.c1
        have d1_2 := HX1.out.c2
        have d1_3 := HX1.out.c3
        have d1_4 := HX1.out.c4
        have d1_5 := HX1.out.c5
        have f1_0 := HY1.out.c0
        have f1_1 := HY1.out.c1
        have f1_2 := HY1.out.c2
        have f1_3 := HY1.out.c3
        go_wp2_with fail
        refine (HP.out _ HB1.out).mono ?_
        rintro e w2 ⟨rfl, hb2⟩
        have HX2 := Lib.hid (HX1.out.below hb2)
        have HY2 := Lib.hid (HY1.out.below hb2)
        have HB2 : Hid (Below w.heap.size w w2) := HB1.out.trans (hb2.mono HB1.out.size)
        clear hb2
        have d2_0 := HX2.out.c0
        have d2_1 := HX2.out.c1
        have d2_2 := HX2.out.c2
        have d2_3 := HX2.out.c3
        have d2_4 := HX2.out.c4
        have d2_5 := HX2.out.c5
        have f2_0 := HY2.out.c0
        have f2_1 := HY2.out.c1
        have f2_2 := HY2.out.c2
        have f2_3 := HY2.out.c3
        go_wp2_with fail
        refine (HH.out _ HB2.out).mono ?_
        rintro e w3 ⟨rfl, hb3⟩
        have HX3 := Lib.hid (HX2.out.below hb3)
        have HY3 := Lib.hid (HY2.out.below hb3)
        have HB3 : Hid (Below w.heap.size w w3) := HB2.out.trans (hb3.mono HB2.out.size)
        clear hb3
        have d3_0 := HX3.out.c0
        have d3_1 := HX3.out.c1
        have d3_2 := HX3.out.c2
        have d3_3 := HX3.out.c3
        have d3_4 := HX3.out.c4
        have d3_5 := HX3.out.c5
        have f3_0 := HY3.out.c0
        have f3_1 := HY3.out.c1
        have f3_2 := HY3.out.c2
        have f3_3 := HY3.out.c3
        go_wp2_with fail
        refine (HW.out _ HB3.out).mono ?_
        rintro e w4 ⟨rfl, hb4⟩
        have HX4 := Lib.hid (HX3.out.below hb4)
        have HY4 := Lib.hid (HY3.out.below hb4)
        have HB4 : Hid (Below w.heap.size w w4) := HB3.out.trans (hb4.mono HB3.out.size)
        clear hb4
        have d4_0 := HX4.out.c0
        have d4_1 := HX4.out.c1
        have d4_2 := HX4.out.c2
        have d4_3 := HX4.out.c3
        have d4_4 := HX4.out.c4
        have d4_5 := HX4.out.c5
        have f4_0 := HY4.out.c0
        have f4_1 := HY4.out.c1
        have f4_2 := HY4.out.c2
        have f4_3 := HY4.out.c3
        go_wp2
        go_ret2
        exact ⟨rfl, HB4.out⟩

set_option maxHeartbeats 2000000 in
set_option maxRecDepth 100000 in
theorem c_PriceValueS (x y z : Int) (v1 v2 v3 : Value) (ts gs rs : List Int) (p q r s : Int) (i : Int) (w : World) (l1 : ts.length ≤ 4000000) (l2 : gs.length ≤ 4000000) (l3 : rs.length ≤ 4000000) (h : Look w v1 v2 v3 ts gs rs) :
    Calls Try.prog 26 #[.agg #[.int .i64 x, .int .i64 y, .int .i64 z, v1, v2, v3], .agg #[.int .i64 p, .int .i64 q, .int .i64 r, .int .i64 s], .int .i64 i] w fun e w' => e = .returned (.tuple #[.int .i64 (pvV x y z ts gs rs p q r s i), .bool (pvB x y z ts gs rs p q r s i)]) ∧ Below w.heap.size w w' := by
  have H := Lib.hid h
  obtain ⟨A1, c1, rfl⟩ := h.t.shape
  obtain ⟨A2, c2, rfl⟩ := h.g.shape
  obtain ⟨A3, c3, rfl⟩ := h.r.shape
  clear h
  have HX0 : Hid (Box6 ((w.alloc (.cells #[.int .i64 x, .int .i64 y, .int .i64 z, .slice A1 ts.length c1, .slice A2 gs.length c2, .slice A3 rs.length c3] 34)).alloc (.cells #[.int .i64 p, .int .i64 q, .int .i64 r, .int .i64 s] 51)) w.heap.size x y z (.slice A1 ts.length c1) (.slice A2 gs.length c2) (.slice A3 rs.length c3)) := (Box6.new _ _ _ _ _ _ _ _).below ((Below.refl _ _).alloc (Nat.le_refl _) _)
  have HY0 : Hid (Box4 ((w.alloc (.cells #[.int .i64 x, .int .i64 y, .int .i64 z, .slice A1 ts.length c1, .slice A2 gs.length c2, .slice A3 rs.length c3] 34)).alloc (.cells #[.int .i64 p, .int .i64 q, .int .i64 r, .int .i64 s] 51)) (w.heap.size + 1) p q r s) := by
    have := Box4.new (w.alloc (.cells #[.int .i64 x, .int .i64 y, .int .i64 z, .slice A1 ts.length c1, .slice A2 gs.length c2, .slice A3 rs.length c3] 34)) p q r s 51
    simp at this
    exact this
  have HB0 : Hid (Below w.heap.size w ((w.alloc (.cells #[.int .i64 x, .int .i64 y, .int .i64 z, .slice A1 ts.length c1, .slice A2 gs.length c2, .slice A3 rs.length c3] 34)).alloc (.cells #[.int .i64 p, .int .i64 q, .int .i64 r, .int .i64 s] 51))) := ((Below.refl _ _).alloc (Nat.le_refl _) _).alloc (by simp) _
  have HI : Hid (∀ u, Below w.heap.size w u → Calls Try.prog 58 #[.agg #[.int .i64 x, .int .i64 y, .int .i64 z, .slice A1 ts.length c1, .slice A2 gs.length c2, .slice A3 rs.length c3], .int .i64 i] u fun e w' => e = .returned (.bool (hasM x y z ts gs rs i)) ∧ Below u.heap.size u w') := fun u hu => c_moHas x y z _ _ _ ts gs rs i u l1 l2 l3 (H.out.below hu)
  have HP : Hid (∀ u, Below w.heap.size w u → Calls Try.prog 72 #[.agg #[.int .i64 p, .int .i64 q, .int .i64 r, .int .i64 s]] u fun e w' => e = .returned (.bool (priB p q r s)) ∧ Below u.heap.size u w') := fun u hu => c_vaPrices p q r s u
  cases hm : hasM x y z ts gs rs i
  · have e : pvB x y z ts gs rs p q r s i = false := by unfold pvB; rw [hm]; rfl
    rw [pv_no e, e]
    rw [hm] at HI
    clear hm e HP
    go_enter Try.func26, Try.ntmps26
    go_wp2_with fail
    refine (HI.out _ HB0.out).mono ?_
    rintro e w1 ⟨rfl, hb1⟩
    have HX1 := Lib.hid (HX0.out.below hb1)
    have HY1 := Lib.hid (HY0.out.below hb1)
    have HB1 : Hid (Below w.heap.size w w1) := HB0.out.trans (hb1.mono HB0.out.size)
    clear hb1
    have d1_0 := HX1.out.c0
    have d1_1 := HX1.out.c1
    have d1_2 := HX1.out.c2
    have d1_3 := HX1.out.c3
    have d1_4 := HX1.out.c4
    have d1_5 := HX1.out.c5
    have f1_0 := HY1.out.c0
    have f1_1 := HY1.out.c1
    have f1_2 := HY1.out.c2
    have f1_3 := HY1.out.c3
    go_wp2
    go_ret2
    exact ⟨rfl, HB1.out⟩
  · rw [hm] at HI
    cases hp : priB p q r s
    · have e : pvB x y z ts gs rs p q r s i = false := by unfold pvB; rw [hp, Bool.and_false]
      rw [pv_no e, e]
      rw [hp] at HP
      clear hm hp e
      go_enter Try.func26, Try.ntmps26
      go_wp2_with fail
      refine (HI.out _ HB0.out).mono ?_
      rintro e w1 ⟨rfl, hb1⟩
      have HX1 := Lib.hid (HX0.out.below hb1)
      have HY1 := Lib.hid (HY0.out.below hb1)
      have HB1 : Hid (Below w.heap.size w w1) := HB0.out.trans (hb1.mono HB0.out.size)
      clear hb1
      have d1_0 := HX1.out.c0
      have d1_1 := HX1.out.c1
      have d1_2 := HX1.out.c2
      have d1_3 := HX1.out.c3
      have d1_4 := HX1.out.c4
      have d1_5 := HX1.out.c5
      have f1_0 := HY1.out.c0
      have f1_1 := HY1.out.c1
      have f1_2 := HY1.out.c2
      have f1_3 := HY1.out.c3
      go_wp2_with fail
      refine (HP.out _ HB1.out).mono ?_
      rintro e w2 ⟨rfl, hb2⟩
      have HX2 := Lib.hid (HX1.out.below hb2)
      have HY2 := Lib.hid (HY1.out.below hb2)
      have HB2 : Hid (Below w.heap.size w w2) := HB1.out.trans (hb2.mono HB1.out.size)
      clear hb2
      have d2_0 := HX2.out.c0
      have d2_1 := HX2.out.c1
      have d2_2 := HX2.out.c2
      have d2_3 := HX2.out.c3
      have d2_4 := HX2.out.c4
      have d2_5 := HX2.out.c5
      have f2_0 := HY2.out.c0
      have f2_1 := HY2.out.c1
      have f2_2 := HY2.out.c2
      have f2_3 := HY2.out.c3
      go_wp2
      go_ret2
      exact ⟨rfl, HB2.out⟩
    · rw [hp] at HP
      have e : pvB x y z ts gs rs p q r s i = true := by unfold pvB; rw [hm, hp]; rfl
      rw [pv_yes e, e]
      have hmm : moB x y z ts gs rs = true ∧ (0 ≤ i ∧ i < x * y * z) := by unfold hasM at hm; simpa using hm
      obtain ⟨hm1, hi0, hi1⟩ := hmm
      obtain ⟨k, rfl⟩ := Int.eq_ofNat_of_zero_le hi0
      obtain ⟨k1, k2, k3, t0, t1, g0, g1, r0, r1, m0, m1⟩ := metal_box hm1 hi1
      simp only [Int.toNat_natCast]
      have HW : Hid (∀ u, Below w.heap.size w u → Calls Try.prog 73 #[.agg #[.int .i64 x, .int .i64 y, .int .i64 z, .slice A1 ts.length c1, .slice A2 gs.length c2, .slice A3 rs.length c3], .agg #[.int .i64 p, .int .i64 q, .int .i64 r, .int .i64 s], .int .i64 (k : Int)] u fun e w' => e = .returned (.int .i64 (worV (metal ts gs k) (ts.getD k 0) p q r s)) ∧ Below u.heap.size u w') := fun u hu => c_vaPrice x y z _ _ _ ts gs rs p q r s k u (H.out.below hu) k1 k2 l1 l2 t0 t1 g0 g1 hp
      generalize worV (metal ts gs k) (ts.getD k 0) p q r s = V at *
      clear hm hm1 hp e hi0 hi1 k1 k2 k3 t0 t1 g0 g1 r0 r1 m0 m1
      go_enter Try.func26, Try.ntmps26
      go_wp2_with fail
      refine (HI.out _ HB0.out).mono ?_
      rintro e w1 ⟨rfl, hb1⟩
      have HX1 := Lib.hid (HX0.out.below hb1)
      have HY1 := Lib.hid (HY0.out.below hb1)
      have HB1 : Hid (Below w.heap.size w w1) := HB0.out.trans (hb1.mono HB0.out.size)
      clear hb1
      have d1_0 := HX1.out.c0
      have d1_1 := HX1.out.c1
      have d1_2 := HX1.out.c2
      have d1_3 := HX1.out.c3
      have d1_4 := HX1.out.c4
      have d1_5 := HX1.out.c5
      have f1_0 := HY1.out.c0
      have f1_1 := HY1.out.c1
      have f1_2 := HY1.out.c2
      have f1_3 := HY1.out.c3
      go_wp2_with fail
      refine (HP.out _ HB1.out).mono ?_
      rintro e w2 ⟨rfl, hb2⟩
      have HX2 := Lib.hid (HX1.out.below hb2)
      have HY2 := Lib.hid (HY1.out.below hb2)
      have HB2 : Hid (Below w.heap.size w w2) := HB1.out.trans (hb2.mono HB1.out.size)
      clear hb2
      have d2_0 := HX2.out.c0
      have d2_1 := HX2.out.c1
      have d2_2 := HX2.out.c2
      have d2_3 := HX2.out.c3
      have d2_4 := HX2.out.c4
      have d2_5 := HX2.out.c5
      have f2_0 := HY2.out.c0
      have f2_1 := HY2.out.c1
      have f2_2 := HY2.out.c2
      have f2_3 := HY2.out.c3
      go_wp2_with fail
      refine (HW.out _ HB2.out).mono ?_
      rintro e w3 ⟨rfl, hb3⟩
      have HX3 := Lib.hid (HX2.out.below hb3)
      have HY3 := Lib.hid (HY2.out.below hb3)
      have HB3 : Hid (Below w.heap.size w w3) := HB2.out.trans (hb3.mono HB2.out.size)
      clear hb3
      have d3_0 := HX3.out.c0
      have d3_1 := HX3.out.c1
      have d3_2 := HX3.out.c2
      have d3_3 := HX3.out.c3
      have d3_4 := HX3.out.c4
      have d3_5 := HX3.out.c5
      have f3_0 := HY3.out.c0
      have f3_1 := HY3.out.c1
      have f3_2 := HY3.out.c2
      have f3_3 := HY3.out.c3
      go_wp2
      go_ret2
      exact ⟨rfl, HB3.out⟩

end Go.Proofs.Ytdodmcmkelegoaa
