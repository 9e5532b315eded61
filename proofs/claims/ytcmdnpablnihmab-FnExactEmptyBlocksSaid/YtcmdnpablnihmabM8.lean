/-
  Contracts: SumsOf and MeanGrade, in the program and in the model of it.
-/
import Derived.Test.YtcmdnpablnihmabM7
import Derived.Test.YtcmdnpablnihmabG1
namespace Go.Proofs.Ytcmdnpablnihmab
open Go.RowKit
set_option linter.unusedVariables false

set_option maxHeartbeats 1000000 in
theorem c_moList (x y z : Int) (v1 v2 v3 : Value) (ts gs rs : List Int) (v : Value) (bs : List Int) (w : World) (l1 : ts.length ≤ 4000000) (l2 : gs.length ≤ 4000000) (l3 : rs.length ≤ 4000000) (hl : bs.length ≤ 4000000) (h : Look w v1 v2 v3 ts gs rs) (hs : Seen w v bs) :
    Calls Try.prog 59 #[.agg #[.int .i64 x, .int .i64 y, .int .i64 z, v1, v2, v3], v] w fun e w' => e = .returned (.bool (listB x y z ts gs rs bs)) ∧ Below w.heap.size w w' := by
  have H := Lib.hid h
  obtain ⟨A1, c1, rfl⟩ := h.t.shape
  obtain ⟨A2, c2, rfl⟩ := h.g.shape
  obtain ⟨A3, c3, rfl⟩ := h.r.shape
  clear h
  have HS := Lib.hid hs
  obtain ⟨AV, cV, rfl⟩ := hs.shape
  clear hs
  have HX0 : Hid (Box6 (w.alloc (.cells #[.int .i64 x, .int .i64 y, .int .i64 z, (.slice A1 ts.length c1), (.slice A2 gs.length c2), (.slice A3 rs.length c3)] 54)) w.heap.size x y z (.slice A1 ts.length c1) (.slice A2 gs.length c2) (.slice A3 rs.length c3)) := Box6.new _ _ _ _ _ _ _ _
  have HB0 : Hid (Below w.heap.size w (w.alloc (.cells #[.int .i64 x, .int .i64 y, .int .i64 z, (.slice A1 ts.length c1), (.slice A2 gs.length c2), (.slice A3 rs.length c3)] 54))) := (Below.refl _ _).alloc (Nat.le_refl _) _
  unfold listB
  cases hm : moB x y z ts gs rs
  · have HM := Lib.hid hm
    rw [Bool.false_and]
    clear hm
    go_enter Try.func59, Try.ntmps59
    go_wp2_with fail
    refine (c_moGood x y z _ _ _ ts gs rs _ l1 l2 l3 (H.out.below HB0.out)).mono ?_
    rintro e w1 ⟨rfl, hb1⟩
    rw [HM.out]
    have HX1 := Lib.hid (HX0.out.below hb1)
    have HB1 : Hid (Below w.heap.size w w1) := HB0.out.trans (hb1.mono HB0.out.size)
    clear hb1
    go_wp2
    go_ret
    exact ⟨rfl, HB1.out⟩
  · have HM := Lib.hid hm
    obtain ⟨x1, x2, y1, y2, z1, z2, p1, p2, q1, q2⟩ := good_box (mo_true hm).1
    rw [Bool.true_and]
    clear hm
    go_enter Try.func59, Try.ntmps59
    go_wp2_with fail
    refine (c_moGood x y z _ _ _ ts gs rs _ l1 l2 l3 (H.out.below HB0.out)).mono ?_
    rintro e w1 ⟨rfl, hb1⟩
    rw [HM.out]
    have HX1 := Lib.hid (HX0.out.below hb1)
    have HB1 : Hid (Below w.heap.size w w1) := HB0.out.trans (hb1.mono HB0.out.size)
    clear hb1
    have d1_0 := HX1.out.c0
    have d1_1 := HX1.out.c1
    have d1_2 := HX1.out.c2
    have d1_3 := HX1.out.c3
    have d1_4 := HX1.out.c4
    have d1_5 := HX1.out.c5
    go_wp2_with fail
    refine (c_grCount _ _ _ _ (by omega) x2 (by omega) y2 (by omega) z2).mono ?_
    rintro e w2 ⟨rfl, hb2⟩
    have HX2 := Lib.hid (HX1.out.below hb2)
    have HB2 : Hid (Below w.heap.size w w2) := HB1.out.trans (hb2.mono HB1.out.size)
    clear hb2
    have d2_0 := HX2.out.c0
    have d2_1 := HX2.out.c1
    have d2_2 := HX2.out.c2
    have d2_3 := HX2.out.c3
    have d2_4 := HX2.out.c4
    have d2_5 := HX2.out.c5
    go_wp2_with fail
    refine (c_l1Rising (x * y * z) bs _ _ (by omega) (by omega) hl (HS.out.below HB2.out)).mono ?_
    rintro e w2' ⟨rfl, rfl⟩
    go_wp2
    go_ret
    exact ⟨rfl, HB2.out⟩

def sumTV (x y z : Int) (ts gs rs bs : List Int) : Int := if listB x y z ts gs rs bs then sumT ts bs else 0
def sumMV (x y z : Int) (ts gs rs bs : List Int) : Int := if listB x y z ts gs rs bs then sumM ts gs bs else 0

set_option maxHeartbeats 1000000 in
theorem c_SumsOf (x y z : Int) (v1 v2 v3 : Value) (ts gs rs : List Int) (v : Value) (bs : List Int) (w : World) (l1 : ts.length ≤ 4000000) (l2 : gs.length ≤ 4000000) (l3 : rs.length ≤ 4000000) (hl : bs.length ≤ 4000000) (h : Look w v1 v2 v3 ts gs rs) (hs : Seen w v bs) :
    Calls Try.prog 29 #[.agg #[.int .i64 x, .int .i64 y, .int .i64 z, v1, v2, v3], v] w fun e w' => e = .returned (.tuple #[.int .i64 (sumTV x y z ts gs rs bs), .int .i64 (sumMV x y z ts gs rs bs), .bool (listB x y z ts gs rs bs)]) ∧ Below w.heap.size w w' := by
  have H := Lib.hid h
  obtain ⟨A1, c1, rfl⟩ := h.t.shape
  obtain ⟨A2, c2, rfl⟩ := h.g.shape
  obtain ⟨A3, c3, rfl⟩ := h.r.shape
  clear h
  have HS := Lib.hid hs
  obtain ⟨AV, cV, rfl⟩ := hs.shape
  clear hs
  have HX0 : Hid (Box6 (w.alloc (.cells #[.int .i64 x, .int .i64 y, .int .i64 z, (.slice A1 ts.length c1), (.slice A2 gs.length c2), (.slice A3 rs.length c3)] 54)) w.heap.size x y z (.slice A1 ts.length c1) (.slice A2 gs.length c2) (.slice A3 rs.length c3)) := Box6.new _ _ _ _ _ _ _ _
  have HB0 : Hid (Below w.heap.size w (w.alloc (.cells #[.int .i64 x, .int .i64 y, .int .i64 z, (.slice A1 ts.length c1), (.slice A2 gs.length c2), (.slice A3 rs.length c3)] 54))) := (Below.refl _ _).alloc (Nat.le_refl _) _
  unfold sumTV sumMV
  cases hm : moB x y z ts gs rs
  · have HM := Lib.hid hm
    rw [show listB x y z ts gs rs bs = false by unfold listB; rw [hm]; rfl]
    simp only [Bool.false_eq_true, if_false]
    clear hm
    go_enter Try.func29, Try.ntmps29
    go_wp2_with fail
    refine (c_IsModel x y z _ _ _ ts gs rs _ l1 l2 l3 (H.out.below HB0.out)).mono ?_
    rintro e w1 ⟨rfl, hb1⟩
    rw [HM.out]
    have HX1 := Lib.hid (HX0.out.below hb1)
    have HB1 : Hid (Below w.heap.size w w1) := HB0.out.trans (hb1.mono HB0.out.size)
    clear hb1
    go_wp2
    refine bodyPost_ret (three_results rfl _ _ _) rfl ?_
    exact ⟨rfl, HB1.out⟩
  · have HM := Lib.hid hm
    cases hr : risB (x * y * z) bs
    · have HR := Lib.hid hr
      rw [show listB x y z ts gs rs bs = false by unfold listB; rw [hr, Bool.and_false]]
      simp only [Bool.false_eq_true, if_false]
      have HG := Lib.hid (mo_true hm).1
      clear hm hr
      go_enter Try.func29, Try.ntmps29
      go_wp2_with fail
      refine (c_IsModel x y z _ _ _ ts gs rs _ l1 l2 l3 (H.out.below HB0.out)).mono ?_
      rintro e w1 ⟨rfl, hb1⟩
      rw [HM.out]
      have HX1 := Lib.hid (HX0.out.below hb1)
      have HB1 : Hid (Below w.heap.size w w1) := HB0.out.trans (hb1.mono HB0.out.size)
      clear hb1
      have d1_0 := HX1.out.c0
      have d1_1 := HX1.out.c1
      have d1_2 := HX1.out.c2
      have d1_3 := HX1.out.c3
      have d1_4 := HX1.out.c4
      have d1_5 := HX1.out.c5
      go_wp2_with fail
      refine (c_isBlockList x y z bs _ _ HG.out hl (HS.out.below HB1.out)).mono ?_
      rintro e w2 ⟨rfl, hb2⟩
      rw [HR.out]
      have HX2 := Lib.hid (HX1.out.below hb2)
      have HB2 : Hid (Below w.heap.size w w2) := HB1.out.trans (hb2.mono HB1.out.size)
      clear hb2
      go_wp2
      refine bodyPost_ret (three_results rfl _ _ _) rfl ?_
      exact ⟨rfl, HB2.out⟩
    · have HR := Lib.hid hr
      have hL : listB x y z ts gs rs bs = true := by unfold listB; rw [hm, hr]; rfl
      rw [hL]
      simp only [if_true]
      have HG := Lib.hid (mo_true hm).1
      have HLI := Lib.hid hL
      clear hm hr hL
      go_enter Try.func29, Try.ntmps29
      go_wp2_with fail
      refine (c_IsModel x y z _ _ _ ts gs rs _ l1 l2 l3 (H.out.below HB0.out)).mono ?_
      rintro e w1 ⟨rfl, hb1⟩
      rw [HM.out]
      have HX1 := Lib.hid (HX0.out.below hb1)
      have HB1 : Hid (Below w.heap.size w w1) := HB0.out.trans (hb1.mono HB0.out.size)
      clear hb1
      have d1_0 := HX1.out.c0
      have d1_1 := HX1.out.c1
      have d1_2 := HX1.out.c2
      have d1_3 := HX1.out.c3
      have d1_4 := HX1.out.c4
      have d1_5 := HX1.out.c5
      go_wp2_with fail
      refine (c_isBlockList x y z bs _ _ HG.out hl (HS.out.below HB1.out)).mono ?_
      rintro e w2 ⟨rfl, hb2⟩
      rw [HR.out]
      have HX2 := Lib.hid (HX1.out.below hb2)
      have HB2 : Hid (Below w.heap.size w w2) := HB1.out.trans (hb2.mono HB1.out.size)
      clear hb2
      have d2_0 := HX2.out.c0
      have d2_1 := HX2.out.c1
      have d2_2 := HX2.out.c2
      have d2_3 := HX2.out.c3
      have d2_4 := HX2.out.c4
      have d2_5 := HX2.out.c5
      go_wp2_with fail
      refine (c_sumBlocks x y z _ _ _ ts gs rs _ bs _ l1 l2 hl (H.out.below HB2.out) (HS.out.below HB2.out) HLI.out).mono ?_
      rintro e w3 ⟨rfl, hb3⟩
      have HX3 := Lib.hid (HX2.out.below hb3)
      have HB3 : Hid (Below w.heap.size w w3) := HB2.out.trans (hb3.mono HB2.out.size)
      clear hb3
      go_wp2
      refine bodyPost_ret (three_results rfl _ _ _) rfl ?_
      exact ⟨rfl, HB3.out⟩

set_option maxHeartbeats 1000000 in
theorem c_SumsOfS (x y z : Int) (v1 v2 v3 : Value) (ts gs rs : List Int) (v : Value) (bs : List Int) (w : World) (l1 : ts.length ≤ 4000000) (l2 : gs.length ≤ 4000000) (l3 : rs.length ≤ 4000000) (hl : bs.length ≤ 4000000) (h : Look w v1 v2 v3 ts gs rs) (hs : Seen w v bs) :
    Calls Try.prog 27 #[.agg #[.int .i64 x, .int .i64 y, .int .i64 z, v1, v2, v3], v] w fun e w' => e = .returned (.tuple #[.int .i64 (sumTV x y z ts gs rs bs), .int .i64 (sumMV x y z ts gs rs bs), .bool (listB x y z ts gs rs bs)]) ∧ Below w.heap.size w w' := by
  have H := Lib.hid h
  obtain ⟨A1, c1, rfl⟩ := h.t.shape
  obtain ⟨A2, c2, rfl⟩ := h.g.shape
  obtain ⟨A3, c3, rfl⟩ := h.r.shape
  clear h
  have HS := Lib.hid hs
  obtain ⟨AV, cV, rfl⟩ := hs.shape
  clear hs
  have HX0 : Hid (Box6 (w.alloc (.cells #[.int .i64 x, .int .i64 y, .int .i64 z, (.slice A1 ts.length c1), (.slice A2 gs.length c2), (.slice A3 rs.length c3)] 54)) w.heap.size x y z (.slice A1 ts.length c1) (.slice A2 gs.length c2) (.slice A3 rs.length c3)) := Box6.new _ _ _ _ _ _ _ _
  have HB0 : Hid (Below w.heap.size w (w.alloc (.cells #[.int .i64 x, .int .i64 y, .int .i64 z, (.slice A1 ts.length c1), (.slice A2 gs.length c2), (.slice A3 rs.length c3)] 54))) := (Below.refl _ _).alloc (Nat.le_refl _) _
  unfold sumTV sumMV
  cases hL : listB x y z ts gs rs bs
  · have HLI := Lib.hid hL
    simp only [Bool.false_eq_true, if_false]
    clear hL
    go_enter Try.func27, Try.ntmps27
    go_wp2_with fail
    refine (c_moList x y z _ _ _ ts gs rs _ bs _ l1 l2 l3 hl (H.out.below HB0.out) (HS.out.below HB0.out)).mono ?_
    rintro e w1 ⟨rfl, hb1⟩
    rw [HLI.out]
    have HX1 := Lib.hid (HX0.out.below hb1)
    have HB1 : Hid (Below w.heap.size w w1) := HB0.out.trans (hb1.mono HB0.out.size)
    clear hb1
    go_wp2
    refine bodyPost_ret (three_results rfl _ _ _) rfl ?_
    exact ⟨rfl, HB1.out⟩
  · have HLI := Lib.hid hL
    simp only [if_true]
    clear hL
    go_enter Try.func27, Try.ntmps27
    go_wp2_with fail
    refine (c_moList x y z _ _ _ ts gs rs _ bs _ l1 l2 l3 hl (H.out.below HB0.out) (HS.out.below HB0.out)).mono ?_
    rintro e w1 ⟨rfl, hb1⟩
    rw [HLI.out]
    have HX1 := Lib.hid (HX0.out.below hb1)
    have HB1 : Hid (Below w.heap.size w w1) := HB0.out.trans (hb1.mono HB0.out.size)
    clear hb1
    have d1_0 := HX1.out.c0
    have d1_1 := HX1.out.c1
    have d1_2 := HX1.out.c2
    have d1_3 := HX1.out.c3
    have d1_4 := HX1.out.c4
    have d1_5 := HX1.out.c5
    go_wp2_with fail
    refine (c_moSums x y z _ _ _ ts gs rs _ bs _ l1 l2 hl (H.out.below HB1.out) (HS.out.below HB1.out) HLI.out).mono ?_
    rintro e w2 ⟨rfl, hb2⟩
    have HX2 := Lib.hid (HX1.out.below hb2)
    have HB2 : Hid (Below w.heap.size w w2) := HB1.out.trans (hb2.mono HB1.out.size)
    clear hb2
    go_wp2
    refine bodyPost_ret (three_results rfl _ _ _) rfl ?_
    exact ⟨rfl, HB2.out⟩

/-- There are tonnes in the list. -/
def meanB (x y z : Int) (ts gs rs bs : List Int) : Bool := listB x y z ts gs rs bs && decide (sumT ts bs ≠ 0)
def meanA (x y z : Int) (ts gs rs bs : List Int) : Int := if meanB x y z ts gs rs bs then sumM ts gs bs / (Int.gcd (sumM ts gs bs) (sumT ts bs) : Int) else 0
def meanC (x y z : Int) (ts gs rs bs : List Int) : Int := if meanB x y z ts gs rs bs then sumT ts bs / (Int.gcd (sumM ts gs bs) (sumT ts bs) : Int) else 0
theorem sum_box {x y z : Int} {ts gs rs bs : List Int} (h : listB x y z ts gs rs bs = true) : 0 ≤ sumT ts bs ∧ sumT ts bs ≤ 4000000000 ∧ 0 ≤ sumM ts gs bs ∧ sumM ts gs bs ≤ 4000000000 := by
  have hl := list_len h
  have a := sumN_box (f := tonF ts bs) (n := bs.length) (fun k hk => ton_box h hk) (by omega) bs.length (Nat.le_refl _)
  have b := sumN_box (f := metF ts gs bs) (n := bs.length) (fun k hk => met_box h hk) (by omega) bs.length (Nat.le_refl _)
  unfold sumT sumM
  omega

set_option maxHeartbeats 1000000 in
theorem c_MeanGrade (x y z : Int) (v1 v2 v3 : Value) (ts gs rs : List Int) (v : Value) (bs : List Int) (w : World) (l1 : ts.length ≤ 4000000) (l2 : gs.length ≤ 4000000) (l3 : rs.length ≤ 4000000) (hl : bs.length ≤ 4000000) (h : Look w v1 v2 v3 ts gs rs) (hs : Seen w v bs) :
    Calls Try.prog 32 #[.agg #[.int .i64 x, .int .i64 y, .int .i64 z, v1, v2, v3], v] w fun e w' => e = .returned (.tuple #[.int .i64 (meanA x y z ts gs rs bs), .int .i64 (meanC x y z ts gs rs bs), .bool (meanB x y z ts gs rs bs)]) ∧ Below w.heap.size w w' := by
  have H := Lib.hid h
  obtain ⟨A1, c1, rfl⟩ := h.t.shape
  obtain ⟨A2, c2, rfl⟩ := h.g.shape
  obtain ⟨A3, c3, rfl⟩ := h.r.shape
  clear h
  have HS := Lib.hid hs
  obtain ⟨AV, cV, rfl⟩ := hs.shape
  clear hs
  have HX0 : Hid (Box6 (w.alloc (.cells #[.int .i64 x, .int .i64 y, .int .i64 z, (.slice A1 ts.length c1), (.slice A2 gs.length c2), (.slice A3 rs.length c3)] 54)) w.heap.size x y z (.slice A1 ts.length c1) (.slice A2 gs.length c2) (.slice A3 rs.length c3)) := Box6.new _ _ _ _ _ _ _ _
  have HB0 : Hid (Below w.heap.size w (w.alloc (.cells #[.int .i64 x, .int .i64 y, .int .i64 z, (.slice A1 ts.length c1), (.slice A2 gs.length c2), (.slice A3 rs.length c3)] 54))) := (Below.refl _ _).alloc (Nat.le_refl _) _
  unfold meanA meanC
  cases hL : listB x y z ts gs rs bs
  · have HLI := Lib.hid hL
    rw [show meanB x y z ts gs rs bs = false by unfold meanB; rw [hL]; rfl]
    simp only [Bool.false_eq_true, if_false]
    have E1 : Hid (sumTV x y z ts gs rs bs = 0) := if_neg (by rw [hL]; simp)
    have E2 : Hid (sumMV x y z ts gs rs bs = 0) := if_neg (by rw [hL]; simp)
    clear hL
    go_enter Try.func32, Try.ntmps32
    go_wp2_with fail
    refine (c_SumsOf x y z _ _ _ ts gs rs _ bs _ l1 l2 l3 hl (H.out.below HB0.out) (HS.out.below HB0.out)).mono ?_
    rintro e w1 ⟨rfl, hb1⟩
    rw [E1.out, E2.out, HLI.out]
    have HX1 := Lib.hid (HX0.out.below hb1)
    have HB1 : Hid (Below w.heap.size w w1) := HB0.out.trans (hb1.mono HB0.out.size)
    clear hb1
    go_wp2
    refine bodyPost_ret (three_results rfl _ _ _) rfl ?_
    exact ⟨rfl, HB1.out⟩
  · have HLI := Lib.hid hL
    obtain ⟨sb1, sb2, sb3, sb4⟩ := sum_box hL
    have E1 : Hid (sumTV x y z ts gs rs bs = sumT ts bs) := if_pos hL
    have E2 : Hid (sumMV x y z ts gs rs bs = sumM ts gs bs) := if_pos hL
    by_cases h0 : sumT ts bs = 0
    · rw [show meanB x y z ts gs rs bs = false by unfold meanB; rw [hL]; simpa using h0]
      simp only [Bool.false_eq_true, if_false]
      rw [h0] at E1
      generalize sumM ts gs bs = M at *
      clear hL h0
      go_enter Try.func32, Try.ntmps32
      go_wp2_with fail
      refine (c_SumsOf x y z _ _ _ ts gs rs _ bs _ l1 l2 l3 hl (H.out.below HB0.out) (HS.out.below HB0.out)).mono ?_
      rintro e w1 ⟨rfl, hb1⟩
      rw [E1.out, E2.out, HLI.out]
      have HX1 := Lib.hid (HX0.out.below hb1)
      have HB1 : Hid (Below w.heap.size w w1) := HB0.out.trans (hb1.mono HB0.out.size)
      clear hb1
      go_wp2
      refine bodyPost_ret (three_results rfl _ _ _) rfl ?_
      exact ⟨rfl, HB1.out⟩
    · rw [show meanB x y z ts gs rs bs = true by unfold meanB; rw [hL]; simpa using h0]
      simp only [if_true]
      clear hL
      generalize sumM ts gs bs = M at *
      generalize sumT ts bs = T at *
      obtain ⟨a, rfl⟩ := Int.eq_ofNat_of_zero_le sb3
      obtain ⟨b, rfl⟩ := Int.eq_ofNat_of_zero_le sb1
      simp only [Int.gcd_natCast_natCast]
      have hbp : 0 < b := by omega
      have hg : 0 < Nat.gcd a b := Nat.gcd_pos_of_pos_right _ hbp
      have hlg : Nat.gcd a b ≤ b := Nat.gcd_le_right _ hbp
      have HGC := Lib.hid (c_commonDivisor a b)
      generalize Nat.gcd a b = G at *
      have g1 : (G : Int) ≠ 0 := by omega
      obtain ⟨e1, e2⟩ := div_box (i := (a : Int)) (x := (G : Int)) (by omega) (by omega)
      obtain ⟨e3, e4⟩ := div_box (i := (b : Int)) (x := (G : Int)) (by omega) (by omega)
      go_enter Try.func32, Try.ntmps32
      go_wp2_with fail
      refine (c_SumsOf x y z _ _ _ ts gs rs _ bs _ l1 l2 l3 hl (H.out.below HB0.out) (HS.out.below HB0.out)).mono ?_
      rintro e w1 ⟨rfl, hb1⟩
      rw [E1.out, E2.out, HLI.out]
      have HX1 := Lib.hid (HX0.out.below hb1)
      have HB1 : Hid (Below w.heap.size w w1) := HB0.out.trans (hb1.mono HB0.out.size)
      clear hb1
      have d1_0 := HX1.out.c0
      have d1_1 := HX1.out.c1
      have d1_2 := HX1.out.c2
      have d1_3 := HX1.out.c3
      have d1_4 := HX1.out.c4
      have d1_5 := HX1.out.c5
      go_wp2_with fail
      refine (HGC.out _ (by omega) (by omega)).mono ?_
      rintro e w2 ⟨rfl, hb2⟩
      have HX2 := Lib.hid (HX1.out.below hb2)
      have HB2 : Hid (Below w.heap.size w w2) := HB1.out.trans (hb2.mono HB1.out.size)
      clear hb2
      go_wp2
      go_quiet (fail)
      go_wp2
      refine bodyPost_ret (three_results rfl _ _ _) rfl ?_
      exact ⟨rfl, below_draws HB2.out _⟩

set_option maxHeartbeats 1000000 in
theorem c_MeanGradeS (x y z : Int) (v1 v2 v3 : Value) (ts gs rs : List Int) (v : Value) (bs : List Int) (w : World) (l1 : ts.length ≤ 4000000) (l2 : gs.length ≤ 4000000) (l3 : rs.length ≤ 4000000) (hl : bs.length ≤ 4000000) (h : Look w v1 v2 v3 ts gs rs) (hs : Seen w v bs) :
    Calls Try.prog 31 #[.agg #[.int .i64 x, .int .i64 y, .int .i64 z, v1, v2, v3], v] w fun e w' => e = .returned (.tuple #[.int .i64 (meanA x y z ts gs rs bs), .int .i64 (meanC x y z ts gs rs bs), .bool (meanB x y z ts gs rs bs)]) ∧ Below w.heap.size w w' := by
  have H := Lib.hid h
  obtain ⟨A1, c1, rfl⟩ := h.t.shape
  obtain ⟨A2, c2, rfl⟩ := h.g.shape
  obtain ⟨A3, c3, rfl⟩ := h.r.shape
  clear h
  have HS := Lib.hid hs
  obtain ⟨AV, cV, rfl⟩ := hs.shape
  clear hs
  have HX0 : Hid (Box6 (w.alloc (.cells #[.int .i64 x, .int .i64 y, .int .i64 z, (.slice A1 ts.length c1), (.slice A2 gs.length c2), (.slice A3 rs.length c3)] 54)) w.heap.size x y z (.slice A1 ts.length c1) (.slice A2 gs.length c2) (.slice A3 rs.length c3)) := Box6.new _ _ _ _ _ _ _ _
  have HB0 : Hid (Below w.heap.size w (w.alloc (.cells #[.int .i64 x, .int .i64 y, .int .i64 z, (.slice A1 ts.length c1), (.slice A2 gs.length c2), (.slice A3 rs.length c3)] 54))) := (Below.refl _ _).alloc (Nat.le_refl _) _
  unfold meanA meanC
  cases hL : listB x y z ts gs rs bs
  · have HLI := Lib.hid hL
    rw [show meanB x y z ts gs rs bs = false by unfold meanB; rw [hL]; rfl]
    simp only [Bool.false_eq_true, if_false]
    clear hL
    go_enter Try.func31, Try.ntmps31
    go_wp2_with fail
    refine (c_moList x y z _ _ _ ts gs rs _ bs _ l1 l2 l3 hl (H.out.below HB0.out) (HS.out.below HB0.out)).mono ?_
    rintro e w1 ⟨rfl, hb1⟩
    rw [HLI.out]
    have HX1 := Lib.hid (HX0.out.below hb1)
    have HB1 : Hid (Below w.heap.size w w1) := HB0.out.trans (hb1.mono HB0.out.size)
    clear hb1
    go_wp2
    refine bodyPost_ret (three_results rfl _ _ _) rfl ?_
    exact ⟨rfl, HB1.out⟩
  · have HLI := Lib.hid hL
    obtain ⟨sb1, sb2, sb3, sb4⟩ := sum_box hL
    have HMS := Lib.hid (fun (u : World) (hu : Below w.heap.size w u) => c_moSums x y z (.slice A1 ts.length c1) (.slice A2 gs.length c2) (.slice A3 rs.length c3) ts gs rs (.slice AV bs.length cV) bs u l1 l2 hl (H.out.below hu) (HS.out.below hu) HLI.out)
    by_cases h0 : sumT ts bs = 0
    · rw [show meanB x y z ts gs rs bs = false by unfold meanB; rw [hL]; simpa using h0]
      simp only [Bool.false_eq_true, if_false]
      rw [h0] at HMS
      generalize sumM ts gs bs = M at *
      clear hL h0
      go_enter Try.func31, Try.ntmps31
      go_wp2_with fail
      refine (c_moList x y z _ _ _ ts gs rs _ bs _ l1 l2 l3 hl (H.out.below HB0.out) (HS.out.below HB0.out)).mono ?_
      rintro e w1 ⟨rfl, hb1⟩
      rw [HLI.out]
      have HX1 := Lib.hid (HX0.out.below hb1)
      have HB1 : Hid (Below w.heap.size w w1) := HB0.out.trans (hb1.mono HB0.out.size)
      clear hb1
      have d1_0 := HX1.out.c0
      have d1_1 := HX1.out.c1
      have d1_2 := HX1.out.c2
      have d1_3 := HX1.out.c3
      have d1_4 := HX1.out.c4
      have d1_5 := HX1.out.c5
      go_wp2_with fail
      refine (HMS.out _ HB1.out).mono ?_
      rintro e w2 ⟨rfl, hb2⟩
      have HX2 := Lib.hid (HX1.out.below hb2)
      have HB2 : Hid (Below w.heap.size w w2) := HB1.out.trans (hb2.mono HB1.out.size)
      clear hb2
      go_wp2
      refine bodyPost_ret (three_results rfl _ _ _) rfl ?_
      exact ⟨rfl, HB2.out⟩
    · rw [show meanB x y z ts gs rs bs = true by unfold meanB; rw [hL]; simpa using h0]
      simp only [if_true]
      clear hL
      generalize sumM ts gs bs = M at *
      generalize sumT ts bs = T at *
      obtain ⟨a, rfl⟩ := Int.eq_ofNat_of_zero_le sb3
      obtain ⟨b, rfl⟩ := Int.eq_ofNat_of_zero_le sb1
      simp only [Int.gcd_natCast_natCast]
      have hbp : 0 < b := by omega
      have hg : 0 < Nat.gcd a b := Nat.gcd_pos_of_pos_right _ hbp
      have hlg : Nat.gcd a b ≤ b := Nat.gcd_le_right _ hbp
      have HGC := Lib.hid (c_moPart a b)
      generalize Nat.gcd a b = G at *
      generalize (a : Int) / (G : Int) = qa at *
      generalize (b : Int) / (G : Int) = qb at *
      go_enter Try.func31, Try.ntmps31
      go_wp2_with fail
      refine (c_moList x y z _ _ _ ts gs rs _ bs _ l1 l2 l3 hl (H.out.below HB0.out) (HS.out.below HB0.out)).mono ?_
      rintro e w1 ⟨rfl, hb1⟩
      rw [HLI.out]
      have HX1 := Lib.hid (HX0.out.below hb1)
      have HB1 : Hid (Below w.heap.size w w1) := HB0.out.trans (hb1.mono HB0.out.size)
      clear hb1
      have d1_0 := HX1.out.c0
      have d1_1 := HX1.out.c1
      have d1_2 := HX1.out.c2
      have d1_3 := HX1.out.c3
      have d1_4 := HX1.out.c4
      have d1_5 := HX1.out.c5
      go_wp2_with fail
      refine (HMS.out _ HB1.out).mono ?_
      rintro e w2 ⟨rfl, hb2⟩
      have HX2 := Lib.hid (HX1.out.below hb2)
      have HB2 : Hid (Below w.heap.size w w2) := HB1.out.trans (hb2.mono HB1.out.size)
      clear hb2
      have d2_0 := HX2.out.c0
      have d2_1 := HX2.out.c1
      have d2_2 := HX2.out.c2
      have d2_3 := HX2.out.c3
      have d2_4 := HX2.out.c4
      have d2_5 := HX2.out.c5
      go_wp2_with fail
      refine (HGC.out _ (by omega) (by omega) hbp).mono ?_
      rintro e w3 ⟨rfl, hb3⟩
      have HX3 := Lib.hid (HX2.out.below hb3)
      have HB3 : Hid (Below w.heap.size w w3) := HB2.out.trans (hb3.mono HB2.out.size)
      clear hb3
      go_wp2
      refine bodyPost_ret (three_results rfl _ _ _) rfl ?_
      exact ⟨rfl, HB3.out⟩
end Go.Proofs.Ytcmdnpablnihmab
