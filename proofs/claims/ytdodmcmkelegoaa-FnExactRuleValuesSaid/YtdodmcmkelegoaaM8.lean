/-
  Contracts: SumsOf and MeanGrade, in the program and in the model of it.
-/
import Derived.Test.YtdodmcmkelegoaaM7
import Derived.Test.YtdodmcmkelegoaaG1
namespace Go.Proofs.Ytdodmcmkelegoaa
open Go.RowKit
set_option linter.unusedVariables false

set_option maxHeartbeats 1000000 in
theorem c_moList (x y z : Int) (v1 v2 v3 : Value) (ts gs rs : List Int) (v : Value) (bs : List Int) (w : World) (l1 : ts.length ≤ 4000000) (l2 : gs.length ≤ 4000000) (l3 : rs.length ≤ 4000000) (hl : bs.length ≤ 4000000) (h : Look w v1 v2 v3 ts gs rs) (hs : Seen w v bs) :
    Calls Try.prog 92 #[.agg #[.int .i64 x, .int .i64 y, .int .i64 z, v1, v2, v3], v] w fun e w' => e = .returned (.bool (listB x y z ts gs rs bs)) ∧ Below w.heap.size w w' := by
  have H := Lib.hid h
  obtain ⟨A1, c1, rfl⟩ := h.t.shape
  obtain ⟨A2, c2, rfl⟩ := h.g.shape
  obtain ⟨A3, c3, rfl⟩ := h.r.shape
  clear h
  have HS := Lib.hid hs
  obtain ⟨AV, cV, rfl⟩ := hs.shape
  clear hs
  have HX0 : Hid (Box6 (w.alloc (.cells #[.int .i64 x, .int .i64 y, .int .i64 z, (.slice A1 ts.length c1), (.slice A2 gs.length c2), (.slice A3 rs.length c3)] 34)) w.heap.size x y z (.slice A1 ts.length c1) (.slice A2 gs.length c2) (.slice A3 rs.length c3)) := Box6.new _ _ _ _ _ _ _ _
  have HB0 : Hid (Below w.heap.size w (w.alloc (.cells #[.int .i64 x, .int .i64 y, .int .i64 z, (.slice A1 ts.length c1), (.slice A2 gs.length c2), (.slice A3 rs.length c3)] 34))) := (Below.refl _ _).alloc (Nat.le_refl _) _
  unfold listB
  cases hm : moB x y z ts gs rs
  · have HM := Lib.hid hm
    rw [Bool.false_and]
    clear hm
    go_enter Try.func92, Try.ntmps92
    go_wp2_with fail
    refine (c_moGood x y z _ _ _ ts gs rs _ l1 l2 l3 (H.out.below HB0.out)).mono ?_
    rintro e w1 ⟨rfl, hb1⟩
    rw [HM.out]
    have HX1 := Lib.hid (HX0.out.below hb1)
    have HB1 : Hid (Below w.heap.size w w1) := HB0.out.trans (hb1.mono HB0.out.size)
    clear hb1
    go_wp2
    go_ret
    exact ⟨rfl, HB1.out⟩
  · have HM := Lib.hid hm
    obtain ⟨x1, x2, y1, y2, z1, z2, p1, p2, q1, q2⟩ := good_box (mo_true hm).1
    rw [Bool.true_and]
    clear hm
    go_enter Try.func92, Try.ntmps92
    go_wp2_with fail
    refine (c_moGood x y z _ _ _ ts gs rs _ l1 l2 l3 (H.out.below HB0.out)).mono ?_
    rintro e w1 ⟨rfl, hb1⟩
    rw [HM.out]
    have HX1 := Lib.hid (HX0.out.below hb1)
    have HB1 : Hid (Below w.heap.size w w1) := HB0.out.trans (hb1.mono HB0.out.size)
    clear hb1
    have d1_0 := HX1.out.c0
    have d1_1 := HX1.out.c1
    have d1_2 := HX1.out.c2
    have d1_3 := HX1.out.c3
    have d1_4 := HX1.out.c4
    have d1_5 := HX1.out.c5
    go_wp2_with fail
    refine (c_grCount _ _ _ _ (by omega) x2 (by omega) y2 (by omega) z2).mono ?_
    rintro e w2 ⟨rfl, hb2⟩
    have HX2 := Lib.hid (HX1.out.below hb2)
    have HB2 : Hid (Below w.heap.size w w2) := HB1.out.trans (hb2.mono HB1.out.size)
    clear hb2
    have d2_0 := HX2.out.c0
    have d2_1 := HX2.out.c1
    have d2_2 := HX2.out.c2
    have d2_3 := HX2.out.c3
    have d2_4 := HX2.out.c4
    have d2_5 := HX2.out.c5
    go_wp2_with fail
    refine (c_l1Rising (x * y * z) bs _ _ (by omega) (by omega) hl (HS.out.below HB2.out)).mono ?_
    rintro e w2' ⟨rfl, rfl⟩
    go_wp2
    go_ret
    exact ⟨rfl, HB2.out⟩

def sumTV (x y z : Int) (ts gs rs bs : List Int) : Int := if listB x y z ts gs rs bs then sumT ts bs else 0
def sumMV (x y z : Int) (ts gs rs bs : List Int) : Int := if listB x y z ts gs rs bs then sumM ts gs bs else 0

/-- There are tonnes in the list. -/
def meanB (x y z : Int) (ts gs rs bs : List Int) : Bool := listB x y z ts gs rs bs && decide (sumT ts bs ≠ 0)
def meanA (x y z : Int) (ts gs rs bs : List Int) : Int := if meanB x y z ts gs rs bs then sumM ts gs bs / (Int.gcd (sumM ts gs bs) (sumT ts bs) : Int) else 0
def meanC (x y z : Int) (ts gs rs bs : List Int) : Int := if meanB x y z ts gs rs bs then sumT ts bs / (Int.gcd (sumM ts gs bs) (sumT ts bs) : Int) else 0
theorem sum_box {x y z : Int} {ts gs rs bs : List Int} (h : listB x y z ts gs rs bs = true) : 0 ≤ sumT ts bs ∧ sumT ts bs ≤ 4000000000 ∧ 0 ≤ sumM ts gs bs ∧ sumM ts gs bs ≤ 4000000000 := by
  have hl := list_len h
  have a := sumN_box (f := tonF ts bs) (n := bs.length) (fun k hk => ton_box h hk) (by omega) bs.length (Nat.le_refl _)
  have b := sumN_box (f := metF ts gs bs) (n := bs.length) (fun k hk => met_box h hk) (by omega) bs.length (Nat.le_refl _)
  unfold sumT sumM
  omega

end Go.Proofs.Ytdodmcmkelegoaa
