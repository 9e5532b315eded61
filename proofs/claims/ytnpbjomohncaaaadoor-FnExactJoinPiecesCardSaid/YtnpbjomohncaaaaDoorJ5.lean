/-
  Contracts: JoinPieces of the model.
-/
import Derived.Test.YtnpbjomohncaaaaDoorJ4
namespace Go.Proofs.YtnpbjomohncaaaaDoor
open Go.RowKit
set_option linter.unusedVariables false
set_option linter.unusedSimpArgs false

set_option maxHeartbeats 4000000 in
set_option maxRecDepth 100000 in
theorem c_JoinPiecesS (n : Nat) (xs : List Int) (v : Value) (w : World) (hl : n ≤ 1048576) (h : SeenP w v n xs) :
    Calls Tryd.prog 6 #[v] w fun e w' => e = .returned (.tuple #[.agg #[.int .i64 (joT n xs), .int .i64 (joM n xs), .int .i64 (joR n xs)], .bool (joB n xs)]) ∧ Below w.heap.size w w' := by
  have HS := Lib.hid h
  have HC : Hid (∀ u, Below w.heap.size w u → Calls Tryd.prog 18 #[v] u fun e w' => e = .returned (.bool (piesB n xs)) ∧ Below u.heap.size u w') := fun u hu => c_sbList n xs _ u hl (HS.out.below hu)
  have hba : Below w.heap.size w (w.alloc (.cells #[.int .i64 0, .int .i64 0, .int .i64 0] 25)) := (Below.refl _ _).alloc (Nat.le_refl _) _
  have HB0 := Lib.hid hba
  have HX : Hid (∀ u, Below (w.alloc (.cells #[.int .i64 0, .int .i64 0, .int .i64 0] 25)).heap.size (w.alloc (.cells #[.int .i64 0, .int .i64 0, .int .i64 0] 25)) u → Tri u w.heap.size 0 0 0) := fun u hu => Tri.below (w := (w.alloc (.cells #[.int .i64 0, .int .i64 0, .int .i64 0] 25))) ⟨by simp, by simp, by simp, by simp, fun i => by simp⟩ hu
  clear hba
  cases hq : piesB n xs
  · have hj : joB n xs = false := by unfold joB; rw [hq]; rfl
    obtain ⟨j1, j2, j3⟩ := jo_no hj
    rw [hj, j1, j2, j3]
    rw [hq] at HC
    clear h HS
    go_enter Tryd.func6, Tryd.ntmps6
    go_wp2_with fail
    refine (HC.out _ HB0.out).mono ?_
    rintro e w1 ⟨rfl, hb1⟩
    have HB1 : Hid (Below w.heap.size w w1) := HB0.out.trans (hb1.mono HB0.out.size)
    obtain ⟨x, x0, x1, x2, x4⟩ := HX.out _ hb1
    clear hb1 HC HX
    have Y : ∀ i, i < 3 → w1.cell? ⟨w.heap.size, i, none⟩ = some (.int .i64 0) := fun i hi => by rcases (show i = 0 ∨ i = 1 ∨ i = 2 by omega) with rfl | rfl | rfl <;> assumption
    go_wp2
    obtain ⟨y0, y1, y2⟩ := set3 (.int .i64 0) (.int .i64 0) (.int .i64 0) Y
    have HZ : Hid (Below w.heap.size w (((w1.setCell ⟨w.heap.size, 0, none⟩ (.int .i64 0)).setCell ⟨w.heap.size, 1, none⟩ (.int .i64 0)).setCell ⟨w.heap.size, 2, none⟩ (.int .i64 0))) := ((HB1.out.setCell (Nat.le_refl _) _).setCell (Nat.le_refl _) _).setCell (Nat.le_refl _) _
    refine bodyPost_ret (v := .tuple #[.agg #[.int .i64 0, .int .i64 0, .int .i64 0], .bool false]) (by simp [results, Tryd.results6, go_sem, y0, y1, y2]) rfl ⟨rfl, HZ.out⟩
  · obtain ⟨n1, n2, h3⟩ := pies_true hq
    have hP : Hid (PieTo xs n) := fun j hj => pieAll_at h3 hj
    have C1 : Hid (∀ u, Below w.heap.size w u → Calls Tryd.prog 20 #[v] u fun e w' => e = .returned (.agg #[.int .i64 (suF xs 0 n), .int .i64 (suF xs 1 n), .int .i64 (bestR (rkT xs n) 5 : Int)]) ∧ Below u.heap.size u w') := fun u hu => c_sbJoin n xs v u _ rfl n1 n2 hP.out (HS.out.below hu)
    obtain ⟨t0, t1, m0, m1⟩ := suF_box n hP.out
    have r5 := bestR_lt (rkT xs n) 5
    have PB : pieB (suF xs 0 n) (suF xs 1 n) (bestR (rkT xs n) 5 : Int) = joB n xs := by
      unfold joB pieB
      rw [hq, Bool.true_and]
      exact decide_eq_decide.2 (by omega)
    have J3 : Hid (joB n xs = false → joT n xs = 0 ∧ joM n xs = 0 ∧ joR n xs = 0) := jo_no
    have J4 : Hid (joB n xs = true → joT n xs = suF xs 0 n ∧ joM n xs = suF xs 1 n ∧ joR n xs = (bestR (rkT xs n) 5 : Int)) := jo_yes
    rw [hq] at HC
    clear hq h3 hP HS h t0 t1 m0 m1 r5
    generalize suF xs 0 n = T at *
    generalize suF xs 1 n = M at *
    generalize (bestR (rkT xs n) 5 : Int) = R at *
    generalize joT n xs = zt at *
    generalize joM n xs = zm at *
    generalize joR n xs = zr at *
    generalize joB n xs = zb at *
    have HPB := Lib.hid PB
    clear PB
    go_enter Tryd.func6, Tryd.ntmps6
    go_wp2_with fail
    refine (HC.out _ HB0.out).mono ?_
    rintro e w1 ⟨rfl, hb⟩
    have HB1 : Hid (Below w.heap.size w w1) := HB0.out.trans (hb.mono HB0.out.size)
    have HV1 : Hid (Below (w.alloc (.cells #[.int .i64 0, .int .i64 0, .int .i64 0] 25)).heap.size (w.alloc (.cells #[.int .i64 0, .int .i64 0, .int .i64 0] 25)) w1) := hb
    clear hb
    clear HC
    go_wp2_with fail
    refine (C1.out _ HB1.out).mono ?_
    rintro e w2 ⟨rfl, hb⟩
    have HB2 : Hid (Below w.heap.size w w2) := HB1.out.trans (hb.mono HB1.out.size)
    have HV2 : Hid (Below (w.alloc (.cells #[.int .i64 0, .int .i64 0, .int .i64 0] 25)).heap.size (w.alloc (.cells #[.int .i64 0, .int .i64 0, .int .i64 0] 25)) w2) := HV1.out.trans (hb.mono HV1.out.size)
    clear hb
    go_wp2_with fail
    refine (c_sbPiece _ _ _ _).mono ?_
    rintro e w3 ⟨rfl, hb⟩
    have HB3 : Hid (Below w.heap.size w w3) := HB2.out.trans (hb.mono HB2.out.size)
    have HV3 : Hid (Below (w.alloc (.cells #[.int .i64 0, .int .i64 0, .int .i64 0] 25)).heap.size (w.alloc (.cells #[.int .i64 0, .int .i64 0, .int .i64 0] 25)) w3) := HV2.out.trans (hb.mono HV2.out.size)
    clear hb
    rw [HPB.out]
    cases zb
    · obtain ⟨rfl, rfl, rfl⟩ := J3.out rfl
      obtain ⟨x, x0, x1, x2, x4⟩ := HX.out _ HV3.out
      clear HX J3 J4 C1 HV1 HV2 HV3
      have Y : ∀ i, i < 3 → w3.cell? ⟨w.heap.size, i, none⟩ = some (.int .i64 0) := fun i hi => by rcases (show i = 0 ∨ i = 1 ∨ i = 2 by omega) with rfl | rfl | rfl <;> assumption
      go_wp2
      obtain ⟨y0, y1, y2⟩ := set3 (.int .i64 0) (.int .i64 0) (.int .i64 0) Y
      have HZ : Hid (Below w.heap.size w (((w3.setCell ⟨w.heap.size, 0, none⟩ (.int .i64 0)).setCell ⟨w.heap.size, 1, none⟩ (.int .i64 0)).setCell ⟨w.heap.size, 2, none⟩ (.int .i64 0))) := ((HB3.out.setCell (Nat.le_refl _) _).setCell (Nat.le_refl _) _).setCell (Nat.le_refl _) _
      refine bodyPost_ret (v := .tuple #[.agg #[.int .i64 0, .int .i64 0, .int .i64 0], .bool false]) (by simp [results, Tryd.results6, go_sem, y0, y1, y2]) rfl ⟨rfl, HZ.out⟩
    · obtain ⟨rfl, rfl, rfl⟩ := J4.out rfl
      go_wp2_with fail
      refine (C1.out _ HB3.out).mono ?_
      rintro e w4 ⟨rfl, hb⟩
      have HB4 : Hid (Below w.heap.size w w4) := HB3.out.trans (hb.mono HB3.out.size)
      have HV4 : Hid (Below (w.alloc (.cells #[.int .i64 0, .int .i64 0, .int .i64 0] 25)).heap.size (w.alloc (.cells #[.int .i64 0, .int .i64 0, .int .i64 0] 25)) w4) := HV3.out.trans (hb.mono HV3.out.size)
      clear hb
      obtain ⟨x, x0, x1, x2, x4⟩ := HX.out _ HV4.out
      clear HX J3 J4 C1 HV1 HV2 HV3 HV4
      have Y : ∀ i, i < 3 → w4.cell? ⟨w.heap.size, i, none⟩ = some (.int .i64 0) := fun i hi => by rcases (show i = 0 ∨ i = 1 ∨ i = 2 by omega) with rfl | rfl | rfl <;> assumption
      go_wp2
      obtain ⟨y0, y1, y2⟩ := set3 (.int .i64 zt) (.int .i64 zm) (.int .i64 zr) Y
      have HZ : Hid (Below w.heap.size w (((w4.setCell ⟨w.heap.size, 0, none⟩ (.int .i64 zt)).setCell ⟨w.heap.size, 1, none⟩ (.int .i64 zm)).setCell ⟨w.heap.size, 2, none⟩ (.int .i64 zr))) := ((HB4.out.setCell (Nat.le_refl _) _).setCell (Nat.le_refl _) _).setCell (Nat.le_refl _) _
      refine bodyPost_ret (v := .tuple #[.agg #[.int .i64 zt, .int .i64 zm, .int .i64 zr], .bool true]) (by simp [results, Tryd.results6, go_sem, y0, y1, y2]) rfl ⟨rfl, HZ.out⟩
end Go.Proofs.YtnpbjomohncaaaaDoor
