/-
  Contracts: JoinPieces, in the program and in the model of it.
-/
import Derived.Test.YtmimilchldjkbaaDoorJ2
namespace Go.Proofs.YtmimilchldjkbaaDoor
open Go.RowKit
set_option linter.unusedVariables false
set_option linter.unusedSimpArgs false

theorem set3 {u : World} {b : Nat} (x y z : Value) (h : ∀ i, i < 3 → u.cell? ⟨b, i, none⟩ = some (.int .i64 0)) : (((u.setCell ⟨b, 0, none⟩ x).setCell ⟨b, 1, none⟩ y).setCell ⟨b, 2, none⟩ z).cell? ⟨b, 0, none⟩ = some x ∧ (((u.setCell ⟨b, 0, none⟩ x).setCell ⟨b, 1, none⟩ y).setCell ⟨b, 2, none⟩ z).cell? ⟨b, 1, none⟩ = some y ∧ (((u.setCell ⟨b, 0, none⟩ x).setCell ⟨b, 1, none⟩ y).setCell ⟨b, 2, none⟩ z).cell? ⟨b, 2, none⟩ = some z := by
  have h0 := h 0 (by omega)
  have h1 := h 1 (by omega)
  have h2 := h 2 (by omega)
  refine ⟨?_, ?_, ?_⟩
  · rw [World.cell?_setCell_other _ _ _ _ (by simp), World.cell?_setCell_other _ _ _ _ (by simp), World.cell?_setCell_same _ _ _ h0]
  · rw [World.cell?_setCell_other _ _ _ _ (by simp), World.cell?_setCell_same _ _ _ (u := .int .i64 0) (by rw [World.cell?_setCell_other _ _ _ _ (by simp)]; exact h1)]
  · exact World.cell?_setCell_same _ _ _ (u := .int .i64 0) (by rw [World.cell?_setCell_other _ _ _ _ (by simp), World.cell?_setCell_other _ _ _ _ (by simp)]; exact h2)

set_option maxHeartbeats 4000000 in
set_option maxRecDepth 100000 in
theorem c_JoinPieces (n : Nat) (xs : List Int) (v : Value) (w : World) (hl : n ≤ 1048576) (h : SeenP w v n xs) (hk : RK w) :
    Calls Tryd.prog 75 #[v] w fun e w' => e = .returned (.tuple #[.agg #[.int .i64 (joT n xs), .int .i64 (joM n xs), .int .i64 (joR n xs)], .bool (joB n xs)]) ∧ Below w.heap.size w w' := by
  have HS := Lib.hid h
  have HK := Lib.hid hk
  have hba : Below w.heap.size w (w.alloc (.cells #[.int .i64 0, .int .i64 0, .int .i64 0] 105)) := (Below.refl _ _).alloc (Nat.le_refl _) _
  have HB0 := Lib.hid hba
  obtain ⟨A, c, rfl, _⟩ := id h
  clear h hk hba
  have HC : Hid (∀ u, Below w.heap.size w u → Calls Tryd.prog 113 #[.slice A n c] u fun e w' => e = .returned (.bool (piesB n xs)) ∧ Below u.heap.size u w') := fun u hu => c_arePieces n xs _ u hl (HS.out.below hu)
  have HX : Hid (∀ u, Below (w.alloc (.cells #[.int .i64 0, .int .i64 0, .int .i64 0] 105)).heap.size (w.alloc (.cells #[.int .i64 0, .int .i64 0, .int .i64 0] 105)) u → (∀ i, i < 3 → u.cell? ⟨w.heap.size, i, none⟩ = some (.int .i64 0)) ∧ w.heap.size < u.heap.size ∧ ∀ i, u.frozen? ⟨w.heap.size, i, none⟩ = false) := fun u hu => ⟨fun i hi => cell_at hu (by rcases (show i = 0 ∨ i = 1 ∨ i = 2 by omega) with rfl | rfl | rfl <;> simp), by have := hu.size; simp at this; omega, fun i => by rw [hu.frozen (p := ⟨w.heap.size, i, none⟩) (by simp)]; simp⟩
  cases hq : piesB n xs
  · have hj : joB n xs = false := by unfold joB; rw [hq]; rfl
    obtain ⟨j1, j2, j3⟩ := jo_no hj
    rw [hj, j1, j2, j3]
    go_enter Tryd.func75, Tryd.ntmps75
    go_wp2_with fail
    refine (HC.out _ HB0.out).mono ?_
    rintro e w1 ⟨rfl, hb1⟩
    rw [hq]
    have HB1 : Hid (Below w.heap.size w w1) := HB0.out.trans (hb1.mono HB0.out.size)
    obtain ⟨x, x3, x4⟩ := HX.out _ hb1
    have x0 := x 0 (by omega)
    have x1 := x 1 (by omega)
    have x2 := x 2 (by omega)
    clear hb1 HC HX
    go_wp2
    obtain ⟨y0, y1, y2⟩ := set3 (.int .i64 0) (.int .i64 0) (.int .i64 0) x
    have HZ : Hid (Below w.heap.size w (((w1.setCell ⟨w.heap.size, 0, none⟩ (.int .i64 0)).setCell ⟨w.heap.size, 1, none⟩ (.int .i64 0)).setCell ⟨w.heap.size, 2, none⟩ (.int .i64 0))) := ((HB1.out.setCell (Nat.le_refl _) _).setCell (Nat.le_refl _) _).setCell (Nat.le_refl _) _
    refine bodyPost_ret (v := .tuple #[.agg #[.int .i64 0, .int .i64 0, .int .i64 0], .bool false]) (by simp [results, Tryd.results75, go_sem, y0, y1, y2]) rfl ⟨rfl, HZ.out⟩
  · obtain ⟨n1, n2, h3⟩ := pies_true hq
    have hP : Hid (PieTo xs n) := fun j hj => pieAll_at h3 hj
    have C1 : Hid (∀ u, Below w.heap.size w u → Calls Tryd.prog 114 #[.slice A n c, .func (.func 115) #[] #[]] u fun e w' => e = .returned (.int .i64 (suF xs 0 n)) ∧ Below u.heap.size u w') := fun u hu => c_sumOver1 n xs _ u n1 n2 hP.out (HS.out.below hu)
    have C2 : Hid (∀ u, Below w.heap.size w u → Calls Tryd.prog 114 #[.slice A n c, .func (.func 116) #[] #[]] u fun e w' => e = .returned (.int .i64 (suF xs 1 n)) ∧ Below u.heap.size u w') := fun u hu => c_sumOver2 n xs _ u n1 n2 hP.out (HS.out.below hu)
    have C3 : Hid (∀ u, Below w.heap.size w u → Calls Tryd.prog 117 #[.slice A n c] u fun e w' => e = .returned (.int .i64 (bestR (rkT xs n) 5 : Int)) ∧ Below u.heap.size u w') := fun u hu => c_mainRock n xs _ u n1 n2 hP.out (HS.out.below hu) (HK.out.below hu)
    obtain ⟨t0, t1, m0, m1⟩ := suF_box n hP.out
    have J1 : Hid (¬ suF xs 0 n ≤ 10000 → joB n xs = false) := fun h => by unfold joB; rw [decide_eq_false h, Bool.and_false]
    have J2 : Hid (suF xs 0 n ≤ 10000 → joB n xs = true) := fun h => by unfold joB; rw [decide_eq_true h, hq]; rfl
    have J3 : Hid (joB n xs = false → joT n xs = 0 ∧ joM n xs = 0 ∧ joR n xs = 0) := jo_no
    have J4 : Hid (joB n xs = true → joT n xs = suF xs 0 n ∧ joM n xs = suF xs 1 n ∧ joR n xs = (bestR (rkT xs n) 5 : Int)) := jo_yes
    rw [hq] at HC
    clear hq h3 hP HK HS
    generalize suF xs 0 n = T at *
    generalize suF xs 1 n = M at *
    generalize bestR (rkT xs n) 5 = R at *
    generalize joT n xs = zt at *
    generalize joM n xs = zm at *
    generalize joR n xs = zr at *
    generalize joB n xs = zb at *
    by_cases hT : T ≤ 10000
    · have hj := J2.out hT
      obtain ⟨rfl, rfl, rfl⟩ := J4.out hj
      subst hj
      clear J1 J2 J3 J4
      go_enter Tryd.func75, Tryd.ntmps75
      go_wp2_with fail
      refine (HC.out _ HB0.out).mono ?_
      rintro e w1 ⟨rfl, hb1⟩
      have HB1 : Hid (Below w.heap.size w w1) := HB0.out.trans (hb1.mono HB0.out.size)
      have HV1 := Lib.hid hb1
      clear hb1 HC
      go_wp2_with fail
      refine (C1.out _ HB1.out).mono ?_
      rintro e w2 ⟨rfl, hb2⟩
      have HB2 : Hid (Below w.heap.size w w2) := HB1.out.trans (hb2.mono HB1.out.size)
      have HV2 : Hid (Below (w.alloc (.cells #[.int .i64 0, .int .i64 0, .int .i64 0] 105)).heap.size (w.alloc (.cells #[.int .i64 0, .int .i64 0, .int .i64 0] 105)) w2) := HV1.out.trans (hb2.mono HV1.out.size)
      clear hb2 C1
      go_wp2_with fail
      refine (C2.out _ HB2.out).mono ?_
      rintro e w3 ⟨rfl, hb3⟩
      have HB3 : Hid (Below w.heap.size w w3) := HB2.out.trans (hb3.mono HB2.out.size)
      have HV3 : Hid (Below (w.alloc (.cells #[.int .i64 0, .int .i64 0, .int .i64 0] 105)).heap.size (w.alloc (.cells #[.int .i64 0, .int .i64 0, .int .i64 0] 105)) w3) := HV2.out.trans (hb3.mono HV2.out.size)
      clear hb3 C2
      go_wp2_with fail
      refine (C3.out _ HB3.out).mono ?_
      rintro e w4 ⟨rfl, hb4⟩
      have HB4 : Hid (Below w.heap.size w w4) := HB3.out.trans (hb4.mono HB3.out.size)
      obtain ⟨x, x3, x4⟩ := HX.out _ (HV3.out.trans (hb4.mono HV3.out.size))
      have x0 := x 0 (by omega)
      have x1 := x 1 (by omega)
      have x2 := x 2 (by omega)
      clear hb4 C3 HX HV1 HV2 HV3
      go_wp2
      obtain ⟨y0, y1, y2⟩ := set3 (.int .i64 zt) (.int .i64 zm) (.int .i64 (R : Int)) x
      have HZ : Hid (Below w.heap.size w (((w4.setCell ⟨w.heap.size, 0, none⟩ (.int .i64 zt)).setCell ⟨w.heap.size, 1, none⟩ (.int .i64 zm)).setCell ⟨w.heap.size, 2, none⟩ (.int .i64 (R : Int)))) := ((HB4.out.setCell (Nat.le_refl _) _).setCell (Nat.le_refl _) _).setCell (Nat.le_refl _) _
      refine bodyPost_ret (v := .tuple #[.agg #[.int .i64 zt, .int .i64 zm, .int .i64 (R : Int)], .bool true]) (by simp [results, Tryd.results75, go_sem, y0, y1, y2]) rfl ⟨rfl, HZ.out⟩
    · have hj := J1.out hT
      obtain ⟨rfl, rfl, rfl⟩ := J3.out hj
      subst hj
      clear J1 J2 J3 J4
      go_enter Tryd.func75, Tryd.ntmps75
      go_wp2_with fail
      refine (HC.out _ HB0.out).mono ?_
      rintro e w1 ⟨rfl, hb1⟩
      have HB1 : Hid (Below w.heap.size w w1) := HB0.out.trans (hb1.mono HB0.out.size)
      have HV1 := Lib.hid hb1
      clear hb1 HC
      go_wp2_with fail
      refine (C1.out _ HB1.out).mono ?_
      rintro e w2 ⟨rfl, hb2⟩
      have HB2 : Hid (Below w.heap.size w w2) := HB1.out.trans (hb2.mono HB1.out.size)
      obtain ⟨x, x3, x4⟩ := HX.out _ (HV1.out.trans (hb2.mono HV1.out.size))
      have x0 := x 0 (by omega)
      have x1 := x 1 (by omega)
      have x2 := x 2 (by omega)
      clear hb2 C1 C2 C3 HX HV1
      go_wp2
      obtain ⟨y0, y1, y2⟩ := set3 (.int .i64 0) (.int .i64 0) (.int .i64 0) x
      have HZ : Hid (Below w.heap.size w (((w2.setCell ⟨w.heap.size, 0, none⟩ (.int .i64 0)).setCell ⟨w.heap.size, 1, none⟩ (.int .i64 0)).setCell ⟨w.heap.size, 2, none⟩ (.int .i64 0))) := ((HB2.out.setCell (Nat.le_refl _) _).setCell (Nat.le_refl _) _).setCell (Nat.le_refl _) _
      refine bodyPost_ret (v := .tuple #[.agg #[.int .i64 0, .int .i64 0, .int .i64 0], .bool false]) (by simp [results, Tryd.results75, go_sem, y0, y1, y2]) rfl ⟨rfl, HZ.out⟩
end Go.Proofs.YtmimilchldjkbaaDoor
