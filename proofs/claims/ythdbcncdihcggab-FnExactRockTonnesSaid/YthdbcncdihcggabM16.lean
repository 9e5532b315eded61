/-
  Contracts: RockTonnes, in the program and in the model of it.
-/
import Derived.Test.YthdbcncdihcggabS2
import Derived.Test.YthdbcncdihcggabM13
import Derived.BigRegion
import Derived.Deep.RegionHeld3
namespace Go.Proofs.Ythdbcncdihcggab
open Go.RowKit
set_option linter.unusedVariables false

theorem Box6.drew {w : World} {b : Nat} {x y z : Int} {v1 v2 v3 : Value} (h : Box6 w b x y z v1 v2 v3) : Box6 w.drew b x y z v1 v2 v3 := ⟨h.lt, h.c0, h.c1, h.c2, h.c3, h.c4, h.c5⟩
def roL (x y z : Int) (ts gs rs : List Int) : List Int := if moB x y z ts gs rs then rockL ts rs ts.length else []

set_option maxHeartbeats 4000000 in
theorem c_RockTonnesS (x y z : Int) (v1 v2 v3 : Value) (ts gs rs : List Int) (w : World) (l1 : ts.length ≤ 4000000) (l2 : gs.length ≤ 4000000) (l3 : rs.length ≤ 4000000) (h : Look w v1 v2 v3 ts gs rs) :
    Calls Try.prog 15 #[.agg #[.int .i64 x, .int .i64 y, .int .i64 z, v1, v2, v3]] w (GivesRow2 w (roL x y z ts gs rs) (moB x y z ts gs rs)) := by
  obtain ⟨i0, hi0, hz0, hz1, hz2⟩ := info_parts int_info
  have hmk : ∀ W : World, (Instr.makeSlice 24 (.int .i64 5) (.int .i64 5)).run Try.prog W = .ok (.slice (some ⟨W.heap.size, 0, none⟩) 5 5) (W.alloc (.cells (madeCells #[.int .i64 0] 5) 3)) := fun W => by
    have := run_make (P := Try.prog) W 24 3 i0 (.int .i64 0) Try.underlying24 hi0 hz0 .i64 .i64 5 5 (by omega) (by omega) (by rw [hz2]; omega) (by omega)
    simpa [hz1, Value.cells] using this
  clear hi0 hz0 hz1 hz2
  have HTA : Hid (∀ k : Nat, k < ts.length → ∃ b off c, v1 = .slice (some ⟨b, off, none⟩) ts.length c ∧ b < w.heap.size ∧ w.cell? ⟨b, off + k, none⟩ = some (.int .i64 (ts.getD k 0))) := fun k hk => h.t.at_ hk
  have HRA : Hid (∀ k : Nat, k < rs.length → ∃ b off c, v3 = .slice (some ⟨b, off, none⟩) rs.length c ∧ b < w.heap.size ∧ w.cell? ⟨b, off + k, none⟩ = some (.int .i64 (rs.getD k 0))) := fun k hk => h.r.at_ hk
  have H := Lib.hid h
  obtain ⟨A1, c1, rfl⟩ := h.t.shape
  obtain ⟨A2, c2, rfl⟩ := h.g.shape
  obtain ⟨A3, c3, rfl⟩ := h.r.shape
  clear h
  have HX0 : Hid (Box6 (w.alloc (.cells #[.int .i64 x, .int .i64 y, .int .i64 z, (.slice A1 ts.length c1), (.slice A2 gs.length c2), (.slice A3 rs.length c3)] 32)) w.heap.size x y z (.slice A1 ts.length c1) (.slice A2 gs.length c2) (.slice A3 rs.length c3)) := Box6.new _ _ _ _ _ _ _ _
  have HB0 : Hid (Below w.heap.size w (w.alloc (.cells #[.int .i64 x, .int .i64 y, .int .i64 z, (.slice A1 ts.length c1), (.slice A2 gs.length c2), (.slice A3 rs.length c3)] 32))) := (Below.refl _ _).alloc (Nat.le_refl _) _
  unfold roL
  cases hm : moB x y z ts gs rs
  · have HM := Lib.hid hm
    simp only [Bool.false_eq_true, if_false]
    clear hm hmk
    go_enter Try.func15, Try.ntmps15
    go_wp2_with fail
    refine (c_moGood x y z _ _ _ ts gs rs _ l1 l2 l3 (H.out.below HB0.out)).mono ?_
    rintro e w1 ⟨rfl, hb1⟩
    rw [HM.out]
    have HX1 := Lib.hid (HX0.out.below hb1)
    have HB1 : Hid (Below w.heap.size w w1) := HB0.out.trans (hb1.mono HB0.out.size)
    clear hb1
    go_wp2
    go_ret2
    exact ⟨_, rfl, Row.nil _ _, HB1.out⟩
  · have HM := Lib.hid hm
    simp only [if_true]
    have E1 : Hid (∀ k : Nat, k < ts.length → ∃ r : Nat, rs.getD k 0 = (r : Int) ∧ r < 5 ∧ k < rs.length ∧ 0 ≤ ts.getD k 0 ∧ ts.getD k 0 ≤ 10000) := fun k hk => by
      obtain ⟨k1, k2, k3, t0, t1, g0, g1, r0, r1, _⟩ := metal_box hm (k := k) (by have := (mo_true hm).2.1; omega)
      exact ⟨(rs.getD k 0).toNat, by omega, by omega, k3, t0, t1⟩
    have EN : Hid (rs.length = ts.length) := by have := mo_true hm; unfold Hid; omega
    have EB : Hid (∀ r k : Nat, k ≤ ts.length → 0 ≤ sumN (rockF ts rs r) k ∧ sumN (rockF ts rs r) k ≤ 10000000 * k) := fun r k hk => sumN_box (n := ts.length) (fun j hj => rock_box hm r (by have := (mo_true hm).2.1; omega)) (by omega) k hk
    have EL : Hid (∀ k, (rockL ts rs k).length = 5) := rockL_len ts rs
    have ED : Hid (∀ k r : Nat, r < 5 → (rockL ts rs k).getD r 0 = sumN (rockF ts rs r) k) := rockL_getD ts rs
    have ES : Hid (∀ k r : Nat, rs.getD k 0 = (r : Int) → r < 5 → (rockL ts rs k).set r (sumN (rockF ts rs r) k + ts.getD k 0) = rockL ts rs (k + 1)) := rockL_set ts rs
    have EZ : Hid (rockL ts rs 0 = List.replicate 5 0) := rockL_zero ts rs
    clear hm
    generalize rockL ts rs = L at *
    go_enter Try.func15, Try.ntmps15
    go_wp2_with fail
    refine (c_moGood x y z _ _ _ ts gs rs _ l1 l2 l3 (H.out.below HB0.out)).mono ?_
    rintro e w1 ⟨rfl, hb1⟩
    rw [HM.out]
    have HX1 := Lib.hid (HX0.out.below hb1)
    have HB1 : Hid (Below w.heap.size w w1) := HB0.out.trans (hb1.mono HB0.out.size)
    clear hb1
    have d1_0 := HX1.out.c0
    have d1_1 := HX1.out.c1
    have d1_2 := HX1.out.c2
    have d1_3 := HX1.out.c3
    have d1_4 := HX1.out.c4
    have d1_5 := HX1.out.c5
    have HR1 : Hid (Row (w1.alloc (.cells (madeCells #[.int .i64 0] 5) 3)) w1.heap.size (.slice (some ⟨w1.heap.size, 0, none⟩) 5 5) (L 0)) := by rw [EZ.out]; exact row_zeros w1 5 (by unfold maxLen; omega)
    have HA1 : Hid (Below w1.heap.size w1 (w1.alloc (.cells (madeCells #[.int .i64 0] 5) 3))) := (Below.refl _ _).alloc (Nat.le_refl _) _
    have hk1 := hmk w1
    clear hmk
    have lt1 := HX1.out.lt
    go_wp2_with fail
    go_loopw [14] (fun i wr => ∃ k : Nat, k ≤ ts.length ∧ i = .int .i64 k ∧ Row wr w1.heap.size (.slice (some ⟨w1.heap.size, 0, none⟩) 5 5) (L k) ∧ Below w.heap.size w wr ∧ Box6 wr w.heap.size x y z (.slice A1 ts.length c1) (.slice A2 gs.length c2) (.slice A3 rs.length c3)) (fun i _ => ts.length - (intOf i).toNat)
    case atStart => exact ⟨0, Nat.zero_le _, rfl, HR1.out, HB1.out.trans (HA1.out.mono HB1.out.size), HX1.out.below HA1.out⟩
    case round =>
      obtain ⟨k, hk, rfl, hr, hbw, hbx⟩ := hrel
      have HR := Lib.hid hr
      have HB := Lib.hid hbw
      have HX := Lib.hid hbx
      clear hr hbw hbx hk1
      by_cases hlt : k < ts.length
      · obtain ⟨r, er, hr5, k3, t0, t1⟩ := E1.out k hlt
        obtain ⟨b1, o1, c', ee, hb1, hc1⟩ := HTA.out k hlt
        obtain ⟨rfl, rfl⟩ := (by simpa using ee : A1 = some ⟨b1, o1, none⟩ ∧ c1 = c')
        obtain ⟨b3, o3, c'', ee3, hb3, hc3⟩ := HRA.out k k3
        obtain ⟨rfl, rfl⟩ := (by simpa using ee3 : A3 = some ⟨b3, o3, none⟩ ∧ c3 = c'')
        clear ee ee3
        have q1 : wr.cell? ⟨b1, o1 + k, none⟩ = some (.int .i64 (ts.getD k 0)) := by rw [HB.out.cell (p := ⟨b1, o1 + k, none⟩) hb1]; exact hc1
        have q3 : wr.cell? ⟨b3, o3 + k, none⟩ = some (.int .i64 (r : Int)) := by rw [HB.out.cell (p := ⟨b3, o3 + k, none⟩) hb3, hc3, er]
        have qr : wr.cell? ⟨w1.heap.size, r, none⟩ = some (.int .i64 (sumN (rockF ts rs r) k)) := by rw [HR.out.cellN (EL.out k).symm r (by rw [EL.out]; exact hr5), ED.out k r hr5]
        have fr : wr.frozen? ⟨w1.heap.size, r, none⟩ = false := HR.out.frozenN (EL.out k).symm r
        have d3 := HX.out.c3
        obtain ⟨s0, s1⟩ := EB.out r k hk
        have N1 : Hid (Row (wr.setCell ⟨w1.heap.size, r, none⟩ (.int .i64 (sumN (rockF ts rs r) k + ts.getD k 0))) w1.heap.size (.slice (some ⟨w1.heap.size, 0, none⟩) 5 5) (L (k + 1))) := by
          have := (Row.set_ (EL.out k).symm HR.out r (sumN (rockF ts rs r) k + ts.getD k 0)).1
          rw [ES.out k r er hr5] at this
          exact this
        have N2 : Hid (Below w.heap.size w (wr.setCell ⟨w1.heap.size, r, none⟩ (.int .i64 (sumN (rockF ts rs r) k + ts.getD k 0)))) := HB.out.setCell (by show _ ≤ w1.heap.size; omega) _
        have N3 := Lib.hid (HX.out.far (a := ⟨w1.heap.size, r, none⟩) (by show w1.heap.size ≠ _; omega) (.int .i64 (sumN (rockF ts rs r) k + ts.getD k 0)))
        have en := EN.out
        clear hc1 hc3 er
        generalize ts.getD k 0 = t at *
        generalize sumN (rockF ts rs r) k = s at *
        have b1 : (0 : Int) ≤ (k : Int) := by omega
        have b2 : (k : Int) < (ts.length : Int) := by omega
        have b3 : (k : Int) < (rs.length : Int) := by omega
        have b4 : (0 : Int) ≤ (r : Int) := by omega
        have b5 : (r : Int) < 5 := by omega
        have b6 : s ≤ 40000000000000 := by omega
        clear s1 en
        go_wp2_with fail
        go_region
        go_wp2
        go_roundw
        case rel => exact ⟨k + 1, by omega, by go_num, N1.out, N2.out.drew, N3.out.drew⟩
        case measure => simp [intOf]; omega
      · obtain rfl : k = ts.length := by omega
        have en := EN.out
        go_wp2
        go_ret2
        exact ⟨_, rfl, HR.out.mono HB1.out.size, HB.out⟩

set_option maxHeartbeats 4000000 in
theorem c_RockTonnes (x y z : Int) (v1 v2 v3 : Value) (ts gs rs : List Int) (w : World) (l1 : ts.length ≤ 4000000) (l2 : gs.length ≤ 4000000) (l3 : rs.length ≤ 4000000) (h : Look w v1 v2 v3 ts gs rs) :
    Calls Try.prog 16 #[.agg #[.int .i64 x, .int .i64 y, .int .i64 z, v1, v2, v3]] w (GivesRow2 w (roL x y z ts gs rs) (moB x y z ts gs rs)) := by
  obtain ⟨i0, hi0, hz0, hz1, hz2⟩ := info_parts int_info
  have hmk : ∀ W : World, (Instr.makeSlice 24 (.int .i64 5) (.int .i64 5)).run Try.prog W = .ok (.slice (some ⟨W.heap.size, 0, none⟩) 5 5) (W.alloc (.cells (madeCells #[.int .i64 0] 5) 3)) := fun W => by
    have := run_make (P := Try.prog) W 24 3 i0 (.int .i64 0) Try.underlying24 hi0 hz0 .i64 .i64 5 5 (by omega) (by omega) (by rw [hz2]; omega) (by omega)
    simpa [hz1, Value.cells] using this
  clear hi0 hz0 hz1 hz2
  have H := Lib.hid h
  obtain ⟨A1, c1, rfl⟩ := h.t.shape
  obtain ⟨A2, c2, rfl⟩ := h.g.shape
  obtain ⟨A3, c3, rfl⟩ := h.r.shape
  clear h
  have HX0 : Hid (Box6 (w.alloc (.cells #[.int .i64 x, .int .i64 y, .int .i64 z, (.slice A1 ts.length c1), (.slice A2 gs.length c2), (.slice A3 rs.length c3)] 32)) w.heap.size x y z (.slice A1 ts.length c1) (.slice A2 gs.length c2) (.slice A3 rs.length c3)) := Box6.new _ _ _ _ _ _ _ _
  have HB0 : Hid (Below w.heap.size w (w.alloc (.cells #[.int .i64 x, .int .i64 y, .int .i64 z, (.slice A1 ts.length c1), (.slice A2 gs.length c2), (.slice A3 rs.length c3)] 32))) := (Below.refl _ _).alloc (Nat.le_refl _) _
  unfold roL
  cases hm : moB x y z ts gs rs
  · have HM := Lib.hid hm
    simp only [Bool.false_eq_true, if_false]
    clear hm hmk
    go_enter Try.func16, Try.ntmps16
    go_wp2_with fail
    refine (c_IsModel x y z _ _ _ ts gs rs _ l1 l2 l3 (H.out.below HB0.out)).mono ?_
    rintro e w1 ⟨rfl, hb1⟩
    rw [HM.out]
    have HX1 := Lib.hid (HX0.out.below hb1)
    have HB1 : Hid (Below w.heap.size w w1) := HB0.out.trans (hb1.mono HB0.out.size)
    clear hb1
    go_wp2
    go_ret2
    exact ⟨_, rfl, Row.nil _ _, HB1.out⟩
  · have HM := Lib.hid hm
    simp only [if_true]
    have EN : Hid (rs.length = ts.length) := by have := mo_true hm; unfold Hid; omega
    have CS : Hid (∀ (r : Nat) (v : Value) (u : World), Below w.heap.size w u → Seen u v (sel (pAt (fun t => t == (r : Int)) rs) rs.length) → Calls Try.prog 29 #[.agg #[.int .i64 x, .int .i64 y, .int .i64 z, .slice A1 ts.length c1, .slice A2 gs.length c2, .slice A3 rs.length c3], v] u fun e w' => ∃ q, e = .returned (.tuple #[.int .i64 (sumN (rockF ts rs r) ts.length), .int .i64 q]) ∧ Below u.heap.size u w') := fun r v u hu hs => by
      have hN := mo_true hm
      have hl : (sel (pAt (fun t => t == (r : Int)) rs) rs.length).length ≤ 4000000 := Nat.le_trans (sel_len _ _) l3
      have hL : listB x y z ts gs rs (sel (pAt (fun t => t == (r : Int)) rs) rs.length) = true := by
        unfold listB; rw [hm, sel_risB _ (by omega)]; rfl
      exact (c_sumBlocks x y z _ _ _ ts gs rs v _ u l1 l2 hl (H.out.below hu) hs hL).mono fun e w' hh => ⟨sumM ts gs (sel (pAt (fun t => t == (r : Int)) rs) rs.length), by rw [hh.1, rock_sum, EN.out], hh.2⟩
    have CW : Hid (∀ (r : Nat) (b5 : Nat) (u : World), Below w.heap.size w u → b5 < u.heap.size → u.cell? ⟨b5, 0, none⟩ = some (.int .i64 r) → Calls Try.prog 25 #[.slice A3 rs.length c3, .func (.func 28) #[] #[.pointer (some ⟨b5, 0, none⟩)]] u (GivesRow u (sel (pAt (fun t => t == (r : Int)) rs) rs.length))) := fun r b5 u hu hb hc =>
      c_whereRock rs _ b5 (fun t => t == (r : Int)) u l3 (H.out.r.below hu) (fun k u' hk hu' => c_fnRock _ _ r u' (by rw [hu'.cell (p := ⟨b5, 0, none⟩) hb]; exact hc))
    have EL : Hid (∀ j, (rockP ts rs ts.length j).length = 5) := rockP_len ts rs ts.length
    have ES : Hid (∀ j : Nat, j < 5 → (rockP ts rs ts.length j).set j (sumN (rockF ts rs j) ts.length) = rockP ts rs ts.length (j + 1)) := rockP_set ts rs ts.length
    have EZ : Hid (rockP ts rs ts.length 0 = List.replicate 5 0) := rockP_zero ts rs _
    have EA : Hid (rockP ts rs ts.length 5 = rockL ts rs ts.length) := rockP_all ts rs _
    clear hm
    generalize rockL ts rs ts.length = LL at *
    generalize rockP ts rs ts.length = L at *
    go_enter Try.func16, Try.ntmps16
    go_wp2_with fail
    refine (c_IsModel x y z _ _ _ ts gs rs _ l1 l2 l3 (H.out.below HB0.out)).mono ?_
    rintro e w1 ⟨rfl, hb1⟩
    rw [HM.out]
    have HX1 := Lib.hid (HX0.out.below hb1)
    have HB1 : Hid (Below w.heap.size w w1) := HB0.out.trans (hb1.mono HB0.out.size)
    clear hb1
    have d1_0 := HX1.out.c0
    have d1_1 := HX1.out.c1
    have d1_2 := HX1.out.c2
    have d1_3 := HX1.out.c3
    have d1_4 := HX1.out.c4
    have d1_5 := HX1.out.c5
    have HR1 : Hid (Row (w1.alloc (.cells (madeCells #[.int .i64 0] 5) 3)) w1.heap.size (.slice (some ⟨w1.heap.size, 0, none⟩) 5 5) (L 0)) := by rw [EZ.out]; exact row_zeros w1 5 (by unfold maxLen; omega)
    have HA1 : Hid (Below w1.heap.size w1 (w1.alloc (.cells (madeCells #[.int .i64 0] 5) 3))) := (Below.refl _ _).alloc (Nat.le_refl _) _
    have hk1 := hmk w1
    clear hmk
    have lt1 := HX1.out.lt
    go_wp2_with fail
    go_loopw [13] (fun i wr => ∃ j : Nat, j ≤ 5 ∧ i = .int .i64 j ∧ Row wr w1.heap.size (.slice (some ⟨w1.heap.size, 0, none⟩) 5 5) (L j) ∧ Below w.heap.size w wr ∧ Box6 wr w.heap.size x y z (.slice A1 ts.length c1) (.slice A2 gs.length c2) (.slice A3 rs.length c3)) (fun i _ => 5 - (intOf i).toNat)
    case atStart => exact ⟨0, Nat.zero_le _, rfl, HR1.out, HB1.out.trans (HA1.out.mono HB1.out.size), HX1.out.below HA1.out⟩
    case round =>
      obtain ⟨j, hj, rfl, hr, hbw, hbx⟩ := hrel
      have HR := Lib.hid hr
      have HB := Lib.hid hbw
      have HX := Lib.hid hbx
      clear hr hbw hbx hk1
      by_cases hlt : j < 5
      · have b1 : (0 : Int) ≤ (j : Int) := by omega
        have b2 : (j : Int) < 5 := by omega
        have hba : Below wr.heap.size wr (wr.alloc (.cells #[.int .i64 j] 3)) := (Below.refl _ _).alloc (Nat.le_refl _) _
        have HRa := Lib.hid (HR.out.below hba)
        have HXa := Lib.hid (HX.out.below hba)
        have HBa : Hid (Below w.heap.size w (wr.alloc (.cells #[.int .i64 j] 3))) := HB.out.trans (hba.mono HB.out.size)
        have HCa : Hid ((wr.alloc (.cells #[.int .i64 j] 3)).cell? ⟨wr.heap.size, 0, none⟩ = some (.int .i64 j)) := by simp [Hid]
        have HZa : Hid (wr.heap.size < (wr.alloc (.cells #[.int .i64 j] 3)).heap.size) := by simp [Hid]
        have ltr := HX.out.lt
        have HW1 : Hid (w1.heap.size < wr.heap.size) := by
          obtain ⟨g, c, e, hg1, hg2⟩ := HR.out.form (by rw [EL.out]; omega)
          simp at e
          rw [← e.1] at hg2
          exact hg2
        clear hba
        go_upto_region 7 with fail
        generalize wr.alloc (.cells #[.int .i64 j] 3) = wa at *
        have a5 := HXa.out.c5
        go_wp2_with fail
        refine (CW.out j wr.heap.size wa HBa.out HZa.out HCa.out).mono ?_
        rintro e w2 ⟨v, rfl, hr2, hb2⟩
        obtain ⟨V, cV, rfl⟩ := hr2.shape
        have HV := Lib.hid hr2.seen
        have HR2 := Lib.hid (HRa.out.below hb2)
        have HX2 := Lib.hid (HXa.out.below hb2)
        have HB2 : Hid (Below w.heap.size w w2) := HBa.out.trans (hb2.mono HBa.out.size)
        have HC2 : Hid (w2.cell? ⟨wr.heap.size, 0, none⟩ = some (.int .i64 j)) := by unfold Hid; rw [hb2.cell (p := ⟨wr.heap.size, 0, none⟩) HZa.out]; exact HCa.out
        have HZ2 : Hid (wr.heap.size < w2.heap.size) := Nat.lt_of_lt_of_le HZa.out hb2.size
        clear hr2 hb2
        go_upto_region 8 with fail
        have KE : Hid (∀ u, Below w2.heap.size w2 u → (u.cell? ⟨w.heap.size, 0, none⟩ = some (.int .i64 x) ∧ u.cell? ⟨w.heap.size, 1, none⟩ = some (.int .i64 y) ∧ u.cell? ⟨w.heap.size, 2, none⟩ = some (.int .i64 z) ∧ u.cell? ⟨w.heap.size, 3, none⟩ = some (.slice A1 ts.length c1) ∧ u.cell? ⟨w.heap.size, 4, none⟩ = some (.slice A2 gs.length c2) ∧ u.cell? ⟨w.heap.size, 5, none⟩ = some (.slice A3 rs.length c3)) ∧ u.cell? ⟨wr.heap.size, 0, none⟩ = some (.int .i64 j)) := fun u hu => by
          have hX := HX2.out.below hu
          exact ⟨⟨hX.c0, hX.c1, hX.c2, hX.c3, hX.c4, hX.c5⟩, by rw [hu.cell (p := ⟨wr.heap.size, 0, none⟩) HZ2.out]; exact HC2.out⟩
        have KF : Hid (∀ (u : World) (v : Value), Below w2.heap.size w2 u → ((u.setCell ⟨w1.heap.size, j, none⟩ v).cell? ⟨w.heap.size, 0, none⟩ = some (.int .i64 x) ∧ (u.setCell ⟨w1.heap.size, j, none⟩ v).cell? ⟨w.heap.size, 1, none⟩ = some (.int .i64 y) ∧ (u.setCell ⟨w1.heap.size, j, none⟩ v).cell? ⟨w.heap.size, 2, none⟩ = some (.int .i64 z) ∧ (u.setCell ⟨w1.heap.size, j, none⟩ v).cell? ⟨w.heap.size, 3, none⟩ = some (.slice A1 ts.length c1) ∧ (u.setCell ⟨w1.heap.size, j, none⟩ v).cell? ⟨w.heap.size, 4, none⟩ = some (.slice A2 gs.length c2) ∧ (u.setCell ⟨w1.heap.size, j, none⟩ v).cell? ⟨w.heap.size, 5, none⟩ = some (.slice A3 rs.length c3)) ∧ (u.setCell ⟨w1.heap.size, j, none⟩ v).cell? ⟨wr.heap.size, 0, none⟩ = some (.int .i64 j)) := fun u v hu => by
          obtain ⟨⟨h3, h4, h5, h6, h7, h8⟩, h9⟩ := KE.out u hu
          have w1r := HW1.out
          have e : ∀ b o, w1.heap.size ≠ b → (u.setCell ⟨w1.heap.size, j, none⟩ v).cell? ⟨b, o, none⟩ = u.cell? ⟨b, o, none⟩ := fun b o hb => World.cell?_setCell_other _ _ _ _ (fun e => hb (congrArg Addr.block e))
          exact ⟨⟨by rw [e _ _ (by omega)]; exact h3, by rw [e _ _ (by omega)]; exact h4, by rw [e _ _ (by omega)]; exact h5, by rw [e _ _ (by omega)]; exact h6, by rw [e _ _ (by omega)]; exact h7, by rw [e _ _ (by omega)]; exact h8⟩, by rw [e _ _ (by omega)]; exact h9⟩
        have KD : Hid (Below w2.heap.size w2 w2.drew) := (Below.refl _ _).drew
        have CX : Hid (∀ u : World, Below w2.heap.size w2 u → Calls Try.prog 29 #[.agg #[.int .i64 x, .int .i64 y, .int .i64 z, .slice A1 ts.length c1, .slice A2 gs.length c2, .slice A3 rs.length c3], .slice V (sel (pAt (fun t => t == (j : Int)) rs) rs.length).length cV] u fun e w' => ∃ q, e = .returned (.tuple #[.int .i64 (sumN (rockF ts rs j) ts.length), .int .i64 q]) ∧ Below u.heap.size u w') := fun u hu => CS.out j _ u (HB2.out.trans (hu.mono HB2.out.size)) (HV.out.below hu)
        have es : Hid ((L j).set j (sumN (rockF ts rs j) ts.length) = L (j + 1)) := ES.out j hlt
        generalize (sel (pAt (fun t => t == (j : Int)) rs) rs.length).length = nv at *
        generalize sumN (rockF ts rs j) ts.length = s at *
        go_region_held3 (fun u => (u.cell? ⟨w.heap.size, 0, none⟩ = some (.int .i64 x) ∧ u.cell? ⟨w.heap.size, 1, none⟩ = some (.int .i64 y) ∧ u.cell? ⟨w.heap.size, 2, none⟩ = some (.int .i64 z) ∧ u.cell? ⟨w.heap.size, 3, none⟩ = some (.slice A1 ts.length c1) ∧ u.cell? ⟨w.heap.size, 4, none⟩ = some (.slice A2 gs.length c2) ∧ u.cell? ⟨w.heap.size, 5, none⟩ = some (.slice A3 rs.length c3)) ∧ u.cell? ⟨wr.heap.size, 0, none⟩ = some (.int .i64 j)) (first | with_reducible exact KE.out _ KD.out | with_reducible exact KE.out _ HU3.out | with_reducible exact KF.out _ _ HU3.out)
          (first
            | (go_at_call 29; (with_reducible refine (CX.out _ KD.out).mono ?_); rintro e w3 ⟨q, rfl, hb3⟩; have HU3 : Hid (Below w2.heap.size w2 w3) := KD.out.trans (hb3.mono KD.out.size); clear hb3; have qr := (HR2.out.below HU3.out).cellN (EL.out j).symm j (by rw [EL.out]; exact hlt); have fr := (HR2.out.below HU3.out).frozenN (EL.out j).symm j))
        go_wp2
        have N1 : Hid (Row (w3.setCell ⟨w1.heap.size, j, none⟩ (.int .i64 s)) w1.heap.size (.slice (some ⟨w1.heap.size, 0, none⟩) 5 5) (L (j + 1))) := by
          have := (Row.set_ (EL.out j).symm (HR2.out.below HU3.out) j s).1
          rw [es.out] at this
          exact this
        have N2 : Hid (Below w.heap.size w (w3.setCell ⟨w1.heap.size, j, none⟩ (.int .i64 s))) := (HB2.out.trans (HU3.out.mono HB2.out.size)).setCell (by show _ ≤ w1.heap.size; omega) _
        have N3 := Lib.hid ((HX2.out.below HU3.out).far (a := ⟨w1.heap.size, j, none⟩) (by show w1.heap.size ≠ _; omega) (.int .i64 s))
        go_roundw
        case rel => exact ⟨j + 1, by omega, by go_num, N1.out, N2.out, N3.out⟩
        case measure => simp [intOf]; omega
      · obtain rfl : j = 5 := by omega
        go_wp2
        go_ret2
        exact ⟨_, rfl, by have := HR.out; rw [EA.out] at this; exact this.mono HB1.out.size, HB.out⟩
end Go.Proofs.Ythdbcncdihcggab
