/-
  Contracts: JoinPieces in the model of it.
-/
import Derived.Test.YtmimilchldjkbaaDoorJ3
namespace Go.Proofs.YtmimilchldjkbaaDoor
open Go.RowKit
set_option linter.unusedVariables false
set_option linter.unusedSimpArgs false

/-- Three numbers in a block of the call's own. -/
structure Tri (w : World) (b : Nat) (x y z : Int) : Prop where
  lt : b < w.heap.size
  c0 : w.cell? ⟨b, 0, none⟩ = some (.int .i64 x)
  c1 : w.cell? ⟨b, 1, none⟩ = some (.int .i64 y)
  c2 : w.cell? ⟨b, 2, none⟩ = some (.int .i64 z)
  fz : ∀ i, w.frozen? ⟨b, i, none⟩ = false
theorem Tri.below {w w' : World} {b : Nat} {x y z : Int} (h : Tri w b x y z) (hb : Below w.heap.size w w') : Tri w' b x y z :=
  ⟨Nat.lt_of_lt_of_le h.lt hb.size, cell_at hb h.c0, cell_at hb h.c1, cell_at hb h.c2, fun i => by rw [hb.frozen (p := ⟨b, i, none⟩) h.lt]; exact h.fz i⟩
theorem Tri.far {w : World} {b : Nat} {x y z : Int} (h : Tri w b x y z) {a : Addr} (ha : a.block ≠ b) (v : Value) : Tri (w.setCell a v) b x y z :=
  ⟨by simpa using h.lt, by rw [World.cell?_setCell_other _ _ _ _ (fun e => ha (by rw [e]))]; exact h.c0, by rw [World.cell?_setCell_other _ _ _ _ (fun e => ha (by rw [e]))]; exact h.c1, by rw [World.cell?_setCell_other _ _ _ _ (fun e => ha (by rw [e]))]; exact h.c2, fun i => by simpa using h.fz i⟩
theorem Tri.set0 {w : World} {b : Nat} {x y z : Int} (h : Tri w b x y z) (q : Int) : Tri (w.setCell ⟨b, 0, none⟩ (.int .i64 q)) b q y z :=
  ⟨by simpa using h.lt, World.cell?_setCell_same _ _ _ h.c0, by rw [World.cell?_setCell_other _ _ _ _ (by simp)]; exact h.c1, by rw [World.cell?_setCell_other _ _ _ _ (by simp)]; exact h.c2, fun i => by simpa using h.fz i⟩
theorem Tri.set1 {w : World} {b : Nat} {x y z : Int} (h : Tri w b x y z) (q : Int) : Tri (w.setCell ⟨b, 1, none⟩ (.int .i64 q)) b x q z :=
  ⟨by simpa using h.lt, by rw [World.cell?_setCell_other _ _ _ _ (by simp)]; exact h.c0, World.cell?_setCell_same _ _ _ h.c1, by rw [World.cell?_setCell_other _ _ _ _ (by simp)]; exact h.c2, fun i => by simpa using h.fz i⟩
theorem Tri.set2 {w : World} {b : Nat} {x y z : Int} (h : Tri w b x y z) (q : Int) : Tri (w.setCell ⟨b, 2, none⟩ (.int .i64 q)) b x y q :=
  ⟨by simpa using h.lt, by rw [World.cell?_setCell_other _ _ _ _ (by simp)]; exact h.c0, by rw [World.cell?_setCell_other _ _ _ _ (by simp)]; exact h.c1, World.cell?_setCell_same _ _ _ h.c2, fun i => by simpa using h.fz i⟩
theorem Tri.draw {w : World} {b : Nat} {x y z : Int} (h : Tri w b x y z) : Tri w.drew b x y z := ⟨h.lt, h.c0, h.c1, h.c2, h.fz⟩

set_option maxHeartbeats 4000000 in
set_option maxRecDepth 100000 in
theorem c_sbJoin (n : Nat) (xs : List Int) (v : Value) (w : World) (o : Nat) (ho : bestR (rkT xs n) 5 = o) (h0 : 0 < n) (hl : n ≤ 20) (hp : PieTo xs n) (h : SeenP w v n xs) :
    Calls Tryd.prog 69 #[v] w fun e w' => e = .returned (.agg #[.int .i64 (suF xs 0 n), .int .i64 (suF xs 1 n), .int .i64 (o : Int)]) ∧ Below w.heap.size w w' := by
  obtain ⟨i0, hi0, hz0, hz1, hz2⟩ := info_parts int_info
  have hmk : ∀ W : World, (Instr.makeSlice 24 (.int .i64 5) (.int .i64 5)).run Tryd.prog W = .ok (.slice (some ⟨W.heap.size, 0, none⟩) 5 5) (W.alloc (.cells (madeCells #[.int .i64 0] 5) 3)) := fun W => by
    have := run_make (P := Tryd.prog) W 24 3 i0 (.int .i64 0) Tryd.underlying24 hi0 hz0 .i64 .i64 5 5 (by omega) (by omega) (by rw [hz2]; omega) (by omega)
    simpa [hz1, Value.cells] using this
  clear hi0 hz0 hz1 hz2
  obtain ⟨b, off, c, rfl, hc⟩ := seen_cells3 h h0
  have HC := Lib.hid hc
  have HP : Hid (∀ k, k < n → 0 ≤ xs.getD (k * 3) 0 ∧ xs.getD (k * 3) 0 ≤ 10000 ∧ 0 ≤ xs.getD (k * 3 + 1) 0 ∧ xs.getD (k * 3 + 1) 0 ≤ 10000000 ∧ ∃ r : Nat, r < 5 ∧ xs.getD (k * 3 + 2) 0 = (r : Int)) := fun k hk => by
    obtain ⟨t0, t1, m0, m1, r0, r1⟩ := pie_true (hp k hk)
    exact ⟨t0, t1, m0, by omega, (xs.getD (k * 3 + 2) 0).toNat, by omega, by omega⟩
  have HN : Hid (∀ k, k ≤ n → 0 ≤ suF xs 0 k ∧ suF xs 0 k ≤ 200000 ∧ 0 ≤ suF xs 1 k ∧ suF xs 1 k ≤ 200000000) := fun k hk => by
    obtain ⟨a0, a1, a2, a3⟩ := suF_box k (hp.less hk)
    omega
  have HT : Hid (∀ k, k ≤ n → ∀ r, 0 ≤ (rkT xs k).getD r 0 ∧ (rkT xs k).getD r 0 ≤ 200000) := fun k hk r => by
    have := rkT_box k (hp.less hk) r
    omega
  have HS : Hid (∀ k, rkT xs (k + 1) = (rkT xs k).set (xs.getD (k * 3 + 2) 0).toNat ((rkT xs k).getD (xs.getD (k * 3 + 2) 0).toNat 0 + xs.getD (k * 3) 0)) := fun k => rfl
  have HS0 : Hid (∀ k, suF xs 0 (k + 1) = suF xs 0 k + xs.getD (k * 3) 0) := fun k => rfl
  have HS1 : Hid (∀ k, suF xs 1 (k + 1) = suF xs 1 k + xs.getD (k * 3 + 1) 0) := fun k => rfl
  have Hba : Hid (Below w.heap.size w ((w.alloc (.cells #[.int .i64 0, .int .i64 0, .int .i64 0] 105)).alloc (.cells #[.int .i64 0, .int .i64 0, .int .i64 0] 105))) := ((Below.refl _ _).alloc (Nat.le_refl _) _).alloc (by simp) _
  have HR : Hid (Tri ((w.alloc (.cells #[.int .i64 0, .int .i64 0, .int .i64 0] 105)).alloc (.cells #[.int .i64 0, .int .i64 0, .int .i64 0] 105)) w.heap.size 0 0 0) := ⟨by simp; omega, by simp, by simp, by simp, fun i => by simp⟩
  have HO : Hid (Tri ((w.alloc (.cells #[.int .i64 0, .int .i64 0, .int .i64 0] 105)).alloc (.cells #[.int .i64 0, .int .i64 0, .int .i64 0] 105)) (w.heap.size + 1) (suF xs 0 0) (suF xs 1 0) 0) := ⟨by simp, by simp [suF], by simp [suF], by simp, fun i => by simp⟩
  have hsz : ((w.alloc (.cells #[.int .i64 0, .int .i64 0, .int .i64 0] 105)).alloc (.cells #[.int .i64 0, .int .i64 0, .int .i64 0] 105)).heap.size = w.heap.size + 2 := by simp
  clear hc h hp
  go_enter Tryd.func69, Tryd.ntmps69
  go_wp2_with fail
  generalize (w.alloc (.cells #[.int .i64 0, .int .i64 0, .int .i64 0] 105)).alloc (.cells #[.int .i64 0, .int .i64 0, .int .i64 0] 105) = w0 at *
  have hba : Below w0.heap.size w0 (w0.alloc (.cells (madeCells #[.int .i64 0] 5) 3)) := (Below.refl _ _).alloc (Nat.le_refl _) _
  have HA0 : Hid (Arr5 (w0.alloc (.cells (madeCells #[.int .i64 0] 5) 3)) (w.heap.size + 2) (rkT xs 0)) := by
    rw [← hsz]
    refine ⟨rfl, by simp, fun i hi => ?_, fun i => by simp⟩
    rcases (show i = 0 ∨ i = 1 ∨ i = 2 ∨ i = 3 ∨ i = 4 by omega) with rfl | rfl | rfl | rfl | rfl <;> simp [rkT, madeCells]
  have HB1 : Hid (Below w.heap.size w (w0.alloc (.cells (madeCells #[.int .i64 0] 5) 3))) := Hba.out.trans (hba.mono (by omega))
  have HR1 := Lib.hid (HR.out.below hba)
  have HO1 := Lib.hid (HO.out.below hba)
  clear hba HR HO Hba hmk
  generalize w0.alloc (.cells (madeCells #[.int .i64 0] 5) 3) = w1 at *
  clear hsz w0
  go_loopw [13] (fun i wr => ∃ k : Nat, k ≤ n ∧ i = .int .i64 k ∧ Arr5 wr (w.heap.size + 2) (rkT xs k) ∧ Tri wr (w.heap.size + 1) (suF xs 0 k) (suF xs 1 k) 0 ∧ Tri wr w.heap.size 0 0 0 ∧ Below w.heap.size w wr) (fun i _ => n - (intOf i).toNat)
  case atStart => exact ⟨0, Nat.zero_le _, rfl, HA0.out, HO1.out, HR1.out, HB1.out⟩
  case round =>
    obtain ⟨k, hk, rfl, ha, ht, hr, hbw⟩ := hrel
    have HA := Lib.hid ha
    have HO := Lib.hid ht
    have HR := Lib.hid hr
    have HW := Lib.hid hbw
    have sw := hbw.size
    have hlt5 := ha.lt
    by_cases hlt : k < n
    · obtain ⟨q0, q1, q2⟩ := HC.out wr HW.out k hlt
      obtain ⟨t0, t1, m0, m1, r, r5, er⟩ := HP.out k hlt
      have X := Lib.hid (HS.out k)
      have X0 := Lib.hid (HS0.out k)
      have X1 := Lib.hid (HS1.out k)
      rw [er] at q2 X
      simp only [Int.toNat_natCast] at X
      obtain ⟨s0, s1⟩ := HT.out k hk r
      obtain ⟨u0, u1, u2, u3⟩ := HN.out k hk
      obtain ⟨z, z0, z1, z2, z4⟩ := HO.out
      clear ha ht hr hbw
      generalize xs.getD (k * 3) 0 = t at *
      generalize xs.getD (k * 3 + 1) 0 = m at *
      generalize hs : (rkT xs k).getD r 0 = s at *
      generalize hs0 : suF xs 0 k = a at *
      generalize hs1 : suF xs 1 k = d at *
      have b1 : (0 : Int) ≤ (k : Int) := by omega
      have b2 : (k : Int) < (n : Int) := by omega
      have b3 : (0 : Int) ≤ (r : Int) := by omega
      have b4 : (r : Int) < 5 := by omega
      clear er hs0 hs1
      go_wp2_with fail
      have N2 : Hid (Tri ((wr.setCell ⟨w.heap.size + 1, 0, none⟩ (.int .i64 (a + t))).setCell ⟨w.heap.size + 1, 1, none⟩ (.int .i64 (d + m))) (w.heap.size + 1) (a + t) (d + m) 0) := (HO.out.set0 (a + t)).set1 (d + m)
      have N3 : Hid (Tri ((wr.setCell ⟨w.heap.size + 1, 0, none⟩ (.int .i64 (a + t))).setCell ⟨w.heap.size + 1, 1, none⟩ (.int .i64 (d + m))) w.heap.size 0 0 0) := (HR.out.far (by simp) _).far (by simp) _
      have N4 : Hid (Arr5 ((wr.setCell ⟨w.heap.size + 1, 0, none⟩ (.int .i64 (a + t))).setCell ⟨w.heap.size + 1, 1, none⟩ (.int .i64 (d + m))) (w.heap.size + 2) (rkT xs k)) := (HA.out.far (by simp) _).far (by simp) _
      have N5 : Hid (Below w.heap.size w ((wr.setCell ⟨w.heap.size + 1, 0, none⟩ (.int .i64 (a + t))).setCell ⟨w.heap.size + 1, 1, none⟩ (.int .i64 (d + m)))) := (HW.out.setCell (Nat.le_succ _) _).setCell (Nat.le_succ _) _
      have hs2 : ((wr.setCell ⟨w.heap.size + 1, 0, none⟩ (.int .i64 (a + t))).setCell ⟨w.heap.size + 1, 1, none⟩ (.int .i64 (d + m))).heap.size = wr.heap.size := by simp
      have qa := (HA.out.far (a := ⟨w.heap.size + 1, 0, none⟩) (by simp) (.int .i64 (a + t))).far (a := ⟨w.heap.size + 1, 1, none⟩) (by simp) (.int .i64 (d + m)) |>.at_ r r5
      rw [hs] at qa
      have fa := N4.out.fz r
      clear HA HO HR HW q0 q1 q2 z0 z1 z2 z4 hs
      generalize (wr.setCell ⟨w.heap.size + 1, 0, none⟩ (.int .i64 (a + t))).setCell ⟨w.heap.size + 1, 1, none⟩ (.int .i64 (d + m)) = w2 at *
      rw [← hs2] at hlt5 sw z ⊢
      clear hs2
      go_region
      go_wp2
      have M1 : Hid (Arr5 (((w2.setCell ⟨w.heap.size + 2, r, none⟩ (.int .i64 (s + t))).alloc (.cells #[.int .i64 t, .int .i64 m, .int .i64 (r : Int)] 105)).drew) (w.heap.size + 2) (rkT xs (k + 1))) := by
        rw [X.out]; exact ((N4.out.set_ r5 (s + t)).below ((Below.refl _ _).alloc (Nat.le_refl _) _)).draw
      have M2 : Hid (Tri (((w2.setCell ⟨w.heap.size + 2, r, none⟩ (.int .i64 (s + t))).alloc (.cells #[.int .i64 t, .int .i64 m, .int .i64 (r : Int)] 105)).drew) (w.heap.size + 1) (suF xs 0 (k + 1)) (suF xs 1 (k + 1)) 0) := by
        rw [X0.out, X1.out]; exact ((N2.out.far (by simp) _).below ((Below.refl _ _).alloc (Nat.le_refl _) _)).draw
      have M3 : Hid (Tri (((w2.setCell ⟨w.heap.size + 2, r, none⟩ (.int .i64 (s + t))).alloc (.cells #[.int .i64 t, .int .i64 m, .int .i64 (r : Int)] 105)).drew) w.heap.size 0 0 0) := ((N3.out.far (by simp) _).below ((Below.refl _ _).alloc (Nat.le_refl _) _)).draw
      have M4 : Hid (Below w.heap.size w (((w2.setCell ⟨w.heap.size + 2, r, none⟩ (.int .i64 (s + t))).alloc (.cells #[.int .i64 t, .int .i64 m, .int .i64 (r : Int)] 105)).drew)) := ((N5.out.setCell (Nat.le_add_right _ _) _).alloc (by simpa using sw) _).drew
      go_roundw
      case rel => exact ⟨k + 1, by omega, by go_num, M1.out, M2.out, M3.out, M4.out⟩
      case measure => simp [intOf]; omega
    · obtain rfl : k = n := by omega
      have HTn := Lib.hid (HT.out k (Nat.le_refl _))
      clear HC HP HN HT HS HS0 HS1 HO1 HR1 HB1 HA0 ha ht hr hbw
      generalize hS0 : suF xs 0 k = S0 at *
      generalize hS1 : suF xs 1 k = S1 at *
      generalize rkT xs k = T at *
      have HLT : Hid (∀ j, bestR T j ≤ j - 1) := bestR_lt T
      have HBS : Hid (∀ j, bestR T (j + 1) = if T.getD (bestR T j) 0 < T.getD j 0 then j else bestR T j) := fun j => rfl
      have HB0 : Hid (bestR T 0 = 0) := rfl
      generalize bestR T = BR at *
      go_wp2_with fail
      go_loopw [41] (fun i wz => ∃ j : Nat, j ≤ 5 ∧ i = .int .i64 j ∧ Arr5 wz (w.heap.size + 2) T ∧ Tri wz (w.heap.size + 1) S0 S1 (BR j : Int) ∧ Tri wz w.heap.size 0 0 0 ∧ Below w.heap.size w wz) (fun i _ => 5 - (intOf i).toNat)
      case atStart => exact ⟨0, by omega, rfl, HA.out, by rw [HB0.out]; exact HO.out, HR.out, HW.out⟩
      case round =>
        obtain ⟨j, hj, rfl, ha2, ho2, hr2, hb2⟩ := hrel
        have HA2 := Lib.hid ha2
        have HO2 := Lib.hid ho2
        have HR2 := Lib.hid hr2
        have HW2 := Lib.hid hb2
        have sw2 := hb2.size
        have hlt52 := ha2.lt
        obtain ⟨z, z0, z1, z2, z4⟩ := ho2
        clear ha2 hb2 hr2
        have lj := HLT.out j
        by_cases hlt2 : j < 5
        · have r5 : BR j < 5 := by omega
          have qa := HA2.out.at_ j hlt2
          have qb := HA2.out.at_ (BR j) r5
          have X := Lib.hid (HBS.out j)
          generalize T.getD j 0 = x at *
          generalize T.getD (BR j) 0 = y at *
          generalize hz : BR j = q at *
          have b1 : (0 : Int) ≤ (j : Int) := by omega
          have b2 : (j : Int) < 5 := by omega
          have b3 : (0 : Int) ≤ (q : Int) := by omega
          have b4 : (q : Int) < 5 := by omega
          by_cases hxy : y < x
          · rw [if_pos hxy] at X
            go_wp2_with fail
            go_roundw
            case rel => exact ⟨j + 1, by omega, by go_num, HA2.out.far (by simp) _, by rw [X.out]; exact HO2.out.set2 _, HR2.out.far (by simp) _, HW2.out.setCell (Nat.le_succ _) _⟩
            case measure => simp [intOf]; omega
          · rw [if_neg hxy] at X
            go_wp2_with fail
            go_roundw
            case rel => exact ⟨j + 1, by omega, by go_num, HA2.out, by rw [X.out]; exact HO2.out, HR2.out, HW2.out⟩
            case measure => simp [intOf]; omega
        · obtain rfl : j = 5 := by omega
          obtain ⟨y, y0, y1, y2, y4⟩ := HR2.out
          have Y : ∀ i, i < 3 → wr.cell? ⟨w.heap.size, i, none⟩ = some (.int .i64 0) := fun i hi => by rcases (show i = 0 ∨ i = 1 ∨ i = 2 by omega) with rfl | rfl | rfl <;> assumption
          go_wp2
          obtain ⟨e0, e1, e2⟩ := set3 (.int .i64 S0) (.int .i64 S1) (.int .i64 (o : Int)) Y
          have HZ : Hid (Below w.heap.size w (((wr.setCell ⟨w.heap.size, 0, none⟩ (.int .i64 S0)).setCell ⟨w.heap.size, 1, none⟩ (.int .i64 S1)).setCell ⟨w.heap.size, 2, none⟩ (.int .i64 (o : Int)))) := ((HW2.out.setCell (Nat.le_refl _) _).setCell (Nat.le_refl _) _).setCell (Nat.le_refl _) _
          refine bodyPost_ret (v := .agg #[.int .i64 S0, .int .i64 S1, .int .i64 (o : Int)]) (by simp [results, Tryd.results69, go_sem, e0, e1, e2]) rfl ⟨by rw [hS0, hS1], HZ.out⟩
end Go.Proofs.YtmimilchldjkbaaDoor
