/-
  Contracts: PriceValues, in the program and in the model of it.
-/
import Derived.Test.YtdodmcmkelegoaaW9
import Derived.Test.YtdodmcmkelegoaaM13
import Derived.Test.YtdodmcmkelegoaaBoxT
import Derived.Test.YtdodmcmkelegoaaM10
namespace Go.Proofs.Ytdodmcmkelegoaa
open Go.RowKit
set_option linter.unusedVariables false

/-- The first j values of f, zeros behind them. -/
def partL (f : Nat → Int) (n j : Nat) : List Int := (List.range n).map fun k => if k < j then f k else 0
theorem partL_len (f : Nat → Int) (n j : Nat) : (partL f n j).length = n := by simp [partL]
theorem partL_zero (f : Nat → Int) (n : Nat) : partL f n 0 = List.replicate n 0 := by
  apply List.ext_getElem
  · simp [partL]
  · intro t h1 h2
    simp [partL]
theorem partL_set (f : Nat → Int) (n j : Nat) : (partL f n j).set j (f j) = partL f n (j + 1) := by
  apply List.ext_getElem
  · simp [partL]
  · intro t h1 h2
    simp only [partL, List.getElem_set, List.getElem_map, List.getElem_range]
    by_cases e : j = t
    · subst e; simp
    · simp only [e, if_false]
      by_cases l : t < j
      · rw [if_pos l, if_pos (by omega)]
      · rw [if_neg l, if_neg (by omega)]
/-- The first j values of f. -/
def firL (f : Nat → Int) (j : Nat) : List Int := (List.range j).map f
theorem firL_len (f : Nat → Int) (j : Nat) : (firL f j).length = j := by simp [firL]
theorem firL_succ (f : Nat → Int) (j : Nat) : firL f (j + 1) = firL f j ++ [f j] := by simp [firL, List.range_succ]
theorem partL_all (f : Nat → Int) (n : Nat) : partL f n n = firL f n := by
  apply List.ext_getElem
  · simp [partL, firL]
  · intro t h1 h2
    simp [partL] at h1
    simp [partL, firL, h1]

def wrF (ts gs : List Int) (p q r s : Int) (k : Nat) : Int := worV (metal ts gs k) (ts.getD k 0) p q r s
def pvG (x y z : Int) (ts gs rs : List Int) (p q r s : Int) : Bool := moB x y z ts gs rs && priB p q r s
def pvL (x y z : Int) (ts gs rs : List Int) (p q r s : Int) : List Int := if pvG x y z ts gs rs p q r s then firL (wrF ts gs p q r s) ts.length else []
theorem pvL_no {x y z : Int} {ts gs rs : List Int} {p q r s : Int} (h : pvG x y z ts gs rs p q r s = false) : pvL x y z ts gs rs p q r s = [] := by unfold pvL; rw [h]; rfl
theorem pvL_yes {x y z : Int} {ts gs rs : List Int} {p q r s : Int} (h : pvG x y z ts gs rs p q r s = true) : pvL x y z ts gs rs p q r s = firL (wrF ts gs p q r s) ts.length := by unfold pvL; rw [h]; rfl
theorem pvL_len (x y z : Int) (ts gs rs : List Int) (p q r s : Int) (h : ts.length ≤ 4000000) : (pvL x y z ts gs rs p q r s).length ≤ 4000000 := by
  unfold pvL
  split
  · rw [firL_len]; exact h
  · simp
theorem mo_len {x y z : Int} {ts gs rs : List Int} (h : moB x y z ts gs rs = true) : ts.length ≤ 120 ∧ (ts.length : Int) = x * y * z := by
  obtain ⟨_, _, _, _, _, _, _, _, q1, q2⟩ := good_box (mo_true h).1
  have := (mo_true h).2.1
  omega
theorem Box4.far {w : World} {b : Nat} {p q r s : Int} (h : Box4 w b p q r s) {a : Addr} (ha : a.block ≠ b) (u : Value) : Box4 (w.setCell a u) b p q r s := by
  have e : ∀ o, (w.setCell a u).cell? ⟨b, o, none⟩ = w.cell? ⟨b, o, none⟩ := fun o => World.cell?_setCell_other _ _ _ _ (fun e => ha (by rw [e]))
  exact ⟨by simpa using h.lt, by rw [e]; exact h.c0, by rw [e]; exact h.c1, by rw [e]; exact h.c2, by rw [e]; exact h.c3⟩

set_option maxHeartbeats 4000000 in
set_option maxRecDepth 100000 in
theorem c_PriceValues (x y z : Int) (v1 v2 v3 : Value) (ts gs rs : List Int) (p q r s : Int) (w : World) (l1 : ts.length ≤ 4000000) (l2 : gs.length ≤ 4000000) (l3 : rs.length ≤ 4000000) (h : Look w v1 v2 v3 ts gs rs) :
    Calls Try.prog 30 #[.agg #[.int .i64 x, .int .i64 y, .int .i64 z, v1, v2, v3], .agg #[.int .i64 p, .int .i64 q, .int .i64 r, .int .i64 s]] w (GivesRow2 w (pvL x y z ts gs rs p q r s) (pvG x y z ts gs rs p q r s)) := by
  obtain ⟨i0, hi0, hz0, hz1, hz2⟩ := info_parts int_info
  have hmk : ∀ (n : Nat) (W : World), n ≤ 120 → (Instr.makeSlice 24 (.int .i64 (n : Int)) (.int .i64 (n : Int))).run Try.prog W = .ok (.slice (some ⟨W.heap.size, 0, none⟩) n n) (W.alloc (.cells (madeCells #[.int .i64 0] n) 3)) := fun n W hn => by
    have := run_make (P := Try.prog) W 24 3 i0 (.int .i64 0) Try.underlying24 hi0 hz0 .i64 .i64 (n : Int) (n : Int) (by omega) (by omega) (by rw [hz2]; omega) (by omega)
    simpa [hz1, Value.cells] using this
  clear hi0 hz0 hz1 hz2
  have H := Lib.hid h
  obtain ⟨A1, c1, rfl⟩ := h.t.shape
  obtain ⟨A2, c2, rfl⟩ := h.g.shape
  obtain ⟨A3, c3, rfl⟩ := h.r.shape
  clear h
  have HX0 : Hid (Box6 ((w.alloc (.cells #[.int .i64 x, .int .i64 y, .int .i64 z, .slice A1 ts.length c1, .slice A2 gs.length c2, .slice A3 rs.length c3] 34)).alloc (.cells #[.int .i64 p, .int .i64 q, .int .i64 r, .int .i64 s] 51)) w.heap.size x y z (.slice A1 ts.length c1) (.slice A2 gs.length c2) (.slice A3 rs.length c3)) := (Box6.new _ _ _ _ _ _ _ _).below ((Below.refl _ _).alloc (Nat.le_refl _) _)
  have HY0 : Hid (Box4 ((w.alloc (.cells #[.int .i64 x, .int .i64 y, .int .i64 z, .slice A1 ts.length c1, .slice A2 gs.length c2, .slice A3 rs.length c3] 34)).alloc (.cells #[.int .i64 p, .int .i64 q, .int .i64 r, .int .i64 s] 51)) (w.heap.size + 1) p q r s) := by
    have := Box4.new (w.alloc (.cells #[.int .i64 x, .int .i64 y, .int .i64 z, .slice A1 ts.length c1, .slice A2 gs.length c2, .slice A3 rs.length c3] 34)) p q r s 51
    simp at this
    exact this
  have HB0 : Hid (Below w.heap.size w ((w.alloc (.cells #[.int .i64 x, .int .i64 y, .int .i64 z, .slice A1 ts.length c1, .slice A2 gs.length c2, .slice A3 rs.length c3] 34)).alloc (.cells #[.int .i64 p, .int .i64 q, .int .i64 r, .int .i64 s] 51))) := ((Below.refl _ _).alloc (Nat.le_refl _) _).alloc (by simp) _
  have HI : Hid (∀ u, Below w.heap.size w u → Calls Try.prog 65 #[.agg #[.int .i64 x, .int .i64 y, .int .i64 z, .slice A1 ts.length c1, .slice A2 gs.length c2, .slice A3 rs.length c3]] u fun e w' => e = .returned (.bool (moB x y z ts gs rs)) ∧ Below u.heap.size u w') := fun u hu => c_IsModel x y z _ _ _ ts gs rs u l1 l2 l3 (H.out.below hu)
  have HP : Hid (∀ u, Below w.heap.size w u → Calls Try.prog 74 #[.agg #[.int .i64 p, .int .i64 q, .int .i64 r, .int .i64 s]] u fun e w' => e = .returned (.bool (priB p q r s)) ∧ Below u.heap.size u w') := fun u hu => c_ArePrices p q r s u
  cases hm : moB x y z ts gs rs
  · have e : pvG x y z ts gs rs p q r s = false := by unfold pvG; rw [hm]; rfl
    rw [pvL_no e, e]
    rw [hm] at HI
    clear hm e HP hmk
    go_enter Try.func30, Try.ntmps30
    go_wp2_with fail
    refine (HI.out _ HB0.out).mono ?_
    rintro e w1 ⟨rfl, hb1⟩
    have HX1 := Lib.hid (HX0.out.below hb1)
    have HY1 := Lib.hid (HY0.out.below hb1)
    have HB1 : Hid (Below w.heap.size w w1) := HB0.out.trans (hb1.mono HB0.out.size)
    clear hb1
    have d1_0 := HX1.out.c0
    have d1_1 := HX1.out.c1
    have d1_2 := HX1.out.c2
    have d1_3 := HX1.out.c3
    have d1_4 := HX1.out.c4
    have d1_5 := HX1.out.c5
    have f1_0 := HY1.out.c0
    have f1_1 := HY1.out.c1
    have f1_2 := HY1.out.c2
    have f1_3 := HY1.out.c3
    go_wp2
    go_ret2
    exact ⟨_, rfl, Row.nil _ _, HB1.out⟩
  · rw [hm] at HI
    cases hp : priB p q r s
    · have e : pvG x y z ts gs rs p q r s = false := by unfold pvG; rw [hp, Bool.and_false]
      rw [pvL_no e, e]
      rw [hp] at HP
      clear hm hp e hmk
      go_enter Try.func30, Try.ntmps30
      go_wp2_with fail
      refine (HI.out _ HB0.out).mono ?_
      rintro e w1 ⟨rfl, hb1⟩
      have HX1 := Lib.hid (HX0.out.below hb1)
      have HY1 := Lib.hid (HY0.out.below hb1)
      have HB1 : Hid (Below w.heap.size w w1) := HB0.out.trans (hb1.mono HB0.out.size)
      clear hb1
      have d1_0 := HX1.out.c0
      have d1_1 := HX1.out.c1
      have d1_2 := HX1.out.c2
      have d1_3 := HX1.out.c3
      have d1_4 := HX1.out.c4
      have d1_5 := HX1.out.c5
      have f1_0 := HY1.out.c0
      have f1_1 := HY1.out.c1
      have f1_2 := HY1.out.c2
      have f1_3 := HY1.out.c3
      go_wp2_with fail
      refine (HP.out _ HB1.out).mono ?_
      rintro e w2 ⟨rfl, hb2⟩
      have HX2 := Lib.hid (HX1.out.below hb2)
      have HY2 := Lib.hid (HY1.out.below hb2)
      have HB2 : Hid (Below w.heap.size w w2) := HB1.out.trans (hb2.mono HB1.out.size)
      clear hb2
      have d2_0 := HX2.out.c0
      have d2_1 := HX2.out.c1
      have d2_2 := HX2.out.c2
      have d2_3 := HX2.out.c3
      have d2_4 := HX2.out.c4
      have d2_5 := HX2.out.c5
      have f2_0 := HY2.out.c0
      have f2_1 := HY2.out.c1
      have f2_2 := HY2.out.c2
      have f2_3 := HY2.out.c3
      go_wp2
      go_ret2
      exact ⟨_, rfl, Row.nil _ _, HB2.out⟩
    · rw [hp] at HP
      have e : pvG x y z ts gs rs p q r s = true := by unfold pvG; rw [hm, hp]; rfl
      rw [pvL_yes e, e]
      obtain ⟨n120, nxy⟩ := mo_len hm
      have HW : Hid (∀ (k : Nat) (u : World), k < ts.length → Below w.heap.size w u → Calls Try.prog 75 #[.agg #[.int .i64 x, .int .i64 y, .int .i64 z, .slice A1 ts.length c1, .slice A2 gs.length c2, .slice A3 rs.length c3], .agg #[.int .i64 p, .int .i64 q, .int .i64 r, .int .i64 s], .int .i64 (k : Int)] u fun e w' => e = .returned (.int .i64 (wrF ts gs p q r s k)) ∧ Below u.heap.size u w') := fun k u hk hu => by
        obtain ⟨k1, k2, k3, t0, t1, g0, g1, r0, r1, m0, m1⟩ := metal_box hm (k := k) (by omega)
        exact c_worthAt x y z _ _ _ ts gs rs p q r s k u (H.out.below hu) k1 k2 l1 l2 t0 t1 g0 g1 hp
      clear H
      have EL : Hid (∀ j, (partL (wrF ts gs p q r s) ts.length j).length = ts.length) := partL_len _ _
      have ES : Hid (∀ j : Nat, (partL (wrF ts gs p q r s) ts.length j).set j (wrF ts gs p q r s j) = partL (wrF ts gs p q r s) ts.length (j + 1)) := partL_set _ _
      have EZ : Hid (partL (wrF ts gs p q r s) ts.length 0 = List.replicate ts.length 0) := partL_zero _ _
      have EA : Hid (partL (wrF ts gs p q r s) ts.length ts.length = firL (wrF ts gs p q r s) ts.length) := partL_all _ _
      clear hm hp e nxy
      generalize partL (wrF ts gs p q r s) ts.length = L at *
      generalize firL (wrF ts gs p q r s) ts.length = LL at *
      generalize wrF ts gs p q r s = F at *
      generalize ts.length = nt at *
      generalize gs.length = ng at *
      generalize rs.length = nr at *
      go_enter Try.func30, Try.ntmps30
      go_wp2_with fail
      refine (HI.out _ HB0.out).mono ?_
      rintro e w1 ⟨rfl, hb1⟩
      have HX1 := Lib.hid (HX0.out.below hb1)
      have HY1 := Lib.hid (HY0.out.below hb1)
      have HB1 : Hid (Below w.heap.size w w1) := HB0.out.trans (hb1.mono HB0.out.size)
      clear hb1
      have d1_0 := HX1.out.c0
      have d1_1 := HX1.out.c1
      have d1_2 := HX1.out.c2
      have d1_3 := HX1.out.c3
      have d1_4 := HX1.out.c4
      have d1_5 := HX1.out.c5
      have f1_0 := HY1.out.c0
      have f1_1 := HY1.out.c1
      have f1_2 := HY1.out.c2
      have f1_3 := HY1.out.c3
      go_wp2_with fail
      refine (HP.out _ HB1.out).mono ?_
      rintro e w2 ⟨rfl, hb2⟩
      have HX2 := Lib.hid (HX1.out.below hb2)
      have HY2 := Lib.hid (HY1.out.below hb2)
      have HB2 : Hid (Below w.heap.size w w2) := HB1.out.trans (hb2.mono HB1.out.size)
      clear hb2
      have d2_0 := HX2.out.c0
      have d2_1 := HX2.out.c1
      have d2_2 := HX2.out.c2
      have d2_3 := HX2.out.c3
      have d2_4 := HX2.out.c4
      have d2_5 := HX2.out.c5
      have f2_0 := HY2.out.c0
      have f2_1 := HY2.out.c1
      have f2_2 := HY2.out.c2
      have f2_3 := HY2.out.c3
      have HR2 : Hid (Row (w2.alloc (.cells (madeCells #[.int .i64 0] nt) 3)) w2.heap.size (.slice (some ⟨w2.heap.size, 0, none⟩) nt nt) (L 0)) := by rw [EZ.out]; exact row_zeros w2 nt (by unfold maxLen; omega)
      have HA2 : Hid (Below w2.heap.size w2 (w2.alloc (.cells (madeCells #[.int .i64 0] nt) 3))) := (Below.refl _ _).alloc (Nat.le_refl _) _
      have hk2 := hmk nt w2 n120
      clear hmk HI HP HX0 HY0
      have lx2 := HX2.out.lt
      have ly2 := HY2.out.lt
      go_wp2_with fail
      go_loopw [22] (fun i wr => ∃ j : Nat, j ≤ nt ∧ i = .int .i64 j ∧ Row wr w2.heap.size (.slice (some ⟨w2.heap.size, 0, none⟩) nt nt) (L j) ∧ Below w.heap.size w wr ∧ Box6 wr w.heap.size x y z (.slice A1 nt c1) (.slice A2 ng c2) (.slice A3 nr c3) ∧ Box4 wr (w.heap.size + 1) p q r s) (fun i _ => nt - (intOf i).toNat)
      case atStart => exact ⟨0, Nat.zero_le _, rfl, HR2.out, HB2.out.trans (HA2.out.mono HB2.out.size), HX2.out.below HA2.out, HY2.out.below HA2.out⟩
      case round =>
        obtain ⟨j, hj, rfl, hr, hbw, hbx, hby⟩ := hrel
        have HR := Lib.hid hr
        have HB := Lib.hid hbw
        have HX := Lib.hid hbx
        have HY := Lib.hid hby
        clear hr hbw hbx hby hk2
        by_cases hlt : j < nt
        · have b1 : (0 : Int) ≤ (j : Int) := by omega
          have b2 : (j : Int) < (nt : Int) := by omega
          have KE : Hid (∀ u, Below wr.heap.size wr u → (u.cell? ⟨w.heap.size, 0, none⟩ = some (.int .i64 x) ∧ u.cell? ⟨w.heap.size, 1, none⟩ = some (.int .i64 y) ∧ u.cell? ⟨w.heap.size, 2, none⟩ = some (.int .i64 z) ∧ u.cell? ⟨w.heap.size, 3, none⟩ = some (.slice A1 nt c1) ∧ u.cell? ⟨w.heap.size, 4, none⟩ = some (.slice A2 ng c2) ∧ u.cell? ⟨w.heap.size, 5, none⟩ = some (.slice A3 nr c3) ∧ u.cell? ⟨w.heap.size + 1, 0, none⟩ = some (.int .i64 p) ∧ u.cell? ⟨w.heap.size + 1, 1, none⟩ = some (.int .i64 q) ∧ u.cell? ⟨w.heap.size + 1, 2, none⟩ = some (.int .i64 r) ∧ u.cell? ⟨w.heap.size + 1, 3, none⟩ = some (.int .i64 s))) := fun u hu => by
            have hX := HX.out.below hu
            have hY := HY.out.below hu
            exact ⟨hX.c0, hX.c1, hX.c2, hX.c3, hX.c4, hX.c5, hY.c0, hY.c1, hY.c2, hY.c3⟩
          have CX : Hid (∀ u : World, Below wr.heap.size wr u → Calls Try.prog 75 #[.agg #[.int .i64 x, .int .i64 y, .int .i64 z, .slice A1 nt c1, .slice A2 ng c2, .slice A3 nr c3], .agg #[.int .i64 p, .int .i64 q, .int .i64 r, .int .i64 s], .int .i64 (j : Int)] u fun e w' => e = .returned (.int .i64 (F j)) ∧ Below u.heap.size u w') := fun u hu => HW.out j u hlt (HB.out.trans (hu.mono HB.out.size))
          have es : Hid ((L j).set j (F j) = L (j + 1)) := ES.out j
          generalize F j = s0 at *
          have HK := KE.out wr (Below.refl _ _)
          obtain ⟨k0, k1, k2, k3, k4, k5, k6, k7, k8, k9⟩ := HK
          go_wp2_with fail
          refine (CX.out wr (Below.refl _ _)).mono ?_
          rintro e w3 ⟨rfl, hb3⟩
          have HU3 := Lib.hid hb3
          clear hb3
          have qr := (HR.out.below HU3.out).cellN (EL.out j).symm j (by rw [EL.out]; exact hlt)
          have fr := (HR.out.below HU3.out).frozenN (EL.out j).symm j
          go_wp2
          have N1 : Hid (Row (w3.setCell ⟨w2.heap.size, j, none⟩ (.int .i64 s0)) w2.heap.size (.slice (some ⟨w2.heap.size, 0, none⟩) nt nt) (L (j + 1))) := by
            have := (Row.set_ (EL.out j).symm (HR.out.below HU3.out) j s0).1
            rw [es.out] at this
            exact this
          have N2 : Hid (Below w.heap.size w (w3.setCell ⟨w2.heap.size, j, none⟩ (.int .i64 s0))) := (HB.out.trans (HU3.out.mono HB.out.size)).setCell (by show _ ≤ w2.heap.size; omega) _
          have N3 := Lib.hid ((HX.out.below HU3.out).far (a := ⟨w2.heap.size, j, none⟩) (by show w2.heap.size ≠ _; omega) (.int .i64 s0))
          have N4 := Lib.hid ((HY.out.below HU3.out).far (a := ⟨w2.heap.size, j, none⟩) (by show w2.heap.size ≠ _; omega) (.int .i64 s0))
          go_roundw
          case rel => exact ⟨j + 1, by omega, by go_num, N1.out, N2.out, N3.out, N4.out⟩
          case measure => simp [intOf]; omega
        · obtain rfl : j = nt := by omega
          go_wp2
          go_ret2
          exact ⟨_, rfl, by have := HR.out; rw [EA.out] at this; exact this.mono HB2.out.size, HB.out⟩

set_option maxHeartbeats 4000000 in
set_option maxRecDepth 100000 in
theorem c_vaAll (x y z : Int) (v1 v2 v3 : Value) (ts gs rs : List Int) (p q r s : Int) (w : World) (l1 : ts.length ≤ 4000000) (l2 : gs.length ≤ 4000000) (h : Look w v1 v2 v3 ts gs rs) (hm : moB x y z ts gs rs = true) (hp : priB p q r s = true) :
    Calls Try.prog 76 #[.agg #[.int .i64 x, .int .i64 y, .int .i64 z, v1, v2, v3], .agg #[.int .i64 p, .int .i64 q, .int .i64 r, .int .i64 s]] w (GivesRow w (firL (wrF ts gs p q r s) ts.length)) := by
  obtain ⟨i0, hi0, hz0, hz1, hz2⟩ := info_parts int_info
  have HI := Lib.hid hi0
  clear hi0
  have H := Lib.hid h
  obtain ⟨A1, c1, rfl⟩ := h.t.shape
  obtain ⟨A2, c2, rfl⟩ := h.g.shape
  obtain ⟨A3, c3, rfl⟩ := h.r.shape
  clear h
  have HX0 : Hid (Box6 ((w.alloc (.cells #[.int .i64 x, .int .i64 y, .int .i64 z, .slice A1 ts.length c1, .slice A2 gs.length c2, .slice A3 rs.length c3] 34)).alloc (.cells #[.int .i64 p, .int .i64 q, .int .i64 r, .int .i64 s] 51)) w.heap.size x y z (.slice A1 ts.length c1) (.slice A2 gs.length c2) (.slice A3 rs.length c3)) := (Box6.new _ _ _ _ _ _ _ _).below ((Below.refl _ _).alloc (Nat.le_refl _) _)
  have HY0 : Hid (Box4 ((w.alloc (.cells #[.int .i64 x, .int .i64 y, .int .i64 z, .slice A1 ts.length c1, .slice A2 gs.length c2, .slice A3 rs.length c3] 34)).alloc (.cells #[.int .i64 p, .int .i64 q, .int .i64 r, .int .i64 s] 51)) (w.heap.size + 1) p q r s) := by
    have := Box4.new (w.alloc (.cells #[.int .i64 x, .int .i64 y, .int .i64 z, .slice A1 ts.length c1, .slice A2 gs.length c2, .slice A3 rs.length c3] 34)) p q r s 51
    simp at this
    exact this
  have HB0 : Hid (Below w.heap.size w ((w.alloc (.cells #[.int .i64 x, .int .i64 y, .int .i64 z, .slice A1 ts.length c1, .slice A2 gs.length c2, .slice A3 rs.length c3] 34)).alloc (.cells #[.int .i64 p, .int .i64 q, .int .i64 r, .int .i64 s] 51))) := ((Below.refl _ _).alloc (Nat.le_refl _) _).alloc (by simp) _
  obtain ⟨n120, nxy⟩ := mo_len hm
  have HW : Hid (∀ (k : Nat) (u : World), k < ts.length → Below w.heap.size w u → Calls Try.prog 73 #[.agg #[.int .i64 x, .int .i64 y, .int .i64 z, .slice A1 ts.length c1, .slice A2 gs.length c2, .slice A3 rs.length c3], .agg #[.int .i64 p, .int .i64 q, .int .i64 r, .int .i64 s], .int .i64 (k : Int)] u fun e w' => e = .returned (.int .i64 (wrF ts gs p q r s k)) ∧ Below u.heap.size u w') := fun k u hk hu => by
    obtain ⟨k1, k2, k3, t0, t1, g0, g1, r0, r1, m0, m1⟩ := metal_box hm (k := k) (by omega)
    exact c_vaPrice x y z _ _ _ ts gs rs p q r s k u (H.out.below hu) k1 k2 l1 l2 t0 t1 g0 g1 hp
  clear H
  have EL : Hid (∀ j, (firL (wrF ts gs p q r s) j).length = j) := firL_len _
  have ES : Hid (∀ j : Nat, firL (wrF ts gs p q r s) (j + 1) = firL (wrF ts gs p q r s) j ++ [wrF ts gs p q r s j]) := firL_succ _
  have EZ : Hid (firL (wrF ts gs p q r s) 0 = []) := rfl
  clear hm hp nxy
  generalize firL (wrF ts gs p q r s) = L at *
  generalize wrF ts gs p q r s = F at *
  generalize ts.length = nt at *
  generalize gs.length = ng at *
  generalize rs.length = nr at *
  have HN0 : Hid (Row ((w.alloc (.cells #[.int .i64 x, .int .i64 y, .int .i64 z, .slice A1 nt c1, .slice A2 ng c2, .slice A3 nr c3] 34)).alloc (.cells #[.int .i64 p, .int .i64 q, .int .i64 r, .int .i64 s] 51)) w.heap.size (.slice none 0 0) []) := Row.nil _ _
  have lx0 := HX0.out.lt
  have ly0 := HY0.out.lt
  go_enter Try.func76, Try.ntmps76
  go_wp2_with fail
  generalize ((w.alloc (.cells #[.int .i64 x, .int .i64 y, .int .i64 z, .slice A1 nt c1, .slice A2 ng c2, .slice A3 nr c3] 34)).alloc (.cells #[.int .i64 p, .int .i64 q, .int .i64 r, .int .i64 s] 51)) = wz at *
  go_loopw [5, 10] (fun v i wr => ∃ j : Nat, j ≤ nt ∧ i = .int .i64 j ∧ Row wr wz.heap.size v (L j) ∧ Below wz.heap.size wz wr) (fun _ i _ => nt - (intOf i).toNat)
  case atStart => exact ⟨0, Nat.zero_le _, rfl, by rw [EZ.out]; exact Row.nil _ _, Below.refl _ _⟩
  case round =>
    obtain ⟨j, hj, rfl, hr, hbw⟩ := hrel
    have HR := Lib.hid hr
    have HB := Lib.hid hbw
    clear hr hbw
    by_cases hlt : j < nt
    · have b1 : (0 : Int) ≤ (j : Int) := by omega
      have b2 : (j : Int) < (nt : Int) := by omega
      have KE : Hid (∀ u, Below wz.heap.size wz u → (u.cell? ⟨w.heap.size, 0, none⟩ = some (.int .i64 x) ∧ u.cell? ⟨w.heap.size, 1, none⟩ = some (.int .i64 y) ∧ u.cell? ⟨w.heap.size, 2, none⟩ = some (.int .i64 z) ∧ u.cell? ⟨w.heap.size, 3, none⟩ = some (.slice A1 nt c1) ∧ u.cell? ⟨w.heap.size, 4, none⟩ = some (.slice A2 ng c2) ∧ u.cell? ⟨w.heap.size, 5, none⟩ = some (.slice A3 nr c3) ∧ u.cell? ⟨w.heap.size + 1, 0, none⟩ = some (.int .i64 p) ∧ u.cell? ⟨w.heap.size + 1, 1, none⟩ = some (.int .i64 q) ∧ u.cell? ⟨w.heap.size + 1, 2, none⟩ = some (.int .i64 r) ∧ u.cell? ⟨w.heap.size + 1, 3, none⟩ = some (.int .i64 s))) := fun u hu => by
        have hX := HX0.out.below hu
        have hY := HY0.out.below hu
        exact ⟨hX.c0, hX.c1, hX.c2, hX.c3, hX.c4, hX.c5, hY.c0, hY.c1, hY.c2, hY.c3⟩
      have CX : Hid (∀ u : World, Below wz.heap.size wz u → Calls Try.prog 73 #[.agg #[.int .i64 x, .int .i64 y, .int .i64 z, .slice A1 nt c1, .slice A2 ng c2, .slice A3 nr c3], .agg #[.int .i64 p, .int .i64 q, .int .i64 r, .int .i64 s], .int .i64 (j : Int)] u fun e w' => e = .returned (.int .i64 (F j)) ∧ Below u.heap.size u w') := fun u hu => HW.out j u hlt (HB0.out.trans (hu.mono HB0.out.size))
      have es : Hid (L (j + 1) = L j ++ [F j]) := ES.out j
      have el : (L j).length = j := EL.out j
      generalize F j = s0 at *
      obtain ⟨k0, k1, k2, k3, k4, k5, k6, k7, k8, k9⟩ := KE.out wr HB.out
      go_wp2_with fail
      refine (CX.out wr HB.out).mono ?_
      rintro e w3 ⟨rfl, hb3⟩
      have HR3 := Lib.hid (HR.out.below hb3)
      have HB3 : Hid (Below wz.heap.size wz w3) := HB.out.trans (hb3.mono HB.out.size)
      have sw := HB3.out.size
      clear hb3
      go_wp2_with (at_builtin; refine wpList_append_own _ rfl _ _ 24 rfl (wz.heap.size) 3 i0 (.int .i64 0) 1 8 Try.underlying24 HI.out hz0 hz1 hz2 rfl (by decide) _ _ _ rfl (World.ownsRow.alloc HR3.out _) ⟨w3.heap.size, 0, none⟩ 1 1 [.int .i64 s0] rfl rfl ?c1 ?c2 ?c3 ?c4 ?c5 ?_)
      case c1 =>
        intro i u hj
        match i, hj with
        | 0, hj => simp at hj; subst hj; simp [Addr.add]
      case c2 => intro u hu; simp at hu; subst hu; rfl
      case c3 => rw [el]; unfold maxLen; omega
      case c4 => rw [el]; omega
      case c5 => simp; omega
      intro v' w4 hown' hgrow _
      have R1 : Hid (Row w4 wz.heap.size v' (L (j + 1))) := by rw [es.out]; exact row_more (by rw [el]; exact hown')
      have R2 : Hid (Below wz.heap.size wz w4) := (HB3.out.alloc sw _).grown hgrow (by simp; omega) (fun g hg => (World.ownsRow.lt HR3.out g hg).1)
      clear hown' hgrow
      go_wp2
      go_roundw
      case rel => exact ⟨j + 1, by omega, by go_num, R1.out, R2.out⟩
      case measure => simp [intOf]; omega
    · obtain rfl : j = nt := by omega
      go_wp2
      go_ret
      exact ⟨_, rfl, HR.out.mono HB0.out.size, HB0.out.trans (HB.out.mono HB0.out.size)⟩

set_option maxHeartbeats 4000000 in
set_option maxRecDepth 100000 in
theorem c_PriceValuesS (x y z : Int) (v1 v2 v3 : Value) (ts gs rs : List Int) (p q r s : Int) (w : World) (l1 : ts.length ≤ 4000000) (l2 : gs.length ≤ 4000000) (l3 : rs.length ≤ 4000000) (h : Look w v1 v2 v3 ts gs rs) :
    Calls Try.prog 29 #[.agg #[.int .i64 x, .int .i64 y, .int .i64 z, v1, v2, v3], .agg #[.int .i64 p, .int .i64 q, .int .i64 r, .int .i64 s]] w (GivesRow2 w (pvL x y z ts gs rs p q r s) (pvG x y z ts gs rs p q r s)) := by
  have H := Lib.hid h
  obtain ⟨A1, c1, rfl⟩ := h.t.shape
  obtain ⟨A2, c2, rfl⟩ := h.g.shape
  obtain ⟨A3, c3, rfl⟩ := h.r.shape
  clear h
  have HX0 : Hid (Box6 ((w.alloc (.cells #[.int .i64 x, .int .i64 y, .int .i64 z, .slice A1 ts.length c1, .slice A2 gs.length c2, .slice A3 rs.length c3] 34)).alloc (.cells #[.int .i64 p, .int .i64 q, .int .i64 r, .int .i64 s] 51)) w.heap.size x y z (.slice A1 ts.length c1) (.slice A2 gs.length c2) (.slice A3 rs.length c3)) := (Box6.new _ _ _ _ _ _ _ _).below ((Below.refl _ _).alloc (Nat.le_refl _) _)
  have HY0 : Hid (Box4 ((w.alloc (.cells #[.int .i64 x, .int .i64 y, .int .i64 z, .slice A1 ts.length c1, .slice A2 gs.length c2, .slice A3 rs.length c3] 34)).alloc (.cells #[.int .i64 p, .int .i64 q, .int .i64 r, .int .i64 s] 51)) (w.heap.size + 1) p q r s) := by
    have := Box4.new (w.alloc (.cells #[.int .i64 x, .int .i64 y, .int .i64 z, .slice A1 ts.length c1, .slice A2 gs.length c2, .slice A3 rs.length c3] 34)) p q r s 51
    simp at this
    exact this
  have HB0 : Hid (Below w.heap.size w ((w.alloc (.cells #[.int .i64 x, .int .i64 y, .int .i64 z, .slice A1 ts.length c1, .slice A2 gs.length c2, .slice A3 rs.length c3] 34)).alloc (.cells #[.int .i64 p, .int .i64 q, .int .i64 r, .int .i64 s] 51))) := ((Below.refl _ _).alloc (Nat.le_refl _) _).alloc (by simp) _
  have HI : Hid (∀ u, Below w.heap.size w u → Calls Try.prog 71 #[.agg #[.int .i64 x, .int .i64 y, .int .i64 z, .slice A1 ts.length c1, .slice A2 gs.length c2, .slice A3 rs.length c3]] u fun e w' => e = .returned (.bool (moB x y z ts gs rs)) ∧ Below u.heap.size u w') := fun u hu => c_moGood x y z _ _ _ ts gs rs u l1 l2 l3 (H.out.below hu)
  have HP : Hid (∀ u, Below w.heap.size w u → Calls Try.prog 72 #[.agg #[.int .i64 p, .int .i64 q, .int .i64 r, .int .i64 s]] u fun e w' => e = .returned (.bool (priB p q r s)) ∧ Below u.heap.size u w') := fun u hu => c_vaPrices p q r s u
  cases hm : moB x y z ts gs rs
  · have e : pvG x y z ts gs rs p q r s = false := by unfold pvG; rw [hm]; rfl
    rw [pvL_no e, e]
    rw [hm] at HI
    clear hm e HP
    go_enter Try.func29, Try.ntmps29
    go_wp2_with fail
    refine (HI.out _ HB0.out).mono ?_
    rintro e w1 ⟨rfl, hb1⟩
    have HX1 := Lib.hid (HX0.out.below hb1)
    have HY1 := Lib.hid (HY0.out.below hb1)
    have HB1 : Hid (Below w.heap.size w w1) := HB0.out.trans (hb1.mono HB0.out.size)
    clear hb1
    have d1_0 := HX1.out.c0
    have d1_1 := HX1.out.c1
    have d1_2 := HX1.out.c2
    have d1_3 := HX1.out.c3
    have d1_4 := HX1.out.c4
    have d1_5 := HX1.out.c5
    have f1_0 := HY1.out.c0
    have f1_1 := HY1.out.c1
    have f1_2 := HY1.out.c2
    have f1_3 := HY1.out.c3
    go_wp2
    go_ret2
    exact ⟨_, rfl, Row.nil _ _, HB1.out⟩
  · cases hp : priB p q r s
    · have e : pvG x y z ts gs rs p q r s = false := by unfold pvG; rw [hp, Bool.and_false]
      rw [pvL_no e, e]
      rw [hm] at HI
      rw [hp] at HP
      clear hm hp e
      go_enter Try.func29, Try.ntmps29
      go_wp2_with fail
      refine (HI.out _ HB0.out).mono ?_
      rintro e w1 ⟨rfl, hb1⟩
      have HX1 := Lib.hid (HX0.out.below hb1)
      have HY1 := Lib.hid (HY0.out.below hb1)
      have HB1 : Hid (Below w.heap.size w w1) := HB0.out.trans (hb1.mono HB0.out.size)
      clear hb1
      have d1_0 := HX1.out.c0
      have d1_1 := HX1.out.c1
      have d1_2 := HX1.out.c2
      have d1_3 := HX1.out.c3
      have d1_4 := HX1.out.c4
      have d1_5 := HX1.out.c5
      have f1_0 := HY1.out.c0
      have f1_1 := HY1.out.c1
      have f1_2 := HY1.out.c2
      have f1_3 := HY1.out.c3
      go_wp2_with fail
      refine (HP.out _ HB1.out).mono ?_
      rintro e w2 ⟨rfl, hb2⟩
      have HX2 := Lib.hid (HX1.out.below hb2)
      have HY2 := Lib.hid (HY1.out.below hb2)
      have HB2 : Hid (Below w.heap.size w w2) := HB1.out.trans (hb2.mono HB1.out.size)
      clear hb2
      have d2_0 := HX2.out.c0
      have d2_1 := HX2.out.c1
      have d2_2 := HX2.out.c2
      have d2_3 := HX2.out.c3
      have d2_4 := HX2.out.c4
      have d2_5 := HX2.out.c5
      have f2_0 := HY2.out.c0
      have f2_1 := HY2.out.c1
      have f2_2 := HY2.out.c2
      have f2_3 := HY2.out.c3
      go_wp2
      go_ret2
      exact ⟨_, rfl, Row.nil _ _, HB2.out⟩
    · have e : pvG x y z ts gs rs p q r s = true := by unfold pvG; rw [hm, hp]; rfl
      rw [pvL_yes e, e]
      have HV : Hid (∀ u, Below w.heap.size w u → Calls Try.prog 76 #[.agg #[.int .i64 x, .int .i64 y, .int .i64 z, .slice A1 ts.length c1, .slice A2 gs.length c2, .slice A3 rs.length c3], .agg #[.int .i64 p, .int .i64 q, .int .i64 r, .int .i64 s]] u (GivesRow u (firL (wrF ts gs p q r s) ts.length))) := fun u hu => c_vaAll x y z _ _ _ ts gs rs p q r s u l1 l2 (H.out.below hu) hm hp
      rw [hm] at HI
      rw [hp] at HP
      generalize firL (wrF ts gs p q r s) ts.length = L at *
      clear hm hp e
      go_enter Try.func29, Try.ntmps29
      go_wp2_with fail
      refine (HI.out _ HB0.out).mono ?_
      rintro e w1 ⟨rfl, hb1⟩
      have HX1 := Lib.hid (HX0.out.below hb1)
      have HY1 := Lib.hid (HY0.out.below hb1)
      have HB1 : Hid (Below w.heap.size w w1) := HB0.out.trans (hb1.mono HB0.out.size)
      clear hb1
      have d1_0 := HX1.out.c0
      have d1_1 := HX1.out.c1
      have d1_2 := HX1.out.c2
      have d1_3 := HX1.out.c3
      have d1_4 := HX1.out.c4
      have d1_5 := HX1.out.c5
      have f1_0 := HY1.out.c0
      have f1_1 := HY1.out.c1
      have f1_2 := HY1.out.c2
      have f1_3 := HY1.out.c3
      go_wp2_with fail
      refine (HP.out _ HB1.out).mono ?_
      rintro e w2 ⟨rfl, hb2⟩
      have HX2 := Lib.hid (HX1.out.below hb2)
      have HY2 := Lib.hid (HY1.out.below hb2)
      have HB2 : Hid (Below w.heap.size w w2) := HB1.out.trans (hb2.mono HB1.out.size)
      clear hb2
      have d2_0 := HX2.out.c0
      have d2_1 := HX2.out.c1
      have d2_2 := HX2.out.c2
      have d2_3 := HX2.out.c3
      have d2_4 := HX2.out.c4
      have d2_5 := HX2.out.c5
      have f2_0 := HY2.out.c0
      have f2_1 := HY2.out.c1
      have f2_2 := HY2.out.c2
      have f2_3 := HY2.out.c3
      go_wp2_with fail
      refine (HV.out _ HB2.out).mono ?_
      rintro e w3 ⟨v', rfl, hr, hb⟩
      have HR := Lib.hid (hr.mono HB2.out.size)
      have HB3 : Hid (Below w.heap.size w w3) := HB2.out.trans (hb.mono HB2.out.size)
      clear hr hb
      go_wp2
      go_ret2
      exact ⟨_, rfl, HR.out, HB3.out⟩

end Go.Proofs.Ytdodmcmkelegoaa
