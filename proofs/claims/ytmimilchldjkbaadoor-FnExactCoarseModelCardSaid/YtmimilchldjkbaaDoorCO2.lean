/-
  Contract: the pieces of the coarse blocks.
-/
import Derived.Test.YtmimilchldjkbaaDoorCO1
import Derived.Test.YtmimilchldjkbaaDoorQK
import Derived.Test.YtmimilchldjkbaaDoorQ4
import Derived.Test.YtmimilchldjkbaaDoorAP
import Derived.Test.YtmimilchldjkbaaDoorZL
namespace Go.Proofs.YtmimilchldjkbaaDoor
open Go.RowKit
set_option linter.unusedVariables false

theorem coQ_int (X Y Z : Nat) : ((coQ X Y Z : Nat) : Int) = ((X : Int) + 1) / 2 * (((Y : Int) + 1) / 2) * (Z : Int) := by
  unfold coQ
  rw [Int.natCast_mul, Int.natCast_mul]
  simp
theorem Box6.underC {w w' : World} {b N : Nat} {x y z : Int} {v1 v2 v3 : Value} (h : Box6 w b x y z v1 v2 v3) (hb : Below N w w') (hN : b < N) : Box6 w' b x y z v1 v2 v3 :=
  ⟨Nat.lt_of_lt_of_le h.lt hb.size, by rw [hb.cell (p := ⟨b, 0, none⟩) hN]; exact h.c0, by rw [hb.cell (p := ⟨b, 1, none⟩) hN]; exact h.c1, by rw [hb.cell (p := ⟨b, 2, none⟩) hN]; exact h.c2,
    by rw [hb.cell (p := ⟨b, 3, none⟩) hN]; exact h.c3, by rw [hb.cell (p := ⟨b, 4, none⟩) hN]; exact h.c4, by rw [hb.cell (p := ⟨b, 5, none⟩) hN]; exact h.c5⟩
/-- The pieces of the first i blocks by their coarse blocks. -/
def cpA (X Y : Nat) (ts gs rs : List Int) (K i : Nat) : List (List Int) := (List.range K).map fun k => cpL X Y ts gs rs k i
theorem cpA_len (X Y : Nat) (ts gs rs : List Int) (K i : Nat) : (cpA X Y ts gs rs K i).length = K := by simp [cpA]
theorem cpA_at (X Y : Nat) (ts gs rs : List Int) (K i : Nat) {k : Nat} (h : k < K) : (cpA X Y ts gs rs K i).getD k [] = cpL X Y ts gs rs k i := by simp [cpA, h]
theorem cpA_set (X Y : Nat) (ts gs rs : List Int) (K i : Nat) (h : coK X Y i < K) : (cpA X Y ts gs rs K i).set (coK X Y i) (cpL X Y ts gs rs (coK X Y i) i ++ [ts.getD i 0, metal ts gs i, rs.getD i 0]) = cpA X Y ts gs rs K (i + 1) := by
  apply List.ext_getElem
  · simp [cpA]
  · intro k h1 h2
    rw [List.getElem_set]
    simp only [List.length_set] at h1
    rw [cpA_len] at h1
    split
    · rename_i e
      subst e
      simp [cpA, cpL_hit]
    · rename_i e
      simp [cpA, cpL_miss e]
theorem cpA_zero (X Y : Nat) (ts gs rs : List Int) (K : Nat) : cpA X Y ts gs rs K 0 = List.replicate K [] := by
  apply List.ext_getElem
  · simp [cpA]
  · intro k h1 h2
    simp [cpA, cpL]
/-- A model of natural sizes. -/
structure CoOk (X Y Z : Nat) (ts gs rs : List Int) (N K : Nat) : Prop where
  g : goodB (X : Int) (Y : Int) (Z : Int) = true
  n : X * Y * Z = N
  n2 : N ≤ 120
  k : coQ X Y Z = K
  k2 : K ≤ 120
  t : ts.length = N
  gl : gs.length = N
  r : rs.length = N
  box : ∀ i, i < N → (0 ≤ ts.getD i 0 ∧ ts.getD i 0 ≤ 10000) ∧ (0 ≤ gs.getD i 0 ∧ gs.getD i 0 ≤ 1000)
  pie : ∀ i, i < N → pieB (ts.getD i 0) (metal ts gs i) (rs.getD i 0) = true
theorem coOk {X Y Z : Nat} {ts gs rs : List Int} (h : moB (X : Int) (Y : Int) (Z : Int) ts gs rs = true) : CoOk X Y Z ts gs rs (X * Y * Z) (coQ X Y Z) := by
  obtain ⟨hg, a1, a2, a3, _⟩ := mo_true h
  obtain ⟨x1, x2, y1, y2, z1, z2, p1, p2, q1, q2⟩ := good_box hg
  have e : ((X * Y * Z : Nat) : Int) = (X : Int) * (Y : Int) * (Z : Int) := by simp
  have hk : coQ X Y Z ≤ X * Y * Z := by
    unfold coQ
    exact Nat.mul_le_mul_right _ (Nat.mul_le_mul (by omega) (by omega))
  refine ⟨hg, rfl, by omega, rfl, by omega, by omega, by omega, by omega, fun i hi => ?_, fun i hi => ?_⟩
  · obtain ⟨_, _, _, b1, b2, b3, b4, _⟩ := metal_box h (k := i) (by omega)
    exact ⟨⟨b1, b2⟩, b3, b4⟩
  · obtain ⟨_, _, _, b1, b2, b3, b4, b5, b6, b7, b8⟩ := metal_box h (k := i) (by omega)
    have hm : metal ts gs i ≤ 1000 * ts.getD i 0 := by
      unfold metal
      rw [Int.mul_comm]
      exact Int.mul_le_mul_of_nonneg_right b4 b1
    unfold pieB
    exact decide_eq_true ⟨b1, b2, b7, hm, b5, b6⟩

set_option maxHeartbeats 16000000 in
set_option maxRecDepth 100000 in
theorem c_coarsePieces (X Y Z : Nat) (v1 v2 v3 : Value) (ts gs rs : List Int) (N K : Nat) (w : World) (ho : CoOk X Y Z ts gs rs N K) (h : Look w v1 v2 v3 ts gs rs) :
    Calls Tryd.prog 74 #[.agg #[.int .i64 X, .int .i64 Y, .int .i64 Z, v1, v2, v3]] w fun e w' => ∃ v, e = .returned v ∧ RowsO w' w.heap.size w'.heap.size v (cpA X Y ts gs rs K N) ∧ Below w.heap.size w w' := by
  have H := Lib.hid h
  obtain ⟨A1, c1, rfl⟩ := h.t.shape
  obtain ⟨A2, c2, rfl⟩ := h.g.shape
  obtain ⟨A3, c3, rfl⟩ := h.r.shape
  clear h
  obtain ⟨x1, x2, y1, y2, z1, z2, p1, p2, q1, q2⟩ := good_box ho.g
  have hK : ((K : Nat) : Int) = ((X : Int) + 1) / 2 * (((Y : Int) + 1) / 2) * (Z : Int) := by rw [← ho.k]; exact coQ_int X Y Z
  have CG := Lib.hid (fun u => c_coarseGrid (X : Int) (Y : Int) (Z : Int) u x1 x2 y1 y2)
  have CC : Hid (∀ u, Calls Tryd.prog 92 #[.agg #[.int .i64 (((X : Int) + 1) / 2), .int .i64 (((Y : Int) + 1) / 2), .int .i64 Z]] u fun e w' => e = .returned (.int .i64 K) ∧ Below u.heap.size u w') := fun u => by
    rw [hK]
    exact c_countBlocks _ _ _ u (by omega) (by omega) (by omega) (by omega) (by omega) (by omega)
  have CB : Hid (∀ (i : Nat) u, i < N → Calls Tryd.prog 111 #[.agg #[.int .i64 X, .int .i64 Y, .int .i64 Z], .int .i64 i] u fun e w' => e = .returned (.tuple #[.int .i64 (coK X Y i : Nat), .bool true]) ∧ Below u.heap.size u w') := fun i u hi => by
    have hh : hasB (X : Int) (Y : Int) (Z : Int) (i : Int) = true := by
      unfold hasB
      rw [ho.g, Bool.true_and, decide_eq_true_eq]
      have e : ((X * Y * Z : Nat) : Int) = (X : Int) * (Y : Int) * (Z : Int) := by simp
      have := ho.n
      omega
    have := c_CoarseBlock (X : Int) (Y : Int) (Z : Int) (i : Int) u
    rw [coV_nat ho.g (by rw [ho.n]; exact hi), hh] at this
    exact this
  have HKl : Hid (∀ i, i < N → coK X Y i < K) := fun i hi => by rw [← ho.k]; exact coK_lt ho.g (by rw [ho.n]; exact hi)
  have CP : Hid (∀ (i : Nat) u, i < N → Below w.heap.size w u → Calls Tryd.prog 112 #[.agg #[.int .i64 X, .int .i64 Y, .int .i64 Z, .slice A1 ts.length c1, .slice A2 gs.length c2, .slice A3 rs.length c3], .int .i64 i] u fun e w' => e = .returned (.agg #[.int .i64 (ts.getD i 0), .int .i64 (metal ts gs i), .int .i64 (rs.getD i 0)]) ∧ Below u.heap.size u w') := fun i u hi hu => by
    obtain ⟨⟨t0, t1⟩, g0, g1⟩ := ho.box i hi
    have h1 := ho.t
    have h2 := ho.gl
    have h3 := ho.r
    have := ho.n2
    exact c_pieceIn _ _ _ _ _ _ ts gs rs i u (H.out.below hu) (by omega) (by omega) (by omega) (by omega) (by omega) (by omega) t0 t1 g0 g1
  rw [ho.t, ho.gl, ho.r] at CP ⊢
  have n2 := ho.n2
  have k2 := ho.k2
  have HA : Hid (∀ i, (cpA X Y ts gs rs K i).length = K) := cpA_len X Y ts gs rs K
  have HAt : Hid (∀ i k, k < K → (cpA X Y ts gs rs K i).getD k [] = cpL X Y ts gs rs k i) := fun i k hk => cpA_at X Y ts gs rs K i hk
  have HSt : Hid (∀ i, i < N → (cpA X Y ts gs rs K i).set (coK X Y i) (cpL X Y ts gs rs (coK X Y i) i ++ [ts.getD i 0, metal ts gs i, rs.getD i 0]) = cpA X Y ts gs rs K (i + 1)) := fun i hi => cpA_set X Y ts gs rs K i (HKl.out i hi)
  have HLn : Hid (∀ k i, (cpL X Y ts gs rs k i).length = coC X Y k i * 3 ∧ coC X Y k i ≤ i) := fun k i => ⟨cpL_len X Y ts gs rs k i, by
    induction i with
    | zero => exact Nat.le_refl _
    | succ i ih =>
      rw [coC]
      split <;> omega⟩
  have H0 : Hid (cpA X Y ts gs rs K 0 = List.replicate K []) := cpA_zero X Y ts gs rs K
  obtain ⟨i0, hi0, hz0, hz1, hz2⟩ := info_parts listQ_info
  have hmk : ∀ W : World, (Instr.makeSlice 110 (.int .i64 (K : Int)) (.int .i64 (K : Int))).run Tryd.prog W = .ok (.slice (some ⟨W.heap.size, 0, none⟩) K K) (W.alloc (.cells (madeCells #[.slice none 0 0] K) 103)) := fun W => by
    have := run_make (P := Tryd.prog) W 110 103 i0 (.slice none 0 0) Tryd.underlying110 hi0 hz0 .i64 .i64 (K : Int) (K : Int) (by omega) (by omega) (by rw [hz2]; omega) (by omega)
    simpa [hz1, Value.cells] using this
  have HNl : Hid (∀ W : World, RowsO (W.alloc (.cells (madeCells #[.slice none 0 0] K) 103)) W.heap.size (W.alloc (.cells (madeCells #[.slice none 0 0] K) 103)).heap.size (.slice (some ⟨W.heap.size, 0, none⟩) K K) (List.replicate K [])) := fun W => rowsO_nils W K (by unfold maxLen; omega)
  clear hi0 hz0 hz1 hz2
  obtain ⟨j0, hj0, hy0, hy1, hy2⟩ := info_parts piece_info
  have HI := Lib.hid hj0
  have HX0 : Hid (Box6 (w.alloc (.cells #[.int .i64 X, .int .i64 Y, .int .i64 Z, .slice A1 N c1, .slice A2 N c2, .slice A3 N c3] 49)) w.heap.size X Y Z (.slice A1 N c1) (.slice A2 N c2) (.slice A3 N c3)) := Box6.new _ _ _ _ _ _ _ _
  have HB0 : Hid (Below w.heap.size w (w.alloc (.cells #[.int .i64 X, .int .i64 Y, .int .i64 Z, .slice A1 N c1, .slice A2 N c2, .slice A3 N c3] 49))) := (Below.refl _ _).alloc (Nat.le_refl _) _
  clear hj0 ho H hK x1 x2 y1 y2 z1 z2 p1 p2 q1 q2
  generalize cpA X Y ts gs rs K = AA at *
  go_enter Tryd.func74, Tryd.ntmps74
  go_wp2_with fail
  generalize w.alloc (.cells #[.int .i64 X, .int .i64 Y, .int .i64 Z, .slice A1 N c1, .slice A2 N c2, .slice A3 N c3] 49) = W0 at *
  have u0 := HX0.out.c0
  have u1 := HX0.out.c1
  have u2 := HX0.out.c2
  go_wp2_with fail
  clear u0 u1 u2
  refine (CG.out _).mono ?_
  rintro e w1 ⟨rfl, hb⟩
  have HX1 := Lib.hid (HX0.out.below hb)
  have HB1 : Hid (Below w.heap.size w w1) := HB0.out.trans (hb.mono HB0.out.size)
  clear hb
  go_wp2_with fail
  refine (CC.out _).mono ?_
  rintro e w2 ⟨rfl, hb⟩
  have HX2 := Lib.hid (HX1.out.below hb)
  have HB2 : Hid (Below w.heap.size w w2) := HB1.out.trans (hb.mono HB1.out.size)
  have hbz : Below w2.heap.size w2 (w2.alloc (.cells (madeCells #[.slice none 0 0] K) 103)) := (Below.refl _ _).alloc (Nat.le_refl _) _
  have HB3 := Lib.hid hbz
  have HR3 := Lib.hid (HNl.out w2)
  rw [← H0.out] at HR3
  have HX3 := Lib.hid (HX2.out.below hbz)
  have u3 := HX2.out.c3
  have hwl := HX2.out.lt
  have hs3 : w2.heap.size < (w2.alloc (.cells (madeCells #[.slice none 0 0] K) 103)).heap.size := by simp
  clear hb hbz
  go_wp2_with fail
  generalize w2.alloc (.cells (madeCells #[.slice none 0 0] K) 103) = W3 at *
  clear u3 hmk
  go_loopw [15] (fun q wr => ∃ i : Nat, i ≤ N ∧ q = .int .i64 i ∧ RowsO wr w2.heap.size wr.heap.size (.slice (some ⟨w2.heap.size, 0, none⟩) K K) (AA i) ∧ Below w2.heap.size w2 wr ∧ w2.heap.size < wr.heap.size) (fun q _ => N - (intOf q).toNat)
  case atStart => exact ⟨0, Nat.zero_le _, rfl, HR3.out, HB3.out, hs3⟩
  case round =>
    obtain ⟨i, hi, rfl, hr, hb, hs⟩ := hrel
    have HR := Lib.hid hr
    have HB := Lib.hid hb
    have HX := Lib.hid (HX2.out.below hb)
    clear hr hb
    have g0 := HX.out.c0
    have g1 := HX.out.c1
    have g2 := HX.out.c2
    have g3 := HX.out.lt
    by_cases hlt : i < N
    · have c0' : (0 : Int) ≤ (i : Int) := by omega
      have c9 : (i : Int) < (N : Int) := by omega
      go_wp2_with fail
      refine (CB.out i _ hlt).mono ?_
      rintro e w4 ⟨rfl, hb⟩
      have HX4 := Lib.hid (HX.out.below hb)
      have HB4 : Hid (Below w2.heap.size w2 w4) := HB.out.trans (hb.mono HB.out.size)
      have HR4 := Lib.hid ((HR.out.below hb (Nat.le_refl _)))
      have UL : Hid (wr.heap.size ≤ w4.heap.size) := hb.size
      have hs4 : w2.heap.size < w4.heap.size := Nat.lt_of_lt_of_le hs hb.size
      clear hb g0 g1 g2 g3
      have hkK := HKl.out i hlt
      have HAl := HA.out i
      have HAk := HAt.out i (coK X Y i) hkK
      have HSk := Lib.hid (HSt.out i hlt)
      have HLk := Lib.hid (HLn.out (coK X Y i) i)
      have CPk := Lib.hid (fun u hu => CP.out i u hlt hu)
      generalize coK X Y i = k at *
      generalize ts.getD i 0 = tt at *
      generalize metal ts gs i = mm at *
      generalize rs.getD i 0 = rr at *
      obtain ⟨vs, hv⟩ := HR4.out
      have hrk := hv.row k (by rw [HAl]; exact hkK)
      rw [HAk] at hrk
      generalize cpL X Y ts gs rs k i = ys at *
      obtain ⟨VA, vc, hvk⟩ := hrk.shape
      have HV := Lib.hid hv
      have q5 : w4.cell? ⟨w2.heap.size, k, none⟩ = some (.slice VA (ys.length / 3) vc) := by
        have h2 := hv
        rw [← HAl] at h2
        rw [h2.cell (by rw [HAl]; exact hkK), hvk]
      have q6 : ∀ u, w4.frozen? ⟨w2.heap.size, u, none⟩ = false := fun u => by
        have h2 := hv.own
        rw [HAl] at h2
        exact World.ownsRow.frozenAt h2 u
      have HRk : Hid (RowP w4 w2.heap.size (.slice VA (ys.length / 3) vc) (ys.length / 3) ys) := by rw [hvk] at hrk; exact hrk
      have HVk : Hid (vs.getD k (.slice none 0 0) = .slice VA (ys.length / 3) vc) := hvk
      have hl3 : ys.length / 3 ≤ 120 := by have := HLk.out; omega
      have hl4 : ys.length = ys.length / 3 * 3 := by have := HLk.out; omega
      have d0 : (0 : Int) ≤ (k : Int) := by omega
      have d9 : (k : Int) < (K : Int) := by omega
      clear hrk hvk hv
      obtain ⟨nk, hnk⟩ : ∃ nk, ys.length / 3 = nk := ⟨_, rfl⟩
      have HNK := Lib.hid hnk
      rw [hnk] at q5 HRk HVk hl3 hl4
      clear hnk
      have KA : Hid (∀ u, Below w4.heap.size w4 u → (fun u => u.cell? ⟨w.heap.size, 0, none⟩ = some (.int .i64 X) ∧ u.cell? ⟨w.heap.size, 1, none⟩ = some (.int .i64 Y) ∧ u.cell? ⟨w.heap.size, 2, none⟩ = some (.int .i64 Z) ∧ u.cell? ⟨w.heap.size, 3, none⟩ = some (.slice A1 N c1) ∧ u.cell? ⟨w.heap.size, 4, none⟩ = some (.slice A2 N c2) ∧ u.cell? ⟨w.heap.size, 5, none⟩ = some (.slice A3 N c3) ∧ u.cell? ⟨w2.heap.size, k, none⟩ = some (.slice VA nk vc)) u) := fun u hu => by
        have hX := HX4.out.below hu
        exact ⟨hX.c0, hX.c1, hX.c2, hX.c3, hX.c4, hX.c5, by rw [hu.cell (p := ⟨w2.heap.size, k, none⟩) hs4]; exact q5⟩
      have KD : Hid (Below w4.heap.size w4 w4.drew) := (Below.refl _ _).drew
      have hw4 : Hid (Below w.heap.size w w4.drew) := (HB2.out.trans (HB4.out.mono HB2.out.size)).drew
      go_wp2_with fail
      obtain ⟨Sa, hSa⟩ : ∃ S : World → Prop, S = (fun u => u.cell? ⟨w.heap.size, 0, none⟩ = some (.int .i64 X) ∧ u.cell? ⟨w.heap.size, 1, none⟩ = some (.int .i64 Y) ∧ u.cell? ⟨w.heap.size, 2, none⟩ = some (.int .i64 Z) ∧ u.cell? ⟨w.heap.size, 3, none⟩ = some (.slice A1 N c1) ∧ u.cell? ⟨w.heap.size, 4, none⟩ = some (.slice A2 N c2) ∧ u.cell? ⟨w.heap.size, 5, none⟩ = some (.slice A3 N c3) ∧ u.cell? ⟨w2.heap.size, k, none⟩ = some (.slice VA nk vc)) := ⟨_, rfl⟩
      refine region_till Sa 12 (by kernel_rfl) (by rw [hSa]; exact KA.out _ KD.out) (fun hHeld => ?_)
      refine till_take (i := 0) (v := ?va_0) rfl (by kernel_rfl) (by kernel_rfl) (by kernel_rfl) (by kernel_rfl) (fun _ _ _ h => h) (Or.inl ⟨by rfl, ?hya_0⟩) (by assumption) ?resta_0
      case hya_0 =>
        intro u hSw
        rw [hSa] at hSw; obtain ⟨x0, x1, x2, x3, x4, x5, x6⟩ := hSw
        go_simp
        try with_reducible rfl
      case resta_0 =>
        refine till_take (i := 1) (v := ?va_1) rfl (by kernel_rfl) (by kernel_rfl) (by kernel_rfl) (by kernel_rfl) (fun _ _ _ h => h) (Or.inl ⟨by rfl, ?hya_1⟩) (by assumption) ?resta_1
        case hya_1 =>
          intro u hSw
          rw [hSa] at hSw; obtain ⟨x0, x1, x2, x3, x4, x5, x6⟩ := hSw
          go_simp
          try with_reducible rfl
        case resta_1 =>
          refine till_take (i := 2) (v := ?va_2) rfl (by kernel_rfl) (by kernel_rfl) (by kernel_rfl) (by kernel_rfl) (fun _ _ _ h => h) (Or.inl ⟨by rfl, ?hya_2⟩) (by assumption) ?resta_2
          case hya_2 =>
            intro u hSw
            rw [hSa] at hSw; obtain ⟨x0, x1, x2, x3, x4, x5, x6⟩ := hSw
            go_simp
            try with_reducible rfl
          case resta_2 =>
            refine till_take (i := 3) (v := ?va_3) rfl (by kernel_rfl) (by kernel_rfl) (by kernel_rfl) (by kernel_rfl) (fun _ _ _ h => h) (Or.inl ⟨by rfl, ?hya_3⟩) (by assumption) ?resta_3
            case hya_3 =>
              intro u hSw
              rw [hSa] at hSw; obtain ⟨x0, x1, x2, x3, x4, x5, x6⟩ := hSw
              go_simp
              try with_reducible rfl
            case resta_3 =>
              refine till_take (i := 4) (v := ?va_4) rfl (by kernel_rfl) (by kernel_rfl) (by kernel_rfl) (by kernel_rfl) (fun _ _ _ h => h) (Or.inl ⟨by rfl, ?hya_4⟩) (by assumption) ?resta_4
              case hya_4 =>
                intro u hSw
                rw [hSa] at hSw; obtain ⟨x0, x1, x2, x3, x4, x5, x6⟩ := hSw
                go_simp
                try with_reducible rfl
              case resta_4 =>
                refine till_take (i := 5) (v := ?va_5) rfl (by kernel_rfl) (by kernel_rfl) (by kernel_rfl) (by kernel_rfl) (fun _ _ _ h => h) (Or.inl ⟨by rfl, ?hya_5⟩) (by assumption) ?resta_5
                case hya_5 =>
                  intro u hSw
                  rw [hSa] at hSw; obtain ⟨x0, x1, x2, x3, x4, x5, x6⟩ := hSw
                  go_simp
                  try with_reducible rfl
                case resta_5 =>
                  refine till_take (i := 6) (v := ?va_6) rfl (by kernel_rfl) (by kernel_rfl) (by kernel_rfl) (by kernel_rfl) (fun _ _ _ h => h) (Or.inl ⟨by rfl, ?hya_6⟩) (by assumption) ?resta_6
                  case hya_6 =>
                    intro u hSw
                    rw [hSa] at hSw; obtain ⟨x0, x1, x2, x3, x4, x5, x6⟩ := hSw
                    go_simp
                    try with_reducible rfl
                  case resta_6 =>
                    refine till_take (i := 7) (v := ?va_7) rfl (by kernel_rfl) (by kernel_rfl) (by kernel_rfl) (by kernel_rfl) (fun _ _ _ h => h) (Or.inl ⟨by rfl, ?hya_7⟩) (by assumption) ?resta_7
                    case hya_7 =>
                      intro u hSw
                      rw [hSa] at hSw; obtain ⟨x0, x1, x2, x3, x4, x5, x6⟩ := hSw
                      go_simp
                      try with_reducible rfl
                    case resta_7 =>
                      simp only [List.getElem_toArray, List.getElem_cons_zero, List.getElem_cons_succ, Act.put, List.setIfInBounds_toArray, List.set_cons_zero, List.set_cons_succ]
                      refine till_one (i := 8) rfl (by kernel_rfl) (fun K hK => ?_)
                      go_simp
                      go_at_call 112
                      refine (CPk.out _ hw4.out).mono ?_
                      rintro e w5 ⟨rfl, hb⟩
                      have U5 : Hid (Below w4.heap.size w4 w5) := KD.out.trans (hb.mono (Nat.le_refl _))
                      have K5 := Lib.hid (KA.out _ U5.out)
                      clear hb
                      show K _ _
                      refine hK.out _ _ (fun hz => by rw [hSa]; exact K5.out) (fun hH => ?_)
                      have hHeld := hH (by omega)
                      clear hK K hH
                      refine till_one (i := 9) rfl (by kernel_rfl) (fun K hK => ?_)
                      go_simp
                      refine hK.out _ _ (fun hz => by rw [hSa]; exact KA.out _ (U5.out.alloc U5.out.size _)) (fun hH => ?_)
                      have hHeld := hH (by omega)
                      clear hK K hH
                      refine till_one (i := 10) rfl (by kernel_rfl) (fun K hK => ?_)
                      refine step_append_src rfl _ _ 103 (by rfl) (base := w2.heap.size) Tryd.underlying103 HI.out hy0 hy1 hy2 rfl (by decide) (by rfl) (World.ownsRow.alloc (RowP.below HRk.out U5.out) _) (by rfl) (src_cells 3 (xs := [tt, mm, rr]) rfl (fun e => by cases e) (fun _ => ⟨w5.heap.size, 0, rfl, fun j hj => by match j, hj with | 0, _ => simp | 1, _ => simp | 2, _ => simp⟩)) ints_ones (by unfold maxLen; omega) (by omega) (by have := U5.out.size; simp; omega) ?_
                      intro v6 w6 o6 g6 a6
                      have hne : some w2.heap.size ≠ (Value.slice VA nk vc).ownBlock := fun e => own_types HV.out.own HRk.out (by decide) (k := w2.heap.size) rfl e.symm
                      have hU5 : Below w4.heap.size w4 (w5.alloc (.cells #[.int .i64 tt, .int .i64 mm, .int .i64 rr] 105)) := U5.out.alloc U5.out.size _
                      have hblk : w6.heap[w2.heap.size]? = w4.heap[w2.heap.size]? := (g6.block _ (Nat.lt_of_lt_of_le hs4 hU5.size) hne).trans (hU5.block _ hs4)
                      have p7 : w6.cell? ⟨w2.heap.size, k, none⟩ = some (.slice VA nk vc) := (World.cell?_of_block (w := w4) hblk).trans q5
                      have p8 : w6.frozen? ⟨w2.heap.size, k, none⟩ = false := (World.frozen?_of_block (w := w4) hblk).trans (q6 k)
                      have B6 : Hid (Below w2.heap.size w4 w6) := (hU5.mono (Nat.le_of_lt hs4)).grown g6 (Nat.le_trans (Nat.le_of_lt hs4) hU5.size) (fun j hj => (World.ownsRow.lt HRk.out j hj).1)
                      have X6 := HX4.out.underC B6.out hwl
                      have K6 : Hid ((fun u => u.cell? ⟨w.heap.size, 0, none⟩ = some (.int .i64 X) ∧ u.cell? ⟨w.heap.size, 1, none⟩ = some (.int .i64 Y) ∧ u.cell? ⟨w.heap.size, 2, none⟩ = some (.int .i64 Z) ∧ u.cell? ⟨w.heap.size, 3, none⟩ = some (.slice A1 N c1) ∧ u.cell? ⟨w.heap.size, 4, none⟩ = some (.slice A2 N c2) ∧ u.cell? ⟨w.heap.size, 5, none⟩ = some (.slice A3 N c3) ∧ u.cell? ⟨w2.heap.size, k, none⟩ = some (.slice VA nk vc)) w6) := ⟨X6.c0, X6.c1, X6.c2, X6.c3, X6.c4, X6.c5, p7⟩
                      obtain ⟨P6, e6, rfl⟩ : ∃ A c, v6 = .slice A (nk + 1) c := by
                        rcases o6.2 with ⟨_, h0⟩ | ⟨g, cap, cur, hv, _⟩
                        · omega
                        · exact ⟨_, _, hv⟩
                      have O6 := Lib.hid o6
                      have G6 := Lib.hid g6
                      have A6 := Lib.hid a6
                      clear o6 g6 a6 hne hU5 hblk X6
                      refine hK.out _ _ (fun hz => by rw [hSa]; exact K6.out) (fun hH => ?_)
                      have hHeld := hH (by omega)
                      clear hK K hH
                      refine till_take (i := 11) (v := ?va_11) rfl (by kernel_rfl) (by kernel_rfl) (by kernel_rfl) (by kernel_rfl) (fun _ _ _ h => h) (Or.inl ⟨by rfl, ?hya_11⟩) (by assumption) ?resta_11
                      case hya_11 =>
                        intro u hSw
                        rw [hSa] at hSw; obtain ⟨x0, x1, x2, x3, x4, x5, x6⟩ := hSw
                        go_simp
                        try with_reducible rfl
                      case resta_11 =>
                        simp only [List.getElem_toArray, List.getElem_cons_zero, List.getElem_cons_succ, Act.put, List.setIfInBounds_toArray, List.set_cons_zero, List.set_cons_succ]
                        refine till_one (i := 12) rfl (by kernel_rfl) (fun K hK => ?_)
                        go_simp
                        refine hK.out _ _ (fun hz => absurd rfl hz) (fun hH => ?_)
                        clear hK K hH
                        refine till_done (by kernel_rfl) ?_ _
                        have RA : RowsW (w5.alloc (.cells #[.int .i64 tt, .int .i64 mm, .int .i64 rr] 105)) w2.heap.size wr.heap.size (.slice (some ⟨w2.heap.size, 0, none⟩) K K) (AA i) vs := HV.out.stays fun k _ hk => (U5.out.alloc U5.out.size _).block k (Nat.lt_of_lt_of_le hk UL.out)
                        have UW : wr.heap.size ≤ (w5.alloc (.cells #[.int .i64 tt, .int .i64 mm, .int .i64 rr] 105)).heap.size := Nat.le_trans UL.out (U5.out.alloc U5.out.size _).size
                        have HG6 : (w5.alloc (.cells #[.int .i64 tt, .int .i64 mm, .int .i64 rr] 105)).grownBy w6 (vs.getD k (.slice none 0 0)).ownBlock := by rw [HVk.out]; exact G6.out
                        have HO6 : RowO w6 w2.heap.size (.slice P6 (nk + 1) e6) (ys ++ [tt, mm, rr]) := by
                          have h := O6.out
                          unfold RowO RowP
                          rw [List.length_append, show (ys.length + [tt, mm, rr].length) / 3 = nk + 1 by simp; omega, show ints (ys ++ [tt, mm, rr]) = ints ys ++ ints [tt, mm, rr] by simp [ints]]
                          exact h
                        have HW := RA.grow (j := k) HAl.symm (by rw [HAl]; exact hkK) UW HO6 HG6 (fun q hq => by
                          rcases A6.out with h1 | h1
                          · exact .inl (by rw [HVk.out, ← h1]; exact hq)
                          · exact .inr (by rw [h1] at hq; injection hq with hq; omega))
                        rw [HSk.out] at HW
                        have HWF := Lib.hid HW
                        have HBF : Hid (Below w2.heap.size w2 (w6.setCell ⟨w2.heap.size, k, none⟩ (.slice P6 (nk + 1) e6))) := (HB4.out.trans B6.out).setCell (p := ⟨w2.heap.size, k, none⟩) (Nat.le_refl _) _
                        have hsF : w2.heap.size < (w6.setCell ⟨w2.heap.size, k, none⟩ (.slice P6 (nk + 1) e6)).heap.size := by
                          have := B6.out.size
                          simp
                          omega
                        clear HW RA UW HG6 HO6 O6 G6 A6 K6 p7 p8
                        go_wp2
                        go_roundw
                        case rel => exact ⟨i + 1, by omega, by go_num, ⟨_, HWF.out⟩, HBF.out, hsF⟩
                        case measure => simp [intOf]; omega
    · obtain rfl : i = N := by omega
      go_wp2
      go_ret
      exact ⟨_, rfl, HR.out.mono HB2.out.size, HB2.out.trans (HB.out.mono HB2.out.size)⟩
end Go.Proofs.YtmimilchldjkbaaDoor
