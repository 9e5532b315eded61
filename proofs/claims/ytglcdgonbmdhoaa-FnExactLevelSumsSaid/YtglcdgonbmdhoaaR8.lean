/-
  Contracts: the program's LevelSums.
-/
import Derived.Test.YtglcdgonbmdhoaaR7
import Derived.Test.YtglcdgonbmdhoaaM13
namespace Go.Proofs.Ytglcdgonbmdhoaa
open Go.RowKit
set_option linter.unusedVariables false

/-- The first j levels, the others empty. -/
def levP (x y z : Int) (ts gs : List Int) (n j : Nat) : List (List Int) := levN x y z ts gs j ++ List.replicate (n - j) []
theorem levP_len (x y z : Int) (ts gs : List Int) (n : Nat) {j : Nat} (h : j ≤ n) : (levP x y z ts gs n j).length = n := by simp [levP, levN_len]; omega
theorem levP_zero (x y z : Int) (ts gs : List Int) (n : Nat) : levP x y z ts gs n 0 = List.replicate n [] := by simp [levP, levN]
theorem levP_all (x y z : Int) (ts gs : List Int) (n : Nat) : levP x y z ts gs n n = levN x y z ts gs n := by simp [levP]
theorem levP_set (x y z : Int) (ts gs : List Int) (n j : Nat) (h : j < n) : (levP x y z ts gs n j).set j (levS x y z ts gs j) = levP x y z ts gs n (j + 1) := by
  unfold levP
  rw [levN_succ, List.set_append_right _ _ (by rw [levN_len]; exact Nat.le_refl _), levN_len, Nat.sub_self, show n - j = (n - (j + 1)) + 1 by omega, List.replicate_succ, List.set_cons_zero, List.append_assoc]
  rfl
theorem nils (n : Nat) : (madeCells #[.slice none 0 0] n).toList = List.replicate n (.slice none 0 0) := toList_madeCells_one _ n
theorem rows_nils (w : World) (n : Nat) (hn : n ≤ maxLen) : Rows (w.alloc (.cells (madeCells #[.slice none 0 0] n) 24)) w.heap.size (w.alloc (.cells (madeCells #[.slice none 0 0] n) 24)).heap.size (.slice (some ⟨w.heap.size, 0, none⟩) n n) (List.replicate n []) := by
  have ho := World.ownsRow_lit (base := w.heap.size) (e := 24) (size := 1) w (madeCells #[.slice none 0 0] n) n (Nat.le_refl _) hn (by rw [size_madeCells]; simp)
  rw [nils] at ho
  have hv : ∀ i, (List.replicate n (Value.slice none 0 0)).getD i (.slice none 0 0) = .slice none 0 0 := fun i => by simp [List.getD_eq_getElem?_getD, List.getElem?_replicate]; split <;> rfl
  have hx : ∀ i, (List.replicate n ([] : List Int)).getD i [] = [] := fun i => by simp [List.getD_eq_getElem?_getD, List.getElem?_replicate]; split <;> rfl
  refine ⟨List.replicate n (.slice none 0 0), by simp, by simpa using ho, fun k hk => (World.ownsRow.lt ho k hk).2, fun i hi => ?_, fun i k hi hk => ?_, fun i j hi hj hne => ?_⟩
  · rw [hv, hx]; exact Row.nil _ _
  · rw [hv] at hk; simp [Value.ownBlock] at hk
  · rw [hv]; exact .inl rfl

set_option maxHeartbeats 4000000 in
theorem c_LevelSums (x y z : Int) (v1 v2 v3 : Value) (ts gs rs : List Int) (w : World) (l1 : ts.length ≤ 4000000) (l2 : gs.length ≤ 4000000) (l3 : rs.length ≤ 4000000) (h : Look w v1 v2 v3 ts gs rs) :
    Calls Try.prog 33 #[.agg #[.int .i64 x, .int .i64 y, .int .i64 z, v1, v2, v3]] w (GivesRows2 w (lsL x y z ts gs rs) (moB x y z ts gs rs)) := by
  obtain ⟨i0, hi0, hz0, hz1, hz2⟩ := info_parts list_info
  have hmk : ∀ (n : Nat) (W : World), n ≤ 100 → (Instr.makeSlice 48 (.int .i64 (n : Int)) (.int .i64 (n : Int))).run Try.prog W = .ok (.slice (some ⟨W.heap.size, 0, none⟩) n n) (W.alloc (.cells (madeCells #[.slice none 0 0] n) 24)) := fun n W hn => by
    have := run_make (P := Try.prog) W 48 24 i0 (.slice none 0 0) Try.underlying48 hi0 hz0 .i64 .i64 (n : Int) (n : Int) (by omega) (by omega) (by rw [hz2]; omega) (by omega)
    simpa [hz1, Value.cells] using this
  have HMK := Lib.hid hmk
  clear hmk hi0 hz0 hz1 hz2
  have hmf : ∀ (fn : Fn) (first cap : Array Value) (w : World), (Instr.makeFunc fn first cap).run Try.prog w = .ok (.func fn first cap) w := fun _ _ _ _ => rfl
  have H := Lib.hid h
  obtain ⟨A1, c1, rfl⟩ := h.t.shape
  obtain ⟨A2, c2, rfl⟩ := h.g.shape
  obtain ⟨A3, c3, rfl⟩ := h.r.shape
  clear h
  have HX0 : Hid (Box6 (w.alloc (.cells #[.int .i64 x, .int .i64 y, .int .i64 z, (.slice A1 ts.length c1), (.slice A2 gs.length c2), (.slice A3 rs.length c3)] 32)) w.heap.size x y z (.slice A1 ts.length c1) (.slice A2 gs.length c2) (.slice A3 rs.length c3)) := Box6.new _ _ _ _ _ _ _ _
  have HB0 : Hid (Below w.heap.size w (w.alloc (.cells #[.int .i64 x, .int .i64 y, .int .i64 z, (.slice A1 ts.length c1), (.slice A2 gs.length c2), (.slice A3 rs.length c3)] 32))) := (Below.refl _ _).alloc (Nat.le_refl _) _
  unfold lsL
  cases hm : moB x y z ts gs rs
  · have HM := Lib.hid hm
    simp only [Bool.false_eq_true, if_false]
    clear hm
    go_enter Try.func33, Try.ntmps33
    go_wp2_with fail
    refine (c_IsModel x y z _ _ _ ts gs rs _ l1 l2 l3 (H.out.below HB0.out)).mono ?_
    rintro e w1 ⟨rfl, hb1⟩
    rw [HM.out]
    have HX1 := Lib.hid (HX0.out.below hb1)
    have HB1 : Hid (Below w.heap.size w w1) := HB0.out.trans (hb1.mono HB0.out.size)
    clear hb1
    go_wp2
    go_ret2
    exact ⟨_, rfl, Rows.nil _ _ _, HB1.out⟩
  · have HM := Lib.hid hm
    simp only [if_true]
    have HG := Lib.hid (mo_true hm).1
    obtain ⟨x1, x2, y1, y2, z1, z2, p1, p2, q1, q2⟩ := good_box (mo_true hm).1
    have CW : Hid (∀ (j : Nat) (b5 : Nat) (u : World), (j : Int) < z → b5 < u.heap.size → u.cell? ⟨b5, 0, none⟩ = some (.int .i64 j) → Calls Try.prog 62 #[.agg #[.int .i64 x, .int .i64 y, .int .i64 z], .func (.func 63) #[] #[.pointer (some ⟨b5, 0, none⟩)]] u (GivesRow u (lvL x y z j))) := fun j b5 u hj hb hc => by
      rw [show lvL x y z j = sel (fun k => k / x / y == (j : Int)) (nB x y z) from if_pos (lev_lvB hm hj)]
      exact c_where_LevelSums x y z b5 (fun k => k / x / y == (j : Int)) u HG.out (nB x y z) (nB_eq HG.out) (fun k u' hk0 hk hu' => c_fnLevel b5 _ _ _ _ u' (Nat.lt_of_lt_of_le hb hu'.size) (by rw [hu'.cell (p := ⟨b5, 0, none⟩) hb]; exact hc))
    have CS : Hid (∀ (j : Nat) (v : Value) (u : World), (j : Int) < z → Below w.heap.size w u → Seen u v (lvL x y z j) → Calls Try.prog 53 #[.agg #[.int .i64 x, .int .i64 y, .int .i64 z, .slice A1 ts.length c1, .slice A2 gs.length c2, .slice A3 rs.length c3], v] u fun e w' => e = .returned (.tuple #[.int .i64 (sumT ts (lvL x y z j)), .int .i64 (sumM ts gs (lvL x y z j))]) ∧ Below u.heap.size u w') := fun j v u hj hu hs =>
      c_sumBlocks x y z _ _ _ ts gs rs v _ u l1 l2 (by have := lev_short hm hj; omega) (H.out.below hu) hs (lev_list hm hj)
    obtain ⟨Z, rfl⟩ := Int.eq_ofNat_of_zero_le (show 0 ≤ z by omega)
    simp only [Int.toNat_natCast]
    have EL : Hid (∀ j, j ≤ Z → (levP x y (Z : Int) ts gs Z j).length = Z) := fun j hj => levP_len x y Z ts gs Z hj
    have ES : Hid (∀ j : Nat, j < Z → (levP x y (Z : Int) ts gs Z j).set j [sumT ts (lvL x y (Z : Int) j), sumM ts gs (lvL x y (Z : Int) j)] = levP x y (Z : Int) ts gs Z (j + 1)) := fun j hj => levP_set x y Z ts gs Z j hj
    have EZ : Hid (levP x y (Z : Int) ts gs Z 0 = List.replicate Z []) := levP_zero x y Z ts gs Z
    have EA : Hid (levP x y (Z : Int) ts gs Z Z = levN x y (Z : Int) ts gs Z) := levP_all x y Z ts gs Z
    clear hm p1 p2 q1 q2
    generalize levP x y (Z : Int) ts gs Z = L at *
    generalize levN x y (Z : Int) ts gs Z = LN at *
    have hZ : Z ≤ 5 := by omega
    go_enter Try.func33, Try.ntmps33
    go_wp2_with fail
    refine (c_IsModel x y Z _ _ _ ts gs rs _ l1 l2 l3 (H.out.below HB0.out)).mono ?_
    rintro e w1 ⟨rfl, hb1⟩
    rw [HM.out]
    have HX1 := Lib.hid (HX0.out.below hb1)
    have HB1 : Hid (Below w.heap.size w w1) := HB0.out.trans (hb1.mono HB0.out.size)
    clear hb1
    have d1_0 := HX1.out.c0
    have d1_1 := HX1.out.c1
    have d1_2 := HX1.out.c2
    have d1_3 := HX1.out.c3
    have d1_4 := HX1.out.c4
    have d1_5 := HX1.out.c5
    have HR1 : Hid (Rows (w1.alloc (.cells (madeCells #[.slice none 0 0] Z) 24)) w1.heap.size (w1.alloc (.cells (madeCells #[.slice none 0 0] Z) 24)).heap.size (.slice (some ⟨w1.heap.size, 0, none⟩) Z Z) (L 0)) := by rw [EZ.out]; exact rows_nils w1 Z (by unfold maxLen; omega)
    have HA1 : Hid (Below w1.heap.size w1 (w1.alloc (.cells (madeCells #[.slice none 0 0] Z) 24))) := (Below.refl _ _).alloc (Nat.le_refl _) _
    have hk1 := HMK.out Z w1 (by omega)
    have lt1 := HX1.out.lt
    go_wp2_with fail
    go_loopw [17] (fun i wr => ∃ j : Nat, j ≤ Z ∧ i = .int .i64 j ∧ Rows wr w1.heap.size wr.heap.size (.slice (some ⟨w1.heap.size, 0, none⟩) Z Z) (L j) ∧ Below w.heap.size w wr ∧ Box6 wr w.heap.size x y Z (.slice A1 ts.length c1) (.slice A2 gs.length c2) (.slice A3 rs.length c3) ∧ w1.heap.size < wr.heap.size) (fun i _ => Z - (intOf i).toNat)
    case atStart => exact ⟨0, Nat.zero_le _, rfl, HR1.out, HB1.out.trans (HA1.out.mono HB1.out.size), HX1.out.below HA1.out, by simp⟩
    case round =>
      obtain ⟨j, hj, rfl, hr, hbw, hbx, hsz⟩ := hrel
      have HR := Lib.hid hr
      have HB := Lib.hid hbw
      have HX := Lib.hid hbx
      clear hr hbw hbx hk1
      by_cases hlt : j < Z
      · have b1 : (0 : Int) ≤ (j : Int) := by omega
        have b2 : (j : Int) < (Z : Int) := by omega
        have es : Hid ((L j).set j [sumT ts (lvL x y Z j), sumM ts gs (lvL x y Z j)] = L (j + 1)) := ES.out j hlt
        have C1 := Lib.hid (fun b5 u => CW.out j b5 u b2)
        have C2 := Lib.hid (fun v u => CS.out j v u b2)
        generalize sumT ts (lvL x y Z j) = s at *
        generalize sumM ts gs (lvL x y Z j) = m at *
        generalize lvL x y Z j = bs at *
        have hba : Below wr.heap.size wr (wr.alloc (.cells #[.int .i64 j] 3)) := (Below.refl _ _).alloc (Nat.le_refl _) _
        have HRa := Lib.hid (HR.out.below hba (Nat.le_refl _))
        have HXa := Lib.hid (HX.out.below hba)
        have HBa : Hid (Below w.heap.size w (wr.alloc (.cells #[.int .i64 j] 3))) := HB.out.trans (hba.mono HB.out.size)
        have HCa : Hid ((wr.alloc (.cells #[.int .i64 j] 3)).cell? ⟨wr.heap.size, 0, none⟩ = some (.int .i64 j)) := by simp [Hid]
        have HZa : Hid (wr.heap.size < (wr.alloc (.cells #[.int .i64 j] 3)).heap.size) := by simp [Hid]
        have ltr := HX.out.lt
        clear hba
        go_upto_region 7 with fail
        generalize wr.alloc (.cells #[.int .i64 j] 3) = wa at *
        have KE : Hid (∀ u, Below wa.heap.size wa u → u.cell? ⟨w.heap.size, 0, none⟩ = some (.int .i64 x) ∧ u.cell? ⟨w.heap.size, 1, none⟩ = some (.int .i64 y) ∧ u.cell? ⟨w.heap.size, 2, none⟩ = some (.int .i64 Z) ∧ u.cell? ⟨w.heap.size, 3, none⟩ = some (.slice A1 ts.length c1) ∧ u.cell? ⟨w.heap.size, 4, none⟩ = some (.slice A2 gs.length c2) ∧ u.cell? ⟨w.heap.size, 5, none⟩ = some (.slice A3 rs.length c3)) := fun u hu => by
          have hX := HXa.out.below hu
          exact ⟨hX.c0, hX.c1, hX.c2, hX.c3, hX.c4, hX.c5⟩
        have KB : Hid (∀ u, Below wa.heap.size wa u → Below w.heap.size w u) := fun u hu => HBa.out.trans (hu.mono HBa.out.size)
        have KC : Hid (∀ u, Below wa.heap.size wa u → wr.heap.size < u.heap.size ∧ u.cell? ⟨wr.heap.size, 0, none⟩ = some (.int .i64 j)) := fun u hu => ⟨Nat.lt_of_lt_of_le HZa.out hu.size, by rw [hu.cell (p := ⟨wr.heap.size, 0, none⟩) HZa.out]; exact HCa.out⟩
        have KD : Hid (Below wa.heap.size wa wa.drew) := (Below.refl _ _).drew
        go_region_held3 (fun u => u.cell? ⟨w.heap.size, 0, none⟩ = some (.int .i64 x) ∧ u.cell? ⟨w.heap.size, 1, none⟩ = some (.int .i64 y) ∧ u.cell? ⟨w.heap.size, 2, none⟩ = some (.int .i64 Z) ∧ u.cell? ⟨w.heap.size, 3, none⟩ = some (.slice A1 ts.length c1) ∧ u.cell? ⟨w.heap.size, 4, none⟩ = some (.slice A2 gs.length c2) ∧ u.cell? ⟨w.heap.size, 5, none⟩ = some (.slice A3 rs.length c3)) (first | with_reducible exact KE.out _ KD.out | with_reducible exact KE.out _ HU2.out | with_reducible exact KE.out _ HU3.out)
          (first
            | (go_at_call 62; (with_reducible refine (C1.out wr.heap.size _ (KC.out _ KD.out).1 (KC.out _ KD.out).2).mono ?_); rintro e w2 ⟨v, rfl, hr2, hb2⟩; obtain ⟨V, cV, rfl⟩ := hr2.shape; have HU2 : Hid (Below wa.heap.size wa w2) := KD.out.trans (hb2.mono KD.out.size); have HV := Lib.hid hr2.seen; clear hr2 hb2)
            | (go_at_call 53; (with_reducible refine (C2.out _ _ (KB.out _ HU2.out) HV.out).mono ?_); rintro e w3 ⟨rfl, hb3⟩; have HU3 : Hid (Below wa.heap.size wa w3) := HU2.out.trans (hb3.mono HU2.out.size); clear hb3))
        have HR3 := Lib.hid (HRa.out.below HU3.out (Nat.le_of_lt HZa.out))
        have HX3 := Lib.hid (HXa.out.below HU3.out)
        have HB3 := Lib.hid (KB.out _ HU3.out)
        obtain ⟨z3, c3'⟩ := KC.out _ HU3.out
        have hba : Below w3.heap.size w3 (w3.alloc (.cells #[.int .i64 s, .int .i64 m] 3)) := (Below.refl _ _).alloc (Nat.le_refl _) _
        have HP4 : Hid (Row (w3.alloc (.cells #[.int .i64 s, .int .i64 m] 3)) w1.heap.size (.slice (some ⟨w3.heap.size, 0, none⟩) 2 2) [s, m]) := (row_pair w3 s m).mono (by omega)
        have HR4 := Lib.hid (HR3.out.below hba (Nat.le_of_lt z3))
        have HX4 := Lib.hid (HX3.out.below hba)
        have HB4 : Hid (Below w.heap.size w (w3.alloc (.cells #[.int .i64 s, .int .i64 m] 3))) := HB3.out.trans (hba.mono HB3.out.size)
        clear hba
        obtain ⟨vs, hv4⟩ := HR4.out
        have HV4 := Lib.hid hv4
        clear hv4
        have hlen : (L j).length = Z := EL.out j hj
        have qc : Hid ((w3.alloc (.cells #[.int .i64 s, .int .i64 m] 3)).cell? ⟨w1.heap.size, j, none⟩ = some (vs.getD j (.slice none 0 0))) := by
          have := HV4.out
          rw [← hlen] at this
          exact this.cell (i := j) (by omega)
        have qf : (w3.alloc (.cells #[.int .i64 s, .int .i64 m] 3)).frozen? ⟨w1.heap.size, j, none⟩ = false := World.ownsRow.frozenAt (by have := HV4.out.own; rw [hlen] at this; exact this : (w3.alloc (.cells #[.int .i64 s, .int .i64 m] 3)).ownsRow w1.heap.size 24 1 (.slice (some ⟨w1.heap.size, 0, none⟩) Z Z) Z vs) j
        have N1 := Lib.hid (HV4.out.put (j := j) hlen.symm (by omega) HP4.out (fun k hk => by simp [Value.ownBlock] at hk; omega))
        rw [es.out] at N1
        have N2 : Hid (Below w.heap.size w ((w3.alloc (.cells #[.int .i64 s, .int .i64 m] 3)).setCell ⟨w1.heap.size, j, none⟩ (.slice (some ⟨w3.heap.size, 0, none⟩) 2 2))) := HB4.out.setCell (by show _ ≤ w1.heap.size; omega) _
        have N3 := Lib.hid (HX4.out.far (a := ⟨w1.heap.size, j, none⟩) (by show w1.heap.size ≠ _; omega) (.slice (some ⟨w3.heap.size, 0, none⟩) 2 2))
        have w13 : w1.heap.size < w3.heap.size := by omega
        have NE : Hid ((w3.alloc (.cells #[.int .i64 s, .int .i64 m] 3)).setCell ⟨w1.heap.size, j, none⟩ (.slice (some ⟨w3.heap.size, 0, none⟩) 2 2) = (w3.setCell ⟨w1.heap.size, j, none⟩ (.slice (some ⟨w3.heap.size, 0, none⟩) 2 2)).alloc (.cells #[.int .i64 s, .int .i64 m] 3)) := by simp [Hid, go_sem, w13]
        rw [NE.out] at N1 N2 N3
        have qc' := qc.out
        generalize vs.getD j (.slice none 0 0) = old at qc'
        clear hlen
        go_wp2
        go_roundw
        case rel => exact ⟨j + 1, by omega, by go_num, ⟨_, N1.out⟩, N2.out, N3.out, by simp; omega⟩
        case measure => simp [intOf]; omega
      · obtain rfl : j = Z := by omega
        go_wp2
        go_ret2
        exact ⟨_, rfl, by have := HR.out; rw [EA.out] at this; exact this.mono HB1.out.size, HB.out⟩
end Go.Proofs.Ytglcdgonbmdhoaa
