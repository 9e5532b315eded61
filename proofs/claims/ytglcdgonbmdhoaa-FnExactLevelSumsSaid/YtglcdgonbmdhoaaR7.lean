/-
  Contracts: the model's LevelSums.
-/
import Derived.Test.YtglcdgonbmdhoaaR6
import Derived.Test.YtglcdgonbmdhoaaM11
namespace Go.Proofs.Ytglcdgonbmdhoaa
open Go.RowKit
set_option linter.unusedVariables false

theorem Rows.mono {w : World} {B B' U : Nat} {v : Value} {xss : List (List Int)} (h : Rows w B U v xss) (hB : B' ≤ B) : Rows w B' U v xss := by
  obtain ⟨vs, h⟩ := h
  exact ⟨vs, h.len, World.ownsRow.mono h.own hB, h.top, fun i hi => (h.row i hi).mono hB, h.rtop, h.apart⟩

set_option maxHeartbeats 4000000 in
theorem c_LevelSumsS (x y z : Int) (v1 v2 v3 : Value) (ts gs rs : List Int) (w : World) (l1 : ts.length ≤ 4000000) (l2 : gs.length ≤ 4000000) (l3 : rs.length ≤ 4000000) (h : Look w v1 v2 v3 ts gs rs) :
    Calls Try.prog 32 #[.agg #[.int .i64 x, .int .i64 y, .int .i64 z, v1, v2, v3]] w (GivesRows2 w (lsL x y z ts gs rs) (moB x y z ts gs rs)) := by
  obtain ⟨i0, hi0, hz0, hz1, hz2⟩ := info_parts list_info
  have HI := Lib.hid hi0
  clear hi0
  have H := Lib.hid h
  obtain ⟨A1, c1, rfl⟩ := h.t.shape
  obtain ⟨A2, c2, rfl⟩ := h.g.shape
  obtain ⟨A3, c3, rfl⟩ := h.r.shape
  clear h
  have HX0 : Hid (Box6 (w.alloc (.cells #[.int .i64 x, .int .i64 y, .int .i64 z, (.slice A1 ts.length c1), (.slice A2 gs.length c2), (.slice A3 rs.length c3)] 32)) w.heap.size x y z (.slice A1 ts.length c1) (.slice A2 gs.length c2) (.slice A3 rs.length c3)) := Box6.new _ _ _ _ _ _ _ _
  have HB0 : Hid (Below w.heap.size w (w.alloc (.cells #[.int .i64 x, .int .i64 y, .int .i64 z, (.slice A1 ts.length c1), (.slice A2 gs.length c2), (.slice A3 rs.length c3)] 32))) := (Below.refl _ _).alloc (Nat.le_refl _) _
  unfold lsL
  cases hm : moB x y z ts gs rs
  · have HM := Lib.hid hm
    simp only [Bool.false_eq_true, if_false]
    clear hm
    go_enter Try.func32, Try.ntmps32
    go_wp2_with fail
    refine (c_moGood x y z _ _ _ ts gs rs _ l1 l2 l3 (H.out.below HB0.out)).mono ?_
    rintro e w1 ⟨rfl, hb1⟩
    rw [HM.out]
    have HX1 := Lib.hid (HX0.out.below hb1)
    have HB1 : Hid (Below w.heap.size w w1) := HB0.out.trans (hb1.mono HB0.out.size)
    clear hb1
    go_wp2
    go_ret2
    exact ⟨_, rfl, Rows.nil _ _ _, HB1.out⟩
  · have HM := Lib.hid hm
    simp only [if_true]
    obtain ⟨x1, x2, y1, y2, z1, z2, p1, p2, q1, q2⟩ := good_box (mo_true hm).1
    have CL : Hid (∀ (j : Nat) (u : World), (j : Int) < z → Calls Try.prog 61 #[.agg #[.int .i64 x, .int .i64 y, .int .i64 z], .int .i64 j] u (GivesRow2 u (lvL x y z j) true)) := fun j u hj => by
      have := c_LevelBlocksS x y z j u
      rw [lev_lvB hm hj] at this
      exact this
    have CS : Hid (∀ (j : Nat) (v : Value) (u : World), (j : Int) < z → Below w.heap.size w u → Seen u v (lvL x y z j) → Calls Try.prog 51 #[.agg #[.int .i64 x, .int .i64 y, .int .i64 z, .slice A1 ts.length c1, .slice A2 gs.length c2, .slice A3 rs.length c3], v] u fun e w' => e = .returned (.tuple #[.int .i64 (sumT ts (lvL x y z j)), .int .i64 (sumM ts gs (lvL x y z j))]) ∧ Below u.heap.size u w') := fun j v u hj hu hs =>
      c_moSums x y z _ _ _ ts gs rs v _ u l1 l2 (by have := lev_short hm hj; omega) (H.out.below hu) hs (lev_list hm hj)
    have EL : Hid (∀ j, (levN x y z ts gs j).length = j) := levN_len x y z ts gs
    have ES : Hid (∀ j : Nat, levN x y z ts gs j ++ [[sumT ts (lvL x y z j), sumM ts gs (lvL x y z j)]] = levN x y z ts gs (j + 1)) := fun j => (levN_succ x y z ts gs j).symm
    have EZ : Hid (levN x y z ts gs 0 = []) := rfl
    obtain ⟨Z, rfl⟩ := Int.eq_ofNat_of_zero_le (show 0 ≤ z by omega)
    simp only [Int.toNat_natCast]
    clear hm p1 p2 q1 q2
    generalize levN x y (Z : Int) ts gs = L at *
    go_enter Try.func32, Try.ntmps32
    go_wp2_with fail
    refine (c_moGood x y Z _ _ _ ts gs rs _ l1 l2 l3 (H.out.below HB0.out)).mono ?_
    rintro e w1 ⟨rfl, hb1⟩
    rw [HM.out]
    have HX1 := Lib.hid (HX0.out.below hb1)
    have HB1 : Hid (Below w.heap.size w w1) := HB0.out.trans (hb1.mono HB0.out.size)
    clear hb1
    have d1_0 := HX1.out.c0
    have d1_1 := HX1.out.c1
    have d1_2 := HX1.out.c2
    have d1_3 := HX1.out.c3
    have d1_4 := HX1.out.c4
    have d1_5 := HX1.out.c5
    go_wp2_with fail
    go_loopw [4, 5] (fun v i wr => ∃ j : Nat, j ≤ Z ∧ i = .int .i64 j ∧ Rows wr (w.heap.size + 1) wr.heap.size v (L j) ∧ Below w.heap.size w wr ∧ Box6 wr w.heap.size x y Z (.slice A1 ts.length c1) (.slice A2 gs.length c2) (.slice A3 rs.length c3)) (fun _ i _ => Z - (intOf i).toNat)
    case atStart => exact ⟨0, Nat.zero_le _, rfl, by rw [EZ.out]; exact Rows.nil _ _ _, HB1.out, HX1.out⟩
    case round =>
      obtain ⟨j, hj, rfl, hr, hbw, hbx⟩ := hrel
      have HR := Lib.hid hr
      have HB := Lib.hid hbw
      have HX := Lib.hid hbx
      clear hr hbw hbx
      have d0 := HX.out.c0
      have d1 := HX.out.c1
      have d2 := HX.out.c2
      have d3 := HX.out.c3
      have d4 := HX.out.c4
      have d5 := HX.out.c5
      by_cases hlt : j < Z
      · have b1 : (0 : Int) ≤ (j : Int) := by omega
        have b2 : (j : Int) < (Z : Int) := by omega
        have es : Hid (L j ++ [[sumT ts (lvL x y Z j), sumM ts gs (lvL x y Z j)]] = L (j + 1)) := ES.out j
        have C2 := Lib.hid (fun v u => CS.out j v u b2)
        have C1 := Lib.hid (fun u => CL.out j u b2)
        generalize sumT ts (lvL x y Z j) = s at *
        generalize sumM ts gs (lvL x y Z j) = m at *
        generalize lvL x y Z j = bs at *
        go_wp2_with fail
        refine (C1.out _).mono ?_
        rintro e w2 ⟨v2, rfl, hr2, hb2⟩
        obtain ⟨V, cV, rfl⟩ := hr2.shape
        have HV := Lib.hid hr2.seen
        have HR2 := Lib.hid (HR.out.below hb2 (Nat.le_refl _))
        have HX2 := Lib.hid (HX.out.below hb2)
        have HB2 : Hid (Below w.heap.size w w2) := HB.out.trans (hb2.mono HB.out.size)
        have sz2 := hb2.size
        clear hr2 hb2
        have e0 := HX2.out.c0
        have e1 := HX2.out.c1
        have e2 := HX2.out.c2
        have e3 := HX2.out.c3
        have e4 := HX2.out.c4
        have e5 := HX2.out.c5
        go_wp2_with fail
        refine (C2.out _ _ HB2.out HV.out).mono ?_
        rintro e w3 ⟨rfl, hb3⟩
        have HR3 := Lib.hid (HR2.out.below hb3 sz2)
        have HX3 := Lib.hid (HX2.out.below hb3)
        have HB3 : Hid (Below w.heap.size w w3) := HB2.out.trans (hb3.mono HB2.out.size)
        have sz3 : wr.heap.size ≤ w3.heap.size := Nat.le_trans sz2 hb3.size
        clear hb3
        -- the pair, and the block that hands it to append
        have hba : Below w3.heap.size w3 (w3.alloc (.cells #[.int .i64 s, .int .i64 m] 3)) := (Below.refl _ _).alloc (Nat.le_refl _) _
        have HP4 : Hid (Row (w3.alloc (.cells #[.int .i64 s, .int .i64 m] 3)) (w.heap.size + 1) (.slice (some ⟨w3.heap.size, 0, none⟩) 2 2) [s, m]) := (row_pair w3 s m).mono HX3.out.lt
        have HR4 := Lib.hid (HR3.out.below hba sz3)
        have HX4 := Lib.hid (HX3.out.below hba)
        have HB4 : Hid (Below w.heap.size w (w3.alloc (.cells #[.int .i64 s, .int .i64 m] 3))) := HB3.out.trans (hba.mono HB3.out.size)
        have sz4 : wr.heap.size ≤ (w3.alloc (.cells #[.int .i64 s, .int .i64 m] 3)).heap.size := Nat.le_trans sz3 hba.size
        clear hba
        have hbb : Below (w3.alloc (.cells #[.int .i64 s, .int .i64 m] 3)).heap.size (w3.alloc (.cells #[.int .i64 s, .int .i64 m] 3)) ((w3.alloc (.cells #[.int .i64 s, .int .i64 m] 3)).alloc (.cells #[.slice (some ⟨w3.heap.size, 0, none⟩) 2 2] 24)) := (Below.refl _ _).alloc (Nat.le_refl _) _
        have HP5 := Lib.hid (HP4.out.below hbb)
        have HR5 := Lib.hid (HR4.out.below hbb sz4)
        have HX5 := Lib.hid (HX4.out.below hbb)
        have HB5 : Hid (Below w.heap.size w ((w3.alloc (.cells #[.int .i64 s, .int .i64 m] 3)).alloc (.cells #[.slice (some ⟨w3.heap.size, 0, none⟩) 2 2] 24))) := HB4.out.trans (hbb.mono HB4.out.size)
        clear hbb sz4
        obtain ⟨vs, hv5⟩ := HR5.out
        have HV5 := Lib.hid hv5
        clear hv5
        have hlen : (L j).length = j := EL.out j
        have ltx := HX.out.lt
        go_wp2_with (at_builtin; refine wpList_append_own _ rfl _ _ 48 rfl (w.heap.size + 1) 24 i0 (.slice none 0 0) 1 24 Try.underlying48 HI.out hz0 hz1 hz2 rfl (by decide) _ _ _ rfl HV5.out.own ⟨w3.heap.size + 1, 0, none⟩ 1 1 [.slice (some ⟨w3.heap.size, 0, none⟩) 2 2] rfl rfl ?c1 ?c2 ?c3 ?c4 ?c5 ?_)
        case c1 =>
          intro q u hq
          match q, hq with
          | 0, hq => simp at hq; subst hq; simp [Addr.add]
        case c2 => intro u hu; simp at hu; subst hu; rfl
        case c3 => rw [hlen]; unfold maxLen; omega
        case c4 => rw [hlen]; omega
        case c5 => simp; omega
        intro v' w6 hown' hgrow _
        have N1 : Hid (Rows w6 (w.heap.size + 1) w6.heap.size v' (L (j + 1))) := ⟨_, by
          have := HV5.out.push HP5.out (fun k hk => by simp [Value.ownBlock] at hk; omega) (by rw [hlen]; exact hown') hgrow
          rw [es.out] at this
          exact this⟩
        have N2 : Hid (Below w.heap.size w w6) := HB5.out.grown hgrow (by simp; omega) (fun g hg => by have := (World.ownsRow.lt HV5.out.own g hg).1; omega)
        have N3 : Hid (Box6 w6 w.heap.size x y Z (.slice A1 ts.length c1) (.slice A2 gs.length c2) (.slice A3 rs.length c3)) := HX5.out.grown hgrow (fun e => by have := (World.ownsRow.lt HV5.out.own _ e).1; omega)
        clear hown' hgrow hlen
        go_wp2
        go_roundw
        case rel => exact ⟨j + 1, by omega, by go_num, N1.out, N2.out, N3.out⟩
        case measure => simp [intOf]; omega
      · obtain rfl : j = Z := by omega
        go_wp2
        go_ret2
        exact ⟨_, rfl, HR.out.mono (by omega), HB.out⟩
end Go.Proofs.Ytglcdgonbmdhoaa
