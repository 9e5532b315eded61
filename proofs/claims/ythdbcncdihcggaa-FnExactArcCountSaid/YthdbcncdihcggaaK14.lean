/-
  Contracts: arcs of slopes in the model.
-/
import Derived.Test.YthdbcncdihcggaaK13
import Derived.BigRegion
namespace Go.Proofs.Ythdbcncdihcggaa
open Go.RowKit
set_option linter.unusedVariables false

set_option maxHeartbeats 1000000 in
theorem c_slBoth (x y z : Int) (v1 v2 : Value) (ss : List Int) (tss : List (List Int)) (w : World) (l1 : ss.length ≤ 4000000) (l2 : ShortT tss) (h : LookS w v1 v2 ss tss) :
    Calls Try.prog 59 #[.agg #[.int .i64 x, .int .i64 y, .int .i64 z], .agg #[v1, v2]] w fun e w' => e = .returned (.bool (sloV x y z ss tss)) ∧ Below w.heap.size w w' := by
  have H := Lib.hid h
  have L2 := Lib.hid l2
  obtain ⟨A1, c1, rfl, m1, _⟩ := h.s
  obtain ⟨A2, c2, rfl, m2⟩ := h.t.shape
  clear h m1 m2 l2
  have HX0 : Hid (Box3 ((w.alloc (.cells #[.int .i64 x, .int .i64 y, .int .i64 z] 38)).alloc (.cells #[.slice A1 ss.length c1, .slice A2 tss.length c2] 42)) w.heap.size x y z) := (Box3.new _ _ _ _ _).below ((Below.refl _ _).alloc (Nat.le_refl _) _)
  have HY0 : Hid (Mine2 ((w.alloc (.cells #[.int .i64 x, .int .i64 y, .int .i64 z] 38)).alloc (.cells #[.slice A1 ss.length c1, .slice A2 tss.length c2] 42)) (w.heap.size + 1) (.slice A1 ss.length c1) (.slice A2 tss.length c2)) := by
    have := Mine2.new (w.alloc (.cells #[.int .i64 x, .int .i64 y, .int .i64 z] 38)) (.slice A1 ss.length c1) (.slice A2 tss.length c2) 42
    simp at this
    exact this
  have HB0 : Hid (Below w.heap.size w ((w.alloc (.cells #[.int .i64 x, .int .i64 y, .int .i64 z] 38)).alloc (.cells #[.slice A1 ss.length c1, .slice A2 tss.length c2] 42))) := ((Below.refl _ _).alloc (Nat.le_refl _) _).alloc (by simp) _
  have HV : Hid (sloV x y z ss tss = (goodB x y z && sloB x y ss tss)) := rfl
  generalize sloV x y z ss tss = RV at *
  cases hg : goodB x y z
  · have G : Hid (RV = false) := by have := HV.out; rw [hg] at this; exact this
    have C1 : Hid (∀ u, Calls Try.prog 47 #[.agg #[.int .i64 x, .int .i64 y, .int .i64 z]] u fun e w' => e = .returned (.bool false) ∧ Below u.heap.size u w') := fun u => by rw [← hg]; exact c_grGood x y z u
    clear hg HV
    go_enter Try.func59, Try.ntmps59
    go_wp2_with fail
    refine (C1.out _).mono ?_
    rintro e w1 ⟨rfl, hb1⟩
    have HB1 : Hid (Below w.heap.size w w1) := HB0.out.trans (hb1.mono HB0.out.size)
    clear hb1
    go_wp2
    go_ret
    exact ⟨ret_bool G.out.symm, HB1.out⟩
  · have C1 : Hid (∀ u, Calls Try.prog 47 #[.agg #[.int .i64 x, .int .i64 y, .int .i64 z]] u fun e w' => e = .returned (.bool true) ∧ Below u.heap.size u w') := fun u => by rw [← hg]; exact c_grGood x y z u
    have CG : Hid (∀ u, Below w.heap.size w u → Calls Try.prog 48 #[.agg #[.int .i64 x, .int .i64 y, .int .i64 z], .agg #[.slice A1 ss.length c1, .slice A2 tss.length c2]] u fun e w' => e = .returned (.bool (sloB x y ss tss)) ∧ Below u.heap.size u w') := fun u hu => c_slGood x y z _ _ ss tss u hg l1 L2.out (H.out.below hu)
    have G : Hid (RV = sloB x y ss tss) := by have := HV.out; rw [hg] at this; exact this
    clear HV hg
    go_enter Try.func59, Try.ntmps59
    go_wp2_with fail
    generalize ((w.alloc (.cells #[.int .i64 x, .int .i64 y, .int .i64 z] 38)).alloc (.cells #[.slice A1 ss.length c1, .slice A2 tss.length c2] 42)) = W at *
    refine (C1.out _).mono ?_
    rintro e w1 ⟨rfl, hb1⟩
    have HB1 : Hid (Below w.heap.size w w1) := HB0.out.trans (hb1.mono HB0.out.size)
    have HX1 := Lib.hid (HX0.out.below hb1)
    have HY1 := Lib.hid (HY0.out.below hb1)
    clear hb1
    have x0 := HX1.out.c0
    have x1 := HX1.out.c1
    have x2 := HX1.out.c2
    have y0 := HY1.out.c0
    have y1 := HY1.out.c1
    go_wp2_with fail
    refine (CG.out _ HB1.out).mono ?_
    rintro e w2 ⟨rfl, hb2⟩
    have HB2 : Hid (Below w.heap.size w w2) := HB1.out.trans (hb2.mono HB1.out.size)
    clear hb2
    go_wp2
    go_ret
    exact ⟨ret_bool G.out.symm, HB2.out⟩

theorem Rows.upR {w : World} {B U U' : Nat} {v : Value} {xss : List (List Int)} (h : Rows w B U v xss) (hU : U ≤ U') : Rows w B U' v xss := by
  obtain ⟨vs, h⟩ := h
  exact ⟨vs, h.len, h.own, fun k hk => Nat.lt_of_lt_of_le (h.top k hk) hU, h.row, fun i k hi hk => Nat.lt_of_lt_of_le (h.rtop i k hi hk) hU, h.apart⟩
def GivesR (w : World) (xss : List (List Int)) (e : Ending) (w' : World) : Prop := ∃ v, e = .returned v ∧ Rows w' w.heap.size w'.heap.size v xss ∧ Below w.heap.size w w'

set_option maxHeartbeats 4000000 in
set_option maxRecDepth 100000 in
theorem c_slArcs (x y z : Int) (v1 v2 : Value) (ss : List Int) (tss : List (List Int)) (w : World) (hg : Good x y z ss tss) (h : LookS w v1 v2 ss tss) :
    Calls Try.prog 60 #[.agg #[.int .i64 x, .int .i64 y, .int .i64 z], .agg #[v1, v2]] w (GivesR w (arcN x y z ss tss (blkN x y z))) := by
  obtain ⟨x1, x2, y1, y2, z1, z2, p1, p2, q1, q2⟩ := good_box hg.g
  have n2 := hg.n2
  have n1 := hg.n1
  have hsl : (ss.length : Int) = x * y := hg.l
  have tl4 := hg.t2
  have HGd := Lib.hid hg
  obtain ⟨i0, hi0, hz0, hz1, hz2⟩ := info_parts list_info
  have HI := Lib.hid hi0
  clear hi0
  have hss0 : 0 < ss.length := by have a : 1 * 1 ≤ x * y := Int.mul_le_mul x1 y1 (by omega) (by omega); omega
  have htt0 : 0 < tss.length := hg.t1
  obtain ⟨A1, c1, rfl, m1, hA1⟩ := h.s
  obtain ⟨A2, c2, rfl, m2, hA2⟩ := h.t
  obtain ⟨b1, o1, rfl, hb1, hc1⟩ := hA1 hss0
  obtain ⟨b2, o2, rfl, hb2, hc2⟩ := hA2 htt0
  -- what belongs to block i
  have EI : Hid (∀ i : Nat, ∃ (q k b3 o3 c3 : Nat) (ys : List Int), (i : Int) / x % y * x + (i : Int) % x = (q : Int) ∧ q < ss.length ∧ k < tss.length ∧ 1 ≤ ys.length / 3 ∧ ys.length / 3 ≤ 12 ∧ arcRow x y z ss tss i = arcM x y z i ys (ys.length / 3) ∧
      Hid (∀ u, Below w.heap.size w u → u.cell? ⟨b1, o1 + q, none⟩ = some (.int .i64 k) ∧ u.cell? ⟨b2, o2 + k, none⟩ = some (.slice (some ⟨b3, o3, none⟩) (ys.length / 3) c3) ∧ ∀ j : Nat, j < ys.length / 3 * 3 → u.cell? ⟨b3, o3 + j, none⟩ = some (.int .i64 (ys.getD j 0))) ∧
      Hid (∀ j : Nat, j < ys.length / 3 → -2 ≤ ys.getD (j * 3) 0 ∧ ys.getD (j * 3) 0 ≤ 2 ∧ -2 ≤ ys.getD (j * 3 + 1) 0 ∧ ys.getD (j * 3 + 1) 0 ≤ 2 ∧ 1 ≤ ys.getD (j * 3 + 2) 0 ∧ ys.getD (j * 3 + 2) 0 ≤ 2)) := fun i => by
    obtain ⟨hsec, hslt⟩ := sec_lt hg i
    obtain ⟨k, hk, hkl, htm, htb⟩ := tmp_good hg i
    obtain ⟨tu, htu, hts⟩ := hc2 k hkl
    obtain ⟨t1', t2', _⟩ := tem_true htb
    obtain ⟨A3, c3, rfl, _, _, hA3⟩ := hts
    obtain ⟨b3, o3, rfl, hb3, hc3⟩ := hA3 (by omega)
    refine ⟨secN x y i, k, b3, o3, c3, tss.getD k [], by rw [sec_at x1 y1]; exact hsec, hslt, hkl, t1', t2', by unfold arcRow; rw [htm], fun u hu => ⟨?_, ?_, fun j hj => ?_⟩, fun j hj => tem_off htb hj⟩
    · rw [hu.cell (p := ⟨b1, o1 + secN x y i, none⟩) hb1, hc1 _ hslt, hk]
    · rw [hu.cell (p := ⟨b2, o2 + k, none⟩) hb2]; exact htu
    · rw [hu.cell (p := ⟨b3, o3 + j, none⟩) hb3]; exact hc3 j hj
  clear hA1 hA2 hc1 hc2 hb1 hb2 h m1 m2 hss0 htt0
  have CN : Hid (∀ u, Calls Try.prog 78 #[.agg #[.int .i64 x, .int .i64 y, .int .i64 z]] u fun e w' => e = .returned (.int .i64 (blkN x y z : Nat)) ∧ Below u.heap.size u w') := fun u => by
    rw [← hg.n]
    exact c_grCount x y z u (by omega) x2 (by omega) y2 (by omega) z2
  have CX : Hid (∀ (i : Int) (u : World), 0 ≤ i → i ≤ 1000 → Calls Try.prog 79 #[.agg #[.int .i64 x, .int .i64 y, .int .i64 z], .int .i64 i] u fun e w' => e = .returned (.int .i64 (i % x)) ∧ Below u.heap.size u w') := fun i u h0 h1 => c_grX x y z i u x1 x2 h0 h1
  have CY : Hid (∀ (i : Int) (u : World), 0 ≤ i → i ≤ 1000 → Calls Try.prog 80 #[.agg #[.int .i64 x, .int .i64 y, .int .i64 z], .int .i64 i] u fun e w' => e = .returned (.int .i64 (i / x % y)) ∧ Below u.heap.size u w') := fun i u h0 h1 => c_grY x y z i u x1 x2 y1 y2 h0 h1
  have CZ : Hid (∀ (i : Int) (u : World), 0 ≤ i → i ≤ 1000 → Calls Try.prog 81 #[.agg #[.int .i64 x, .int .i64 y, .int .i64 z], .int .i64 i] u fun e w' => e = .returned (.int .i64 (i / x / y)) ∧ Below u.heap.size u w') := fun i u h0 h1 => c_grZ x y z i u x1 x2 y1 y2 h0 h1
  have CK : Hid (∀ (a b c : Int) (u : World), Calls Try.prog 82 #[.agg #[.int .i64 x, .int .i64 y, .int .i64 z], .int .i64 a, .int .i64 b, .int .i64 c] u fun e w' => e = .returned (.int .i64 (atV x y z a b c)) ∧ Below u.heap.size u w') := fun a b c u => c_grAt x y z a b c u x1 x2 y1 y2 z1 z2
  have EL : Hid (∀ k, (arcN x y z ss tss k).length = k) := fun k => arcN_len _ _ _ _ _ k
  have ES : Hid (∀ k, arcN x y z ss tss k ++ [arcRow x y z ss tss k] = arcN x y z ss tss (k + 1)) := fun k => (arcN_succ _ _ _ _ _ k).symm
  have EZ : Hid (arcN x y z ss tss 0 = []) := rfl
  generalize arcN x y z ss tss = L at *
  generalize arcRow x y z ss tss = AR at *
  generalize blkN x y z = N at *
  have HX0 : Hid (Box3 ((w.alloc (.cells #[.int .i64 x, .int .i64 y, .int .i64 z] 38)).alloc (.cells #[.slice (some ⟨b1, o1, none⟩) ss.length c1, .slice (some ⟨b2, o2, none⟩) tss.length c2] 42)) w.heap.size x y z) := (Box3.new _ _ _ _ _).below ((Below.refl _ _).alloc (Nat.le_refl _) _)
  have HY0 : Hid (Mine2 ((w.alloc (.cells #[.int .i64 x, .int .i64 y, .int .i64 z] 38)).alloc (.cells #[.slice (some ⟨b1, o1, none⟩) ss.length c1, .slice (some ⟨b2, o2, none⟩) tss.length c2] 42)) (w.heap.size + 1) (.slice (some ⟨b1, o1, none⟩) ss.length c1) (.slice (some ⟨b2, o2, none⟩) tss.length c2)) := by
    have := Mine2.new (w.alloc (.cells #[.int .i64 x, .int .i64 y, .int .i64 z] 38)) (.slice (some ⟨b1, o1, none⟩) ss.length c1) (.slice (some ⟨b2, o2, none⟩) tss.length c2) 42
    simp at this
    exact this
  have HB0 : Hid (Below w.heap.size w ((w.alloc (.cells #[.int .i64 x, .int .i64 y, .int .i64 z] 38)).alloc (.cells #[.slice (some ⟨b1, o1, none⟩) ss.length c1, .slice (some ⟨b2, o2, none⟩) tss.length c2] 42))) := ((Below.refl _ _).alloc (Nat.le_refl _) _).alloc (by simp) _
  go_enter Try.func60, Try.ntmps60
  go_wp2_with fail
  generalize ((w.alloc (.cells #[.int .i64 x, .int .i64 y, .int .i64 z] 38)).alloc (.cells #[.slice (some ⟨b1, o1, none⟩) ss.length c1, .slice (some ⟨b2, o2, none⟩) tss.length c2] 42)) = W at *
  go_loopw [5, 6] (fun o i wr => ∃ k : Nat, k ≤ N ∧ i = .int .i64 k ∧ Rows wr W.heap.size wr.heap.size o (L k) ∧ Below W.heap.size W wr) (fun _ i _ => N - (intOf i).toNat)
  case atStart => exact ⟨0, Nat.zero_le _, rfl, by rw [EZ.out]; exact Rows.nil _ _ _, Below.refl _ _⟩
  case round =>
    obtain ⟨k, hk, rfl, hr, hbw⟩ := hrel
    have HR := Lib.hid hr
    have HB := Lib.hid hbw
    clear hr hbw
    have HXr := Lib.hid (HX0.out.below HB.out)
    have HYr := Lib.hid (HY0.out.below HB.out)
    have g0 := HXr.out.c0
    have g1 := HXr.out.c1
    have g2 := HXr.out.c2
    by_cases hlt : k < N
    · have b1' : (0 : Int) ≤ (k : Int) := by omega
      have b2' : (k : Int) < (N : Int) := by omega
      go_wp2_with fail
      refine (CN.out _).mono ?_
      rintro e w2 ⟨rfl, hb2⟩
      have HB2 : Hid (Below W.heap.size W w2) := HB.out.trans (hb2.mono HB.out.size)
      have HR2 := Lib.hid (HR.out.below hb2 (Nat.le_refl _))
      have HS2 : Hid (wr.heap.size ≤ w2.heap.size) := hb2.size
      have HX2 := Lib.hid (HXr.out.below hb2)
      have HY2 := Lib.hid (HYr.out.below hb2)
      clear hb2 g0 g1 g2
      -- the place of block k
      go_upto_region 5 with fail
      go_cut [7, 8, 9] from 20 to 28 (fun a b c wx => a = .int .i64 ((k : Int) % x) ∧ b = .int .i64 ((k : Int) / x % y) ∧ c = .int .i64 ((k : Int) / x / y) ∧ Below w2.heap.size w2 wx)
      case first =>
        have KD : Hid (Below w2.heap.size w2 w2.drew) := (Below.refl _ _).drew
        have KE : Hid (∀ u, Below w2.heap.size w2 u → u.cell? ⟨w.heap.size, 0, none⟩ = some (.int .i64 x) ∧ u.cell? ⟨w.heap.size, 1, none⟩ = some (.int .i64 y) ∧ u.cell? ⟨w.heap.size, 2, none⟩ = some (.int .i64 z)) := fun u hu => by
          have h1 := HX2.out.below hu
          exact ⟨h1.c0, h1.c1, h1.c2⟩
        have HN : Hid ((k : Int) ≤ 1000) := by show (k : Int) ≤ 1000; omega
        go_region_held3 (fun u => u.cell? ⟨w.heap.size, 0, none⟩ = some (.int .i64 x) ∧ u.cell? ⟨w.heap.size, 1, none⟩ = some (.int .i64 y) ∧ u.cell? ⟨w.heap.size, 2, none⟩ = some (.int .i64 z)) (first | with_reducible exact KE.out _ KD.out | with_reducible exact KE.out _ U1.out | with_reducible exact KE.out _ U2.out | with_reducible exact KE.out _ U3.out)
          (first
            | (go_at_call 79; (with_reducible refine (CX.out _ _ b1' HN.out).mono ?_); rintro e wa ⟨rfl, hb⟩; have U1 : Hid (Below w2.heap.size w2 wa) := KD.out.trans (hb.mono KD.out.size); clear hb)
            | (go_at_call 80; (with_reducible refine (CY.out _ _ b1' HN.out).mono ?_); rintro e wb ⟨rfl, hb⟩; have U2 : Hid (Below w2.heap.size w2 wb) := U1.out.trans (hb.mono U1.out.size); clear hb)
            | (go_at_call 81; (with_reducible refine (CZ.out _ _ b1' HN.out).mono ?_); rintro e wd ⟨rfl, hb⟩; have U3 : Hid (Below w2.heap.size w2 wd) := U2.out.trans (hb.mono U2.out.size); clear hb))
        all_goals
          go_wp2_with fail
          go_meet
          exact ⟨rfl, rfl, rfl, U3.out⟩
      case rest =>
        obtain ⟨rfl, rfl, rfl, hb3⟩ := hcut
        obtain ⟨w3, ew3⟩ : ∃ u, u = wc := ⟨_, rfl⟩
        subst ew3
        have HB3 : Hid (Below W.heap.size W w3) := HB2.out.trans (hb3.mono HB2.out.size)
        have HR3 := Lib.hid (HR2.out.below hb3 HS2.out)
        have HS3 : Hid (wr.heap.size ≤ w3.heap.size) := Nat.le_trans HS2.out hb3.size
        have HX3 := Lib.hid (HX2.out.below hb3)
        have HY3 := Lib.hid (HY2.out.below hb3)
        clear hb3
        have HW3 : Hid (Below w.heap.size w w3) := HB0.out.trans (HB3.out.mono HB0.out.size)
        obtain ⟨q, t, b3, o3, c3, ys, hq, hql, htl, hy1, hy2, har, HE, HO⟩ := EI.out k
        have HAr := Lib.hid har
        obtain ⟨e0, e1, e2⟩ := HE.out _ HW3.out
        have HE2 : Hid (∀ u, Below w.heap.size w u → ∀ j : Nat, j < ys.length / 3 * 3 → u.cell? ⟨b3, o3 + j, none⟩ = some (.int .i64 (ys.getD j 0))) := fun u hu => (HE.out u hu).2.2
        have HM0 : Hid (arcM x y z k ys 0 = []) := rfl
        have HMs : Hid (∀ j, arcM x y z k ys (j + 1) = if 0 ≤ arcK x y z k ys j then putI (arcM x y z k ys j) (arcK x y z k ys j) else arcM x y z k ys j) := fun j => rfl
        have HMl : Hid (∀ j, (arcM x y z k ys j).length ≤ j) := arcM_len x y z k ys
        have HK : Hid (∀ j, arcK x y z k ys j = atV x y z ((k : Int) % x + ys.getD (j * 3) 0) ((k : Int) / x % y + ys.getD (j * 3 + 1) 0) ((k : Int) / x / y - ys.getD (j * 3 + 2) 0)) := fun j => rfl
        have d1 := mod_box (i := (k : Int)) x1
        have d2 := mod_box (i := (k : Int) / x) y1
        have d3 := div_box (i := (k : Int)) x1 (by omega)
        have d4 := div_box (i := (k : Int) / x) y1 d3.1
        clear har e2 HE EI
        generalize ys.length / 3 = mo at *
        generalize arcM x y z k ys = AM at *
        generalize arcK x y z k ys = AK at *
        obtain ⟨px, hpx⟩ : ∃ px, (k : Int) % x = px := ⟨_, rfl⟩
        obtain ⟨py, hpy⟩ : ∃ py, (k : Int) / x % y = py := ⟨_, rfl⟩
        obtain ⟨pz, hpz⟩ : ∃ pz, (k : Int) / x / y = pz := ⟨_, rfl⟩
        have d5 : 0 ≤ pz ∧ pz ≤ 1000 := by rw [← hpz]; omega
        rw [hpx] at d1 hq
        rw [hpy] at d2 hq
        have HK' : Hid (∀ j, AK j = atV x y z (px + ys.getD (j * 3) 0) (py + ys.getD (j * 3 + 1) 0) (pz - ys.getD (j * 3 + 2) 0)) := fun j => by rw [HK.out, hpx, hpy, hpz]
        rw [hpx, hpy, hpz]
        clear HK d3 d4 hpx hpy hpz
        obtain ⟨f1, f2⟩ := mul_box (a := py) (b := x) (m := 6) (n := 8) d2.1 (by omega) (by omega) x2
        have iw1 : IntKind.i64.wrap (py * x) = py * x := IntWalk.i64_in _ (by omega)
        have iw2 : IntKind.i64.wrap (py * x + px) = py * x + px := IntWalk.i64_in _ (by omega)
        have iw3 : IntKind.i64.wrap (q : Int) = (q : Int) := IntWalk.i64_in _ (by omega)
        have s1 : (0 : Int) ≤ (q : Int) := by omega
        have s2 : (q : Int) < (ss.length : Int) := by omega
        have s3 : (0 : Int) ≤ (t : Int) := by omega
        have s4 : (t : Int) < (tss.length : Int) := by omega
        have g0 := HX3.out.c0
        have g1 := HX3.out.c1
        have g2 := HX3.out.c2
        have y0 := HY3.out.c0
        have y1' := HY3.out.c1
        obtain ⟨_, e1b, _⟩ : True ∧ w3.cell? ⟨b2, o2 + t, none⟩ = some (.slice (some ⟨b3, o3, none⟩) mo c3) ∧ True := ⟨trivial, e1, trivial⟩
        go_upto_region 7 with fail
        have HB4 : Hid (Below W.heap.size W w3.drew) := HB3.out.drew
        have HR4 : Hid (Rows w3.drew W.heap.size wr.heap.size u5 (L k)) := HR3.out.stays fun _ _ _ => rfl
        have HX4 : Hid (Box3 w3.drew w.heap.size x y z) := HX3.out.drew
        have HY4 : Hid (Mine2 w3.drew (w.heap.size + 1) (.slice (some ⟨b1, o1, none⟩) ss.length c1) (.slice (some ⟨b2, o2, none⟩) tss.length c2)) := ⟨HY3.out.lt, HY3.out.c0, HY3.out.c1, HY3.out.f⟩
        have HS4 : Hid (wr.heap.size ≤ w3.drew.heap.size) := HS3.out
        go_region
        generalize w3.drew = w4 at *
        clear g0 g1 g2 y0 y1' e0 e1 e1b iw1 iw2 iw3 f1 f2 s1 s2 s3 s4 hq
        have HW4 : Hid (Below w.heap.size w w4) := HB0.out.trans (HB4.out.mono HB0.out.size)
        have HXW := Lib.hid HX4.out
        go_wp2_with fail
        go_loopw [10, 44] (fun l i wq => ∃ j : Nat, j ≤ mo ∧ i = .int .i64 j ∧ Row wq w4.heap.size l (AM j) ∧ Below w4.heap.size w4 wq) (fun _ i _ => mo - (intOf i).toNat)
        case atStart => exact ⟨0, Nat.zero_le _, rfl, by rw [HM0.out]; exact Row.nil _ _, Below.refl _ _⟩
        case round =>
          obtain ⟨j, hj, rfl, hrl, hbl⟩ := hrel
          have HRL := Lib.hid hrl
          have HBL := Lib.hid hbl
          clear hrl hbl
          by_cases hlj : j < mo
          · have HWq : Hid (Below w.heap.size w wr) := HW4.out.trans (HBL.out.mono HW4.out.size)
            have q0 := HE2.out wr HWq.out (j * 3) (by omega)
            have q1' := HE2.out wr HWq.out (j * 3 + 1) (by omega)
            have q2' := HE2.out wr HWq.out (j * 3 + 2) (by omega)
            rw [← Nat.add_assoc] at q1' q2'
            obtain ⟨f0, f1, f2, f3, f4, f5⟩ := HO.out j hlj
            have HKj := Lib.hid (HK'.out j)
            have HMj := Lib.hid (HMs.out j)
            have hml := HMl.out j
            generalize ys.getD (j * 3) 0 = t' at *
            generalize ys.getD (j * 3 + 1) 0 = m' at *
            generalize ys.getD (j * 3 + 2) 0 = r' at *
            have b3' : (0 : Int) ≤ (j : Int) := by omega
            have b4' : (j : Int) < (mo : Int) := by omega
            have HXq := Lib.hid (HX4.out.below HBL.out)
            have g0 := HXq.out.c0
            have g1 := HXq.out.c1
            have g2 := HXq.out.c2
            have g3 := HXq.out.lt
            have w1' : IntKind.i64.wrap (px + t') = px + t' := IntWalk.i64_in _ (by omega)
            have w2' : IntKind.i64.wrap (py + m') = py + m' := IntWalk.i64_in _ (by omega)
            have w3' : IntKind.i64.wrap (pz - r') = pz - r' := IntWalk.i64_in _ (by omega)
            have hba : Below wr.heap.size wr (wr.alloc (.cells #[.int .i64 t', .int .i64 m', .int .i64 r'] 64)) := (Below.refl _ _).alloc (Nat.le_refl _) _
            have HBa : Hid (Below w4.heap.size w4 (wr.alloc (.cells #[.int .i64 t', .int .i64 m', .int .i64 r'] 64))) := HBL.out.trans (hba.mono HBL.out.size)
            have HRa := Lib.hid (HRL.out.below hba)
            clear hba
            go_wp2_with fail
            refine (CK.out _ _ _ _).mono ?_
            rintro e w5 ⟨rfl, hb5⟩
            have HB5 : Hid (Below w4.heap.size w4 w5) := HBa.out.trans (hb5.mono HBa.out.size)
            have HR5 := Lib.hid (HRa.out.below hb5)
            clear hb5
            rw [← HKj.out]
            by_cases hpos : 0 ≤ AK j
            · rw [if_pos hpos] at HMj
              generalize AK j = ak at *
              go_wp2_with fail
              refine (c_l1Put _ _ _ w4.heap.size _ HR5.out HB5.out.size (by omega)).mono ?_
              rintro e w6 ⟨v', rfl, hr6, hb6⟩
              have HR6 := Lib.hid hr6
              have HB6 : Hid (Below w4.heap.size w4 w6) := HB5.out.trans (hb6.mono HB5.out.size)
              clear hr6 hb6
              go_wp2
              go_roundw
              case rel => exact ⟨j + 1, by omega, by go_num, by rw [HMj.out]; exact HR6.out, HB6.out⟩
              case measure => simp [intOf]; omega
            · rw [if_neg hpos] at HMj
              generalize AK j = ak at *
              go_wp2_with fail
              go_roundw
              case rel => exact ⟨j + 1, by omega, by go_num, by rw [HMj.out]; exact HR5.out, HB5.out⟩
              case measure => simp [intOf]; omega
          · obtain rfl : j = mo := by omega
            have HB5 : Hid (Below W.heap.size W wr) := HB4.out.trans (HBL.out.mono HB4.out.size)
            have HR5 := Lib.hid (HR4.out.below HBL.out HS4.out)
            have HS5 : Hid (W.heap.size ≤ w4.heap.size) := HB4.out.size
            obtain ⟨LA, LC, hlv⟩ := HRL.out.shape
            subst hlv
            have es := HAr.out
            generalize AM j = al at *
            have HES := Lib.hid (ES.out k)
            rw [es] at HES
            clear es
            have hbb : Below wr.heap.size wr (wr.alloc (.cells #[.slice LA al.length LC] 31)) := (Below.refl _ _).alloc (Nat.le_refl _) _
            have HP6 := Lib.hid ((HRL.out.mono HS5.out).below hbb)
            have HR6 := Lib.hid (HR5.out.below hbb (Nat.le_trans HS4.out HBL.out.size))
            have HB6 : Hid (Below W.heap.size W (wr.alloc (.cells #[.slice LA al.length LC] 31))) := HB5.out.trans (hbb.mono HB5.out.size)
            have hpo : Hid (∀ m, (Value.slice LA al.length LC).ownBlock = some m → w4.heap.size ≤ m) := fun m hm => (World.ownsRow.lt HRL.out m hm).1
            clear hbb
            obtain ⟨vs, hv6⟩ := HR6.out
            have HV6 := Lib.hid hv6
            clear hv6
            have hlen : (L k).length = k := EL.out k
            have sz5 := HB5.out.size
            go_wp2_with (at_builtin; refine wpList_append_own _ rfl _ _ 51 rfl W.heap.size 31 i0 (.slice none 0 0) 1 24 Try.underlying51 HI.out hz0 hz1 hz2 rfl (by decide) _ _ _ rfl HV6.out.own ⟨wr.heap.size, 0, none⟩ 1 1 [.slice LA al.length LC] rfl rfl ?c1 ?c2 ?c3 ?c4 ?c5 ?_)
            case c1 =>
              intro q u hq
              match q, hq with
              | 0, hq => simp at hq; subst hq; simp [Addr.add]
            case c2 => intro u hu; simp at hu; subst hu; rfl
            case c3 => rw [hlen]; unfold maxLen; omega
            case c4 => rw [hlen]; omega
            case c5 => simp; omega
            intro v' w7 hown' hgrow _
            have N1 : Hid (Rows w7 W.heap.size w7.heap.size v' (L (k + 1))) := ⟨_, by
              have := HV6.out.push HP6.out (fun m hm => Nat.le_trans HS4.out (hpo.out m hm)) (by rw [hlen]; exact hown') hgrow
              rw [HES.out] at this
              exact this⟩
            have N2 : Hid (Below W.heap.size W w7) := HB6.out.grown hgrow (by simp; omega) (fun g hg => (World.ownsRow.lt HV6.out.own g hg).1)
            clear hown' hgrow hlen
            go_wp2
            go_roundw
            case rel => exact ⟨k + 1, by omega, by go_num, N1.out, N2.out⟩
            case measure => simp [intOf]; omega
    · obtain rfl : k = N := by omega
      go_wp2_with fail
      refine (CN.out _).mono ?_
      rintro e w2 ⟨rfl, hb2⟩
      have HR2 := Lib.hid ((HR.out.below hb2 (Nat.le_refl _)).mono HB0.out.size)
      have HS2 := Lib.hid hb2.size
      have HB2 : Hid (Below w.heap.size w w2) := HB0.out.trans ((HB.out.trans (hb2.mono HB.out.size)).mono HB0.out.size)
      clear hb2
      go_wp2
      go_ret
      exact ⟨_, rfl, HR2.out.upR HS2.out, HB2.out⟩
end Go.Proofs.Ythdbcncdihcggaa
