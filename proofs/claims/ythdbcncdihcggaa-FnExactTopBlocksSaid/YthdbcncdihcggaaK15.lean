/-
  Contracts: ArcsOf, ArcCount and TopBlocks of the model.
-/
import Derived.Test.YthdbcncdihcggaaK14
namespace Go.Proofs.Ythdbcncdihcggaa
open Go.RowKit
set_option linter.unusedVariables false

theorem Box3.under {w w' : World} {b B : Nat} {x y z : Int} (h : Box3 w b x y z) (hb : Below B w w') (hB : b < B) : Box3 w' b x y z :=
  ⟨Nat.lt_of_lt_of_le h.lt hb.size, by rw [hb.cell (p := ⟨b, 0, none⟩) hB]; exact h.c0, by rw [hb.cell (p := ⟨b, 1, none⟩) hB]; exact h.c1, by rw [hb.cell (p := ⟨b, 2, none⟩) hB]; exact h.c2⟩

set_option maxHeartbeats 2000000 in
theorem c_ArcsOfS (x y z : Int) (v1 v2 : Value) (ss : List Int) (tss : List (List Int)) (w : World) (l1 : ss.length ≤ 4000000) (l2 : ShortT tss) (h : LookS w v1 v2 ss tss) :
    Calls Try.prog 27 #[.agg #[.int .i64 x, .int .i64 y, .int .i64 z], .agg #[v1, v2]] w (GivesRows2 w (arcL x y z ss tss) (sloV x y z ss tss)) := by
  have CB := Lib.hid (fun (u : World) (hu : Below w.heap.size w u) => c_slBoth x y z v1 v2 ss tss u l1 l2 (h.below hu))
  have CA : Hid (∀ u, Good x y z ss tss → Below w.heap.size w u → Calls Try.prog 60 #[.agg #[.int .i64 x, .int .i64 y, .int .i64 z], .agg #[v1, v2]] u (GivesR u (arcN x y z ss tss (blkN x y z)))) := fun u hg hu => c_slArcs x y z v1 v2 ss tss u hg (h.below hu)
  obtain ⟨f1, f2, f3⟩ := arc_facts x y z ss tss
  obtain ⟨A1, c1, rfl, m1, _⟩ := h.s
  obtain ⟨A2, c2, rfl, m2⟩ := h.t.shape
  clear h m1 m2 l2
  have HX0 : Hid (Box3 ((w.alloc (.cells #[.int .i64 x, .int .i64 y, .int .i64 z] 38)).alloc (.cells #[.slice A1 ss.length c1, .slice A2 tss.length c2] 42)) w.heap.size x y z) := (Box3.new _ _ _ _ _).below ((Below.refl _ _).alloc (Nat.le_refl _) _)
  have HY0 : Hid (Mine2 ((w.alloc (.cells #[.int .i64 x, .int .i64 y, .int .i64 z] 38)).alloc (.cells #[.slice A1 ss.length c1, .slice A2 tss.length c2] 42)) (w.heap.size + 1) (.slice A1 ss.length c1) (.slice A2 tss.length c2)) := by
    have := Mine2.new (w.alloc (.cells #[.int .i64 x, .int .i64 y, .int .i64 z] 38)) (.slice A1 ss.length c1) (.slice A2 tss.length c2) 42
    simp at this
    exact this
  have HB0 : Hid (Below w.heap.size w ((w.alloc (.cells #[.int .i64 x, .int .i64 y, .int .i64 z] 38)).alloc (.cells #[.slice A1 ss.length c1, .slice A2 tss.length c2] 42))) := ((Below.refl _ _).alloc (Nat.le_refl _) _).alloc (by simp) _
  cases hs : sloV x y z ss tss
  · rw [hs] at CB
    rw [arc_no hs]
    clear CA f1 f2 f3 hs
    go_enter Try.func27, Try.ntmps27
    go_wp2_with fail
    generalize ((w.alloc (.cells #[.int .i64 x, .int .i64 y, .int .i64 z] 38)).alloc (.cells #[.slice A1 ss.length c1, .slice A2 tss.length c2] 42)) = W at *
    refine (CB.out _ HB0.out).mono ?_
    rintro e w1 ⟨rfl, hb1⟩
    have HB1 : Hid (Below w.heap.size w w1) := HB0.out.trans (hb1.mono HB0.out.size)
    clear hb1
    go_wp2
    go_ret2
    exact ⟨_, rfl, Rows.nil _ _ _, HB1.out⟩
  · rw [hs] at CB
    have hg := slo_good hs
    have CA' := Lib.hid (fun u hu => CA.out u hg hu)
    rw [arc_yes hs]
    clear CA hs hg
    go_enter Try.func27, Try.ntmps27
    go_wp2_with fail
    generalize ((w.alloc (.cells #[.int .i64 x, .int .i64 y, .int .i64 z] 38)).alloc (.cells #[.slice A1 ss.length c1, .slice A2 tss.length c2] 42)) = W at *
    refine (CB.out _ HB0.out).mono ?_
    rintro e w1 ⟨rfl, hb1⟩
    have HB1 : Hid (Below w.heap.size w w1) := HB0.out.trans (hb1.mono HB0.out.size)
    have HX1 := Lib.hid (HX0.out.below hb1)
    have HY1 := Lib.hid (HY0.out.below hb1)
    clear hb1
    have g0 := HX1.out.c0
    have g1 := HX1.out.c1
    have g2 := HX1.out.c2
    have y0 := HY1.out.c0
    have y1 := HY1.out.c1
    go_wp2_with fail
    refine (CA'.out _ HB1.out).mono ?_
    rintro e w2 ⟨v, rfl, hr, hb2⟩
    have HR := Lib.hid hr
    have HB2 : Hid (Below w.heap.size w w2) := HB1.out.trans (hb2.mono HB1.out.size)
    have HS2 : Hid (w.heap.size ≤ w1.heap.size) := HB1.out.size
    clear hr hb2 g0 g1 g2 y0 y1
    go_wp2
    go_ret2
    exact ⟨_, rfl, HR.out.mono HS2.out, HB2.out⟩

set_option maxHeartbeats 2000000 in
theorem c_ArcCountS (x y z : Int) (v1 v2 : Value) (ss : List Int) (tss : List (List Int)) (w : World) (l1 : ss.length ≤ 4000000) (l2 : ShortT tss) (h : LookS w v1 v2 ss tss) :
    Calls Try.prog 33 #[.agg #[.int .i64 x, .int .i64 y, .int .i64 z], .agg #[v1, v2]] w (fun e w' => e = .returned (.tuple #[.int .i64 (arcC x y z ss tss), .bool (sloV x y z ss tss)]) ∧ Below w.heap.size w w') := by
  have CB := Lib.hid (fun (u : World) (hu : Below w.heap.size w u) => c_slBoth x y z v1 v2 ss tss u l1 l2 (h.below hu))
  have CA : Hid (∀ u, Good x y z ss tss → Below w.heap.size w u → Calls Try.prog 60 #[.agg #[.int .i64 x, .int .i64 y, .int .i64 z], .agg #[v1, v2]] u (GivesR u (arcN x y z ss tss (blkN x y z)))) := fun u hg hu => c_slArcs x y z v1 v2 ss tss u hg (h.below hu)
  obtain ⟨f1, f2, f3⟩ := arc_facts x y z ss tss
  obtain ⟨A1, c1, rfl, m1, _⟩ := h.s
  obtain ⟨A2, c2, rfl, m2⟩ := h.t.shape
  clear h m1 m2 l2
  have HX0 : Hid (Box3 ((w.alloc (.cells #[.int .i64 x, .int .i64 y, .int .i64 z] 38)).alloc (.cells #[.slice A1 ss.length c1, .slice A2 tss.length c2] 42)) w.heap.size x y z) := (Box3.new _ _ _ _ _).below ((Below.refl _ _).alloc (Nat.le_refl _) _)
  have HY0 : Hid (Mine2 ((w.alloc (.cells #[.int .i64 x, .int .i64 y, .int .i64 z] 38)).alloc (.cells #[.slice A1 ss.length c1, .slice A2 tss.length c2] 42)) (w.heap.size + 1) (.slice A1 ss.length c1) (.slice A2 tss.length c2)) := by
    have := Mine2.new (w.alloc (.cells #[.int .i64 x, .int .i64 y, .int .i64 z] 38)) (.slice A1 ss.length c1) (.slice A2 tss.length c2) 42
    simp at this
    exact this
  have HB0 : Hid (Below w.heap.size w ((w.alloc (.cells #[.int .i64 x, .int .i64 y, .int .i64 z] 38)).alloc (.cells #[.slice A1 ss.length c1, .slice A2 tss.length c2] 42))) := ((Below.refl _ _).alloc (Nat.le_refl _) _).alloc (by simp) _
  cases hs : sloV x y z ss tss
  · rw [hs] at CB
    have hC : arcC x y z ss tss = 0 := by unfold arcC; rw [arc_no hs]; rfl
    rw [hC]
    clear hC
    clear CA f1 f2 f3 hs
    go_enter Try.func33, Try.ntmps33
    go_wp2_with fail
    generalize ((w.alloc (.cells #[.int .i64 x, .int .i64 y, .int .i64 z] 38)).alloc (.cells #[.slice A1 ss.length c1, .slice A2 tss.length c2] 42)) = W at *
    refine (CB.out _ HB0.out).mono ?_
    rintro e w1 ⟨rfl, hb1⟩
    have HB1 : Hid (Below w.heap.size w w1) := HB0.out.trans (hb1.mono HB0.out.size)
    clear hb1
    go_wp2
    go_ret2
    exact ⟨rfl, HB1.out⟩
  · rw [hs] at CB
    have hg := slo_good hs
    have CA' := Lib.hid (fun u hu => CA.out u hg hu)
    have hC : arcC x y z ss tss = (totN (arcN x y z ss tss (blkN x y z)) (arcN x y z ss tss (blkN x y z)).length : Nat) := by unfold arcC; rw [arc_yes hs]
    rw [arc_yes hs] at f1 f2 f3
    rw [hC]
    clear hC
    generalize arcN x y z ss tss (blkN x y z) = xss at *
    have HT : Hid (∀ i, totN xss i + (xss.getD i []).length = totN xss (i + 1)) := fun i => rfl
    have HZ : Hid (totN xss 0 = 0) := rfl
    have HM : Hid (∀ i, i ≤ xss.length → totN xss i ≤ 1048576) := fun i hi => Nat.le_trans (tot_mono xss hi) f3
    clear f2 f3
    generalize totN xss = T at *
    clear CA hs hg
    go_enter Try.func33, Try.ntmps33
    go_wp2_with fail
    generalize ((w.alloc (.cells #[.int .i64 x, .int .i64 y, .int .i64 z] 38)).alloc (.cells #[.slice A1 ss.length c1, .slice A2 tss.length c2] 42)) = W at *
    refine (CB.out _ HB0.out).mono ?_
    rintro e w1 ⟨rfl, hb1⟩
    have HB1 : Hid (Below w.heap.size w w1) := HB0.out.trans (hb1.mono HB0.out.size)
    have HX1 := Lib.hid (HX0.out.below hb1)
    have HY1 := Lib.hid (HY0.out.below hb1)
    clear hb1
    have g0 := HX1.out.c0
    have g1 := HX1.out.c1
    have g2 := HX1.out.c2
    have y0 := HY1.out.c0
    have y1 := HY1.out.c1
    go_wp2_with fail
    refine (CA'.out _ HB1.out).mono ?_
    rintro e w2 ⟨v, rfl, hr, hb2⟩
    have HR := Lib.hid hr
    have HB2 : Hid (Below w.heap.size w w2) := HB1.out.trans (hb2.mono HB1.out.size)
    have HS2 : Hid (w.heap.size ≤ w1.heap.size) := HB1.out.size
    clear hr hb2 g0 g1 g2 y0 y1
    obtain ⟨A, c, rfl, hc⟩ := HR.out.cells
    have HC := Lib.hid hc
    clear hc
    go_wp2_with fail
    go_loop [6, 17] (fun q i => ∃ k : Nat, k ≤ xss.length ∧ i = .int .i64 k ∧ q = .int .i64 (T k : Nat)) (fun _ i => xss.length - (intOf i).toNat)
    case atStart => exact ⟨0, Nat.zero_le _, rfl, by rw [HZ.out]; rfl⟩
    case round =>
      obtain ⟨k, hk, rfl, rfl⟩ := hrel
      by_cases hlt : k < xss.length
      · obtain ⟨g, A', c', rfl, hg, q0⟩ := HC.out k hlt
        have ht := HT.out k
        have h1 := HM.out k hk
        have h2 := HM.out (k + 1) hlt
        generalize (xss.getD k []).length = m at *
        have b1 : (0 : Int) ≤ (k : Int) := by omega
        have b2 : (k : Int) < (xss.length : Int) := by omega
        have HTk := Lib.hid ht
        have iw : IntKind.i64.wrap ((T k : Int) + (m : Int)) = (T k : Int) + (m : Int) := IntWalk.i64_in _ (by omega)
        clear ht h1 h2
        go_wp2
        go_round
        case rel => exact ⟨k + 1, by omega, by go_num, by rw [← HTk.out]; congr 1⟩
        case measure => simp [intOf]; omega
      · obtain rfl : k = xss.length := by omega
        go_wp2
        go_ret2
        exact ⟨rfl, HB2.out⟩

set_option maxHeartbeats 2000000 in
theorem c_TopBlocksS (x y z : Int) (v1 v2 : Value) (ss : List Int) (tss : List (List Int)) (w : World) (l1 : ss.length ≤ 4000000) (l2 : ShortT tss) (h : LookS w v1 v2 ss tss) :
    Calls Try.prog 35 #[.agg #[.int .i64 x, .int .i64 y, .int .i64 z], .agg #[v1, v2]] w (GivesRow2 w (topL x y z ss tss) (sloV x y z ss tss)) := by
  have CB := Lib.hid (fun (u : World) (hu : Below w.heap.size w u) => c_slBoth x y z v1 v2 ss tss u l1 l2 (h.below hu))
  have CA : Hid (∀ u, Good x y z ss tss → Below w.heap.size w u → Calls Try.prog 60 #[.agg #[.int .i64 x, .int .i64 y, .int .i64 z], .agg #[v1, v2]] u (GivesR u (arcN x y z ss tss (blkN x y z)))) := fun u hg hu => c_slArcs x y z v1 v2 ss tss u hg (h.below hu)
  obtain ⟨f1, f2, f3⟩ := arc_facts x y z ss tss
  obtain ⟨A1, c1, rfl, m1, _⟩ := h.s
  obtain ⟨A2, c2, rfl, m2⟩ := h.t.shape
  clear h m1 m2 l2
  have HX0 : Hid (Box3 ((w.alloc (.cells #[.int .i64 x, .int .i64 y, .int .i64 z] 38)).alloc (.cells #[.slice A1 ss.length c1, .slice A2 tss.length c2] 42)) w.heap.size x y z) := (Box3.new _ _ _ _ _).below ((Below.refl _ _).alloc (Nat.le_refl _) _)
  have HY0 : Hid (Mine2 ((w.alloc (.cells #[.int .i64 x, .int .i64 y, .int .i64 z] 38)).alloc (.cells #[.slice A1 ss.length c1, .slice A2 tss.length c2] 42)) (w.heap.size + 1) (.slice A1 ss.length c1) (.slice A2 tss.length c2)) := by
    have := Mine2.new (w.alloc (.cells #[.int .i64 x, .int .i64 y, .int .i64 z] 38)) (.slice A1 ss.length c1) (.slice A2 tss.length c2) 42
    simp at this
    exact this
  have HB0 : Hid (Below w.heap.size w ((w.alloc (.cells #[.int .i64 x, .int .i64 y, .int .i64 z] 38)).alloc (.cells #[.slice A1 ss.length c1, .slice A2 tss.length c2] 42))) := ((Below.refl _ _).alloc (Nat.le_refl _) _).alloc (by simp) _
  cases hs : sloV x y z ss tss
  · rw [hs] at CB
    have hC : topL x y z ss tss = [] := by unfold topL; rw [arc_no hs]; rfl
    rw [hC]
    clear hC
    clear CA f1 f2 f3 hs
    go_enter Try.func35, Try.ntmps35
    go_wp2_with fail
    generalize ((w.alloc (.cells #[.int .i64 x, .int .i64 y, .int .i64 z] 38)).alloc (.cells #[.slice A1 ss.length c1, .slice A2 tss.length c2] 42)) = W at *
    refine (CB.out _ HB0.out).mono ?_
    rintro e w1 ⟨rfl, hb1⟩
    have HB1 : Hid (Below w.heap.size w w1) := HB0.out.trans (hb1.mono HB0.out.size)
    clear hb1
    go_wp2
    go_ret2
    exact ⟨_, rfl, Row.nil _ _, HB1.out⟩
  · rw [hs] at CB
    have hg := slo_good hs
    have CA' := Lib.hid (fun u hu => CA.out u hg hu)
    have hC : topL x y z ss tss = sel (topP (arcN x y z ss tss (blkN x y z))) (arcN x y z ss tss (blkN x y z)).length := by unfold topL; rw [arc_yes hs]
    rw [arc_yes hs] at f1 f2 f3
    rw [hC]
    clear hC
    obtain ⟨i0, hi0, hz0, hz1, hz2⟩ := info_parts int_info
    have HI := Lib.hid hi0
    clear hi0
    generalize arcN x y z ss tss (blkN x y z) = xss at *
    have HP : Hid (∀ k : Nat, topP xss k = decide ((xss.getD k []).length = 0)) := fun k => rfl
    clear f2 f3
    generalize topP xss = p at *
    clear CA hs hg
    go_enter Try.func35, Try.ntmps35
    go_wp2_with fail
    generalize ((w.alloc (.cells #[.int .i64 x, .int .i64 y, .int .i64 z] 38)).alloc (.cells #[.slice A1 ss.length c1, .slice A2 tss.length c2] 42)) = W at *
    refine (CB.out _ HB0.out).mono ?_
    rintro e w1 ⟨rfl, hb1⟩
    have HB1 : Hid (Below w.heap.size w w1) := HB0.out.trans (hb1.mono HB0.out.size)
    have HX1 := Lib.hid (HX0.out.below hb1)
    have HY1 := Lib.hid (HY0.out.below hb1)
    clear hb1
    have g0 := HX1.out.c0
    have g1 := HX1.out.c1
    have g2 := HX1.out.c2
    have y0 := HY1.out.c0
    have y1 := HY1.out.c1
    go_wp2_with fail
    refine (CA'.out _ HB1.out).mono ?_
    rintro e w2 ⟨v, rfl, hr, hb2⟩
    have HR := Lib.hid hr
    have HB2 : Hid (Below w.heap.size w w2) := HB1.out.trans (hb2.mono HB1.out.size)
    have HS2 : Hid (w.heap.size ≤ w1.heap.size) := HB1.out.size
    clear hr hb2 g0 g1 g2 y0 y1
    obtain ⟨A, c, rfl, hc⟩ := HR.out.cells
    have HC := Lib.hid hc
    clear hc
    go_wp2_with fail
    go_loopw [6, 17] (fun v i wr => ∃ k : Nat, k ≤ xss.length ∧ i = .int .i64 k ∧ Row wr w2.heap.size v (sel p k) ∧ Below w2.heap.size w2 wr) (fun _ i _ => xss.length - (intOf i).toNat)
    case atStart => exact ⟨0, Nat.zero_le _, rfl, Row.nil _ _, Below.refl _ _⟩
    case round =>
      obtain ⟨k, hk, rfl, hr, hbw⟩ := hrel
      have HRr := Lib.hid hr
      have HB := Lib.hid hbw
      clear hr hbw
      by_cases hlt : k < xss.length
      · obtain ⟨g, A', c', rfl, hbl, hcc⟩ := HC.out k hlt
        have q1 : wr.cell? ⟨g, k, none⟩ = some (.slice A' (xss.getD k []).length c') := by rw [HB.out.cell (p := ⟨g, k, none⟩) hbl]; exact hcc
        have hp : Hid (p k = decide ((xss.getD k []).length = 0)) := HP.out k
        clear hcc hbl
        generalize (xss.getD k []).length = t at *
        have b1 : (0 : Int) ≤ (k : Int) := by omega
        have b2 : (k : Int) < (xss.length : Int) := by omega
        have hlen := sel_len p k
        have sw := HB.out.size
        by_cases ht : t = 0
        · have HQ : Hid (p k = true) := hp.out.trans (decide_eq_true ht)
          have ht' : ((t : Int) == 0) = true := by subst ht; rfl
          subst ht
          clear ht'
          go_wp2_with (at_builtin; refine wpList_append_own _ rfl _ _ 31 rfl (w2.heap.size) 3 i0 (.int .i64 0) 1 8 Try.underlying31 HI.out hz0 hz1 hz2 rfl (by decide) _ _ _ rfl (World.ownsRow.alloc HRr.out _) ⟨wr.heap.size, 0, none⟩ 1 1 [.int .i64 k] rfl rfl ?c1 ?c2 ?c3 ?c4 ?c5 ?_)
          try
            case c1 =>
              intro j u hj
              match j, hj with
              | 0, hj => simp at hj; subst hj; simp [Addr.add]
          case c2 => first | rfl | (intro u hu; simp at hu; subst hu; rfl)
          case c3 => first | omega | (unfold maxLen; omega)
          case c4 => omega
          case c5 => first | omega | (simp; omega)
          intro v' w4 hown' hgrow _
          have R1 : Hid (Row w4 w2.heap.size v' (sel p (k + 1))) := by rw [sel_hit HQ.out]; exact row_more hown'
          have R2 : Hid (Below w2.heap.size w2 w4) := (HB.out.alloc sw _).grown hgrow (by simp; omega) (fun g hg => (World.ownsRow.lt HRr.out g hg).1)
          clear hown' hgrow
          go_wp2
          go_roundw
          case rel => exact ⟨k + 1, by omega, by go_num, R1.out, R2.out⟩
          case measure => simp [intOf]; omega
        · have HQ : Hid (p k = false) := hp.out.trans (decide_eq_false ht)
          have ht' : ((t : Int) == 0) = false := beq_eq_false_iff_ne.2 (by omega)
          go_wp2
          go_roundw
          case rel => exact ⟨k + 1, by omega, by go_num, by rw [sel_miss HQ.out]; exact HRr.out, HB.out⟩
          case measure => simp [intOf]; omega
      · obtain rfl : k = xss.length := by omega
        have HF := Lib.hid (HRr.out.mono HB2.out.size)
        have HFB : Hid (Below w.heap.size w wr) := HB2.out.trans (HB.out.mono HB2.out.size)
        go_wp2
        go_ret2
        exact ⟨_, rfl, HF.out, HFB.out⟩
end Go.Proofs.Ythdbcncdihcggaa
