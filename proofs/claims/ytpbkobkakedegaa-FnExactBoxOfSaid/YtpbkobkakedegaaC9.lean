/-
  Contracts: the model's LevelBlocks, ColumnBlocks, NeighboursOf and BoxOf.
-/
import Derived.Test.YtpbkobkakedegaaLists
namespace Go.Proofs.Ytpbkobkakedegaa
open Go.RowKit

set_option maxHeartbeats 1000000 in
theorem c_LevelBlocksS (x y z a : Int) (w : World) : Calls Try.prog 22 #[.agg #[.int .i64 x, .int .i64 y, .int .i64 z], .int .i64 a] w (GivesRow2 w (lvL x y z a) (lvB x y z a)) := by
  obtain ⟨i0, hi0, hz0, hz1, hz2⟩ := info_parts int_info
  have HI := Lib.hid hi0
  clear hi0
  cases hg : goodB x y z
  · have hB : lvB x y z a = false := by unfold lvB; rw [hg]; rfl
    rw [show lvL x y z a = [] from if_neg (by rw [hB]; simp), hB]
    clear hB
    go_enter Try.func22, Try.ntmps22
    go_wp2_with (go_at_call 37; refine (c_grGood _ _ _ _).mono ?_; rintro e w1 ⟨rfl, hb1⟩)
    go_ret2
    exact ⟨_, rfl, Row.nil _ _, ((Below.refl _ _).alloc (Nat.le_refl _) _).trans (hb1.mono (by simp))⟩
  · obtain ⟨x1, x2, y1, y2, z1, z2, p1, p2, q1, q2⟩ := good_box hg
    cases hi : decide (0 ≤ a ∧ a ≤ z - 1)
    · have hi' := of_decide_eq_false hi
      have hB : lvB x y z a = false := by unfold lvB inB; rw [hg, Bool.true_and]; exact decide_eq_false (by omega)
      rw [show lvL x y z a = [] from if_neg (by rw [hB]; simp), hB]
      clear hB hi'
      go_enter Try.func22, Try.ntmps22
      go_wp2_with fail
      refine (c_grGood _ _ _ _).mono ?_
      rintro e w1 ⟨rfl, hb1⟩
      obtain ⟨hc1, hf1⟩ := bcell hb1
      have s1 := hb1.size
      simp at s1
      go_wp2_with fail
      refine (c_l1In _ _ _ _).mono ?_
      rintro e w2 ⟨rfl, rfl⟩
      rw [hi]
      go_wp2
      go_ret2
      exact ⟨_, rfl, Row.nil _ _, ((Below.refl _ _).alloc (Nat.le_refl _) _).trans (hb1.mono (by simp))⟩
    · have hi' := of_decide_eq_true hi
      have hB : lvB x y z a = true := by unfold lvB inB; rw [hg, Bool.true_and]; exact decide_eq_true (by omega)
      rw [lv_same hB, hB]
      clear hB
      obtain ⟨a1, a2⟩ := hi'
      obtain ⟨m1, m2⟩ := mul_box (a := a) (b := x) (m := 5) (n := 8) a1 (by omega) (by omega) x2
      obtain ⟨n1, n2⟩ := mul_box (a := a * x) (b := y) (m := 40) (n := 6) m1 m2 (by omega) y2
      have HN : Hid (x * y = ((x * y).toNat : Int)) := by unfold Hid; omega
      generalize (x * y).toNat = n at HN ⊢
      have HL : Hid (∀ k, (lvS (a * x * y) k).length = k) := lvS_len _
      have HS : Hid (∀ k : Nat, lvS (a * x * y) (k + 1) = lvS (a * x * y) k ++ [a * x * y + k]) := lvS_succ _
      have H0 : Hid (lvS (a * x * y) 0 = []) := rfl
      generalize lvS (a * x * y) = L at HL HS H0 ⊢
      go_enter Try.func22, Try.ntmps22
      go_wp2_with fail
      refine (c_grGood _ _ _ _).mono ?_
      rintro e w1 ⟨rfl, hb1⟩
      obtain ⟨hc1, hf1⟩ := bcell hb1
      have s1 := hb1.size
      simp at s1
      have hb0 : Below w.heap.size w w1 := ((Below.refl _ _).alloc (Nat.le_refl _) _).trans (hb1.mono (by simp))
      go_wp2_with fail
      refine (c_l1In _ _ _ _).mono ?_
      rintro e w2 ⟨rfl, rfl⟩
      rw [hi]
      go_wp2_with fail
      go_loopw [6, 7] (fun v i wr => ∃ k : Nat, k ≤ n ∧ i = .int .i64 k ∧ Row wr (w.heap.size + 1) v (L k) ∧ Below (w.heap.size + 1) w1 wr) (fun _ i _ => n - (intOf i).toNat)
      case atStart => exact ⟨0, Nat.zero_le _, rfl, by rw [H0.out]; exact Row.nil _ _, Below.refl _ _⟩
      case round =>
        obtain ⟨k, hk, rfl, hr, hb⟩ := hrel
        have HR := Lib.hid hr
        clear hr
        have sr := hb.size
        have c0 : wr.cell? ⟨w.heap.size, 0, none⟩ = some (.int .i64 x) := by rw [hb.cell (p := ⟨w.heap.size, 0, none⟩) (by simp), hc1 _ _ (by simp)]; simp
        have c1 : wr.cell? ⟨w.heap.size, 1, none⟩ = some (.int .i64 y) := by rw [hb.cell (p := ⟨w.heap.size, 1, none⟩) (by simp), hc1 _ _ (by simp)]; simp
        clear hc1 hf1
        have nn := HN.out
        by_cases hlt : k < n
        · have hlt' : (k : Int) < x * y := by omega
          have hlen : (L k).length ≤ 48 := by rw [HL.out]; omega
          clear nn
          go_wp2_with (at_builtin; refine wpList_append_own _ rfl _ _ 35 rfl (w.heap.size + 1) 3 i0 (.int .i64 0) 1 8 Try.underlying35 HI.out hz0 hz1 hz2 rfl (by decide) _ _ _ rfl (World.ownsRow.alloc HR.out _) ⟨wr.heap.size, 0, none⟩ 1 1 [.int .i64 (a * x * y + k)] rfl rfl ?c1 ?c2 ?c3 ?c4 ?c5 ?_)
          case c1 =>
            intro j u hj
            match j, hj with
            | 0, hj => simp at hj; subst hj; simp [Addr.add]
          case c2 => intro u hu; simp at hu; subst hu; rfl
          case c3 => unfold maxLen; omega
          case c4 => omega
          case c5 => simp; omega
          intro v' w4 hown' hgrow _
          have R1 : Hid (Row w4 (w.heap.size + 1) v' (L (k + 1))) := by rw [HS.out]; exact row_more hown'
          have R2 : Hid (Below (w.heap.size + 1) w1 w4) :=
            ((hb.alloc (by omega) _).grown hgrow (by simp; omega) (fun g hg => (World.ownsRow.lt HR.out g hg).1))
          clear hown' hgrow
          go_wp2
          go_roundw
          case rel => exact ⟨k + 1, by omega, by go_num, R1.out, R2.out⟩
          case measure => simp [intOf]; omega
        · have hlt' : ¬ (k : Int) < x * y := by omega
          obtain rfl : k = n := by omega
          clear nn
          go_wp2
          go_ret2
          exact ⟨_, rfl, HR.out.mono (by omega), hb0.trans (hb.mono (by omega))⟩

set_option maxHeartbeats 1000000 in
theorem c_ColumnBlocksS (x y z a b : Int) (w : World) : Calls Try.prog 27 #[.agg #[.int .i64 x, .int .i64 y, .int .i64 z], .int .i64 a, .int .i64 b] w (GivesRow2 w (coL x y z a b) (coB x y z a b)) := by
  obtain ⟨i0, hi0, hz0, hz1, hz2⟩ := info_parts int_info
  have HI := Lib.hid hi0
  clear hi0
  cases hg : goodB x y z
  · have hB : coB x y z a b = false := by unfold coB; rw [hg]; rfl
    rw [show coL x y z a b = [] from if_neg (by rw [hB]; simp), hB]
    clear hB
    go_enter Try.func27, Try.ntmps27
    go_wp2_with (go_at_call 37; refine (c_grGood _ _ _ _).mono ?_; rintro e w1 ⟨rfl, hb1⟩)
    go_ret2
    exact ⟨_, rfl, Row.nil _ _, ((Below.refl _ _).alloc (Nat.le_refl _) _).trans (hb1.mono (by simp))⟩
  · obtain ⟨x1, x2, y1, y2, z1, z2, p1, p2, q1, q2⟩ := good_box hg
    cases hi : inB x y z a b 0
    · have hB : coB x y z a b = false := by unfold coB; rw [hi]; simp
      rw [show coL x y z a b = [] from if_neg (by rw [hB]; simp), hB]
      clear hB
      have hv : atV x y z a b 0 = -1 := if_neg (by rw [hi]; simp)
      go_enter Try.func27, Try.ntmps27
      go_wp2_with fail
      refine (c_grGood _ _ _ _).mono ?_
      rintro e w1 ⟨rfl, hb1⟩
      obtain ⟨hc1, hf1⟩ := bcell hb1
      have s1 := hb1.size
      simp at s1
      go_wp2_with fail
      refine (c_grAt _ _ _ _ _ _ _ x1 x2 y1 y2 z1 z2).mono ?_
      rintro e w2 ⟨rfl, hb2⟩
      go_wp2
      go_ret2
      exact ⟨_, rfl, Row.nil _ _, (((Below.refl _ _).alloc (Nat.le_refl _) _).trans (hb1.mono (by simp))).trans (hb2.mono (by omega))⟩
    · have hB : coB x y z a b = true := by unfold coB; rw [hg, hi]; rfl
      rw [co_same hB, hB]
      clear hB
      obtain ⟨⟨a1, a2⟩, ⟨b1, b2⟩, _, _⟩ := of_decide_eq_true hi
      have hv : 0 ≤ atV x y z a b 0 := by
        rw [show atV x y z a b 0 = _ from if_pos hi]
        have := (at_box x2 y2 z2 (of_decide_eq_true hi)).2.2.1
        omega
      clear hi
      have HN : Hid (z = (z.toNat : Int)) := by unfold Hid; omega
      generalize z.toNat = n at HN ⊢
      have HL : Hid (∀ k, (coS x y a b k).length = k) := coS_len _ _ _ _
      have HS : Hid (∀ k : Nat, coS x y a b (k + 1) = coS x y a b k ++ [(k * y + b) * x + a]) := coS_succ _ _ _ _
      have H0 : Hid (coS x y a b 0 = []) := rfl
      generalize coS x y a b = L at HL HS H0 ⊢
      go_enter Try.func27, Try.ntmps27
      go_wp2_with fail
      refine (c_grGood _ _ _ _).mono ?_
      rintro e w1 ⟨rfl, hb1⟩
      obtain ⟨hc1, hf1⟩ := bcell hb1
      have s1 := hb1.size
      simp at s1
      have t1 : w.heap.size < w1.heap.size := by omega
      go_wp2_with fail
      refine (c_grAt _ _ _ _ _ _ _ x1 x2 y1 y2 z1 z2).mono ?_
      rintro e w2 ⟨rfl, hb2⟩
      obtain ⟨hc2, hf2⟩ := bcell hb2
      have s2 := hb2.size
      have hb0 : Below w.heap.size w w2 := (((Below.refl _ _).alloc (Nat.le_refl _) _).trans (hb1.mono (by simp))).trans (hb2.mono (by omega))
      go_wp2_with fail
      clear hv
      go_loopw [8, 9] (fun v i wr => ∃ k : Nat, k ≤ n ∧ i = .int .i64 k ∧ Row wr (w.heap.size + 1) v (L k) ∧ Below (w.heap.size + 1) w2 wr) (fun _ i _ => n - (intOf i).toNat)
      case atStart => exact ⟨0, Nat.zero_le _, rfl, by rw [H0.out]; exact Row.nil _ _, Below.refl _ _⟩
      case round =>
        obtain ⟨k, hk, rfl, hr, hb⟩ := hrel
        have HR := Lib.hid hr
        clear hr
        have sr := hb.size
        have c0 : wr.cell? ⟨w.heap.size, 0, none⟩ = some (.int .i64 x) := by rw [hb.cell (p := ⟨w.heap.size, 0, none⟩) (by simp), hc2 _ _ t1, hc1 _ _ (by simp)]; simp
        have c1 : wr.cell? ⟨w.heap.size, 1, none⟩ = some (.int .i64 y) := by rw [hb.cell (p := ⟨w.heap.size, 1, none⟩) (by simp), hc2 _ _ t1, hc1 _ _ (by simp)]; simp
        have c2 : wr.cell? ⟨w.heap.size, 2, none⟩ = some (.int .i64 z) := by rw [hb.cell (p := ⟨w.heap.size, 2, none⟩) (by simp), hc2 _ _ t1, hc1 _ _ (by simp)]; simp
        clear hc1 hf1 hc2 hf2
        have nn := HN.out
        by_cases hlt : k < n
        · have hlt' : (k : Int) < z := by omega
          have hlen : (L k).length ≤ 48 := by rw [HL.out]; omega
          have HV : Hid (atV x y z a b k = (k * y + b) * x + a) := if_pos (decide_eq_true ⟨⟨a1, a2⟩, ⟨b1, b2⟩, by omega, hlt'⟩)
          clear nn
          go_wp2_with fail
          refine (c_grAt _ _ _ _ _ _ _ x1 x2 y1 y2 z1 z2).mono ?_
          rintro e w3 ⟨rfl, hb3⟩
          rw [HV.out]
          have s3 := hb3.size
          have HR3 : Hid (Row w3 (w.heap.size + 1) u8 (L k)) := HR.out.below hb3
          go_wp2_with (at_builtin; refine wpList_append_own _ rfl _ _ 35 rfl (w.heap.size + 1) 3 i0 (.int .i64 0) 1 8 Try.underlying35 HI.out hz0 hz1 hz2 rfl (by decide) _ _ _ rfl (World.ownsRow.alloc HR3.out _) ⟨w3.heap.size, 0, none⟩ 1 1 [.int .i64 ((k * y + b) * x + a)] rfl rfl ?c1 ?c2 ?c3 ?c4 ?c5 ?_)
          case c1 =>
            intro j u hj
            match j, hj with
            | 0, hj => simp at hj; subst hj; simp [Addr.add]
          case c2 => intro u hu; simp at hu; subst hu; rfl
          case c3 => unfold maxLen; omega
          case c4 => omega
          case c5 => simp; omega
          intro v' w4 hown' hgrow _
          have R1 : Hid (Row w4 (w.heap.size + 1) v' (L (k + 1))) := by rw [HS.out]; exact row_more hown'
          have R2 : Hid (Below (w.heap.size + 1) w2 w4) :=
            (((hb.trans (hb3.mono (by omega))).alloc (by omega) _).grown hgrow (by simp; omega) (fun g hg => (World.ownsRow.lt HR3.out g hg).1))
          clear hown' hgrow
          go_wp2
          go_roundw
          case rel => exact ⟨k + 1, by omega, by go_num, R1.out, R2.out⟩
          case measure => simp [intOf]; omega
        · have hlt' : ¬ (k : Int) < z := by omega
          obtain rfl : k = n := by omega
          clear nn
          go_wp2
          go_ret2
          exact ⟨_, rfl, HR.out.mono (by omega), hb0.trans (hb.mono (by omega))⟩
end Go.Proofs.Ytpbkobkakedegaa
