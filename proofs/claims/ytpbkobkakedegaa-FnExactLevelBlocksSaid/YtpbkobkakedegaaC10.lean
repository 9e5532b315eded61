/-
  Contracts: the model's NeighboursOf and BoxOf.
-/
import Derived.Test.YtpbkobkakedegaaC9
namespace Go.Proofs.Ytpbkobkakedegaa
open Go.RowKit

set_option maxHeartbeats 1000000 in
theorem c_NeighboursOfS (x y z i : Int) (w : World) : Calls Try.prog 29 #[.agg #[.int .i64 x, .int .i64 y, .int .i64 z], .int .i64 i] w (GivesRow2 w (neL x y z i) (hasB x y z i)) := by
  obtain ⟨i0, hi0, hz0, hz1, hz2⟩ := info_parts int_info
  have HI := Lib.hid hi0
  clear hi0
  cases hg : hasB x y z i
  · rw [show neL x y z i = [] from if_neg (by rw [hg]; simp)]
    go_enter Try.func29, Try.ntmps29
    go_wp2_with (go_at_call 43; refine (c_grHas _ _ _ _ _).mono ?_; rintro e w1 ⟨rfl, hb1⟩)
    go_ret2
    exact ⟨_, rfl, Row.nil _ _, ((Below.refl _ _).alloc (Nat.le_refl _) _).trans (hb1.mono (by simp))⟩
  · rw [show neL x y z i = _ from if_pos hg]
    obtain ⟨hh, hi1, hi2⟩ := has_true hg
    obtain ⟨x1, x2, y1, y2, z1, z2, p1, p2, q1, q2⟩ := good_box hh
    have HN := Lib.hid (nB_eq hh)
    have hN3 : (nB x y z : Int) ≤ 120 := by have := nB_eq hh; omega
    clear hh
    have hi3 : i ≤ 1000 := by omega
    generalize nB x y z = N at HN hN3 ⊢
    have HPE : Hid (∀ k : Nat, (fun k : Int => steps x y i k == 1) k = (steps x y i k == 1)) := fun _ => rfl
    generalize (fun k : Int => steps x y i k == 1) = p at HPE ⊢
    go_enter Try.func29, Try.ntmps29
    go_wp2_with fail
    refine (c_grHas _ _ _ _ _).mono ?_
    rintro e w1 ⟨rfl, hb1⟩
    obtain ⟨hc1, hf1⟩ := bcell hb1
    have s1 := hb1.size
    simp at s1
    have hb0 : Below w.heap.size w w1 := ((Below.refl _ _).alloc (Nat.le_refl _) _).trans (hb1.mono (by simp))
    go_wp2_with fail
    go_loopw [6, 7] (fun v i wr => ∃ k : Nat, k ≤ N ∧ i = .int .i64 k ∧ Row wr (w.heap.size + 1) v (sel p k) ∧ Below (w.heap.size + 1) w1 wr) (fun _ i _ => N - (intOf i).toNat)
    case atStart => exact ⟨0, Nat.zero_le _, rfl, Row.nil _ _, Below.refl _ _⟩
    case round =>
      obtain ⟨k, hk, rfl, hr, hb⟩ := hrel
      have HR := Lib.hid hr
      clear hr
      have sr := hb.size
      have c0 : wr.cell? ⟨w.heap.size, 0, none⟩ = some (.int .i64 x) := by rw [hb.cell (p := ⟨w.heap.size, 0, none⟩) (by simp), hc1 _ _ (by simp)]; simp
      have c1 : wr.cell? ⟨w.heap.size, 1, none⟩ = some (.int .i64 y) := by rw [hb.cell (p := ⟨w.heap.size, 1, none⟩) (by simp), hc1 _ _ (by simp)]; simp
      have c2 : wr.cell? ⟨w.heap.size, 2, none⟩ = some (.int .i64 z) := by rw [hb.cell (p := ⟨w.heap.size, 2, none⟩) (by simp), hc1 _ _ (by simp)]; simp
      clear hc1 hf1
      by_cases hlt : k < N
      · go_wp2_with fail
        refine (c_grCount _ _ _ _ (by omega) x2 (by omega) y2 (by omega) z2).mono ?_
        rintro e w2 ⟨rfl, hb2⟩
        rw [HN.out]
        have s2 := hb2.size
        have d0 : w2.cell? ⟨w.heap.size, 0, none⟩ = some (.int .i64 x) := cells_later hb2 (by omega) c0
        have d1 : w2.cell? ⟨w.heap.size, 1, none⟩ = some (.int .i64 y) := cells_later hb2 (by omega) c1
        have d2 : w2.cell? ⟨w.heap.size, 2, none⟩ = some (.int .i64 z) := cells_later hb2 (by omega) c2
        go_wp2_with fail
        refine (c_grSteps _ _ _ _ _ _ x1 x2 y1 y2 hi1 hi3 (by omega) (by omega)).mono ?_
        rintro e w3 ⟨rfl, hb3⟩
        have hb23 : Below wr.heap.size wr w3 := hb2.trans (hb3.mono hb2.size)
        have s3 := hb23.size
        have HR3 : Hid (Row w3 (w.heap.size + 1) u6 (sel p k)) := HR.out.below hb23
        have hlen := sel_len p k
        cases hp : steps x y i (k : Int) == 1
        · have HP : Hid (p k = false) := (HPE.out k).trans hp
          go_wp2
          go_roundw
          case rel => exact ⟨k + 1, by omega, by go_num, by rw [sel_miss HP.out]; exact HR3.out, hb.trans (hb23.mono (by omega))⟩
          case measure => simp [intOf]; omega
        · have HP : Hid (p k = true) := (HPE.out k).trans hp
          go_wp2_with (at_builtin; refine wpList_append_own _ rfl _ _ 35 rfl (w.heap.size + 1) 3 i0 (.int .i64 0) 1 8 Try.underlying35 HI.out hz0 hz1 hz2 rfl (by decide) _ _ _ rfl (World.ownsRow.alloc HR3.out _) ⟨w3.heap.size, 0, none⟩ 1 1 [.int .i64 k] rfl rfl ?c1 ?c2 ?c3 ?c4 ?c5 ?_)
          case c1 =>
            intro j u hj
            match j, hj with
            | 0, hj => simp at hj; subst hj; simp [Addr.add]
          case c2 => intro u hu; simp at hu; subst hu; rfl
          case c3 => unfold maxLen; omega
          case c4 => omega
          case c5 => simp; omega
          intro v' w4 hown' hgrow _
          have R1 : Hid (Row w4 (w.heap.size + 1) v' (sel p (k + 1))) := by rw [sel_hit HP.out]; exact row_more hown'
          have R2 : Hid (Below (w.heap.size + 1) w1 w4) :=
            (((hb.trans (hb23.mono (by omega))).alloc (by omega) _).grown hgrow (by simp; omega) (fun g hg => (World.ownsRow.lt HR3.out g hg).1))
          clear hown' hgrow hp
          go_wp2
          go_roundw
          case rel => exact ⟨k + 1, by omega, by go_num, R1.out, R2.out⟩
          case measure => simp [intOf]; omega
      · obtain rfl : k = N := by omega
        go_wp2_with fail
        refine (c_grCount _ _ _ _ (by omega) x2 (by omega) y2 (by omega) z2).mono ?_
        rintro e w2 ⟨rfl, hb2⟩
        rw [HN.out]
        go_wp2
        go_ret2
        exact ⟨_, rfl, (HR.out.below hb2).mono (by omega), hb0.trans ((hb.mono (by omega)).trans (hb2.mono (by omega)))⟩

set_option maxHeartbeats 1000000 in
theorem c_BoxOfS (x y z i r : Int) (w : World) : Calls Try.prog 31 #[.agg #[.int .i64 x, .int .i64 y, .int .i64 z], .int .i64 i, .int .i64 r] w (GivesRow2 w (boL x y z i r) (boB x y z i r)) := by
  obtain ⟨i0, hi0, hz0, hz1, hz2⟩ := info_parts int_info
  have HI := Lib.hid hi0
  clear hi0
  cases hg : hasB x y z i
  · have hB : boB x y z i r = false := by unfold boB; rw [hg]; rfl
    rw [show boL x y z i r = [] from if_neg (by rw [hB]; simp), hB]
    clear hB
    go_enter Try.func31, Try.ntmps31
    go_wp2_with (go_at_call 43; refine (c_grHas _ _ _ _ _).mono ?_; rintro e w1 ⟨rfl, hb1⟩)
    go_ret2
    exact ⟨_, rfl, Row.nil _ _, ((Below.refl _ _).alloc (Nat.le_refl _) _).trans (hb1.mono (by simp))⟩
  · cases hr0 : decide (0 ≤ r ∧ r ≤ 8)
    · have hB : boB x y z i r = false := by unfold boB; rw [hr0]; simp
      rw [show boL x y z i r = [] from if_neg (by rw [hB]; simp), hB]
      clear hB
      go_enter Try.func31, Try.ntmps31
      go_wp2_with fail
      refine (c_grHas _ _ _ _ _).mono ?_
      rintro e w1 ⟨rfl, hb1⟩
      go_wp2_with fail
      refine (c_l1In _ _ _ _).mono ?_
      rintro e w2 ⟨rfl, rfl⟩
      rw [hr0]
      go_wp2
      go_ret2
      exact ⟨_, rfl, Row.nil _ _, ((Below.refl _ _).alloc (Nat.le_refl _) _).trans (hb1.mono (by simp))⟩
    · have hB : boB x y z i r = true := by unfold boB; rw [hg, hr0]; rfl
      rw [show boL x y z i r = _ from if_pos hB, hB]
      clear hB
      obtain ⟨hh, hi1, hi2⟩ := has_true hg
      obtain ⟨x1, x2, y1, y2, z1, z2, p1, p2, q1, q2⟩ := good_box hh
      have HN := Lib.hid (nB_eq hh)
      have hN3 : (nB x y z : Int) ≤ 120 := by have := nB_eq hh; omega
      clear hh
      have hi3 : i ≤ 1000 := by omega
      generalize nB x y z = N at HN hN3 ⊢
      have HPE : Hid (∀ k : Nat, (fun k : Int => nearB (i % x) (i / x % y) (i / x / y) (k % x) (k / x % y) (k / x / y) r) k = nearB (i % x) (i / x % y) (i / x / y) (k % x) (k / x % y) (k / x / y) r) := fun _ => rfl
      generalize (fun k : Int => nearB (i % x) (i / x % y) (i / x / y) (k % x) (k / x % y) (k / x / y) r) = p at HPE ⊢
      go_enter Try.func31, Try.ntmps31
      go_wp2_with fail
      refine (c_grHas _ _ _ _ _).mono ?_
      rintro e w1 ⟨rfl, hb1⟩
      obtain ⟨hc1, hf1⟩ := bcell hb1
      have s1 := hb1.size
      simp at s1
      have hb0 : Below w.heap.size w w1 := ((Below.refl _ _).alloc (Nat.le_refl _) _).trans (hb1.mono (by simp))
      go_wp2_with (go_at_call 49; refine (c_l1In _ _ _ _).mono ?_; rintro e w2 ⟨rfl, rfl⟩; rw [hr0])
      go_loopw [8, 9] (fun v i wr => ∃ k : Nat, k ≤ N ∧ i = .int .i64 k ∧ Row wr (w.heap.size + 1) v (sel p k) ∧ Below (w.heap.size + 1) w1 wr) (fun _ i _ => N - (intOf i).toNat)
      case atStart => exact ⟨0, Nat.zero_le _, rfl, Row.nil _ _, Below.refl _ _⟩
      case round =>
        obtain ⟨k, hk, rfl, hr, hb⟩ := hrel
        have HR := Lib.hid hr
        clear hr
        have sr := hb.size
        have c0 : wr.cell? ⟨w.heap.size, 0, none⟩ = some (.int .i64 x) := by rw [hb.cell (p := ⟨w.heap.size, 0, none⟩) (by simp), hc1 _ _ (by simp)]; simp
        have c1 : wr.cell? ⟨w.heap.size, 1, none⟩ = some (.int .i64 y) := by rw [hb.cell (p := ⟨w.heap.size, 1, none⟩) (by simp), hc1 _ _ (by simp)]; simp
        have c2 : wr.cell? ⟨w.heap.size, 2, none⟩ = some (.int .i64 z) := by rw [hb.cell (p := ⟨w.heap.size, 2, none⟩) (by simp), hc1 _ _ (by simp)]; simp
        clear hc1 hf1
        by_cases hlt : k < N
        · go_wp2_with fail
          refine (c_grCount _ _ _ _ (by omega) x2 (by omega) y2 (by omega) z2).mono ?_
          rintro e w2 ⟨rfl, hb2⟩
          rw [HN.out]
          have s2 := hb2.size
          have d0 : w2.cell? ⟨w.heap.size, 0, none⟩ = some (.int .i64 x) := cells_later hb2 (by omega) c0
          have d1 : w2.cell? ⟨w.heap.size, 1, none⟩ = some (.int .i64 y) := cells_later hb2 (by omega) c1
          have d2 : w2.cell? ⟨w.heap.size, 2, none⟩ = some (.int .i64 z) := cells_later hb2 (by omega) c2
          go_wp2_with fail
          refine (c_grNear _ _ _ _ _ _ _ x1 x2 y1 y2 hi1 hi3 (by omega) (by omega)).mono ?_
          rintro e w3 ⟨rfl, hb3⟩
          have hb23 : Below wr.heap.size wr w3 := hb2.trans (hb3.mono hb2.size)
          have s3 := hb23.size
          have HR3 : Hid (Row w3 (w.heap.size + 1) u8 (sel p k)) := HR.out.below hb23
          have hlen := sel_len p k
          cases hp : nearB (i % x) (i / x % y) (i / x / y) ((k : Int) % x) ((k : Int) / x % y) ((k : Int) / x / y) r
          · have HP : Hid (p k = false) := (HPE.out k).trans hp
            go_wp2
            go_roundw
            case rel => exact ⟨k + 1, by omega, by go_num, by rw [sel_miss HP.out]; exact HR3.out, hb.trans (hb23.mono (by omega))⟩
            case measure => simp [intOf]; omega
          · have HP : Hid (p k = true) := (HPE.out k).trans hp
            go_wp2_with (at_builtin; refine wpList_append_own _ rfl _ _ 35 rfl (w.heap.size + 1) 3 i0 (.int .i64 0) 1 8 Try.underlying35 HI.out hz0 hz1 hz2 rfl (by decide) _ _ _ rfl (World.ownsRow.alloc HR3.out _) ⟨w3.heap.size, 0, none⟩ 1 1 [.int .i64 k] rfl rfl ?c1 ?c2 ?c3 ?c4 ?c5 ?_)
            case c1 =>
              intro j u hj
              match j, hj with
              | 0, hj => simp at hj; subst hj; simp [Addr.add]
            case c2 => intro u hu; simp at hu; subst hu; rfl
            case c3 => unfold maxLen; omega
            case c4 => omega
            case c5 => simp; omega
            intro v' w4 hown' hgrow _
            have R1 : Hid (Row w4 (w.heap.size + 1) v' (sel p (k + 1))) := by rw [sel_hit HP.out]; exact row_more hown'
            have R2 : Hid (Below (w.heap.size + 1) w1 w4) :=
              (((hb.trans (hb23.mono (by omega))).alloc (by omega) _).grown hgrow (by simp; omega) (fun g hg => (World.ownsRow.lt HR3.out g hg).1))
            clear hown' hgrow hp
            go_wp2
            go_roundw
            case rel => exact ⟨k + 1, by omega, by go_num, R1.out, R2.out⟩
            case measure => simp [intOf]; omega
        · obtain rfl : k = N := by omega
          go_wp2_with fail
          refine (c_grCount _ _ _ _ (by omega) x2 (by omega) y2 (by omega) z2).mono ?_
          rintro e w2 ⟨rfl, hb2⟩
          rw [HN.out]
          go_wp2
          go_ret2
          exact ⟨_, rfl, (HR.out.below hb2).mono (by omega), hb0.trans ((hb.mono (by omega)).trans (hb2.mono (by omega)))⟩
end Go.Proofs.Ytpbkobkakedegaa
