/-
  Contract: CountProfiles, in the model.
-/
import Derived.Test.YtmkbjkmpincogaaSO
import Derived.BigRegion
namespace Go.Proofs.Ytmkbjkmpincogaa
open Go.RowKit
set_option linter.unusedVariables false

theorem rx_set (X : Int) (n k : Nat) (h : k < n) : (rxL X n k).set k X = rxL X n (k + 1) := by
  unfold rxL
  rw [show n - k = (n - (k + 1)) + 1 by omega, List.replicate_succ, List.set_append_right _ _ (by simp)]
  simp [List.replicate_succ']
theorem half_put0 (xs : List Int) (d : Nat) (h : d < xs.length) : (half xs d).set d 0 = half xs d := by
  have e : (half xs d).getD d 0 = 0 := by
    unfold half
    rw [List.getD_eq_getElem?_getD, List.getElem?_append_right (by simp; omega)]
    simp [List.getElem?_replicate]
    split <;> rfl
  apply List.ext_getElem
  · simp
  · intro i h1 h2
    by_cases c : d = i
    · subst c
      rw [List.getElem_set_self]
      rw [List.getD_eq_getElem?_getD, List.getElem?_eq_getElem h2] at e
      exact e.symm
    · rw [List.getElem_set_ne c]

set_option maxHeartbeats 8000000 in
set_option maxRecDepth 20000 in
theorem c_CountProfilesS (a b : Int) (w : World) : Calls Try.prog 36 #[.int .i64 a, .int .i64 b] w fun e w' => e = .returned (.tuple #[.int .i64 (cpN a b), .bool (cpB a b)]) ∧ Below w.heap.size w w' := by
  unfold cpN
  by_cases h : (1 ≤ a ∧ a ≤ 8) ∧ 1 ≤ b ∧ b ≤ 6
  case neg =>
    have e : cpB a b = false := decide_eq_false h
    rw [e]
    by_cases h1 : 1 ≤ a ∧ a ≤ 8
    · have h2 : ¬ (1 ≤ b ∧ b ≤ 6) := fun h2 => h ⟨h1, h2⟩
      have e1 := Lib.hid (decide_eq_true h1)
      have e2 := Lib.hid (decide_eq_false h2)
      clear h h1 h2
      go_enter Try.func36, Try.ntmps36
      go_wp2_with fail
      refine (c_l1In _ _ _ _).mono ?_
      rintro e w1 ⟨rfl, rfl⟩
      rw [e1.out]
      go_wp2_with fail
      refine (c_l1In _ _ _ _).mono ?_
      rintro e w2 ⟨rfl, rfl⟩
      rw [e2.out]
      go_wp2
      go_ret2
      exact ⟨rfl, Below.refl _ _⟩
    · have e1 := Lib.hid (decide_eq_false h1)
      clear h h1
      go_enter Try.func36, Try.ntmps36
      go_wp2_with fail
      refine (c_l1In _ _ _ _).mono ?_
      rintro e w1 ⟨rfl, rfl⟩
      rw [e1.out]
      go_wp2
      go_ret2
      exact ⟨rfl, Below.refl _ _⟩
  case pos =>
  have e : cpB a b = true := decide_eq_true h
  rw [e, if_pos rfl]
  have e1 := Lib.hid (decide_eq_true h.1)
  have e2 := Lib.hid (decide_eq_true h.2)
  obtain ⟨⟨a1, a2⟩, b1, b2⟩ := h
  obtain ⟨m, hm⟩ : ∃ m : Nat, m = b.toNat + 1 := ⟨_, rfl⟩
  obtain ⟨n, hn⟩ : ∃ n : Nat, n = a.toNat - 1 := ⟨_, rfl⟩
  rw [← hm, ← hn]
  obtain rfl : b = (m : Int) - 1 := by omega
  obtain rfl : a = (n : Int) + 1 := by omega
  have m1 : 2 ≤ m := by omega
  have m2 : m ≤ 7 := by omega
  have n2 : n ≤ 7 := by omega
  clear hm hn e
  have hmm : (m : Int) - 1 + 1 = (m : Int) := by omega
  obtain ⟨i0, hi0, hz0, hz1, hz2⟩ := info_parts int_info
  have HMK : Hid (∀ W : World, (Instr.makeSlice 27 (.int .i64 (m : Int)) (.int .i64 (m : Int))).run Try.prog W = .ok (.slice (some ⟨W.heap.size, 0, none⟩) m m) (W.alloc (.cells (madeCells #[.int .i64 0] m) 3))) := fun W => by
    have := run_make (P := Try.prog) W 27 3 i0 (.int .i64 0) Try.underlying27 hi0 hz0 .i64 .i64 (m : Int) (m : Int) (by omega) (by omega) (by rw [hz2]; omega) (by omega)
    simpa [hz1, Value.cells] using this
  have HXl : Hid (∀ k, k ≤ m → (rxL 1 m k).length = m) := fun k hk => rxL_len 1 m k hk
  have HXs : Hid (∀ k, k < m → (rxL 1 m k).set k 1 = rxL 1 m (k + 1)) := fun k hk => rx_set 1 m k hk
  have HXe : Hid (rxL 1 m m = cntR m 0) := by show _ = List.replicate m 1; simp [rxL]
  have HX0 : Hid (rxL 1 m 0 = List.replicate m 0) := by show _ = _; simp [rxL]
  have HCl : Hid (∀ k, (cntR m k).length = m) := cnt_len m
  have HCs : Hid (∀ k, cntR m (k + 1) = stepC (cntR m k)) := fun k => rfl
  have HSl : Hid (∀ k, (stepC (cntR m k)).length = m) := fun k => by rw [stepC_len, cnt_len]
  have HSa : Hid (∀ k d, d < m → (stepC (cntR m k)).getD d 0 = preS (nearL (cntR m k) d) (cnN d m)) := fun k d hd => by rw [stepC_at _ (by rw [cnt_len]; exact hd), cnt_len]
  have HNa : Hid (∀ k d j, d < m → j < cnN d m → preS (nearL (cntR m k) d) (j + 1) = preS (nearL (cntR m k) d) j + (cntR m k).getD (loN d + j) 0) := fun k d j hd hj => by rw [preS, nearL_at (by rw [cnt_len]; exact hd) (by rw [cnt_len]; exact hj)]
  have HTm : Hid (∀ k j, k ≤ 8 → j ≤ m → -1000000000000000 ≤ preS (cntR m k) j ∧ preS (cntR m k) j ≤ 1000000000000000) := fun k j hk hj => cnt_tame m2 hk j (by rw [cnt_len]; exact hj)
  have HTn : Hid (∀ k d j, k ≤ 8 → d < m → j ≤ cnN d m → -1000000000000000 ≤ preS (nearL (cntR m k) d) j ∧ preS (nearL (cntR m k) d) j ≤ 1000000000000000) := fun k d j hk hd hj => near_tame m2 hk hd j (by rw [nearL_len (by rw [cnt_len]; exact hd), cnt_len]; exact hj)
  have HPs : Hid (∀ k j, preS (cntR m k) (j + 1) = preS (cntR m k) j + (cntR m k).getD j 0) := fun k j => rfl
  have HP0 : Hid (∀ k, preS (cntR m k) 0 = 0) := fun k => rfl
  have HN0 : Hid (∀ k d, preS (nearL (cntR m k) d) 0 = 0) := fun k d => rfl
  have HH0 : Hid (∀ k, half (stepC (cntR m k)) 0 = List.replicate m 0) := fun k => by rw [half_zero, stepC_len, cnt_len]
  have HHl : Hid (∀ k d, d ≤ m → (half (stepC (cntR m k)) d).length = m) := fun k d hd => by rw [half_len _ _ (by rw [stepC_len, cnt_len]; exact hd), stepC_len, cnt_len]
  have HHz : Hid (∀ k d, d < m → (half (stepC (cntR m k)) d).set d 0 = half (stepC (cntR m k)) d) := fun k d hd => half_put0 _ _ (by rw [stepC_len, cnt_len]; exact hd)
  have HHs : Hid (∀ k d, d < m → (half (stepC (cntR m k)) d).set d ((stepC (cntR m k)).getD d 0) = half (stepC (cntR m k)) (d + 1)) := fun k d hd => half_set _ _ (by rw [stepC_len, cnt_len]; exact hd)
  have HHe : Hid (∀ k, half (stepC (cntR m k)) m = cntR m (k + 1)) := fun k => by
    have := half_all (stepC (cntR m k))
    rw [stepC_len, cnt_len] at this
    exact this
  have hmk := HMK.out w
  have HB1 : Hid (Below w.heap.size w (w.alloc (.cells (madeCells #[.int .i64 0] m) 3))) := (Below.refl _ _).alloc (Nat.le_refl _) _
  have HR1 : Hid (Row (w.alloc (.cells (madeCells #[.int .i64 0] m) 3)) w.heap.size (.slice (some ⟨w.heap.size, 0, none⟩) m m) (rxL 1 m 0)) := by rw [HX0.out]; exact row_zeros w m (by unfold maxLen; omega)
  clear hi0
  generalize hVV : preS (cntR m n) m = V
  have HVV := Lib.hid hVV
  clear hVV
  go_enter Try.func36, Try.ntmps36
  go_wp2_with fail
  refine (c_l1In _ _ _ _).mono ?_
  rintro e w1 ⟨rfl, rfl⟩
  rw [e1.out]
  go_wp2_with fail
  refine (c_l1In _ _ _ _).mono ?_
  rintro e w2 ⟨rfl, rfl⟩
  rw [e2.out]
  go_wp2_with fail
  clear hmk
  go_loopw [27] (fun i wr => ∃ k : Nat, k ≤ m ∧ i = .int .i64 k ∧ Row wr w.heap.size (.slice (some ⟨w.heap.size, 0, none⟩) m m) (rxL 1 m k) ∧ Below w.heap.size w wr) (fun i _ => m - (intOf i).toNat)
  case atStart => exact ⟨0, Nat.zero_le _, rfl, HR1.out, HB1.out⟩
  case round =>
    obtain ⟨k, hk, rfl, hr, hb⟩ := hrel
    have HR := Lib.hid hr
    have HB := Lib.hid hb
    clear hr hb
    by_cases hlt : k < m
    · have k1 : (0 : Int) ≤ (k : Int) := by omega
      have k2 : (k : Int) < (m : Int) := by omega
      have f1 := row_fz (HXl.out k hk) HR.out k
      obtain ⟨f2, f3⟩ := row_cl (HXl.out k hk) HR.out hlt
      have hst := Row.set_ (HXl.out k hk).symm HR.out k 1
      rw [HXs.out k hlt] at hst
      have HST := Lib.hid hst
      have KB4 : Hid (Below w.heap.size w (wr.setCell ⟨w.heap.size, k, none⟩ (.int .i64 1))) := HB.out.setCell (Nat.le_refl _) _
      clear hst
      go_wp2
      go_roundw
      case rel => exact ⟨k + 1, by omega, by go_num, HST.out.1, KB4.out⟩
      case measure => simp [intOf]; omega
    · obtain rfl : k = m := by omega
      have HR2 : Hid (Row wr w.heap.size (.slice (some ⟨w.heap.size, 0, none⟩) k k) (cntR k 0)) := by rw [← HXe.out]; exact HR.out
      clear HR HR1 HB1 HXl HXs HXe HX0
      go_wp2_with fail
      have hk0 : ((k : Int)) = (k : Int) := rfl
      go_loopw [0, 6] (fun c q wr => ∃ j : Nat, j ≤ n ∧ c = .int .i64 ((n : Int) + 1 - (j : Int)) ∧ (∃ g, q = .slice (some ⟨g, 0, none⟩) k k ∧ Row wr w.heap.size (.slice (some ⟨g, 0, none⟩) k k) (cntR k j)) ∧ Below w.heap.size w wr) (fun c _ _ => (intOf c).toNat)
      case atStart => exact ⟨0, Nat.zero_le _, by simp, ⟨_, rfl, HR2.out⟩, HB.out⟩
      case round =>
        obtain ⟨j, hj, rfl, ⟨g, rfl, hr⟩, hb⟩ := hrel
        have HR := Lib.hid hr
        have KB := Lib.hid hb
        clear hr hb HR2
        by_cases hlj : j < n
        · have j1 : (n : Int) + 1 - (j : Int) > 1 := by omega
          have hmk := HMK.out wr
          have HB3 : Hid (Below w.heap.size w (wr.alloc (.cells (madeCells #[.int .i64 0] k) 3))) := KB.out.alloc KB.out.size _
          have HR3 : Hid (Row (wr.alloc (.cells (madeCells #[.int .i64 0] k) 3)) w.heap.size (.slice (some ⟨g, 0, none⟩) k k) (cntR k j)) := HR.out.below ((Below.refl _ _).alloc (Nat.le_refl _) _)
          have HZ3 : Hid (Row (wr.alloc (.cells (madeCells #[.int .i64 0] k) 3)) w.heap.size (.slice (some ⟨wr.heap.size, 0, none⟩) k k) (half (stepC (cntR k j)) 0)) := by rw [HH0.out]; exact (row_zeros wr k (by unfold maxLen; omega)).mono KB.out.size
          have HNE : Hid (wr.heap.size ≠ g) := by
            show _ ≠ _
            have := (row_cl (HCl.out j) HR.out (show 0 < k by omega)).2
            omega
          have j2 : (n : Int) + 1 - (j : Int) ≤ 8 := by omega
          obtain ⟨C, hC⟩ : ∃ C : Int, C = (n : Int) + 1 - (j : Int) := ⟨_, rfl⟩
          rw [← hC] at j1 j2 ⊢
          have HCC := Lib.hid hC
          clear hC
          go_wp2_with fail
          clear hmk
          generalize wr.alloc (.cells (madeCells #[.int .i64 0] k) 3) = w3 at *
          generalize wr.heap.size = g2 at *
          go_loopw [43] (fun i wr => ∃ d : Nat, d ≤ k ∧ i = .int .i64 d ∧ Row wr w.heap.size (.slice (some ⟨g, 0, none⟩) k k) (cntR k j) ∧ Row wr w.heap.size (.slice (some ⟨g2, 0, none⟩) k k) (half (stepC (cntR k j)) d) ∧ Below w.heap.size w wr) (fun i _ => k - (intOf i).toNat)
          case atStart => exact ⟨0, Nat.zero_le _, rfl, HR3.out, HZ3.out, HB3.out⟩
          case round =>
            obtain ⟨d, hd, rfl, hr, hr2, hb⟩ := hrel
            have LR := Lib.hid hr
            have LZ := Lib.hid hr2
            have LB := Lib.hid hb
            clear hr hr2 hb
            by_cases hdm : d < k
            · have d1 : (0 : Int) ≤ (d : Int) := by omega
              have d2 : (d : Int) < (k : Int) := by omega
              have NF := Lib.hid (near_facts hdm)
              have e3 : Hid (max (0 : Int) ((d : Int) - 1) = ((loN d + 0 : Nat) : Int)) := by unfold loN Hid; omega
              have LZ0 : Hid (Row wr w.heap.size (.slice (some ⟨g2, 0, none⟩) k k) ((half (stepC (cntR k j)) d).set d (preS (nearL (cntR k j) d) 0))) := by rw [HN0.out, HHz.out j d hdm]; exact LZ.out
              go_wp2_with fail
              refine (c_l1MostE _ _ _).mono ?_
              rintro e w4 ⟨rfl, rfl⟩
              rw [e3.out]
              go_wp2_with fail
              go_loopw [10] (fun i wr => ∃ q : Nat, q ≤ cnN d k ∧ i = .int .i64 ((loN d + q : Nat) : Int) ∧ Row wr w.heap.size (.slice (some ⟨g, 0, none⟩) k k) (cntR k j) ∧ Row wr w.heap.size (.slice (some ⟨g2, 0, none⟩) k k) ((half (stepC (cntR k j)) d).set d (preS (nearL (cntR k j) d) q)) ∧ Below w.heap.size w wr) (fun i _ => 100 - (intOf i).toNat)
              case atStart => exact ⟨0, Nat.zero_le _, rfl, LR.out, LZ0.out, LB.out⟩
              case round =>
                obtain ⟨q, hq, rfl, hr, hr2, hb⟩ := hrel
                have MR := Lib.hid hr
                have MZ := Lib.hid hr2
                have MB := Lib.hid hb
                clear hr hr2 hb
                have e4 : Hid (min ((k : Int) - 1) ((d : Int) + 1) = ((loN d + cnN d k - 1 : Nat) : Int)) := by unfold loN cnN Hid; omega
                have ML : Hid (((half (stepC (cntR k j)) d).set d (preS (nearL (cntR k j) d) q)).length = k) := by show _ = _; rw [List.length_set]; exact HHl.out j d hd
                by_cases hlq : q < cnN d k
                · have NF2 := NF.out
                  obtain ⟨E, hE⟩ : ∃ E : Nat, E = loN d + q := ⟨_, rfl⟩
                  have c1 : ((loN d + q : Nat) : Int) ≤ ((loN d + cnN d k - 1 : Nat) : Int) := by omega
                  have X := HNa.out j d q hdm hlq
                  obtain ⟨t0, t1⟩ := HTn.out j d q (by omega) hdm (by omega)
                  obtain ⟨t2, t3⟩ := HTn.out j d (q + 1) (by omega) hdm (by omega)
                  rw [X] at t2 t3
                  obtain ⟨q1, _⟩ := row_cl ML.out MZ.out hdm
                  rw [show ((half (stepC (cntR k j)) d).set d (preS (nearL (cntR k j) d) q)).getD d 0 = preS (nearL (cntR k j) d) q by have := HHl.out j d hd; simp [this, hdm]] at q1
                  have f1 := row_fz ML.out MZ.out d
                  obtain ⟨q2, _⟩ := row_cl (HCl.out j) MR.out (show loN d + q < k by omega)
                  have hst := Row.set_ ML.out.symm MZ.out d (preS (nearL (cntR k j) d) q + (cntR k j).getD (loN d + q) 0)
                  rw [List.set_set, ← X] at hst
                  have HST := Lib.hid hst
                  have MB4 : Hid (Below w.heap.size w (wr.setCell ⟨g2, d, none⟩ (.int .i64 (preS (nearL (cntR k j) d) (q + 1))))) := MB.out.setCell (World.ownsRow.lt MZ.out g2 rfl).1 _
                  have MR4 : Hid (Row (wr.setCell ⟨g2, d, none⟩ (.int .i64 (preS (nearL (cntR k j) d) (q + 1)))) w.heap.size (.slice (some ⟨g, 0, none⟩) k k) (cntR k j)) := World.ownsRow.kept MR.out HST.out.2 (.inr (by simp [Value.ownBlock]; exact fun e => HNE.out e.symm))
                  have e5 : Hid (loN d + (q + 1) = E + 1) := by unfold Hid; omega
                  have NE2 := Lib.hid NF2
                  rw [← hE] at c1 q2 X t2 t3 ⊢
                  have HX := Lib.hid X
                  have c2 : (0 : Int) ≤ (E : Int) := by omega
                  have c3 : (E : Int) < (k : Int) := by omega
                  have HEE := Lib.hid hE
                  clear hst NF2 hE X
                  generalize (cntR k j).getD E 0 = s at *
                  generalize hS : preS (nearL (cntR k j) d) q = t at *
                  generalize hS2 : preS (nearL (cntR k j) d) (q + 1) = t' at *
                  go_wp2_with fail
                  refine (c_l1LeastE _ _ _).mono ?_
                  rintro e w5 ⟨rfl, rfl⟩
                  rw [e4.out]
                  go_wp2_with fail
                  go_region
                  rw [← HX.out]
                  have hsz := NE2.out
                  go_wp2
                  go_roundw
                  case rel => exact ⟨q + 1, by omega, by rw [e5.out]; go_num, MR4.out.draws 1, by rw [hS2]; exact HST.out.1.draws 1, MB4.out.drew⟩
                  case measure =>
                    have := HEE.out
                    simp [intOf]
                    omega
                · obtain rfl : q = cnN d k := by omega
                  have NF2 := NF.out
                  have c1 : ¬ ((loN d + cnN d k : Nat) : Int) ≤ ((loN d + cnN d k - 1 : Nat) : Int) := by omega
                  have RZ : Hid (Row wr w.heap.size (.slice (some ⟨g2, 0, none⟩) k k) (half (stepC (cntR k j)) (d + 1))) := by
                    rw [← HHs.out j d hdm, HSa.out j d hdm]
                    exact MZ.out
                  clear NF2
                  generalize ((loN d + cnN d k : Nat) : Int) = x1 at *
                  generalize ((loN d + cnN d k - 1 : Nat) : Int) = x2 at *
                  go_wp2_with fail
                  refine (c_l1LeastE _ _ _).mono ?_
                  rintro e w5 ⟨rfl, rfl⟩
                  rw [e4.out]
                  go_wp2
                  go_roundw
                  case rel => exact ⟨d + 1, by omega, by go_num, MR.out, RZ.out, MB.out⟩
                  case measure => simp [intOf]; omega
            · obtain rfl : d = k := by omega
              have RZ : Hid (Row wr w.heap.size (.slice (some ⟨g2, 0, none⟩) d d) (cntR d (j + 1))) := by rw [← HHe.out]; exact LZ.out
              go_wp2
              go_roundw
              case rel => exact ⟨j + 1, by omega, by rw [HCC.out]; congr 1; omega, ⟨_, rfl, RZ.out⟩, LB.out⟩
              case measure => simp [intOf]; omega
        · obtain rfl : j = n := by omega
          have j1 : ¬ (j : Int) + 1 - (j : Int) > 1 := by omega
          go_wp2_with fail
          go_loopw [11, 71] (fun s i wr => ∃ q : Nat, q ≤ k ∧ i = .int .i64 q ∧ s = .int .i64 (preS (cntR k j) q) ∧ Row wr w.heap.size (.slice (some ⟨g, 0, none⟩) k k) (cntR k j) ∧ Below w.heap.size w wr) (fun _ i _ => k - (intOf i).toNat)
          case atStart => exact ⟨0, Nat.zero_le _, rfl, by rw [HP0.out], HR.out, KB.out⟩
          case round =>
            obtain ⟨q, hq, rfl, rfl, hr, hb⟩ := hrel
            have MR := Lib.hid hr
            have MB := Lib.hid hb
            clear hr hb
            by_cases hlq : q < k
            · have X := HPs.out j q
              obtain ⟨t0, t1⟩ := HTm.out j q (by omega) (by omega)
              obtain ⟨t2, t3⟩ := HTm.out j (q + 1) (by omega) (by omega)
              rw [X] at t2 t3
              have HX := Lib.hid X
              obtain ⟨q1, _⟩ := row_cl (HCl.out j) MR.out hlq
              have c2 : (0 : Int) ≤ (q : Int) := by omega
              have c3 : (q : Int) < (k : Int) := by omega
              clear X
              generalize (cntR k j).getD q 0 = s at *
              generalize hS : preS (cntR k j) q = t at *
              go_wp2
              go_roundw
              case rel => exact ⟨q + 1, by omega, by go_num, by rw [HX.out], MR.out, MB.out⟩
              case measure => simp [intOf]; omega
            · obtain rfl : q = k := by omega
              rw [HVV.out]
              go_wp2
              go_ret2
              exact ⟨rfl, MB.out⟩
end Go.Proofs.Ytmkbjkmpincogaa
