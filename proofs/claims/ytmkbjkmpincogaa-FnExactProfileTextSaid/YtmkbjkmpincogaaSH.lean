/-
  Contracts: ProfileBlocks, in the program and in the model of it.
-/
import Derived.Test.YtmkbjkmpincogaaSG
namespace Go.Proofs.Ytmkbjkmpincogaa
open Go.RowKit
set_option linter.unusedVariables false

theorem sel_marks (p : List Int) (n m : Nat) : sel (bAt (upB (mkF p n) m)) m = sel (miB p n) m :=
  sel_congr fun k hk => by
    unfold bAt
    rw [Int.toNat_natCast, upB_at _ hk]
    rfl

set_option maxHeartbeats 2000000 in
theorem c_ProfileBlocks (xss : List (List Int)) (p : List Int) (v u : Value) (w : World) (hl : ShortL xss) (hl2 : p.length ≤ 4000000) (h : SeenC w v xss) (hp : Seen w u p) :
    Calls Try.prog 41 #[v, u] w (GivesRow2 w (pbL xss p) (spB xss p)) := by
  have H1 := Lib.hid (c_IsProfile xss p v u w hl hl2 h.seen hp)
  have H2 : Hid (spB xss p = true → ∀ w', Below w.heap.size w w' → Calls Try.prog 69 #[v, u] w' fun e w'' => ∃ g c, e = .returned (.slice (some ⟨g, 0, none⟩) (depD xss * xss.length) c) ∧ RowB w'' w'.heap.size (.slice (some ⟨g, 0, none⟩) (depD xss * xss.length) c) (upB (mkF p xss.length) (depD xss * xss.length)) ∧ Below w'.heap.size w' w'') := fun hs w' hb => by
    obtain ⟨_, s1, s2, _⟩ := sp_yes hs
    refine (c_minedMarks xss p _ _ v u w' s1 s2 (h.below hb) (hp.below hb)).mono ?_
    rintro e w2 ⟨q, rfl, hr, hb2⟩
    have h0 : 0 < depD xss * xss.length := Nat.mul_pos s1.d1 s1.n1
    obtain ⟨g, c, rfl, _, _⟩ := hr.form (by rw [upB_len]; exact h0)
    rw [upB_len] at hr ⊢
    exact ⟨g, c, rfl, hr, hb2⟩
  have H3 : Hid (spB xss p = true → ∀ (g c B : Nat) (w' : World), RowB w' B (.slice (some ⟨g, 0, none⟩) (depD xss * xss.length) c) (upB (mkF p xss.length) (depD xss * xss.length)) → Calls Try.prog 68 #[.slice (some ⟨g, 0, none⟩) (depD xss * xss.length) c, .func (.func 70) #[] #[]] w' (GivesRow w' (sel (miB p xss.length) (depD xss * xss.length)))) := fun hs g c B w' hr => by
    obtain ⟨_, s1, _, _⟩ := sp_yes hs
    have hm : depD xss * xss.length ≤ 6 * 8 := Nat.mul_le_mul s1.d2 s1.n2
    have e := upB_len (mkF p xss.length) (depD xss * xss.length)
    have := c_whereMarks (upB (mkF p xss.length) (depD xss * xss.length)) g c B w' (by rw [e]; omega) (by rw [e]; exact hr)
    rw [e, sel_marks] at this
    exact this
  obtain ⟨A', c', rfl, _⟩ := h.seen.shape
  obtain ⟨A, c, rfl⟩ := hp.shape
  unfold pbL
  clear h hp hl hl2
  generalize secB xss = Z at *
  cases hs : spB xss p
  · rw [hs] at H1
    clear H2 H3
    go_enter Try.func41, Try.ntmps41
    go_wp2_with fail
    refine H1.out.mono ?_
    rintro e w1 ⟨rfl, hb⟩
    have HB := Lib.hid hb
    clear hb
    go_wp2
    go_ret2
    exact ⟨_, rfl, Row.nil _ _, HB.out⟩
  · rw [hs] at H1
    have H4 := Lib.hid (H2.out hs)
    have H5 := Lib.hid (H3.out hs)
    rw [if_pos rfl]
    clear hs H2 H3
    generalize sel (miB p xss.length) (depD xss * xss.length) = R at *
    generalize upB (mkF p xss.length) (depD xss * xss.length) = R2 at *
    generalize depD xss * xss.length = m at *
    go_enter Try.func41, Try.ntmps41
    go_wp2_with fail
    refine H1.out.mono ?_
    rintro e w1 ⟨rfl, hb⟩
    have HB := Lib.hid hb
    clear hb
    go_wp2_with fail
    refine (H4.out _ HB.out).mono ?_
    rintro e w2 ⟨g, c, rfl, hr, hb2⟩
    have HB2 : Hid (Below w.heap.size w w2) := HB.out.trans (hb2.mono HB.out.size)
    have HR := Lib.hid hr
    clear hb2 hr
    go_wp2_with fail
    refine (H5.out _ _ _ _ HR.out).mono ?_
    rintro e w3 ⟨q, rfl, hr3, hb3⟩
    have HB3 : Hid (Below w.heap.size w w3) := HB2.out.trans (hb3.mono HB2.out.size)
    have HR3 : Hid (Row w3 w.heap.size q R) := hr3.mono HB2.out.size
    clear hb3 hr3
    go_wp2
    go_ret2
    exact ⟨_, rfl, HR3.out, HB3.out⟩

set_option maxHeartbeats 4000000 in
theorem c_ProfileBlocksS (xss : List (List Int)) (p : List Int) (v u : Value) (w : World) (hl : ShortL xss) (hl2 : p.length ≤ 4000000) (h : SeenC w v xss) (hp : Seen w u p) :
    Calls Try.prog 40 #[v, u] w (GivesRow2 w (pbL xss p) (spB xss p)) := by
  have H1 := Lib.hid (c_seGood xss v w hl h.seen)
  have H2 : Hid (secB xss = true → Calls Try.prog 47 #[v, u] w fun e w' => e = .returned (.bool (spB xss p)) ∧ Below w.heap.size w w') := fun hs => by
    have S := sec_yes hs
    unfold spB
    rw [hs, Bool.true_and]
    exact c_seProfile xss p v u w (by have := S.n1; omega) (by have := S.d2; omega) hl2 h.seen hp
  have H4 : Hid (secB xss = false → spB xss p = false) := fun h => by unfold spB; rw [h]; rfl
  unfold pbL
  cases hz : secB xss
  · rw [hz] at H1
    rw [H4.out hz]
    obtain ⟨A', c', rfl, _⟩ := h.seen.shape
    obtain ⟨A, c, rfl⟩ := hp.shape
    clear H2 hz H4 h hp
    go_enter Try.func40, Try.ntmps40
    go_wp2_with fail
    refine H1.out.mono ?_
    rintro e w1 ⟨rfl, rfl⟩
    go_wp2
    go_ret2
    exact ⟨_, rfl, Row.nil _ _, Below.refl _ _⟩
  rw [hz] at H1
  have H5 := Lib.hid (H2.out hz)
  clear H2 H4 hz
  cases hs : spB xss p
  · rw [hs] at H5
    obtain ⟨A', c', rfl, _⟩ := h.seen.shape
    obtain ⟨A, c, rfl⟩ := hp.shape
    clear h hp
    go_enter Try.func40, Try.ntmps40
    go_wp2_with fail
    refine H1.out.mono ?_
    rintro e w1 ⟨rfl, rfl⟩
    go_wp2_with fail
    refine H5.out.mono ?_
    rintro e w2 ⟨rfl, hb⟩
    have HB := Lib.hid hb
    clear hb
    go_wp2
    go_ret2
    exact ⟨_, rfl, Row.nil _ _, HB.out⟩
  rw [hs] at H5
  rw [if_pos rfl]
  obtain ⟨_, S, hq, _⟩ := sp_yes hs
  have hs2 := h.seen
  obtain ⟨A, c, rfl, hm⟩ := hs2.shape
  obtain ⟨b0, off0, A0, c0, rfl, q0⟩ := hs2.col0 (by have := S.n1; omega)
  have hbl : b0 < w.heap.size := lt_of_cell q0
  obtain ⟨A2, c2, rfl, _, hA⟩ := hp
  rw [hq.len] at hA
  have E1 : Hid (∀ k : Nat, k < xss.length → ∃ b off, A2 = some ⟨b, off, none⟩ ∧ b < w.heap.size ∧ w.cell? ⟨b, off + k, none⟩ = some (.int .i64 (p.getD k 0))) := fun k hk => by
    obtain ⟨b, off, rfl, hl, hc⟩ := hA (by omega)
    exact ⟨b, off, rfl, hl, hc k hk⟩
  have EF : Hid (∀ k z : Nat, k < xss.length → miB p xss.length ((z * xss.length + k : Nat) : Int) = decide ((z : Int) < p.getD k 0)) := fun k z hk => miB_at p hk
  have EL : Hid (∀ k, (sel (miB p xss.length) k).length ≤ k) := sel_len _
  have E0 : Hid (sel (miB p xss.length) 0 = []) := rfl
  have EH : Hid (∀ k : Nat, miB p xss.length (k : Int) = true → sel (miB p xss.length) (k + 1) = sel (miB p xss.length) k ++ [(k : Int)]) := fun k h => sel_hit h
  have EM : Hid (∀ k : Nat, miB p xss.length (k : Int) = false → sel (miB p xss.length) (k + 1) = sel (miB p xss.length) k) := fun k h => sel_miss h
  have n1 := S.n1
  have n2 := S.n2
  have m1 := S.d1
  have m2 := S.d2
  rw [hq.len] at H5 ⊢
  have d3 : (0 : Int) < (xss.length : Int) := by omega
  obtain ⟨i0, hi0, hz0, hz1, hz2⟩ := info_parts int_info
  have HI := Lib.hid hi0
  clear hi0 S h hs hm hq hA hs2
  generalize sel (miB p xss.length) = U at *
  generalize miB p xss.length = L at *
  generalize xss.length = n at *
  generalize depD xss = D at *
  go_enter Try.func40, Try.ntmps40
  go_wp2_with fail
  refine H1.out.mono ?_
  rintro e w1 ⟨rfl, rfl⟩
  go_wp2_with fail
  refine H5.out.mono ?_
  rintro e w2 ⟨rfl, hb⟩
  have HB2 := Lib.hid hb
  rw [← hb.cell (p := ⟨b0, off0, none⟩) hbl] at q0
  clear hb
  have hb2 := HB2.out.size
  go_wp2_with fail
  go_loopw [6, 23] (fun q i wr => ∃ z : Nat, z ≤ D ∧ i = .int .i64 z ∧ Row wr w.heap.size q (U (z * n)) ∧ Below w.heap.size w wr) (fun _ i _ => D - (intOf i).toNat)
  case atStart => exact ⟨0, Nat.zero_le _, rfl, by rw [Nat.zero_mul, E0.out]; exact Row.nil _ _, HB2.out⟩
  case round =>
    obtain ⟨z, hz, rfl, hr, hb⟩ := hrel
    have HR0 := Lib.hid hr
    have HB0 := Lib.hid hb
    clear hr hb
    by_cases hlz : z < D
    · have z1 : (0 : Int) ≤ (z : Int) := by omega
      have z2 : (z : Int) < (D : Int) := by omega
      go_wp2_with fail
      go_loopw [6, 28] (fun q i wr => ∃ k : Nat, k ≤ n ∧ i = .int .i64 k ∧ Row wr w.heap.size q (U (z * n + k)) ∧ Below w.heap.size w wr) (fun _ i _ => n - (intOf i).toNat)
      case atStart => exact ⟨0, Nat.zero_le _, rfl, HR0.out, HB0.out⟩
      case round =>
        obtain ⟨k, hk, rfl, hr, hb⟩ := hrel
        have HR := Lib.hid hr
        have HB := Lib.hid hb
        clear hr hb
        by_cases hlt : k < n
        · obtain ⟨b', off', rfl, hb', q3⟩ := E1.out k hlt
          have HD := Lib.hid (EF.out k z hlt)
          generalize p.getD k 0 = x at *
          rw [← HB.out.cell (p := ⟨b', off' + k, none⟩) hb'] at q3
          have b1 : (0 : Int) ≤ (k : Int) := by omega
          have b2 : (k : Int) < (n : Int) := by omega
          have hmm := mul_step hlz m2 n2 hk
          have hU := EL.out (z * n + k)
          have sw := HB.out.size
          by_cases hx : (z : Int) < x
          · have R0 : Hid (U (z * n + (k + 1)) = U (z * n + k) ++ [((z * n + k : Nat) : Int)]) := EH.out (z * n + k) (by rw [HD.out]; simpa using hx)
            have hpr : (z : Int) * (n : Int) = ((z * n : Nat) : Int) := by simp
            have hpn : z * n ≤ 48 := by omega
            generalize hY : U (z * n + k) = Y at *
            generalize z * n = zn at *
            go_wp2_with (at_builtin; refine wpList_append_own _ rfl _ _ 27 rfl (w.heap.size) 3 i0 (.int .i64 0) 1 8 Try.underlying27 HI.out hz0 hz1 hz2 rfl (by decide) _ _ _ rfl (World.ownsRow.alloc HR.out _) ⟨wr.heap.size, 0, none⟩ 1 1 [.int .i64 ((zn + k : Nat) : Int)] rfl rfl (by simpa using new_cell wr (.int .i64 ((zn + k : Nat) : Int)) 3) (by intro u hu; simp at hu; subst hu; rfl) (by unfold maxLen; omega) (by omega) (by simp; omega) ?_)
            intro v' w4 hown' hgrow _
            have R1 : Hid (Row w4 w.heap.size v' (U (zn + (k + 1)))) := by rw [R0.out]; exact row_at hown' rfl
            have R2 : Hid (Below w.heap.size w w4) := (HB.out.alloc sw _).grown hgrow (by simp; omega) (fun g hg => (World.ownsRow.lt HR.out g hg).1)
            clear hown' hgrow
            go_wp2
            go_roundw
            case rel => exact ⟨k + 1, by omega, by go_num, R1.out, R2.out⟩
            case measure => simp [intOf]; omega
          · have R0 : Hid (U (z * n + (k + 1)) = U (z * n + k)) := EM.out (z * n + k) (by rw [HD.out]; simpa using hx)
            go_wp2
            go_roundw
            case rel => exact ⟨k + 1, by omega, by go_num, by rw [R0.out]; exact HR.out, HB.out⟩
            case measure => simp [intOf]; omega
        · obtain rfl : k = n := by omega
          have R1 := HR
          rw [← mul_succ'] at R1
          go_wp2
          go_roundw
          case rel => exact ⟨z + 1, by omega, by go_num, R1.out, HB.out⟩
          case measure => simp [intOf]; omega
    · obtain rfl : z = D := by omega
      go_wp2
      go_ret2
      exact ⟨_, rfl, HR0.out, HB0.out⟩
theorem svL_len (xss : List (List Int)) : (svL xss).length ≤ 4000000 := by
  unfold svL
  split
  · rename_i h
    have S := sec_yes h
    have hm : depD xss * xss.length ≤ 6 * 8 := Nat.mul_le_mul S.d2 S.n2
    rw [upT_len]; omega
  · simp
theorem pbL_len (xss : List (List Int)) (p : List Int) : (pbL xss p).length ≤ 4000000 := by
  unfold pbL
  split
  · rename_i h
    obtain ⟨_, S, _, _⟩ := sp_yes h
    have hm : depD xss * xss.length ≤ 6 * 8 := Nat.mul_le_mul S.d2 S.n2
    have := sel_len (miB p xss.length) (depD xss * xss.length)
    omega
  · simp
end Go.Proofs.Ytmkbjkmpincogaa
