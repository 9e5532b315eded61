/-
  Contracts: the values level by level, in the program and in the model of it.
-/
import Derived.Test.YtmkbjkmpincogaaSE
import Derived.Test.YtmkbjkmpincogaaNR
import Derived.Test.YtmkbjkmpincogaaLP
namespace Go.Proofs.Ytmkbjkmpincogaa
open Go.RowKit
set_option linter.unusedVariables false

theorem mul_step {z D n : Nat} (hz : z < D) (hD : D ≤ 6) (hn : n ≤ 8) {c : Nat} (hc : c ≤ n) : z * n + c ≤ 48 := by
  have h1 : z * n ≤ 5 * n := Nat.mul_le_mul_right n (by omega)
  omega
theorem row_at {w3 : World} {B n : Nat} {v' : Value} {xs : List Int} {a : Int} (h : w3.ownsRow B 3 1 v' n (ints xs ++ [.int .i64 a])) (hn : n = xs.length + 1) : Row w3 B v' (xs ++ [a]) := by
  subst hn
  exact row_more h
theorem mul_succ' (z n : Nat) : (z + 1) * n = z * n + n := by rw [Nat.add_mul, Nat.one_mul]

set_option maxHeartbeats 4000000 in
theorem c_SectionValues (xss : List (List Int)) (v : Value) (w : World) (hl : ShortL xss) (h : SeenC w v xss) :
    Calls Try.prog 39 #[v] w (GivesRow2 w (svL xss) (secB xss)) := by
  have H1 := Lib.hid (c_IsSection xss v w hl h.seen)
  unfold svL
  cases hz : secB xss
  · rw [hz] at H1
    obtain ⟨A', c', rfl, _⟩ := h.seen.shape
    clear h
    go_enter Try.func39, Try.ntmps39
    go_wp2_with fail
    refine H1.out.mono ?_
    rintro e w1 ⟨rfl, rfl⟩
    go_wp2
    go_ret2
    exact ⟨_, rfl, Row.nil _ _, Below.refl _ _⟩
  · rw [hz] at H1
    have S := sec_yes hz
    rw [if_pos rfl]
    have hs := h.seen
    obtain ⟨A, c, rfl, hm⟩ := hs.shape
    obtain ⟨b0, off0, A0, c0, rfl, q0⟩ := hs.col0 (by have := S.n1; omega)
    have hbl : b0 < w.heap.size := lt_of_cell q0
    have ECol : Hid (∀ k : Nat, k < xss.length → ∃ b' off' c', b' < w.heap.size ∧ w.cell? ⟨b0, off0 + k, none⟩ = some (.slice (some ⟨b', off', none⟩) (depD xss) c') ∧ ∀ d, d < depD xss → w.cell? ⟨b', off' + d, none⟩ = some (.int .i64 ((xss.getD k []).getD d 0))) := fun k hk => by
      obtain ⟨b, off, b', off', c', e, h1, _, h2, _⟩ := h.col (k := k) hk (by rw [S.col k hk]; exact S.d1)
      simp at e
      obtain ⟨rfl, rfl⟩ := e
      rw [S.col k hk] at h1 h2
      exact ⟨b', off', c', lt_of_cell (h2 0 S.d1), h1, h2⟩
    have EF : Hid (∀ k z : Nat, k < xss.length → lvF xss xss.length (z * xss.length + k) = (xss.getD k []).getD z 0) := fun k z hk => lvF_at xss hk
    have EU : Hid (∀ k, upT (lvF xss xss.length) k ++ [lvF xss xss.length k] = upT (lvF xss xss.length) (k + 1)) := fun k => (upT_succ _ _).symm
    have EL : Hid (∀ k, (upT (lvF xss xss.length) k).length = k) := upT_len _
    have E0 : Hid (upT (lvF xss xss.length) 0 = []) := rfl
    have n1 := S.n1
    have n2 := S.n2
    have m1 := S.d1
    have m2 := S.d2
    have d3 : (0 : Int) < (xss.length : Int) := by omega
    obtain ⟨i0, hi0, hz0, hz1, hz2⟩ := info_parts int_info
    have HI := Lib.hid hi0
    clear hi0 S h hs hz hm
    generalize upT (lvF xss xss.length) = U at *
    generalize lvF xss xss.length = L at *
    generalize xss.length = n at *
    generalize depD xss = D at *
    go_enter Try.func39, Try.ntmps39
    go_wp2_with fail
    refine H1.out.mono ?_
    rintro e w1 ⟨rfl, rfl⟩
    go_wp2_with fail
    go_loopw [4, 15] (fun q i wr => ∃ z : Nat, z ≤ D ∧ i = .int .i64 z ∧ Row wr w.heap.size q (U (z * n)) ∧ Below w.heap.size w wr) (fun _ i _ => D - (intOf i).toNat)
    case atStart => exact ⟨0, Nat.zero_le _, rfl, by rw [Nat.zero_mul, E0.out]; exact Row.nil _ _, Below.refl _ _⟩
    case round =>
      obtain ⟨z, hz, rfl, hr, hb⟩ := hrel
      have HR0 := Lib.hid hr
      have HB0 := Lib.hid hb
      clear hr hb
      by_cases hlz : z < D
      · have z1 : (0 : Int) ≤ (z : Int) := by omega
        have z2 : (z : Int) < (D : Int) := by omega
        go_wp2_with fail
        go_loopw [4, 20] (fun q i wr => ∃ k : Nat, k ≤ n ∧ i = .int .i64 k ∧ Row wr w.heap.size q (U (z * n + k)) ∧ Below w.heap.size w wr) (fun _ i _ => n - (intOf i).toNat)
        case atStart => exact ⟨0, Nat.zero_le _, rfl, HR0.out, HB0.out⟩
        case round =>
          obtain ⟨k, hk, rfl, hr, hb⟩ := hrel
          have HR := Lib.hid hr
          have HB := Lib.hid hb
          clear hr hb
          by_cases hlt : k < n
          · obtain ⟨b', off', c', hb', q1, q2⟩ := ECol.out k hlt
            have q3 := q2 z hlz
            clear q2
            rw [← EF.out k z hlt] at q3
            obtain ⟨t, ht⟩ : ∃ t, L (z * n + k) = t := ⟨_, rfl⟩
            rw [ht] at q3
            rw [← HB.out.cell (p := ⟨b0, off0 + k, none⟩) hbl] at q1
            rw [← HB.out.cell (p := ⟨b', off' + z, none⟩) hb'] at q3
            have b1 : (0 : Int) ≤ (k : Int) := by omega
            have b2 : (k : Int) < (n : Int) := by omega
            have hmm := mul_step hlz m2 n2 hk
            have hU := EL.out (z * n + k)
            have hU2 := Lib.hid (EU.out (z * n + k))
            rw [ht] at hU2
            clear ht
            have sw := HB.out.size
            go_wp2_with (at_builtin; refine wpList_append_own _ rfl _ _ 27 rfl (w.heap.size) 3 i0 (.int .i64 0) 1 8 Try.underlying27 HI.out hz0 hz1 hz2 rfl (by decide) _ _ _ rfl (World.ownsRow.alloc HR.out _) ⟨_, 0, none⟩ 1 1 [.int .i64 t] rfl rfl ?c1 ?c2 ?c3 ?c4 ?c5 ?_)
            case c1 =>
              intro j u hj
              match j, hj with
              | 0, hj => simp at hj; subst hj; simp [Addr.add]
            case c2 => intro u hu; simp at hu; subst hu; rfl
            case c3 => unfold maxLen; omega
            case c4 => omega
            case c5 => simp; omega
            intro v' w4 hown' hgrow _
            have R1 : Hid (Row w4 w.heap.size v' (U (z * n + (k + 1)))) := by rw [← Nat.add_assoc, ← hU2.out]; exact row_at hown' (by rw [hU])
            have R2 : Hid (Below w.heap.size w w4) := (HB.out.alloc sw _).grown hgrow (by simp; omega) (fun g hg => (World.ownsRow.lt HR.out g hg).1)
            clear hown' hgrow
            go_wp2
            go_roundw
            case rel => exact ⟨k + 1, by omega, by go_num, R1.out, R2.out⟩
            case measure => simp [intOf]; omega
          · obtain rfl : k = n := by omega
            have R1 := HR
            rw [← mul_succ'] at R1
            go_wp2
            go_roundw
            case rel => exact ⟨z + 1, by omega, by go_num, R1.out, HB.out⟩
            case measure => simp [intOf]; omega
      · obtain rfl : z = D := by omega
        go_wp2
        go_ret2
        exact ⟨_, rfl, HR0.out, HB0.out⟩

set_option maxHeartbeats 4000000 in
theorem c_SectionValuesS (xss : List (List Int)) (v : Value) (w : World) (hl : ShortL xss) (h : SeenC w v xss) :
    Calls Try.prog 38 #[v] w (GivesRow2 w (svL xss) (secB xss)) := by
  have H1 := Lib.hid (c_seGood xss v w hl h.seen)
  unfold svL
  cases hz : secB xss
  · rw [hz] at H1
    obtain ⟨A', c', rfl, _⟩ := h.seen.shape
    clear h
    go_enter Try.func38, Try.ntmps38
    go_wp2_with fail
    refine H1.out.mono ?_
    rintro e w1 ⟨rfl, rfl⟩
    go_wp2
    go_ret2
    exact ⟨_, rfl, Row.nil _ _, Below.refl _ _⟩
  · rw [hz] at H1
    have S := sec_yes hz
    rw [if_pos rfl]
    have hs := h.seen
    obtain ⟨A, c, rfl, hm⟩ := hs.shape
    obtain ⟨b0, off0, A0, c0, rfl, q0⟩ := hs.col0 (by have := S.n1; omega)
    have hbl : b0 < w.heap.size := lt_of_cell q0
    have ECol : Hid (∀ k : Nat, k < xss.length → ∃ b' off' c', b' < w.heap.size ∧ w.cell? ⟨b0, off0 + k, none⟩ = some (.slice (some ⟨b', off', none⟩) (depD xss) c') ∧ ∀ d, d < depD xss → w.cell? ⟨b', off' + d, none⟩ = some (.int .i64 ((xss.getD k []).getD d 0))) := fun k hk => by
      obtain ⟨b, off, b', off', c', e, h1, _, h2, _⟩ := h.col (k := k) hk (by rw [S.col k hk]; exact S.d1)
      simp at e
      obtain ⟨rfl, rfl⟩ := e
      rw [S.col k hk] at h1 h2
      exact ⟨b', off', c', lt_of_cell (h2 0 S.d1), h1, h2⟩
    have EF : Hid (∀ k z : Nat, k < xss.length → lvF xss xss.length (z * xss.length + k) = (xss.getD k []).getD z 0) := fun k z hk => lvF_at xss hk
    have EU : Hid (∀ k, upT (lvF xss xss.length) k ++ [lvF xss xss.length k] = upT (lvF xss xss.length) (k + 1)) := fun k => (upT_succ _ _).symm
    have EL : Hid (∀ k, (upT (lvF xss xss.length) k).length = k) := upT_len _
    have E0 : Hid (upT (lvF xss xss.length) 0 = []) := rfl
    have n1 := S.n1
    have n2 := S.n2
    have m1 := S.d1
    have m2 := S.d2
    have d3 : (0 : Int) < (xss.length : Int) := by omega
    obtain ⟨i0, hi0, hz0, hz1, hz2⟩ := info_parts int_info
    have HI := Lib.hid hi0
    clear hi0 S h hs hz hm
    generalize upT (lvF xss xss.length) = U at *
    generalize lvF xss xss.length = L at *
    generalize xss.length = n at *
    generalize depD xss = D at *
    go_enter Try.func38, Try.ntmps38
    go_wp2_with fail
    refine H1.out.mono ?_
    rintro e w1 ⟨rfl, rfl⟩
    go_wp2_with fail
    go_loopw [4, 15] (fun q i wr => ∃ z : Nat, z ≤ D ∧ i = .int .i64 z ∧ Row wr w.heap.size q (U (z * n)) ∧ Below w.heap.size w wr) (fun _ i _ => D - (intOf i).toNat)
    case atStart => exact ⟨0, Nat.zero_le _, rfl, by rw [Nat.zero_mul, E0.out]; exact Row.nil _ _, Below.refl _ _⟩
    case round =>
      obtain ⟨z, hz, rfl, hr, hb⟩ := hrel
      have HR0 := Lib.hid hr
      have HB0 := Lib.hid hb
      clear hr hb
      by_cases hlz : z < D
      · have z1 : (0 : Int) ≤ (z : Int) := by omega
        have z2 : (z : Int) < (D : Int) := by omega
        go_wp2_with fail
        go_loopw [4, 20] (fun q i wr => ∃ k : Nat, k ≤ n ∧ i = .int .i64 k ∧ Row wr w.heap.size q (U (z * n + k)) ∧ Below w.heap.size w wr) (fun _ i _ => n - (intOf i).toNat)
        case atStart => exact ⟨0, Nat.zero_le _, rfl, HR0.out, HB0.out⟩
        case round =>
          obtain ⟨k, hk, rfl, hr, hb⟩ := hrel
          have HR := Lib.hid hr
          have HB := Lib.hid hb
          clear hr hb
          by_cases hlt : k < n
          · obtain ⟨b', off', c', hb', q1, q2⟩ := ECol.out k hlt
            have q3 := q2 z hlz
            clear q2
            rw [← EF.out k z hlt] at q3
            obtain ⟨t, ht⟩ : ∃ t, L (z * n + k) = t := ⟨_, rfl⟩
            rw [ht] at q3
            rw [← HB.out.cell (p := ⟨b0, off0 + k, none⟩) hbl] at q1
            rw [← HB.out.cell (p := ⟨b', off' + z, none⟩) hb'] at q3
            have b1 : (0 : Int) ≤ (k : Int) := by omega
            have b2 : (k : Int) < (n : Int) := by omega
            have hmm := mul_step hlz m2 n2 hk
            have hU := EL.out (z * n + k)
            have hU2 := Lib.hid (EU.out (z * n + k))
            rw [ht] at hU2
            clear ht
            have sw := HB.out.size
            go_wp2_with (at_builtin; refine wpList_append_own _ rfl _ _ 27 rfl (w.heap.size) 3 i0 (.int .i64 0) 1 8 Try.underlying27 HI.out hz0 hz1 hz2 rfl (by decide) _ _ _ rfl (World.ownsRow.alloc HR.out _) ⟨_, 0, none⟩ 1 1 [.int .i64 t] rfl rfl ?c1 ?c2 ?c3 ?c4 ?c5 ?_)
            case c1 =>
              intro j u hj
              match j, hj with
              | 0, hj => simp at hj; subst hj; simp [Addr.add]
            case c2 => intro u hu; simp at hu; subst hu; rfl
            case c3 => unfold maxLen; omega
            case c4 => omega
            case c5 => simp; omega
            intro v' w4 hown' hgrow _
            have R1 : Hid (Row w4 w.heap.size v' (U (z * n + (k + 1)))) := by rw [← Nat.add_assoc, ← hU2.out]; exact row_at hown' (by rw [hU])
            have R2 : Hid (Below w.heap.size w w4) := (HB.out.alloc sw _).grown hgrow (by simp; omega) (fun g hg => (World.ownsRow.lt HR.out g hg).1)
            clear hown' hgrow
            go_wp2
            go_roundw
            case rel => exact ⟨k + 1, by omega, by go_num, R1.out, R2.out⟩
            case measure => simp [intOf]; omega
          · obtain rfl : k = n := by omega
            have R1 := HR
            rw [← mul_succ'] at R1
            go_wp2
            go_roundw
            case rel => exact ⟨z + 1, by omega, by go_num, R1.out, HB.out⟩
            case measure => simp [intOf]; omega
      · obtain rfl : z = D := by omega
        go_wp2
        go_ret2
        exact ⟨_, rfl, HR0.out, HB0.out⟩

end Go.Proofs.Ytmkbjkmpincogaa
