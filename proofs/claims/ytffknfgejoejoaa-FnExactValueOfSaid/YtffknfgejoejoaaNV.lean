/-
  Contracts: the value of a list of blocks, in the program and in the model.
-/
import Derived.Test.YtffknfgejoejoaaW4
namespace Go.Proofs.Ytffknfgejoejoaa
open Go.RowKit
set_option linter.unusedVariables false

set_option maxHeartbeats 1000000 in
theorem c_ValueOf (xs : List Int) (u1 : Value) (bs : List Int) (u2 : Value) (w : World) (l1 : xs.length ≤ 4000000) (l2 : bs.length ≤ 4000000) (h1 : Seen w u1 xs) (h2 : Seen w u2 bs) :
    Calls Try.prog 50 #[u1, u2] w fun e w' => e = .returned (.tuple #[.int .i64 (sumvV xs bs), .bool (sumvB xs bs)]) ∧ Below w.heap.size w w' := by
  have C := Lib.hid (c_SumOfValues xs u1 bs u2 w l1 l2 h1 h2)
  obtain ⟨A1, c1, rfl⟩ := h1.shape
  obtain ⟨A2, c2, rfl⟩ := h2.shape
  clear h1 h2
  generalize sumvV xs bs = s at *
  generalize sumvB xs bs = t at *
  go_enter Try.func50, Try.ntmps50
  go_wp2_with fail
  refine C.out.mono ?_
  rintro e w1 ⟨rfl, hb⟩
  have HB := Lib.hid hb
  clear hb
  go_wp2
  go_ret2
  exact ⟨rfl, HB.out⟩

theorem c_l1InV (n lo hi : Int) (w : World) : Calls Try.prog 78 #[.int .i64 n, .int .i64 lo, .int .i64 hi] w fun e w' => e = .returned (.bool (decide (lo ≤ n ∧ n ≤ hi))) ∧ w = w' := c_l1In n lo hi w
theorem valB_own (xs : List Int) : valB xs.length xs = (decide ((1 : Int) ≤ (xs.length : Int) ∧ (xs.length : Int) ≤ 120) && wAll xs) := by unfold valB; simp

set_option maxHeartbeats 4000000 in
theorem c_ValueOfS (xs : List Int) (u1 : Value) (bs : List Int) (u2 : Value) (w : World) (l1 : xs.length ≤ 4000000) (l2 : bs.length ≤ 4000000) (h1 : Seen w u1 xs) (h2 : Seen w u2 bs) :
    Calls Try.prog 49 #[u1, u2] w fun e w' => e = .returned (.tuple #[.int .i64 (sumvV xs bs), .bool (sumvB xs bs)]) ∧ Below w.heap.size w w' := by
  have CI : Hid (Calls Try.prog 78 #[.int .i64 (xs.length : Int), .int .i64 1, .int .i64 120] w fun e w' => e = .returned (.bool (decide ((1 : Int) ≤ (xs.length : Int) ∧ (xs.length : Int) ≤ 120))) ∧ w = w') := c_l1InV _ _ _ w
  have CA := Lib.hid (c_l1AllW xs u1 w l1 h1)
  have CR := Lib.hid (c_l1Rising (xs.length : Int) bs u2 w (by omega) (by omega) l2 h2)
  have HV : Hid (sumvB xs bs = ((decide ((1 : Int) ≤ (xs.length : Int) ∧ (xs.length : Int) ≤ 120) && wAll xs) && risB xs.length bs)) := by show _ = _; unfold sumvB; rw [valB_own]
  have HZ : Hid (sumvB xs bs = false → sumvV xs bs = 0) := fun h => by unfold sumvV; rw [h]; rfl
  have HY : Hid (sumvB xs bs = true → sumvV xs bs = sumN (valF xs bs) bs.length) := fun h => by unfold sumvV; rw [h]; rfl
  have HD : Hid (∀ b : Bool, decide ((1 : Int) ≤ (xs.length : Int) ∧ (xs.length : Int) ≤ 120) = b → wAll xs = true → b = true → valB xs.length xs = true) := fun b h1 h2 h3 => by rw [valB_own, h1, h2, h3]; rfl
  cases hd : decide ((1 : Int) ≤ (xs.length : Int) ∧ (xs.length : Int) ≤ 120)
  · rw [hd] at CI HV
    have G : Hid (sumvB xs bs = false) := by show _ = _; rw [HV.out]; simp
    have G2 := Lib.hid (HZ.out G.out)
    obtain ⟨A1, c1, rfl⟩ := h1.shape
    obtain ⟨A2, c2, rfl⟩ := h2.shape
    clear h1 h2 hd HV HZ HY HD CA CR
    go_enter Try.func49, Try.ntmps49
    go_wp2_with fail
    refine CI.out.mono ?_
    rintro e w1 ⟨rfl, rfl⟩
    go_wp2
    go_ret2
    exact ⟨by rw [G.out, G2.out]; rfl, Below.refl _ _⟩
  · have HD' := Lib.hid (HD.out true hd)
    rw [hd] at CI HV
    cases hw : wAll xs
    · rw [hw] at CA HV
      have G : Hid (sumvB xs bs = false) := by show _ = _; rw [HV.out]; simp
      have G2 := Lib.hid (HZ.out G.out)
      obtain ⟨A1, c1, rfl⟩ := h1.shape
      obtain ⟨A2, c2, rfl⟩ := h2.shape
      clear h1 h2 hd hw HV HZ HY HD HD' CR
      go_enter Try.func49, Try.ntmps49
      go_wp2_with fail
      refine CI.out.mono ?_
      rintro e w1 ⟨rfl, rfl⟩
      go_wp2_with fail
      refine CA.out.mono ?_
      rintro e w1 ⟨rfl, rfl⟩
      go_wp2
      go_ret2
      exact ⟨by rw [G.out, G2.out]; rfl, Below.refl _ _⟩
    · have hv := HD'.out hw rfl
      rw [hw] at CA HV
      cases hr : risB xs.length bs
      · rw [hr] at CR HV
        have G : Hid (sumvB xs bs = false) := by show _ = _; rw [HV.out]; simp
        have G2 := Lib.hid (HZ.out G.out)
        obtain ⟨A1, c1, rfl⟩ := h1.shape
        obtain ⟨A2, c2, rfl⟩ := h2.shape
        clear h1 h2 hd hw hr hv HV HZ HY HD HD'
        go_enter Try.func49, Try.ntmps49
        go_wp2_with fail
        refine CI.out.mono ?_
        rintro e w1 ⟨rfl, rfl⟩
        go_wp2_with fail
        refine CA.out.mono ?_
        rintro e w1 ⟨rfl, rfl⟩
        go_wp2_with fail
        refine CR.out.mono ?_
        rintro e w1 ⟨rfl, rfl⟩
        go_wp2
        go_ret2
        exact ⟨by rw [G.out, G2.out]; rfl, Below.refl _ _⟩
      · have G : Hid (sumvB xs bs = true) := by show _ = _; rw [HV.out, hr]; rfl
        have G2 := Lib.hid (HY.out G.out)
        rw [hr] at CR
        have l3 := vlen hv hr
        have E1 : Hid (∀ j : Nat, j < bs.length → ∃ (k b off : Nat), bs.getD j 0 = (k : Int) ∧ k < xs.length ∧ (∃ c, u1 = .slice (some ⟨b, off, none⟩) xs.length c) ∧ w.cell? ⟨b, off + k, none⟩ = some (.int .i64 (valF xs bs j))) := fun j hj => by
          obtain ⟨k, e, hk, ev⟩ := sumv_at hv hr hj
          obtain ⟨b, off, c, rfl, _, hc⟩ := h1.at_ hk
          exact ⟨k, b, off, e, hk, ⟨c, rfl⟩, by rw [ev]; exact hc⟩
        have F1 : Hid (∀ k : Nat, k ≤ bs.length → -(1000000 * (k : Int)) ≤ sumN (valF xs bs) k ∧ sumN (valF xs bs) k ≤ 1000000 * k) := sumN_abs (fun j hj => valF_box hv hr hj)
        have F2 : Hid (∀ k : Nat, k < bs.length → -1000000 ≤ valF xs bs k ∧ valF xs bs k ≤ 1000000) := fun j hj => valF_box hv hr hj
        have F3 : Hid (∀ k : Nat, sumN (valF xs bs) k + valF xs bs k = sumN (valF xs bs) (k + 1)) := fun k => rfl
        have F0 : Hid (sumN (valF xs bs) 0 = 0) := rfl
        obtain ⟨A1, c1, rfl⟩ := h1.shape
        obtain ⟨A, c, rfl, hm, hA⟩ := h2
        clear hm h1 hv hr hd hw HV HZ HY HD HD'
        have E2 : Hid (∀ k : Nat, k < bs.length → ∃ b off, A = some ⟨b, off, none⟩ ∧ w.cell? ⟨b, off + k, none⟩ = some (.int .i64 (bs.getD k 0))) := fun k hk => by
          obtain ⟨b, off, rfl, hb, hc⟩ := hA (by omega)
          exact ⟨b, off, rfl, hc k hk⟩
        clear hA
        generalize sumvV xs bs = SV at *
        generalize sumvB xs bs = SB at *
        generalize valF xs bs = f at *
        generalize sumN f = S at *
        generalize hn : bs.length = n2 at *
        clear hn
        generalize hn : xs.length = n1 at *
        clear hn
        go_enter Try.func49, Try.ntmps49
        go_wp2_with fail
        refine CI.out.mono ?_
        rintro e w1 ⟨rfl, rfl⟩
        go_wp2_with fail
        refine CA.out.mono ?_
        rintro e w1 ⟨rfl, rfl⟩
        go_wp2_with fail
        refine CR.out.mono ?_
        rintro e w1 ⟨rfl, rfl⟩
        go_wp2_with fail
        go_loop [6, 28] (fun q i => ∃ k : Nat, k ≤ n2 ∧ i = .int .i64 k ∧ q = .int .i64 (S k)) (fun _ i => n2 - (intOf i).toNat)
        case atStart => exact ⟨0, Nat.zero_le _, rfl, by rw [F0.out]⟩
        case round =>
          obtain ⟨k, hk, rfl, rfl⟩ := hrel
          by_cases hlt : k < n2
          · obtain ⟨b, off, rfl, q1⟩ := E2.out k hlt
            obtain ⟨i, b', off', e1, hi, ⟨c', e2⟩, q2⟩ := E1.out k hlt
            simp only [Value.slice.injEq] at e2
            obtain ⟨rfl, _, _⟩ := e2
            rw [e1] at q1
            obtain ⟨s0, s1⟩ := F1.out k hk
            obtain ⟨t0, t1⟩ := F2.out k hlt
            have f3 : Hid (S k + f k = S (k + 1)) := F3.out k
            clear e1
            generalize f k = t at *
            generalize S k = s at *
            have b1 : (0 : Int) ≤ (k : Int) := by omega
            have b2 : (k : Int) < (n2 : Int) := by omega
            have b3 : s ≤ 4000000000000 := by omega
            have b4 : -4000000000000 ≤ s := by omega
            have b5 : (0 : Int) ≤ (i : Int) := by omega
            have b6 : (i : Int) < (n1 : Int) := by omega
            clear s0 s1
            go_wp2
            go_round
            case rel => exact ⟨k + 1, by omega, by go_num, by rw [← f3.out]⟩
            case measure => simp [intOf]; omega
          · obtain rfl : k = n2 := by omega
            go_wp2
            go_ret2
            exact ⟨by rw [G.out, G2.out]; rfl, Below.refl _ _⟩
end Go.Proofs.Ytffknfgejoejoaa
