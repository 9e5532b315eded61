/-
  Contract: ProfileText, in the model.
-/
import Derived.Laws.Concat
import Derived.Test.YtmkbjkmpincogaaUB
namespace Go.Proofs.Ytmkbjkmpincogaa
open Go.RowKit
set_option linter.unusedVariables false

theorem txT_len (p : List Int) (n : Nat) : ∀ z, (txT p n z).length = z * (n + 1)
  | 0 => by simp [txT]
  | z + 1 => by
    rw [show txT p n (z + 1) = addT p n (txT p n z) z from rfl, addT_len, txT_len p n z, Nat.succ_mul]
    omega

set_option maxHeartbeats 4000000 in
theorem c_ProfileTextS (xss : List (List Int)) (p : List Int) (v u : Value) (w : World) (hl : ShortL xss) (hl2 : p.length ≤ 4000000) (h : SeenC w v xss) (hp : Seen w u p) :
    Calls Try.prog 42 #[v, u] w fun e w' => e = .returned (.tuple #[.string ⟨(ptT xss p).toArray⟩, .bool (spB xss p)]) ∧ Below w.heap.size w w' := by
  have H1 := Lib.hid (c_seGood xss v w hl h.seen)
  have H2 : Hid (secB xss = true → Calls Try.prog 47 #[v, u] w fun e w' => e = .returned (.bool (spB xss p)) ∧ Below w.heap.size w w') := fun hs => by
    have S := sec_yes hs
    unfold spB
    rw [hs, Bool.true_and]
    exact c_seProfile xss p v u w (by have := S.n1; omega) (by have := S.d2; omega) hl2 h.seen hp
  have H4 : Hid (secB xss = false → spB xss p = false) := fun h => by unfold spB; rw [h]; rfl
  unfold ptT
  cases hz : secB xss
  · rw [hz] at H1
    rw [H4.out hz]
    obtain ⟨A', c', rfl, _⟩ := h.seen.shape
    obtain ⟨A, c, rfl⟩ := hp.shape
    clear H2 hz H4 h hp
    go_enter Try.func42, Try.ntmps42
    go_wp2_with fail
    refine H1.out.mono ?_
    rintro e w1 ⟨rfl, rfl⟩
    go_wp2
    go_ret2
    exact ⟨rfl, Below.refl _ _⟩
  rw [hz] at H1
  have H5 := Lib.hid (H2.out hz)
  clear H2 H4 hz
  cases hs : spB xss p
  · rw [hs] at H5
    obtain ⟨A', c', rfl, _⟩ := h.seen.shape
    obtain ⟨A, c, rfl⟩ := hp.shape
    clear h hp
    go_enter Try.func42, Try.ntmps42
    go_wp2_with fail
    refine H1.out.mono ?_
    rintro e w1 ⟨rfl, rfl⟩
    go_wp2_with fail
    refine H5.out.mono ?_
    rintro e w2 ⟨rfl, hb⟩
    have HB := Lib.hid hb
    clear hb
    go_wp2
    go_ret2
    exact ⟨rfl, HB.out⟩
  rw [hs] at H5
  rw [if_pos rfl]
  obtain ⟨_, S, hq, _⟩ := sp_yes hs
  have hs2 := h.seen
  obtain ⟨A, c, rfl, hm⟩ := hs2.shape
  obtain ⟨b0, off0, A0, c0, rfl, q0⟩ := hs2.col0 (by have := S.n1; omega)
  have hbl : b0 < w.heap.size := lt_of_cell q0
  obtain ⟨A2, c2, rfl, _, hA⟩ := hp
  rw [hq.len] at hA
  have E1 : Hid (∀ k : Nat, k < xss.length → ∃ b off, A2 = some ⟨b, off, none⟩ ∧ b < w.heap.size ∧ w.cell? ⟨b, off + k, none⟩ = some (.int .i64 (p.getD k 0))) := fun k hk => by
    obtain ⟨b, off, rfl, hl, hc⟩ := hA (by omega)
    exact ⟨b, off, rfl, hl, hc k hk⟩
  have ER : Hid (∀ k z : Nat, k < xss.length → rowK p xss.length z (k + 1) = rowK p xss.length z k ++ [sgnT (decide ((z : Int) < p.getD k 0))]) := fun k z hk => by
    rw [rowK_succ, mkF_at p hk]
  have EN : Hid (∀ z : Nat, txT p xss.length (z + 1) = txT p xss.length z ++ rowK p xss.length z xss.length ++ [10]) := fun z => rfl
  have EL : Hid (∀ z k : Nat, (rowK p xss.length z k).length = k) := rowK_len p xss.length
  have ET : Hid (∀ z : Nat, (txT p xss.length z).length = z * (xss.length + 1)) := txT_len p xss.length
  have E0 : Hid (txT p xss.length 0 = []) := rfl
  have E9 : Hid (∀ z : Nat, rowK p xss.length z 0 = []) := fun z => rfl
  have n1 := S.n1
  have n2 := S.n2
  have m1 := S.d1
  have m2 := S.d2
  rw [hq.len] at H5 ⊢
  have d3 : (0 : Int) < (xss.length : Int) := by omega
  clear S h hs hm hq hA hs2
  generalize rowK p xss.length = R at *
  generalize txT p xss.length = T at *
  generalize xss.length = n at *
  generalize depD xss = D at *
  go_enter Try.func42, Try.ntmps42
  go_wp2_with fail
  refine H1.out.mono ?_
  rintro e w1 ⟨rfl, rfl⟩
  go_wp2_with fail
  refine H5.out.mono ?_
  rintro e w2 ⟨rfl, hb⟩
  have HB2 := Lib.hid hb
  rw [← hb.cell (p := ⟨b0, off0, none⟩) hbl] at q0
  clear hb
  have hb2 := HB2.out.size
  go_wp2_with fail
  go_loopw [6, 23] (fun q i wr => ∃ z : Nat, z ≤ D ∧ i = .int .i64 z ∧ q = .string ⟨(T z).toArray⟩ ∧ Below w.heap.size w wr) (fun _ i _ => D - (intOf i).toNat)
  case atStart => exact ⟨0, Nat.zero_le _, rfl, by rw [E0.out], HB2.out⟩
  case round =>
    obtain ⟨z, hz, rfl, rfl, hb⟩ := hrel
    have HB0 := Lib.hid hb
    clear hb
    have tl := ET.out z
    have tz := Nat.mul_le_mul hz (show n + 1 ≤ 9 by omega)
    by_cases hlz : z < D
    · have z1 : (0 : Int) ≤ (z : Int) := by omega
      have z2 : (z : Int) < (D : Int) := by omega
      have E9z := Lib.hid (E9.out z)
      have ELz := Lib.hid (EL.out z)
      have ENz := Lib.hid (EN.out z)
      generalize T z = TT at *
      go_wp2_with fail
      go_loopw [6, 28] (fun q i wr => ∃ k : Nat, k ≤ n ∧ i = .int .i64 k ∧ q = .string ⟨(TT ++ R z k).toArray⟩ ∧ Below w.heap.size w wr) (fun _ i _ => n - (intOf i).toNat)
      case atStart => exact ⟨0, Nat.zero_le _, rfl, by rw [E9z.out, List.append_nil], HB0.out⟩
      case round =>
        obtain ⟨k, hk, rfl, rfl, hb⟩ := hrel
        have HB := Lib.hid hb
        clear hb
        have LK : (TT ++ R z k).length ≤ 1000 := by rw [List.length_append, ELz.out k]; omega
        by_cases hlt : k < n
        · obtain ⟨b', off', rfl, hb', q3⟩ := E1.out k hlt
          have HD := Lib.hid (ER.out k z hlt)
          generalize p.getD k 0 = x at *
          rw [← HB.out.cell (p := ⟨b', off' + k, none⟩) hb'] at q3
          have b1 : (0 : Int) ≤ (k : Int) := by omega
          have b2 : (k : Int) < (n : Int) := by omega
          by_cases hx : (z : Int) < x
          · have R0 : Hid (TT ++ R z (k + 1) = (TT ++ R z k) ++ [35]) := by
              show _ = _
              rw [HD.out, decide_eq_true hx, List.append_assoc]
              rfl
            generalize TT ++ R z k = Y at *
            go_wp2
            exact ⟨⟨k + 1, by omega, by go_num, by rw [R0.out, ← ByteArray.mk_append_mk], HB.out⟩, by simp [intOf]; omega⟩
          · have R0 : Hid (TT ++ R z (k + 1) = (TT ++ R z k) ++ [46]) := by
              show _ = _
              rw [HD.out, decide_eq_false hx, List.append_assoc]
              rfl
            generalize TT ++ R z k = Y at *
            go_wp2
            exact ⟨⟨k + 1, by omega, by go_num, by rw [R0.out, ← ByteArray.mk_append_mk], HB.out⟩, by simp [intOf]; omega⟩
        · obtain rfl : k = n := by omega
          generalize TT ++ R z k = Y at *
          go_wp2
          exact ⟨⟨z + 1, by omega, by go_num, by rw [ENz.out, ← ByteArray.mk_append_mk], HB.out⟩, by simp [intOf]; omega⟩
    · obtain rfl : z = D := by omega
      go_wp2
      go_ret2
      exact ⟨rfl, HB0.out⟩
end Go.Proofs.Ytmkbjkmpincogaa
