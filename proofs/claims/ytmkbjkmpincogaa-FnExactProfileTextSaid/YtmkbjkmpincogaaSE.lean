/-
  Contracts: the value of a profile, in the program and in the model of it.
-/
import Derived.Test.YtmkbjkmpincogaaSD
namespace Go.Proofs.Ytmkbjkmpincogaa
open Go.RowKit
set_option linter.unusedVariables false

set_option maxHeartbeats 1000000 in
theorem c_seValue (xss : List (List Int)) (p : List Int) (n D : Nat) (v u : Value) (w : World) (hs : Sec xss n D) (hq : Pro p n D) (h : SeenC w v xss) (hp : Seen w u p) :
    Calls Try.prog 50 #[v, u] w fun e w' => e = .returned (.int .i64 (worS xss p n)) ∧ w = w' := by
  obtain ⟨A, c, rfl, hm⟩ := h.seen.shape
  have ECol : Hid (∀ k : Nat, k < n → ∃ b off b' off' c', A = some ⟨b, off, none⟩ ∧ w.cell? ⟨b, off + k, none⟩ = some (.slice (some ⟨b', off', none⟩) D c') ∧ Calls Try.prog 79 #[.slice (some ⟨b', off', none⟩) D c', .int .i64 (p.getD k 0).toNat] w fun e w' => e = .returned (.int .i64 (preS (xss.getD k []) (p.getD k 0).toNat)) ∧ w = w') := fun k hk => by
    obtain ⟨b, off, b', off', c', e, h1, h2, _, h3⟩ := h.col (k := k) (by rw [hs.len]; exact hk) (by rw [hs.col k hk]; exact hs.d1)
    have hb := hq.box k hk
    have hd : (p.getD k 0).toNat ≤ (xss.getD k []).length := by rw [hs.col k hk]; omega
    have := c_seColumn _ _ _ w hd (by rw [hs.col k hk]; have := hs.d2; omega) (tame_col hs hk) h3
    rw [hs.col k hk] at h1 this
    exact ⟨b, off, b', off', c', e, h1, this⟩
  have EP : Hid (∀ k : Nat, k < n → 0 ≤ p.getD k 0 ∧ p.getD k 0 ≤ (D : Int)) := hq.box
  have EB : Hid (∀ k, k ≤ n → -6000000 * (k : Int) ≤ worS xss p k ∧ worS xss p k ≤ 6000000 * (k : Int)) := wor_box hs hq
  have ES : Hid (∀ k, worS xss p (k + 1) = worS xss p k + preS (xss.getD k []) (p.getD k 0).toNat) := fun k => rfl
  have E0 : Hid (worS xss p 0 = 0) := rfl
  have hn := hs.n2
  have hD := hs.d2
  obtain ⟨A2, c2, rfl, _, hA⟩ := hp
  rw [hq.len] at hA
  have E1 : Hid (∀ k : Nat, k < n → ∃ b off, A2 = some ⟨b, off, none⟩ ∧ w.cell? ⟨b, off + k, none⟩ = some (.int .i64 (p.getD k 0))) := fun k hk => by
    obtain ⟨b, off, rfl, _, hc⟩ := hA (by omega)
    exact ⟨b, off, rfl, hc k hk⟩
  rw [hs.len, hq.len]
  clear hA h hs hq hm
  generalize worS xss p = F at *
  go_enter Try.func50, Try.ntmps50
  go_wp2_with fail
  go_loop [5, 6, 7, 10] (fun q _ _ i => ∃ k : Nat, k ≤ n ∧ i = .int .i64 k ∧ q = .int .i64 (F k)) (fun _ _ _ i => n - (intOf i).toNat)
  case atStart => exact ⟨0, Nat.zero_le _, rfl, by rw [E0.out]⟩
  case round =>
    obtain ⟨k, hk, rfl, rfl⟩ := hrel
    obtain ⟨f0, f1⟩ := EB.out k hk
    by_cases hlt : k < n
    · obtain ⟨b, off, rfl, q0⟩ := E1.out k hlt
      obtain ⟨b2, off2, b', off', c', rfl, q1, hc⟩ := ECol.out k hlt
      have HC := Lib.hid hc
      clear hc
      obtain ⟨f2, f3⟩ := EB.out (k + 1) (by omega)
      have X := Lib.hid (ES.out k)
      rw [X.out] at f2 f3
      obtain ⟨t1, t2⟩ := EP.out k hlt
      obtain ⟨T, hT⟩ : ∃ T : Nat, p.getD k 0 = (T : Int) := ⟨(p.getD k 0).toNat, by omega⟩
      rw [hT] at q0 t1 t2
      rw [hT, Int.toNat_natCast] at X f2 f3 HC
      clear hT
      generalize preS (xss.getD k []) T = S at *
      have b1 : (0 : Int) ≤ (k : Int) := by omega
      have b2 : (k : Int) < (n : Int) := by omega
      go_wp2_with fail
      refine HC.out.mono ?_
      rintro e w2 ⟨rfl, rfl⟩
      go_wp2
      go_round
      case rel => exact ⟨k + 1, by omega, by go_num, by rw [X.out]⟩
      case measure => simp [intOf]; omega
    · obtain rfl : k = n := by omega
      go_wp2
      go_ret
      exact ⟨rfl, rfl⟩

theorem sp_yes {xss : List (List Int)} {p : List Int} (h : spB xss p = true) : secB xss = true ∧ Sec xss xss.length (depD xss) ∧ Pro p xss.length (depD xss) ∧ genB p = true := by
  unfold spB proB at h
  simp only [Bool.and_eq_true] at h
  exact ⟨h.1, sec_yes h.1, are_yes h.2.1, h.2.2⟩

set_option maxHeartbeats 1000000 in
theorem c_ProfileValue (xss : List (List Int)) (p : List Int) (v u : Value) (w : World) (hl : ShortL xss) (hl2 : p.length ≤ 4000000) (h : SeenC w v xss) (hp : Seen w u p) :
    Calls Try.prog 24 #[v, u] w fun e w' => e = .returned (.tuple #[.int .i64 (wsA xss p), .bool (spB xss p)]) ∧ Below w.heap.size w w' := by
  have H1 := Lib.hid (c_IsProfile xss p v u w hl hl2 h.seen hp)
  have H2 : Hid (spB xss p = true → ∀ w', Below w.heap.size w w' → Calls Try.prog 51 #[v, u] w' fun e w'' => e = .returned (.int .i64 (worS xss p xss.length)) ∧ w' = w'') := fun hs w' hb => by
    obtain ⟨_, s1, s2, _⟩ := sp_yes hs
    exact c_worthOfProfile xss p _ _ v u w' s1 s2 (h.below hb) (hp.below hb)
  obtain ⟨A', c', rfl, _⟩ := h.seen.shape
  obtain ⟨A, c, rfl⟩ := hp.shape
  unfold wsA
  clear h hp hl hl2
  generalize secB xss = Z at *
  cases hs : spB xss p
  · rw [hs] at H1
    clear H2
    go_enter Try.func24, Try.ntmps24
    go_wp2_with fail
    refine H1.out.mono ?_
    rintro e w1 ⟨rfl, hb⟩
    have HB := Lib.hid hb
    clear hb
    go_wp2
    go_ret2
    exact ⟨rfl, HB.out⟩
  · rw [hs] at H1
    have H3 := Lib.hid (H2.out hs)
    rw [if_pos rfl]
    clear hs H2
    generalize worS xss p xss.length = R at *
    go_enter Try.func24, Try.ntmps24
    go_wp2_with fail
    refine H1.out.mono ?_
    rintro e w1 ⟨rfl, hb⟩
    have HB := Lib.hid hb
    clear hb
    go_wp2_with fail
    refine (H3.out _ HB.out).mono ?_
    rintro e w2 ⟨rfl, rfl⟩
    go_wp2
    go_ret2
    exact ⟨rfl, HB.out⟩

set_option maxHeartbeats 1000000 in
theorem c_ProfileValueS (xss : List (List Int)) (p : List Int) (v u : Value) (w : World) (hl : ShortL xss) (hl2 : p.length ≤ 4000000) (h : SeenC w v xss) (hp : Seen w u p) :
    Calls Try.prog 23 #[v, u] w fun e w' => e = .returned (.tuple #[.int .i64 (wsA xss p), .bool (spB xss p)]) ∧ Below w.heap.size w w' := by
  have H1 := Lib.hid (c_seGood xss v w hl h.seen)
  have H2 : Hid (secB xss = true → Calls Try.prog 47 #[v, u] w fun e w' => e = .returned (.bool (spB xss p)) ∧ Below w.heap.size w w') := fun hs => by
    have S := sec_yes hs
    unfold spB
    rw [hs, Bool.true_and]
    exact c_seProfile xss p v u w (by have := S.n1; omega) (by have := S.d2; omega) hl2 h.seen hp
  have H3 : Hid (spB xss p = true → ∀ w', Below w.heap.size w w' → Calls Try.prog 50 #[v, u] w' fun e w'' => e = .returned (.int .i64 (worS xss p xss.length)) ∧ w' = w'') := fun hs w' hb => by
    obtain ⟨_, s1, s2, _⟩ := sp_yes hs
    exact c_seValue xss p _ _ v u w' s1 s2 (h.below hb) (hp.below hb)
  have H4 : Hid (secB xss = false → spB xss p = false) := fun h => by unfold spB; rw [h]; rfl
  obtain ⟨A', c', rfl, _⟩ := h.seen.shape
  obtain ⟨A, c, rfl⟩ := hp.shape
  unfold wsA
  clear h hp hl hl2
  cases hz : secB xss
  · rw [hz] at H1
    rw [H4.out hz]
    clear H2 H3 hz
    go_enter Try.func23, Try.ntmps23
    go_wp2_with fail
    refine H1.out.mono ?_
    rintro e w1 ⟨rfl, rfl⟩
    go_wp2
    go_ret2
    exact ⟨rfl, Below.refl _ _⟩
  rw [hz] at H1
  have H5 := Lib.hid (H2.out hz)
  clear H2 H4 hz
  cases hs : spB xss p
  · rw [hs] at H5
    clear H3
    go_enter Try.func23, Try.ntmps23
    go_wp2_with fail
    refine H1.out.mono ?_
    rintro e w1 ⟨rfl, rfl⟩
    go_wp2_with fail
    refine H5.out.mono ?_
    rintro e w2 ⟨rfl, hb⟩
    have HB := Lib.hid hb
    clear hb
    go_wp2
    go_ret2
    exact ⟨rfl, HB.out⟩
  · rw [hs] at H5
    have H6 := Lib.hid (H3.out hs)
    rw [if_pos rfl]
    clear hs H3
    generalize worS xss p xss.length = R at *
    go_enter Try.func23, Try.ntmps23
    go_wp2_with fail
    refine H1.out.mono ?_
    rintro e w1 ⟨rfl, rfl⟩
    go_wp2_with fail
    refine H5.out.mono ?_
    rintro e w2 ⟨rfl, hb⟩
    have HB := Lib.hid hb
    clear hb
    go_wp2_with fail
    refine (H6.out _ HB.out).mono ?_
    rintro e w3 ⟨rfl, rfl⟩
    go_wp2
    go_ret2
    exact ⟨rfl, HB.out⟩
end Go.Proofs.Ytmkbjkmpincogaa
