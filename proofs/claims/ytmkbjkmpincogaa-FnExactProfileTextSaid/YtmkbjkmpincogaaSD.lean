/-
  Contracts: what profiles are worth, in the program and in the model of it.
-/
import Derived.Test.YtmkbjkmpincogaaSC
namespace Go.Proofs.Ytmkbjkmpincogaa
open Go.RowKit
set_option linter.unusedVariables false

/-- No sum of first numbers is too large. -/
def Tame (xs : List Int) : Prop := ∀ k, k ≤ xs.length → -1000000000000000 ≤ preS xs k ∧ preS xs k ≤ 1000000000000000

set_option maxHeartbeats 400000 in
theorem c_sumOf1 (x : Int) (w : World) : Calls Try.prog 89 #[.int .i64 x] w fun e w' => e = .returned (.int .i64 x) ∧ w = w' := by
  go_enter Try.func89, Try.ntmps89
  go_wp2
  go_ret
  exact ⟨rfl, rfl⟩

set_option maxHeartbeats 1000000 in
theorem c_sumOver1 (xs : List Int) (v : Value) (w : World) (hl : xs.length ≤ 4000000) (ht : Tame xs) (h : Seen w v xs) :
    Calls Try.prog 88 #[v, .func (.func 89) #[] #[]] w fun e w' => e = .returned (.int .i64 (preS xs xs.length)) ∧ w = w' := by
  obtain ⟨A, c, rfl, _, hA⟩ := h
  have E1 : Hid (∀ k : Nat, k < xs.length → ∃ b off, A = some ⟨b, off, none⟩ ∧ w.cell? ⟨b, off + k, none⟩ = some (.int .i64 (xs.getD k 0))) := fun k hk => by
    obtain ⟨b, off, rfl, _, hc⟩ := hA (by omega)
    exact ⟨b, off, rfl, hc k hk⟩
  have EB : Hid (∀ k, k ≤ xs.length → -1000000000000000 ≤ preS xs k ∧ preS xs k ≤ 1000000000000000) := ht
  have ES : Hid (∀ k, preS xs (k + 1) = preS xs k + xs.getD k 0) := fun k => rfl
  have E0 : Hid (preS xs 0 = 0) := rfl
  clear hA ht
  generalize preS xs = F at *
  generalize xs.length = n at *
  go_enter Try.func88, Try.ntmps88
  go_wp2_with fail
  go_loop [5, 10] (fun q i => ∃ k : Nat, k ≤ n ∧ i = .int .i64 k ∧ q = .int .i64 (F k)) (fun _ i => n - (intOf i).toNat)
  case atStart => exact ⟨0, Nat.zero_le _, rfl, by rw [E0.out]⟩
  case round =>
    obtain ⟨k, hk, rfl, rfl⟩ := hrel
    obtain ⟨f0, f1⟩ := EB.out k hk
    by_cases hlt : k < n
    · obtain ⟨b, off, rfl, q0⟩ := E1.out k hlt
      obtain ⟨f2, f3⟩ := EB.out (k + 1) (by omega)
      have X := Lib.hid (ES.out k)
      rw [X.out] at f2 f3
      generalize xs.getD k 0 = t at *
      have b1 : (0 : Int) ≤ (k : Int) := by omega
      have b2 : (k : Int) < (n : Int) := by omega
      go_wp2_with fail
      refine (c_sumOf1 _ _).mono ?_
      rintro e w2 ⟨rfl, rfl⟩
      go_wp2
      go_round
      case rel => exact ⟨k + 1, by omega, by go_num, by rw [X.out]⟩
      case measure => simp [intOf]; omega
    · obtain rfl : k = n := by omega
      go_wp2
      go_ret
      exact ⟨rfl, rfl⟩

set_option maxHeartbeats 1000000 in
theorem c_sumOf (xs : List Int) (v : Value) (w : World) (hl : xs.length ≤ 4000000) (ht : Tame xs) (h : Seen w v xs) :
    Calls Try.prog 67 #[v] w fun e w' => e = .returned (.int .i64 (preS xs xs.length)) ∧ w = w' := by
  have H1 := Lib.hid (c_sumOver1 xs v w hl ht h)
  obtain ⟨A, c, rfl⟩ := h.shape
  clear h ht
  generalize preS xs xs.length = R at *
  go_enter Try.func67, Try.ntmps67
  go_wp2_with fail
  refine H1.out.mono ?_
  rintro e w1 ⟨rfl, rfl⟩
  go_wp2
  go_ret
  exact ⟨rfl, rfl⟩

theorem pre_take (l : List Int) (d : Nat) (h : d ≤ l.length) : ∀ k, k ≤ d → preS (l.take d) k = preS l k
  | 0, _ => rfl
  | k + 1, hk => by
    rw [preS, preS, pre_take l d h k (by omega)]
    congr 1
    simp [List.getD_eq_getElem?_getD, show k < d by omega]
/-- The first d of a column, cut. -/
theorem SeenK.cut {w : World} {A : Option Addr} {n c : Nat} {l : List Int} (h : SeenK w (.slice A n c) l) {d : Nat} (hd : d ≤ l.length) : Seen w (.slice A d c) (l.take d) ∧ d ≤ c ∧ d ≤ n ∧ n ≤ c ∧ n ≤ maxLen := by
  obtain ⟨A1, c1, e, h1, hm, h2⟩ := h
  simp at e
  obtain ⟨rfl, rfl, rfl⟩ := e
  have hl : (l.take d).length = d := by simp; omega
  refine ⟨⟨A, c, by rw [hl], by omega, fun h0 => ?_⟩, by omega, hd, h1, hm⟩
  obtain ⟨b, off, e, hlt, hc⟩ := h2 (by omega)
  refine ⟨b, off, e, hlt, fun k hk => ?_⟩
  rw [hc k (by omega)]
  simp [List.getD_eq_getElem?_getD, show k < d by omega]

set_option maxHeartbeats 1000000 in
theorem c_seColumn (l : List Int) (v : Value) (d : Nat) (w : World) (hd : d ≤ l.length) (hl : l.length ≤ 4000000) (ht : Tame l) (h : SeenK w v l) :
    Calls Try.prog 79 #[v, .int .i64 d] w fun e w' => e = .returned (.int .i64 (preS l d)) ∧ w = w' := by
  obtain ⟨A, c, rfl, hc, hm, hA⟩ := h
  have E1 : Hid (∀ k : Nat, k < l.length → ∃ b off, A = some ⟨b, off, none⟩ ∧ w.cell? ⟨b, off + k, none⟩ = some (.int .i64 (l.getD k 0))) := fun k hk => by
    obtain ⟨b, off, rfl, _, hc⟩ := hA (by omega)
    exact ⟨b, off, rfl, hc k hk⟩
  have EB : Hid (∀ k, k ≤ l.length → -1000000000000000 ≤ preS l k ∧ preS l k ≤ 1000000000000000) := ht
  have ES : Hid (∀ k, preS l (k + 1) = preS l k + l.getD k 0) := fun k => rfl
  have E0 : Hid (preS l 0 = 0) := rfl
  have d1 : (0 : Int) ≤ (d : Int) := by omega
  have d2 : (d : Int) ≤ (c : Int) := by omega
  have d3 : d ≤ c := by omega
  unfold maxLen at hm
  clear hA ht
  generalize preS l = F at *
  generalize l.length = n at *
  go_enter Try.func79, Try.ntmps79
  go_wp2_with fail
  go_loop [5, 12] (fun q i => ∃ k : Nat, k ≤ d ∧ i = .int .i64 k ∧ q = .int .i64 (F k)) (fun _ i => d - (intOf i).toNat)
  case atStart => exact ⟨0, Nat.zero_le _, rfl, by rw [E0.out]⟩
  case round =>
    obtain ⟨k, hk, rfl, rfl⟩ := hrel
    obtain ⟨f0, f1⟩ := EB.out k (by omega)
    by_cases hlt : k < d
    · obtain ⟨b, off, rfl, q0⟩ := E1.out k (by omega)
      obtain ⟨f2, f3⟩ := EB.out (k + 1) (by omega)
      have X := Lib.hid (ES.out k)
      rw [X.out] at f2 f3
      generalize l.getD k 0 = t at *
      have b1 : (0 : Int) ≤ (k : Int) := by omega
      have b2 : (k : Int) < (d : Int) := by omega
      go_wp2
      go_round
      case rel => exact ⟨k + 1, by omega, by go_num, by rw [X.out]⟩
      case measure => simp [intOf]; omega
    · obtain rfl : k = d := by omega
      go_wp2
      go_ret
      exact ⟨rfl, rfl⟩

theorem tame_col {xss : List (List Int)} {n D : Nat} (h : Sec xss n D) {c : Nat} (hc : c < n) : Tame (xss.getD c []) := fun k hk => by
  rw [h.col c hc] at hk
  have := pre_box (fun d hd => h.box c d hc hd) k hk
  have := h.d2
  omega
theorem tame_take {l : List Int} (h : Tame l) {d : Nat} (hd : d ≤ l.length) : Tame (l.take d) := fun k hk => by
  have hl : (l.take d).length = d := by simp; omega
  rw [pre_take l d hd k (by omega)]
  exact h k (by omega)

set_option maxHeartbeats 1000000 in
theorem c_worthOfProfile (xss : List (List Int)) (p : List Int) (n D : Nat) (v u : Value) (w : World) (hs : Sec xss n D) (hq : Pro p n D) (h : SeenC w v xss) (hp : Seen w u p) :
    Calls Try.prog 51 #[v, u] w fun e w' => e = .returned (.int .i64 (worS xss p n)) ∧ w = w' := by
  obtain ⟨A, c, rfl, hm⟩ := h.seen.shape
  have ECol : Hid (∀ k : Nat, k < n → ∃ b off b' off' c', A = some ⟨b, off, none⟩ ∧ w.cell? ⟨b, off + k, none⟩ = some (.slice (some ⟨b', off', none⟩) D c') ∧ (p.getD k 0 ≤ (c' : Int)) ∧ Calls Try.prog 67 #[.slice (some ⟨b', off', none⟩) (p.getD k 0).toNat c'] w fun e w' => e = .returned (.int .i64 (preS (xss.getD k []) (p.getD k 0).toNat)) ∧ w = w') := fun k hk => by
    obtain ⟨b, off, b', off', c', e, h1, h2, _, h3⟩ := h.col (k := k) (by rw [hs.len]; exact hk) (by rw [hs.col k hk]; exact hs.d1)
    have hb := hq.box k hk
    have hd : (p.getD k 0).toNat ≤ (xss.getD k []).length := by rw [hs.col k hk]; omega
    obtain ⟨h4, h5, _⟩ := h3.cut hd
    rw [hs.col k hk] at h1
    refine ⟨b, off, b', off', c', e, h1, by omega, ?_⟩
    have hl : ((xss.getD k []).take (p.getD k 0).toNat).length = (p.getD k 0).toNat := by rw [List.length_take]; omega
    have := c_sumOf _ _ w (by rw [hl, ]; have := hs.d2; omega) (tame_take (tame_col hs hk) hd) h4
    rw [hl, pre_take _ _ hd _ (Nat.le_refl _)] at this
    exact this
  have EP : Hid (∀ k : Nat, k < n → 0 ≤ p.getD k 0 ∧ p.getD k 0 ≤ (D : Int)) := hq.box
  have EB : Hid (∀ k, k ≤ n → -6000000 * (k : Int) ≤ worS xss p k ∧ worS xss p k ≤ 6000000 * (k : Int)) := wor_box hs hq
  have ES : Hid (∀ k, worS xss p (k + 1) = worS xss p k + preS (xss.getD k []) (p.getD k 0).toNat) := fun k => rfl
  have E0 : Hid (worS xss p 0 = 0) := rfl
  have hn := hs.n2
  have hD := hs.d2
  obtain ⟨A2, c2, rfl, _, hA⟩ := hp
  rw [hq.len] at hA
  have E1 : Hid (∀ k : Nat, k < n → ∃ b off, A2 = some ⟨b, off, none⟩ ∧ w.cell? ⟨b, off + k, none⟩ = some (.int .i64 (p.getD k 0))) := fun k hk => by
    obtain ⟨b, off, rfl, _, hc⟩ := hA (by omega)
    exact ⟨b, off, rfl, hc k hk⟩
  rw [hs.len, hq.len]
  clear hA h hs hq hm
  generalize worS xss p = F at *
  go_enter Try.func51, Try.ntmps51
  go_wp2_with fail
  go_loop [5, 6, 7, 10] (fun q _ _ i => ∃ k : Nat, k ≤ n ∧ i = .int .i64 k ∧ q = .int .i64 (F k)) (fun _ _ _ i => n - (intOf i).toNat)
  case atStart => exact ⟨0, Nat.zero_le _, rfl, by rw [E0.out]⟩
  case round =>
    obtain ⟨k, hk, rfl, rfl⟩ := hrel
    obtain ⟨f0, f1⟩ := EB.out k hk
    by_cases hlt : k < n
    · obtain ⟨b, off, rfl, q0⟩ := E1.out k hlt
      obtain ⟨b2, off2, b', off', c', rfl, q1, q2, hc⟩ := ECol.out k hlt
      have HC := Lib.hid hc
      clear hc
      obtain ⟨f2, f3⟩ := EB.out (k + 1) (by omega)
      have X := Lib.hid (ES.out k)
      rw [X.out] at f2 f3
      obtain ⟨t1, t2⟩ := EP.out k hlt
      obtain ⟨T, hT⟩ : ∃ T : Nat, p.getD k 0 = (T : Int) := ⟨(p.getD k 0).toNat, by omega⟩
      rw [hT] at q0 q2 t1 t2
      rw [hT, Int.toNat_natCast] at X f2 f3 HC
      have q3 : T ≤ c' := by omega
      clear hT
      generalize preS (xss.getD k []) T = S at *
      have b1 : (0 : Int) ≤ (k : Int) := by omega
      have b2 : (k : Int) < (n : Int) := by omega
      go_wp2_with fail
      refine HC.out.mono ?_
      rintro e w2 ⟨rfl, rfl⟩
      go_wp2
      go_round
      case rel => exact ⟨k + 1, by omega, by go_num, by rw [X.out]⟩
      case measure => simp [intOf]; omega
    · obtain rfl : k = n := by omega
      go_wp2
      go_ret
      exact ⟨rfl, rfl⟩
end Go.Proofs.Ytmkbjkmpincogaa
