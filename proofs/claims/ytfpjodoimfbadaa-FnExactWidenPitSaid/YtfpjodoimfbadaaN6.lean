/-
  Contracts: valid arcs and lists, in the program.
-/
import Derived.Test.YtfpjodoimfbadaaN5
import Derived.Test.YtfpjodoimfbadaaM6
namespace Go.Proofs.Ytfpjodoimfbadaa
open Go.RowKit
set_option linter.unusedVariables false

theorem SeenL.at_ {w : World} {A : Option Addr} {n c : Nat} {xss : List (List Int)} (h : SeenL w (.slice A n c) xss) {k : Nat} (hk : k < xss.length) : ∃ b off A' c', A = some ⟨b, off, none⟩ ∧ b < w.heap.size ∧ w.cell? ⟨b, off + k, none⟩ = some (.slice A' (xss.getD k []).length c') ∧ Seen w (.slice A' (xss.getD k []).length c') (xss.getD k []) := by
  obtain ⟨A1, c1, e, _, h⟩ := h
  simp at e
  obtain ⟨rfl, rfl, rfl⟩ := e
  obtain ⟨b, off, rfl, hlt, hc⟩ := h (by omega)
  obtain ⟨u, hu, hs⟩ := hc k hk
  obtain ⟨A', c', rfl⟩ := hs.shape
  exact ⟨b, off, A', c', rfl, hlt, hu, hs⟩

set_option maxHeartbeats 1000000 in
theorem c_AreArcs (xss : List (List Int)) (v : Value) (w : World) (hl : ShortL xss) (h : SeenL w v xss) :
    Calls Try.prog 72 #[v] w fun e w' => e = .returned (.bool (arcB xss)) ∧ w = w' := by
  have HS := Lib.hid h
  obtain ⟨A, c, rfl, hm⟩ := h.shape
  clear h hm
  obtain ⟨hl1, hl2⟩ := hl
  have HL2 : Hid (∀ i, i < xss.length → (xss.getD i []).length ≤ 1048576) := hl2
  clear hl2
  by_cases hn : 1 ≤ xss.length ∧ xss.length ≤ 120
  · have F1 : Hid (∀ k, k < xss.length → risB k (xss.getD k []) = false → arcB xss = false) := fun k hk h => arc_false hk h
    have F2 : Hid (ArcTo xss xss.length → arcB xss = true) := arc_true hn
    have F3 : Hid (∀ k, ArcTo xss k → risB k (xss.getD k []) = true → ArcTo xss (k + 1)) := fun k h h2 => h.succ h2
    have F0 : Hid (ArcTo xss 0) := ArcTo.zero xss
    have EC : Hid (∀ k : Nat, k < xss.length → ∃ b off A' c', A = some ⟨b, off, none⟩ ∧ w.cell? ⟨b, off + k, none⟩ = some (.slice A' (xss.getD k []).length c') ∧ Calls Try.prog 73 #[.slice A' (xss.getD k []).length c', .int .i64 k] w fun e w' => e = .returned (.bool (risB k (xss.getD k []))) ∧ w = w') := fun k hk => by
      obtain ⟨b, off, A', c', e, _, h1, h2⟩ := HS.out.at_ hk
      have := HL2.out k hk
      exact ⟨b, off, A', c', e, h1, c_areBlocksBelow k _ _ w (by omega) h2⟩
    clear HL2 HS
    obtain ⟨n1, n2⟩ := hn
    have d1 : ¬ ((xss.length : Int) < 1) := by omega
    have d2 : ¬ ((xss.length : Int) > 120) := by omega
    generalize arcB xss = R at *
    generalize hN : xss.length = N at *
    clear hN
    go_enter Try.func72, Try.ntmps72
    go_wp2_with fail
    go_loop [15] (fun i => ∃ k : Nat, k ≤ N ∧ i = .int .i64 k ∧ ArcTo xss k) (fun i => N - (RowKit.intOf i).toNat)
    case atStart => exact ⟨0, Nat.zero_le _, rfl, F0.out⟩
    case round =>
      obtain ⟨k, hk, rfl, hv⟩ := hrel
      have HV := Lib.hid hv
      clear hv
      by_cases hlt : k < N
      · obtain ⟨b, off, A', c', rfl, q1, hc⟩ := EC.out k hlt
        have HC := Lib.hid hc
        have b1 : (0 : Int) ≤ (k : Int) := by omega
        have b2 : (k : Int) < (N : Int) := by omega
        clear hc
        cases hx : risB k (xss.getD k [])
        · have G := Lib.hid (F1.out k hlt hx)
          rw [hx] at HC
          clear hx
          generalize (xss.getD k []).length = m at *
          go_wp2_with fail
          refine HC.out.mono ?_
          rintro e w2 ⟨rfl, rfl⟩
          go_wp2
          go_ret
          exact ⟨ret_bool G.out.symm, rfl⟩
        · have G := Lib.hid (F3.out k HV.out hx)
          rw [hx] at HC
          clear hx
          generalize (xss.getD k []).length = m at *
          go_wp2_with fail
          refine HC.out.mono ?_
          rintro e w2 ⟨rfl, rfl⟩
          go_wp2
          go_round
          case rel => exact ⟨k + 1, by omega, by go_num, G.out⟩
          case measure => simp [RowKit.intOf]; omega
      · obtain rfl : k = N := by omega
        have G := Lib.hid (F2.out HV.out)
        go_wp2
        go_ret
        exact ⟨ret_bool G.out.symm, rfl⟩
  · have G := Lib.hid (arc_short hn)
    rcases Nat.lt_or_ge xss.length 1 with h1 | h1
    · have d1 : (xss.length : Int) < 1 := by omega
      clear HL2 HS
      go_enter Try.func72, Try.ntmps72
      go_wp2
      go_ret
      exact ⟨ret_bool G.out.symm, rfl⟩
    · have d1 : ¬ (xss.length : Int) < 1 := by omega
      have d2 : (xss.length : Int) > 120 := by omega
      clear HL2 HS
      go_enter Try.func72, Try.ntmps72
      go_wp2
      go_ret
      exact ⟨ret_bool G.out.symm, rfl⟩

set_option maxHeartbeats 1000000 in
theorem c_areArcsAndList (xss : List (List Int)) (l : List Int) (v u : Value) (w : World) (hl : ShortL xss) (hl2 : l.length ≤ 4000000) (h : SeenL w v xss) (hs : Seen w u l) :
    Calls Try.prog 66 #[v, u] w fun e w' => e = .returned (.bool (arcB xss && risB xss.length l)) ∧ w = w' := by
  have C1 := Lib.hid (c_AreArcs xss v w hl h)
  have C2 := Lib.hid (c_areBlocksBelow xss.length l u w hl2 hs)
  obtain ⟨A, c, rfl, _⟩ := h.shape
  obtain ⟨A2, c2, rfl⟩ := hs.shape
  obtain ⟨hl1, _⟩ := hl
  clear h hs
  cases ha : arcB xss
  · rw [ha] at C1
    go_enter Try.func66, Try.ntmps66
    go_wp2_with fail
    refine C1.out.mono ?_
    rintro e w1 ⟨rfl, rfl⟩
    go_wp2
    go_ret
    exact ⟨rfl, rfl⟩
  · rw [ha] at C1
    clear ha
    generalize risB xss.length l = R at *
    go_enter Try.func66, Try.ntmps66
    go_wp2_with fail
    refine C1.out.mono ?_
    rintro e w1 ⟨rfl, rfl⟩
    go_wp2_with fail
    refine C2.out.mono ?_
    rintro e w1 ⟨rfl, rfl⟩
    go_wp2
    go_ret
    exact ⟨by simp, rfl⟩
end Go.Proofs.Ytfpjodoimfbadaa
