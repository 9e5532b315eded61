/-
  Contracts: valid arcs and values, in the program and in the model.
-/
import Derived.Test.YthfmgclndokknaaN6
import Derived.Test.YthfmgclndokknaaW1
namespace Go.Proofs.Ythfmgclndokknaa
open Go.RowKit
set_option linter.unusedVariables false


set_option maxHeartbeats 1000000 in
theorem c_clArcs (xss : List (List Int)) (v : Value) (w : World) (hl : ShortL xss) (h : SeenL w v xss) :
    Calls Try.prog 50 #[v] w fun e w' => e = .returned (.bool (arcB xss)) ∧ w = w' := by
  have HS := Lib.hid h
  obtain ⟨A, c, rfl, hm⟩ := h.shape
  clear h hm
  obtain ⟨hl1, hl2⟩ := hl
  have HL2 : Hid (∀ i, i < xss.length → (xss.getD i []).length ≤ 1048576) := hl2
  clear hl2
  have F1 : Hid (∀ k, k < xss.length → risB k (xss.getD k []) = false → arcB xss = false) := fun k hk h => arc_false hk h
  have F2 : Hid (ArcTo xss xss.length → arcB xss = decide ((1 : Int) ≤ (xss.length : Int) ∧ (xss.length : Int) ≤ 120)) := fun h => by
    by_cases hn : 1 ≤ xss.length ∧ xss.length ≤ 120
    · rw [arc_true hn h, decide_eq_true (by omega)]
    · rw [arc_short hn, decide_eq_false (by omega)]
  have F3 : Hid (∀ k, ArcTo xss k → risB k (xss.getD k []) = true → ArcTo xss (k + 1)) := fun k h h2 => h.succ h2
  have F0 : Hid (ArcTo xss 0) := ArcTo.zero xss
  have EC : Hid (∀ k : Nat, k < xss.length → ∃ b off A' c', A = some ⟨b, off, none⟩ ∧ w.cell? ⟨b, off + k, none⟩ = some (.slice A' (xss.getD k []).length c') ∧ Calls Try.prog 57 #[.slice A' (xss.getD k []).length c', .int .i64 0, .int .i64 ((k : Int) - 1)] w fun e w' => e = .returned (.bool (risB k (xss.getD k []))) ∧ w = w') := fun k hk => by
    obtain ⟨b, off, A', c', e, _, h1, h2⟩ := HS.out.at_ hk
    have := HL2.out k hk
    exact ⟨b, off, A', c', e, h1, c_l1Rising k _ _ w (by omega) (by omega) (by omega) h2⟩
  clear HL2 HS
  have CI : Hid (Calls Try.prog 45 #[.int .i64 (xss.length : Int), .int .i64 1, .int .i64 120] w fun e w' => e = .returned (.bool (decide ((1 : Int) ≤ (xss.length : Int) ∧ (xss.length : Int) ≤ 120))) ∧ w = w') := c_l1In _ _ _ w
  generalize decide ((1 : Int) ≤ (xss.length : Int) ∧ (xss.length : Int) ≤ 120) = D at *
  generalize arcB xss = R at *
  generalize hN : xss.length = N at *
  clear hN
  go_enter Try.func50, Try.ntmps50
  go_wp2_with fail
  go_loop [7] (fun i => ∃ k : Nat, k ≤ N ∧ i = .int .i64 k ∧ ArcTo xss k) (fun i => N - (RowKit.intOf i).toNat)
  case atStart => exact ⟨0, Nat.zero_le _, rfl, F0.out⟩
  case round =>
    obtain ⟨k, hk, rfl, hv⟩ := hrel
    have HV := Lib.hid hv
    clear hv
    by_cases hlt : k < N
    · obtain ⟨b, off, A', c', rfl, q1, hc⟩ := EC.out k hlt
      have HC := Lib.hid hc
      have b1 : (0 : Int) ≤ (k : Int) := by omega
      have b2 : (k : Int) < (N : Int) := by omega
      clear hc
      cases hx : risB k (xss.getD k [])
      · have G := Lib.hid (F1.out k hlt hx)
        rw [hx] at HC
        clear hx
        generalize (xss.getD k []).length = m at *
        go_wp2_with fail
        refine HC.out.mono ?_
        rintro e w2 ⟨rfl, rfl⟩
        go_wp2
        go_ret
        exact ⟨ret_bool G.out.symm, rfl⟩
      · have G := Lib.hid (F3.out k HV.out hx)
        rw [hx] at HC
        clear hx
        generalize (xss.getD k []).length = m at *
        go_wp2_with fail
        refine HC.out.mono ?_
        rintro e w2 ⟨rfl, rfl⟩
        go_wp2
        go_round
        case rel => exact ⟨k + 1, by omega, by go_num, G.out⟩
        case measure => simp [RowKit.intOf]; omega
    · obtain rfl : k = N := by omega
      have G := Lib.hid (F2.out HV.out)
      go_wp2_with fail
      refine CI.out.mono ?_
      rintro e w2 ⟨rfl, rfl⟩
      go_wp2
      go_ret
      exact ⟨ret_bool G.out.symm, rfl⟩

/-- Arcs and as many values. -/
def pgB (xss : List (List Int)) (vs : List Int) : Bool := arcB xss && valB xss.length vs
theorem pg_true {xss : List (List Int)} {vs : List Int} (h : pgB xss vs = true) : arcB xss = true ∧ valB xss.length vs = true := by
  unfold pgB at h
  rwa [Bool.and_eq_true] at h

theorem c_paGood (xss : List (List Int)) (vs : List Int) (v u : Value) (w : World) (hs : ShortL xss) (hl : vs.length ≤ 4000000) (h : SeenL w v xss) (hu : Seen w u vs) :
    Calls Try.prog 27 #[v, u] w fun e w' => e = .returned (.bool (pgB xss vs)) ∧ w = w' := by
  have C0 := Lib.hid (c_clArcs xss v w hs h)
  have C1 := Lib.hid (c_vaGood vs u xss.length w hl hu)
  obtain ⟨A, c, rfl, hm⟩ := h.shape
  obtain ⟨A2, c2, rfl⟩ := hu.shape
  unfold pgB
  clear h hu hs hl
  generalize valB xss.length vs = b at *
  cases ha : arcB xss
  · rw [ha] at C0
    clear ha C1
    go_enter Try.func27, Try.ntmps27
    go_wp2_with fail
    refine C0.out.mono ?_
    rintro e w1 ⟨rfl, rfl⟩
    go_wp2
    go_ret
    exact ⟨rfl, rfl⟩
  · rw [ha] at C0
    clear ha
    go_enter Try.func27, Try.ntmps27
    go_wp2_with fail
    refine C0.out.mono ?_
    rintro e w1 ⟨rfl, rfl⟩
    go_wp2_with fail
    refine C1.out.mono ?_
    rintro e w1 ⟨rfl, rfl⟩
    go_wp2
    go_ret
    exact ⟨by simp, rfl⟩

theorem c_areArcsAndValues (xss : List (List Int)) (vs : List Int) (v u : Value) (w : World) (hs : ShortL xss) (hl : vs.length ≤ 4000000) (h : SeenL w v xss) (hu : Seen w u vs) :
    Calls Try.prog 29 #[v, u] w fun e w' => e = .returned (.bool (pgB xss vs)) ∧ w = w' := by
  have C0 := Lib.hid (c_AreArcs xss v w hs h)
  have C1 := Lib.hid (c_AreValues vs u xss.length w hl hu)
  obtain ⟨A, c, rfl, hm⟩ := h.shape
  obtain ⟨A2, c2, rfl⟩ := hu.shape
  unfold pgB
  clear h hu hs hl
  generalize valB xss.length vs = b at *
  cases ha : arcB xss
  · rw [ha] at C0
    clear ha C1
    go_enter Try.func29, Try.ntmps29
    go_wp2_with fail
    refine C0.out.mono ?_
    rintro e w1 ⟨rfl, rfl⟩
    go_wp2
    go_ret
    exact ⟨rfl, rfl⟩
  · rw [ha] at C0
    clear ha
    go_enter Try.func29, Try.ntmps29
    go_wp2_with fail
    refine C0.out.mono ?_
    rintro e w1 ⟨rfl, rfl⟩
    go_wp2_with fail
    refine C1.out.mono ?_
    rintro e w1 ⟨rfl, rfl⟩
    go_wp2
    go_ret
    exact ⟨by simp, rfl⟩
end Go.Proofs.Ythfmgclndokknaa
