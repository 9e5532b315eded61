/-
  Contracts: valid sections, in the program and in the model of it.
-/
import Derived.Test.YtmkbjkmpincogaaSA
import Derived.Test.YtmkbjkmpincogaaN2
import Derived.Test.YtmkbjkmpincogaaAQ
namespace Go.Proofs.Ytmkbjkmpincogaa
open Go.RowKit
set_option linter.unusedVariables false

/-- As Seen, with the capacity known to be no less. -/
def SeenK (w : World) (v : Value) (xs : List Int) : Prop :=
  ∃ A c, v = .slice A xs.length c ∧ xs.length ≤ c ∧ xs.length ≤ maxLen ∧ (0 < xs.length → ∃ b off, A = some ⟨b, off, none⟩ ∧ b < w.heap.size ∧ ∀ k : Nat, k < xs.length → w.cell? ⟨b, off + k, none⟩ = some (.int .i64 (xs.getD k 0)))
theorem SeenK.below {w w' : World} {v : Value} {xs : List Int} (h : SeenK w v xs) (hb : Below w.heap.size w w') : SeenK w' v xs := by
  obtain ⟨A, c, rfl, hc, hm, h⟩ := h
  refine ⟨A, c, rfl, hc, hm, fun h0 => ?_⟩
  obtain ⟨b, off, rfl, hlt, hc⟩ := h h0
  exact ⟨b, off, rfl, Nat.lt_of_lt_of_le hlt hb.size, fun k hk => by rw [hb.cell (p := ⟨b, off + k, none⟩) hlt]; exact hc k hk⟩
theorem SeenK.seen {w : World} {v : Value} {xs : List Int} (h : SeenK w v xs) : Seen w v xs := by
  obtain ⟨A, c, rfl, hc, hm, h⟩ := h
  exact ⟨A, c, rfl, hm, h⟩
theorem Row.seenK {w : World} {B : Nat} {v : Value} {xs : List Int} (h : Row w B v xs) : SeenK w v xs := by
  obtain ⟨A, c, e, hm, hs⟩ := h.seen
  refine ⟨A, c, e, ?_, hm, hs⟩
  rcases h.2 with ⟨e2, h0⟩ | ⟨g, cap, cur, e2, _, _, hn, _⟩
  · omega
  · rw [e2] at e; injection e with _ _ e3; omega
/-- The slice v reads as the lists xss, each with its capacity no less. -/
def SeenC (w : World) (v : Value) (tss : List (List Int)) : Prop :=
  ∃ A c, v = .slice A tss.length c ∧ tss.length ≤ maxLen ∧ (0 < tss.length → ∃ b off, A = some ⟨b, off, none⟩ ∧ b < w.heap.size ∧ ∀ k : Nat, k < tss.length → ∃ u, w.cell? ⟨b, off + k, none⟩ = some u ∧ SeenK w u (tss.getD k []))
theorem SeenC.below {w w' : World} {v : Value} {tss : List (List Int)} (h : SeenC w v tss) (hb : Below w.heap.size w w') : SeenC w' v tss := by
  obtain ⟨A, c, rfl, hm, h⟩ := h
  refine ⟨A, c, rfl, hm, fun h0 => ?_⟩
  obtain ⟨b, off, rfl, hlt, hc⟩ := h h0
  refine ⟨b, off, rfl, Nat.lt_of_lt_of_le hlt hb.size, fun k hk => ?_⟩
  obtain ⟨u, hu, hs⟩ := hc k hk
  exact ⟨u, by rw [hb.cell (p := ⟨b, off + k, none⟩) hlt]; exact hu, hs.below hb⟩
theorem SeenC.seen {w : World} {v : Value} {tss : List (List Int)} (h : SeenC w v tss) : SeenL w v tss := by
  obtain ⟨A, c, rfl, hm, h⟩ := h
  refine ⟨A, c, rfl, hm, fun h0 => ?_⟩
  obtain ⟨b, off, rfl, hlt, hc⟩ := h h0
  refine ⟨b, off, rfl, hlt, fun k hk => ?_⟩
  obtain ⟨u, hu, hs⟩ := hc k hk
  exact ⟨u, hu, hs.seen⟩
theorem Rows.seenC {w : World} {B U : Nat} {v : Value} {tss : List (List Int)} (h : Rows w B U v tss) : SeenC w v tss := by
  obtain ⟨vs, h⟩ := h
  rcases h.own.2 with ⟨rfl, h0⟩ | ⟨g, cap, cur, rfl, _, hg, hn, hm, _⟩
  · exact ⟨none, 0, by rw [h0], by omega, fun h1 => by omega⟩
  · refine ⟨_, _, rfl, by omega, fun h0 => ⟨g, 0, rfl, ?_, fun k hk => ⟨_, by rw [Nat.zero_add]; exact h.cell hk, Row.seenK (h.row k hk)⟩⟩⟩
    obtain ⟨g', c', e, _, hl⟩ := h.form h0
    simp at e
    rw [e.1]; exact hl
/-- One column of a section. -/
theorem SeenL.col {w : World} {A : Option Addr} {n c : Nat} {xss : List (List Int)} (h : SeenL w (.slice A n c) xss) {k : Nat} (hk : k < xss.length) : ∃ b off A' c', A = some ⟨b, off, none⟩ ∧ w.cell? ⟨b, off + k, none⟩ = some (.slice A' (xss.getD k []).length c') ∧ Seen w (.slice A' (xss.getD k []).length c') (xss.getD k []) := by
  obtain ⟨A1, c1, e, _, h⟩ := h
  simp at e
  obtain ⟨rfl, rfl, rfl⟩ := e
  obtain ⟨b, off, rfl, hlt, hc⟩ := h (by omega)
  obtain ⟨u, hu, hs⟩ := hc k hk
  have hs2 := hs
  obtain ⟨A', c', rfl, _, _⟩ := hs2
  exact ⟨b, off, A', c', rfl, hu, hs⟩
/-- One column of a section, its block known. -/
theorem SeenC.col {w : World} {A : Option Addr} {n c : Nat} {xss : List (List Int)} (h : SeenC w (.slice A n c) xss) {k : Nat} (hk : k < xss.length) (h0 : 0 < (xss.getD k []).length) : ∃ b off b' off' c', A = some ⟨b, off, none⟩ ∧ w.cell? ⟨b, off + k, none⟩ = some (.slice (some ⟨b', off', none⟩) (xss.getD k []).length c') ∧ (xss.getD k []).length ≤ c' ∧ (∀ d, d < (xss.getD k []).length → w.cell? ⟨b', off' + d, none⟩ = some (.int .i64 ((xss.getD k []).getD d 0))) ∧ SeenK w (.slice (some ⟨b', off', none⟩) (xss.getD k []).length c') (xss.getD k []) := by
  obtain ⟨A1, c1, e, _, h⟩ := h
  simp at e
  obtain ⟨rfl, rfl, rfl⟩ := e
  obtain ⟨b, off, rfl, hlt, hc⟩ := h (by omega)
  obtain ⟨u, hu, hs⟩ := hc k hk
  have hs2 := hs
  obtain ⟨A', c', rfl, h1, _, h2⟩ := hs2
  obtain ⟨b', off', rfl, _, h3⟩ := h2 h0
  exact ⟨b, off, b', off', c', rfl, hu, h1, h3, hs⟩

set_option maxHeartbeats 1000000 in
theorem c_IsSection (xss : List (List Int)) (v : Value) (w : World) (hl : ShortL xss) (h : SeenL w v xss) :
    Calls Try.prog 17 #[v] w fun e w' => e = .returned (.bool (secB xss)) ∧ w = w' := by
  have HS := Lib.hid h
  obtain ⟨A, c, rfl, hm⟩ := h.shape
  clear h hm
  obtain ⟨hl1, hl2⟩ := hl
  have HL2 : Hid (∀ i, i < xss.length → (xss.getD i []).length ≤ 1048576) := hl2
  clear hl2
  by_cases hn : 1 ≤ xss.length ∧ xss.length ≤ 8
  · have hD : depD xss ≤ 1048576 := HL2.out 0 (by omega)
    obtain ⟨b0, off0, A0, c0, e0, q0, _⟩ := HS.out.col (k := 0) (by omega)
    rw [Nat.add_zero] at q0
    rw [show (xss.getD 0 []).length = depD xss from rfl] at q0
    have FB := Lib.hid (fun h => sec_deep (xss := xss) h)
    have F1 : Hid (∀ k, k < xss.length → valB (depD xss : Int) (xss.getD k []) = false → secB xss = false) := fun k hk h => sec_bad hk h
    have F2 : Hid (depD xss ≤ 6 → (∀ k : Nat, k < xss.length → valB (depD xss : Int) (xss.getD k []) = true) → secB xss = true) := sec_good hn
    have EC : Hid (∀ k : Nat, k < xss.length → ∃ b off A' c', A = some ⟨b, off, none⟩ ∧ w.cell? ⟨b, off + k, none⟩ = some (.slice A' (xss.getD k []).length c') ∧ Calls Try.prog 46 #[.slice A' (xss.getD k []).length c', .int .i64 (depD xss)] w fun e w' => e = .returned (.bool (valB (depD xss) (xss.getD k []))) ∧ w = w') := fun k hk => by
      obtain ⟨b, off, A', c', e, h1, h2⟩ := HS.out.col hk
      have := HL2.out k hk
      exact ⟨b, off, A', c', e, h1, c_AreValues _ _ _ w (by omega) h2⟩
    clear HL2 HS
    subst e0
    obtain ⟨n1, n2⟩ := hn
    have d1 : ¬ ((xss.length : Int) < 1) := by omega
    have d2 : ¬ ((xss.length : Int) > 8) := by omega
    have d3 : (0 : Int) < (xss.length : Int) := by omega
    generalize secB xss = R at *
    generalize hN : xss.length = N at *
    generalize depD xss = D at *
    clear hN
    by_cases h6 : D ≤ 6
    · have d4 : ¬ ((D : Int) > 6) := by omega
      go_enter Try.func17, Try.ntmps17
      go_wp2_with fail
      go_loop [22] (fun i => ∃ k : Nat, k ≤ N ∧ i = .int .i64 k ∧ Hid (∀ j : Nat, j < k → valB (D : Int) (xss.getD j []) = true)) (fun i => N - (RowKit.intOf i).toNat)
      case atStart => exact ⟨0, Nat.zero_le _, rfl, fun j hj => by omega⟩
      case round =>
        obtain ⟨k, hk, rfl, HV⟩ := hrel
        by_cases hlt : k < N
        · obtain ⟨b, off, A', c', e1, q1, hc⟩ := EC.out k hlt
          simp at e1
          obtain ⟨rfl, rfl⟩ := e1
          have HC := Lib.hid hc
          have b1 : (0 : Int) ≤ (k : Int) := by omega
          have b2 : (k : Int) < (N : Int) := by omega
          clear hc
          cases hx : valB (D : Int) (xss.getD k [])
          · have G := Lib.hid (F1.out k hlt hx)
            rw [hx] at HC
            clear hx
            generalize (xss.getD k []).length = m at *
            go_wp2_with fail
            refine HC.out.mono ?_
            rintro e w2 ⟨rfl, rfl⟩
            go_wp2
            go_ret
            exact ⟨ret_bool G.out.symm, rfl⟩
          · have G : Hid (∀ j : Nat, j < k + 1 → valB (D : Int) (xss.getD j []) = true) := fun j hj => by
              by_cases e : j = k
              · rw [e]; exact hx
              · exact HV.out j (by omega)
            rw [hx] at HC
            clear hx
            generalize (xss.getD k []).length = m at *
            go_wp2_with fail
            refine HC.out.mono ?_
            rintro e w2 ⟨rfl, rfl⟩
            go_wp2
            go_round
            case rel => exact ⟨k + 1, by omega, by go_num, G⟩
            case measure => simp [RowKit.intOf]; omega
        · obtain rfl : k = N := by omega
          have G := Lib.hid (F2.out h6 HV.out)
          go_wp2
          go_ret
          exact ⟨ret_bool G.out.symm, rfl⟩
    · have d4 : ((D : Int) > 6) := by omega
      have G := Lib.hid (FB.out h6)
      clear EC
      go_enter Try.func17, Try.ntmps17
      go_wp2
      go_ret
      exact ⟨ret_bool G.out.symm, rfl⟩
  · have G := Lib.hid (sec_short hn)
    rcases Nat.lt_or_ge xss.length 1 with h1 | h1
    · have d1 : (xss.length : Int) < 1 := by omega
      clear HL2 HS
      go_enter Try.func17, Try.ntmps17
      go_wp2
      go_ret
      exact ⟨ret_bool G.out.symm, rfl⟩
    · have d1 : ¬ (xss.length : Int) < 1 := by omega
      have d2 : (xss.length : Int) > 8 := by omega
      clear HL2 HS
      go_enter Try.func17, Try.ntmps17
      go_wp2
      go_ret
      exact ⟨ret_bool G.out.symm, rfl⟩

set_option maxHeartbeats 1000000 in
theorem c_seGood (xss : List (List Int)) (v : Value) (w : World) (hl : ShortL xss) (h : SeenL w v xss) :
    Calls Try.prog 45 #[v] w fun e w' => e = .returned (.bool (secB xss)) ∧ w = w' := by
  have HS := Lib.hid h
  obtain ⟨A, c, rfl, hm⟩ := h.shape
  clear h hm
  obtain ⟨hl1, hl2⟩ := hl
  have HL2 : Hid (∀ i, i < xss.length → (xss.getD i []).length ≤ 1048576) := hl2
  clear hl2
  by_cases h0 : xss.length = 0
  · have G := Lib.hid (sec_short (xss := xss) (by omega))
    clear HL2 HS
    rw [h0]
    go_enter Try.func45, Try.ntmps45
    go_wp2_with fail
    go_rounds 1
    go_ret
    exact ⟨ret_bool G.out.symm, rfl⟩
  · obtain ⟨b0, off0, A0, c0, e0, q0, _⟩ := HS.out.col (k := 0) (by omega)
    rw [Nat.add_zero] at q0
    rw [show (xss.getD 0 []).length = depD xss from rfl] at q0
    have F1 : Hid (∀ k, k < xss.length → ¬ ((xss.getD k []).length = depD xss) ∨ ¬ (1 ≤ (xss.getD k []).length ∧ (xss.getD k []).length ≤ 6) ∨ wAll (xss.getD k []) = false → secB xss = false) := fun k hk h => by
      by_cases h1 : (xss.getD k []).length = depD xss
      · by_cases h2 : depD xss ≤ 6
        · refine sec_bad hk (val_no ?_)
          rcases h with h | h | h
          · exact absurd h1 h
          · exact .inr (.inl (by omega))
          · exact .inr (.inr h)
        · exact sec_deep h2
      · exact sec_bad hk (val_no (.inl (by omega)))
    have F3 : Hid (∀ k, k < xss.length → (xss.getD k []).length = depD xss → (1 ≤ (xss.getD k []).length ∧ (xss.getD k []).length ≤ 6) → wAll (xss.getD k []) = true → depD xss ≤ 6 ∧ valB (depD xss : Int) (xss.getD k []) = true) := fun k hk h1 h2 h3 => ⟨by omega, val_is (by omega) (by omega) h3⟩
    have F2 : Hid ((depD xss ≤ 6 ∧ ∀ k : Nat, k < xss.length → valB (depD xss : Int) (xss.getD k []) = true) → secB xss = decide ((1 : Int) ≤ xss.length ∧ (xss.length : Int) ≤ 8)) := fun h => by
      by_cases hn : 1 ≤ xss.length ∧ xss.length ≤ 8
      · rw [sec_good hn h.1 h.2, decide_eq_true (by omega)]
      · rw [sec_short hn, decide_eq_false (by omega)]
    have EC : Hid (∀ k : Nat, k < xss.length → ∃ b off A' c', A = some ⟨b, off, none⟩ ∧ w.cell? ⟨b, off + k, none⟩ = some (.slice A' (xss.getD k []).length c') ∧ Calls Try.prog 75 #[.slice A' (xss.getD k []).length c', .int .i64 (-1000000), .int .i64 1000000] w fun e w' => e = .returned (.bool (wAll (xss.getD k []))) ∧ w = w') := fun k hk => by
      obtain ⟨b, off, A', c', e, h1, h2⟩ := HS.out.col hk
      have := HL2.out k hk
      exact ⟨b, off, A', c', e, h1, c_l1AllW _ _ w (by omega) h2⟩
    have hD : depD xss ≤ 1048576 := HL2.out 0 (by omega)
    have HL3 : Hid (∀ i, i < xss.length → (xss.getD i []).length ≤ 1048576) := HL2.out
    clear HL2 HS
    subst e0
    have d3 : (0 : Int) < (xss.length : Int) := by omega
    generalize secB xss = R at *
    generalize hN : xss.length = N at *
    generalize depD xss = D at *
    clear hN
    go_enter Try.func45, Try.ntmps45
    go_wp2_with fail
    go_loop [7] (fun i => ∃ k : Nat, k ≤ N ∧ i = .int .i64 k ∧ Hid ((0 < k → D ≤ 6) ∧ ∀ j : Nat, j < k → valB (D : Int) (xss.getD j []) = true)) (fun i => N - (RowKit.intOf i).toNat)
    case atStart => exact ⟨0, Nat.zero_le _, rfl, fun h => by omega, fun j hj => by omega⟩
    case round =>
      obtain ⟨k, hk, rfl, HV⟩ := hrel
      by_cases hlt : k < N
      · obtain ⟨b, off, A', c', e1, q1, hc⟩ := EC.out k hlt
        simp at e1
        obtain ⟨rfl, rfl⟩ := e1
        have HC := Lib.hid hc
        have b1 : (0 : Int) ≤ (k : Int) := by omega
        have b2 : (k : Int) < (N : Int) := by omega
        have G1 := Lib.hid (F1.out k hlt)
        have G3 := Lib.hid (F3.out k hlt)
        have G4 := HL3.out k hlt
        have GV : Hid (D ≤ 6 ∧ valB (D : Int) (xss.getD k []) = true → (0 < k + 1 → D ≤ 6) ∧ ∀ j : Nat, j < k + 1 → valB (D : Int) (xss.getD j []) = true) := fun h => ⟨fun _ => h.1, fun j hj => by
          by_cases e : j = k
          · rw [e]; exact h.2
          · exact HV.out.2 j (by omega)⟩
        clear hc
        generalize valB (D : Int) (xss.getD k []) = V at *
        generalize wAll (xss.getD k []) = W at *
        generalize (xss.getD k []).length = m at *
        by_cases hq : m = D
        case neg =>
          have G := Lib.hid (G1.out (.inl hq))
          have hq' : ((m : Int) != (D : Int)) = true := by simp; omega
          go_wp2
          go_ret
          exact ⟨ret_bool G.out.symm, rfl⟩
        subst hq
        have hq' : ((m : Int) != (m : Int)) = false := by simp
        by_cases hx : (1 : Int) ≤ (m : Int) ∧ (m : Int) ≤ 6
        case neg =>
          have G := Lib.hid (G1.out (.inr (.inl (by omega))))
          have G0 := Lib.hid (decide_eq_false hx)
          go_wp2_with fail
          refine (c_l1In _ _ _ _).mono ?_
          rintro e w1 ⟨rfl, rfl⟩
          rw [G0.out]
          go_wp2
          go_ret
          exact ⟨ret_bool G.out.symm, rfl⟩
        have G0 := Lib.hid (decide_eq_true hx)
        cases W
        · have G := Lib.hid (G1.out (.inr (.inr rfl)))
          go_wp2_with fail
          refine (c_l1In _ _ _ _).mono ?_
          rintro e w1 ⟨rfl, rfl⟩
          rw [G0.out]
          go_wp2_with fail
          refine HC.out.mono ?_
          rintro e w2 ⟨rfl, rfl⟩
          go_wp2
          go_ret
          exact ⟨ret_bool G.out.symm, rfl⟩
        · have G := Lib.hid (GV.out (G3.out rfl (by omega) rfl))
          go_wp2_with fail
          refine (c_l1In _ _ _ _).mono ?_
          rintro e w1 ⟨rfl, rfl⟩
          rw [G0.out]
          go_wp2_with fail
          refine HC.out.mono ?_
          rintro e w2 ⟨rfl, rfl⟩
          go_wp2
          go_round
          case rel => exact ⟨k + 1, by omega, by go_num, G⟩
          case measure => simp [RowKit.intOf]; omega
      · obtain rfl : k = N := by omega
        have G := Lib.hid (F2.out ⟨HV.out.1 (by omega), HV.out.2⟩).symm
        go_wp2_with fail
        refine (c_l1In _ _ _ _).mono ?_
        rintro e w1 ⟨rfl, rfl⟩
        rw [G.out]
        go_wp2
        go_ret
        exact ⟨rfl, rfl⟩

set_option maxHeartbeats 400000 in
theorem c_IsSectionS (xss : List (List Int)) (v : Value) (w : World) (hl : ShortL xss) (h : SeenL w v xss) :
    Calls Try.prog 15 #[v] w fun e w' => e = .returned (.bool (secB xss)) ∧ w = w' := by
  have H1 := Lib.hid (c_seGood xss v w hl h)
  obtain ⟨A, c, rfl, _⟩ := h.shape
  clear h
  generalize secB xss = R at *
  go_enter Try.func15, Try.ntmps15
  go_wp2_with fail
  refine H1.out.mono ?_
  rintro e w1 ⟨rfl, rfl⟩
  go_wp2
  go_ret
  exact ⟨rfl, rfl⟩
end Go.Proofs.Ytmkbjkmpincogaa
