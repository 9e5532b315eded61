/-
  Contracts: IsChain, in the program and in the model.
-/
import Derived.Test.YtoakpepoopjlaaaN5
import Derived.Test.YtoakpepoopjlaaaM6
import Derived.Test.YtoakpepoopjlaaaZR
import Derived.Deep.RegionHeld3
import Derived.Test.YtoakpepoopjlaaaGA
namespace Go.Proofs.Ytoakpepoopjlaaa
open Go.RowKit
set_option linter.unusedVariables false

/-! ### Plain -/
def chB (xss : List (List Int)) : Bool := decide (xss.length ≤ 61) && xss.all (risB 120)
def chX (xss : List (List Int)) (k : Nat) : Bool := (xss.getD (k - 1) []).all (inL (xss.getD k []))
def chN (xss : List (List Int)) (k : Nat) : Bool := (List.range k).all (chX xss)
def chV (xss : List (List Int)) : Bool := chB xss && chN xss xss.length
theorem chN_next (xss : List (List Int)) (k : Nat) : chN xss (k + 1) = (chN xss k && chX xss k) := by simp [chN, List.range_succ]
theorem chX_zero (xss : List (List Int)) : chX xss 0 = true := by simp [chX, inL]
theorem chN_false {xss : List (List Int)} {k : Nat} (h : chX xss k = false) : ∀ {n : Nat}, k < n → chN xss n = false := fun {n} hk => by
  unfold chN
  rw [List.all_eq_false]
  exact ⟨k, by simpa using hk, by simp [h]⟩
theorem chB_false {xss : List (List Int)} {k : Nat} (hk : k < xss.length) (h : risB 120 (xss.getD k []) = false) : chB xss = false := by
  have : xss.all (risB 120) = false := by
    rw [List.all_eq_false]
    exact ⟨xss.getD k [], by simp [List.getD_eq_getElem?_getD, hk], by rw [h]; simp⟩
  simp [chB, this]
theorem chB_true {xss : List (List Int)} (h1 : xss.length ≤ 61) (h : ∀ k, k < xss.length → risB 120 (xss.getD k []) = true) : chB xss = true := by
  have : xss.all (risB 120) = true := by
    rw [List.all_eq_true]
    intro x hx
    obtain ⟨k, hk, rfl⟩ := List.getElem_of_mem hx
    have := h k hk
    simpa [List.getD_eq_getElem?_getD, hk] using this
  simp [chB, this, h1]
theorem SeenL.rowAt {w : World} {A : Option Addr} {n c : Nat} {xss : List (List Int)} (h : SeenL w (.slice A n c) xss) {k : Nat} (hk : k < xss.length) : ∃ b off A' c', A = some ⟨b, off, none⟩ ∧ b < w.heap.size ∧ w.cell? ⟨b, off + k, none⟩ = some (.slice A' (xss.getD k []).length c') ∧ Seen w (.slice A' (xss.getD k []).length c') (xss.getD k []) := by
  obtain ⟨A1, c1, e, _, h⟩ := h
  simp at e
  obtain ⟨rfl, rfl, rfl⟩ := e
  obtain ⟨b, off, rfl, hlt, hc⟩ := h (by omega)
  obtain ⟨u, hu, hs⟩ := hc k hk
  obtain ⟨A', c', rfl⟩ := hs.shape
  exact ⟨b, off, A', c', rfl, hlt, hu, hs⟩

set_option maxHeartbeats 4000000 in
set_option maxRecDepth 100000 in
theorem c_IsChain (xss : List (List Int)) (v : Value) (w : World) (hl : ShortL xss) (h : SeenL w v xss) :
    Calls Try.prog 39 #[v] w fun e w' => e = .returned (.tuple #[.bool (chV xss), .bool (chB xss)]) ∧ Below w.heap.size w w' := by
  have HS := Lib.hid h
  obtain ⟨A, c, rfl, hm⟩ := h.shape
  clear h hm
  obtain ⟨hl1, hl2⟩ := hl
  have HL2 : Hid (∀ i, i < xss.length → (xss.getD i []).length ≤ 1048576) := hl2
  clear hl2
  have hB0 : Hid (Below w.heap.size w w) := Below.refl _ _
  by_cases hn : xss.length ≤ 61
  · have hgt : ¬ ((xss.length : Int) > 61) := by omega
    have EC : Hid (∀ k : Nat, k < xss.length → ∃ b off A' c', A = some ⟨b, off, none⟩ ∧ b < w.heap.size ∧ w.cell? ⟨b, off + k, none⟩ = some (.slice A' (xss.getD k []).length c') ∧ Seen w (.slice A' (xss.getD k []).length c') (xss.getD k []) ∧ Calls Try.prog 68 #[.slice A' (xss.getD k []).length c', .int .i64 120] w fun e w' => e = .returned (.bool (risB 120 (xss.getD k []))) ∧ w = w') := fun k hk => by
      obtain ⟨b, off, A', c', e, hbl, h1, h2⟩ := HS.out.rowAt hk
      have := HL2.out k hk
      exact ⟨b, off, A', c', e, hbl, h1, h2, c_areBlocksBelow 120 _ _ w (by omega) h2⟩
    have F1 : Hid (∀ k, k < xss.length → risB 120 (xss.getD k []) = false → chB xss = false ∧ chV xss = false) := fun k hk h => by
      have := chB_false hk h
      exact ⟨this, by simp [chV, this]⟩
    have F2 : Hid ((∀ k, k < xss.length → risB 120 (xss.getD k []) = true) → chB xss = true) := fun h => chB_true hn h
    have F3 : Hid (chB xss = true → chV xss = chN xss xss.length) := fun h => by simp [chV, h]
    have F4 : Hid (∀ k, k < xss.length → chX xss k = false → chN xss xss.length = false) := fun k hk h => chN_false h hk
    have F5 : Hid (∀ k, chN xss (k + 1) = (chN xss k && chX xss k)) := chN_next xss
    have F6 : Hid (chN xss 1 = true) := by show _ = _; rw [chN_next]; simp [chN, chX_zero]
    have F0 : Hid (chN xss 0 = true) := by show _ = _; simp [chN]
    have FX : Hid (∀ k, chX xss k = (xss.getD (k - 1) []).all (inL (xss.getD k []))) := fun k => rfl
    generalize chV xss = V at *
    generalize chB xss = R at *
    generalize chN xss = NN at *
    generalize chX xss = XX at *
    generalize hN : xss.length = N at *
    clear hN
    go_enter Try.func39, Try.ntmps39
    go_wp2_with fail
    go_loop [12] (fun i => ∃ k : Nat, k ≤ N ∧ i = .int .i64 k ∧ Hid (∀ j, j < k → risB 120 (xss.getD j []) = true)) (fun i => N - (RowKit.intOf i).toNat)
    case atStart => exact ⟨0, Nat.zero_le _, rfl, fun j hj => by omega⟩
    case round =>
      obtain ⟨k, hk, rfl, HK⟩ := hrel
      by_cases hlt : k < N
      · obtain ⟨b, off, A', c', rfl, hbl, q1, _, hc⟩ := EC.out k hlt
        have HC := Lib.hid hc
        have b1 : (0 : Int) ≤ (k : Int) := by omega
        have b2 : (k : Int) < (N : Int) := by omega
        clear hc
        cases hx : risB 120 (xss.getD k [])
        · obtain ⟨G1, G2⟩ := F1.out k hlt hx
          have G := Lib.hid G1
          have G' := Lib.hid G2
          rw [hx] at HC
          clear G1 G2 hx
          generalize xss.getD k [] = ys at *
          go_wp2_with fail
          refine HC.out.mono ?_
          rintro e w1 ⟨rfl, rfl⟩
          go_wp2
          go_ret2
          exact ⟨by rw [G.out, G'.out]; rfl, hB0.out⟩
        · rw [hx] at HC
          have HK2 : Hid (∀ j, j < k + 1 → risB 120 (xss.getD j []) = true) := fun j hj => by
            by_cases e : j = k
            · rw [e]; exact hx
            · exact HK.out j (by omega)
          clear hx
          generalize xss.getD k [] = ys at *
          go_wp2_with fail
          refine HC.out.mono ?_
          rintro e w1 ⟨rfl, rfl⟩
          go_wp2
          go_round
          case rel => exact ⟨k + 1, by omega, by go_num, HK2⟩
          case measure => simp [RowKit.intOf]; omega
      · obtain rfl : k = N := by omega
        have HR : Hid (R = true) := F2.out HK.out
        have HV : Hid (V = NN k) := F3.out HR.out
        have IR : Hid (∀ j, j < k → ∀ x ∈ xss.getD j [], 0 ≤ x ∧ x < (120 : Int)) := fun j hj => InN.ris (N := 120) (HK.out j hj)
        clear F1 F2 F3 HK
        go_wp2_with fail
        go_loopw [6] (fun i wr => ∃ j : Nat, 1 ≤ j ∧ (j ≤ k ∨ j = 1) ∧ i = .int .i64 j ∧ NN j = true ∧ Below w.heap.size w wr) (fun i _ => k - (RowKit.intOf i).toNat)
        case atStart => exact ⟨1, Nat.le_refl _, .inr rfl, rfl, F6.out, hB0.out⟩
        case round =>
          obtain ⟨j, hj1, hj2, rfl, hj3, hb⟩ := hrel
          have HN := Lib.hid hj3
          have HB := Lib.hid hb
          clear hj3 hb
          by_cases hlt : j < k
          · have b1 : (0 : Int) ≤ (j : Int) := by omega
            have b2 : (j : Int) < (k : Int) := by omega
            have b3 : (0 : Int) ≤ (j : Int) - 1 := by omega
            have b4 : (j : Int) - 1 < (k : Int) := by omega
            have b5 : ((j : Int) - 1).toNat = j - 1 := by omega
            have b6 : ((j : Int)).toNat = j := by omega
            obtain ⟨b, off, A1, c1, rfl, hbl, q1, hs1, _⟩ := EC.out j hlt
            obtain ⟨b', off', A0, c0, e0, _, q0, hs0, _⟩ := EC.out (j - 1) (by omega)
            simp at e0
            obtain ⟨rfl, rfl⟩ := e0
            -- T1
            have hx := FX.out j
            have b7 : (1 : Int) ≤ (j : Int) := by omega
            have b8 : (j : Int) ≤ (k : Int) := by omega
            have b9 : IntKind.i64.wrap ((j : Int) - 1) = (j : Int) - 1 := IntWalk.i64_in _ (by omega)
            have b10 : (j : Int) < (k : Int) + 1 := by omega
            have KS : Hid (∀ u : World, Below w.heap.size w u → u.cell? ⟨b, off + j, none⟩ = some (.slice A1 (xss.getD j []).length c1) ∧ u.cell? ⟨b, off + (j - 1), none⟩ = some (.slice A0 (xss.getD (j - 1) []).length c0)) := fun u hu => ⟨(hu.cell (p := ⟨b, off + j, none⟩) hbl).trans q1, (hu.cell (p := ⟨b, off + (j - 1), none⟩) hbl).trans q0⟩
            have CM : Hid (∀ u : World, Below w.heap.size w u → Calls Try.prog 70 #[.slice A1 (xss.getD j []).length c1] u fun e w' => e = .returned (.map (some u.heap.size)) ∧ SetM w' u.heap.size 120 (inL (xss.getD j [])) ∧ Below u.heap.size u w') := fun u hu => c_marksOf 120 _ _ u (by have := HL2.out j hlt; omega) (by omega) (hs1.below hu) (IR.out j hlt)
            have CA : Hid (∀ (g : Nat) (u : World), Below w.heap.size w u → SetM u g 120 (inL (xss.getD j [])) → Calls Try.prog 69 #[.map (some g), .slice A0 (xss.getD (j - 1) []).length c0] u fun e w' => e = .returned (.bool (XX j)) ∧ Below u.heap.size u w') := fun g u hu hm => by
              rw [hx]; exact c_areMarked g 120 _ _ _ u (by have := HL2.out (j - 1) (by omega); omega) (by omega) hm (hs0.below hu) (IR.out (j - 1) (by omega))
            have HBd : Hid (Below w.heap.size w wr.drew) := HB.out.drew
            have H5 := Lib.hid (F5.out j)
            have H4 := Lib.hid (F4.out j hlt)
            clear hs1 hs0 hx HL2 IR FX F4 EC
            generalize XX j = xj at *
            generalize (xss.getD j []).length = lj at *
            generalize (xss.getD (j - 1) []).length = l0 at *
            go_wp2_with fail
            go_region_held3 (fun u => u.cell? ⟨b, off + j, none⟩ = some (.slice A1 lj c1) ∧ u.cell? ⟨b, off + (j - 1), none⟩ = some (.slice A0 l0 c0))
              (first | with_reducible exact KS.out _ HBd.out | with_reducible exact KS1.out | with_reducible exact KS2.out)
              (first
                | (go_at_call 70
                   refine (CM.out _ HBd.out).mono ?_
                   rintro e w1 ⟨rfl, hsm, hb1⟩
                   have CA1 := Lib.hid (CA.out _ _ (HBd.out.trans (hb1.mono HBd.out.size)) hsm)
                   have HB1 : Hid (Below w.heap.size w w1) := HBd.out.trans (hb1.mono HBd.out.size)
                   have KS1 := Lib.hid (KS.out _ HB1.out)
                   clear hsm hb1)
                | (go_at_call 69
                   refine (CA1.out).mono ?_
                   rintro e w2 ⟨rfl, hb2⟩
                   have HB2 : Hid (Below w.heap.size w w2) := HB1.out.trans (hb2.mono HB1.out.size)
                   have KS2 := Lib.hid (KS.out _ HB2.out)
                   clear hb2))
            cases xj
            · have G := Lib.hid (H4.out rfl)
              go_wp2
              go_ret2
              exact ⟨by rw [HR.out, HV.out, G.out]; rfl, HB2.out⟩
            · have G : Hid (NN (j + 1) = true) := by show _ = _; rw [H5.out, HN.out]; rfl
              go_wp2
              go_roundw
              case rel => exact ⟨j + 1, by omega, .inl (by omega), by go_num, G.out, HB2.out⟩
              case measure => simp [RowKit.intOf]; omega
          · have hj : NN k = true := by
              rcases hj2 with h | h
              · have : j = k := by omega
                rw [← this]; exact HN.out
              · have : k = 0 ∨ k = 1 := by omega
                rcases this with rfl | rfl
                · exact F0.out
                · exact F6.out
            have HF := Lib.hid hj
            have hng : ¬ ((j : Int) < (k : Int)) := by omega
            go_wp2
            go_ret2
            exact ⟨by rw [HR.out, HV.out, HF.out]; rfl, HB.out⟩
  · have hgt : ((xss.length : Int) > 61) := by omega
    have G : chB xss = false := by unfold chB; rw [decide_eq_false hn]; rfl
    have G' : chV xss = false := by simp [chV, G]
    rw [G, G']
    clear HL2 HS G G'
    generalize xss.length = n at *
    go_enter Try.func39, Try.ntmps39
    go_wp2
    go_ret2
    exact ⟨rfl, hB0.out⟩

/-! ### The model -/
theorem c_l1MostG (a b : Int) (w : World) : Calls Try.prog 67 #[.int .i64 a, .int .i64 b] w fun e w' => e = .returned (.int .i64 (max a b)) ∧ w = w' := by
  by_cases h : b < a
  all_goals
    go_enter Try.func67, Try.ntmps67
    go_wp2
    go_ret
    exact ⟨ret_int (by omega), rfl⟩
def chP (xs ys : List Int) (t : Nat) : Bool := (xs.take t).all (inL ys)
theorem chP_next {xs ys : List Int} {t : Nat} (h : t < xs.length) : chP xs ys (t + 1) = (chP xs ys t && inL ys (xs.getD t 0)) := by
  unfold chP
  rw [List.take_succ_eq_append_getElem h, List.all_append]
  simp [List.getD_eq_getElem?_getD, h]

set_option maxHeartbeats 4000000 in
set_option maxRecDepth 100000 in
theorem c_IsChainS (xss : List (List Int)) (v : Value) (w : World) (hl : ShortL xss) (h : SeenL w v xss) :
    Calls Try.prog 38 #[v] w fun e w' => e = .returned (.tuple #[.bool (chV xss), .bool (chB xss)]) ∧ Below w.heap.size w w' := by
  have HS := Lib.hid h
  obtain ⟨A, c, rfl, hm⟩ := h.shape
  clear h hm
  obtain ⟨hl1, hl2⟩ := hl
  have HL2 : Hid (∀ i, i < xss.length → (xss.getD i []).length ≤ 1048576) := hl2
  clear hl2
  have hB0 : Hid (Below w.heap.size w w) := Below.refl _ _
  by_cases hn : xss.length ≤ 61
  · have hgt : ¬ ((xss.length : Int) > 61) := by omega
    have EC : Hid (∀ k : Nat, k < xss.length → ∃ b off A' c', A = some ⟨b, off, none⟩ ∧ b < w.heap.size ∧ w.cell? ⟨b, off + k, none⟩ = some (.slice A' (xss.getD k []).length c') ∧ Seen w (.slice A' (xss.getD k []).length c') (xss.getD k []) ∧ Calls Try.prog 66 #[.slice A' (xss.getD k []).length c', .int .i64 0, .int .i64 119] w fun e w' => e = .returned (.bool (risB 120 (xss.getD k []))) ∧ w = w') := fun k hk => by
      obtain ⟨b, off, A', c', e, hbl, h1, h2⟩ := HS.out.rowAt hk
      have := HL2.out k hk
      exact ⟨b, off, A', c', e, hbl, h1, h2, c_l1Rising 120 _ _ w (by omega) (by omega) (by omega) h2⟩
    have F1 : Hid (∀ k, k < xss.length → risB 120 (xss.getD k []) = false → chB xss = false ∧ chV xss = false) := fun k hk h => by
      have := chB_false hk h
      exact ⟨this, by simp [chV, this]⟩
    have F2 : Hid ((∀ k, k < xss.length → risB 120 (xss.getD k []) = true) → chB xss = true) := fun h => chB_true hn h
    have F3 : Hid (chB xss = true → chV xss = chN xss xss.length) := fun h => by simp [chV, h]
    have F5 : Hid (∀ k, chN xss (k + 1) = (chN xss k && chX xss k)) := chN_next xss
    have F0 : Hid (chN xss 0 = true) := by show _ = _; simp [chN]
    have FX : Hid (∀ k, chX xss k = chP (xss.getD (k - 1) []) (xss.getD k []) (xss.getD (k - 1) []).length) := fun k => by simp [chX, chP]
    generalize chV xss = V at *
    generalize chB xss = R at *
    generalize chN xss = NN at *
    generalize chX xss = XX at *
    generalize hN : xss.length = N at *
    clear hN
    go_enter Try.func38, Try.ntmps38
    go_wp2_with fail
    go_loop [4, 14] (fun q i => ∃ k : Nat, k ≤ N ∧ i = .int .i64 k ∧ q = .bool (NN k) ∧ Hid (∀ j, j < k → risB 120 (xss.getD j []) = true)) (fun _ i => N - (RowKit.intOf i).toNat)
    case atStart => exact ⟨0, Nat.zero_le _, rfl, by rw [F0.out], fun j hj => by omega⟩
    case round =>
      obtain ⟨k, hk, rfl, rfl, HK⟩ := hrel
      by_cases hlt : k < N
      · obtain ⟨b, off, A', c', rfl, hbl, q1, hs1, hc⟩ := EC.out k hlt
        have HC := Lib.hid hc
        have b1 : (0 : Int) ≤ (k : Int) := by omega
        have b2 : (k : Int) < (N : Int) := by omega
        clear hc
        cases hx : risB 120 (xss.getD k [])
        · obtain ⟨G1, G2⟩ := F1.out k hlt hx
          have G := Lib.hid G1
          have G' := Lib.hid G2
          rw [hx] at HC
          clear G1 G2 hx hs1
          generalize xss.getD k [] = ys at *
          go_wp2_with fail
          refine HC.out.mono ?_
          rintro e w1 ⟨rfl, rfl⟩
          go_wp2
          go_ret2
          exact ⟨by rw [G.out, G'.out]; rfl, hB0.out⟩
        · rw [hx] at HC
          have HK2 : Hid (∀ j, j < k + 1 → risB 120 (xss.getD j []) = true) := fun j hj => by
            by_cases e : j = k
            · rw [e]; exact hx
            · exact HK.out j (by omega)
          clear hx
          obtain ⟨b', off', A0, c0, e0, _, q0, hs0, _⟩ := EC.out (k - 1) (by omega)
          simp at e0
          obtain ⟨rfl, rfl⟩ := e0
          obtain ⟨m, hmx⟩ : ∃ m : Nat, k - 1 = m := ⟨_, rfl⟩
          have CM : Hid (Calls Try.prog 67 #[.int .i64 ((k : Int) - 1), .int .i64 0] w fun e w' => e = .returned (.int .i64 (m : Int)) ∧ w = w') := by
            have := c_l1MostG ((k : Int) - 1) 0 w
            rwa [show max ((k : Int) - 1) 0 = (m : Int) by omega] at this
          have HX := Lib.hid (FX.out k)
          have H5 := Lib.hid (F5.out k)
          have lk := HL2.out k hlt
          have CH : Hid (∀ x : Int, Calls Try.prog 59 #[.slice A' (xss.getD k []).length c', .int .i64 x] w fun e w' => e = .returned (.bool (inL (xss.getD k []) x)) ∧ w = w') := fun x => by rw [← hasI_inL]; exact c_l1Has _ x _ w (by omega) hs1
          have m1 : (0 : Int) ≤ (m : Int) := by omega
          have m2 : (m : Int) < (N : Int) := by omega
          have b9 : IntKind.i64.wrap ((k : Int) - 1) = (k : Int) - 1 := IntWalk.i64_in _ (by omega)
          have HP : Hid (∀ t, t < (xss.getD m []).length → chP (xss.getD m []) (xss.getD k []) (t + 1) = (chP (xss.getD m []) (xss.getD k []) t && inL (xss.getD k []) ((xss.getD m []).getD t 0))) := fun t ht => chP_next ht
          have HP0 : Hid (chP (xss.getD m []) (xss.getD k []) 0 = true) := rfl
          rw [hmx] at q0 hs0 HX
          obtain ⟨A0', c0', e1, hm0, hA0⟩ := hs0
          simp at e1
          obtain ⟨rfl, rfl⟩ := e1
          have E0 : Hid (∀ t : Nat, t < (xss.getD m []).length → ∃ b off, A0 = some ⟨b, off, none⟩ ∧ b < w.heap.size ∧ w.cell? ⟨b, off + t, none⟩ = some (.int .i64 ((xss.getD m []).getD t 0))) := fun t ht => by
            obtain ⟨b3, off3, rfl, hb3, hc3⟩ := hA0 (by omega)
            exact ⟨b3, off3, rfl, hb3, hc3 t ht⟩
          have l0 : (xss.getD m []).length ≤ 9223372036854775807 := by unfold maxLen at hm0; omega
          clear hA0 hm0 hs1 FX F1 EC
          generalize chP (xss.getD m []) (xss.getD k []) = PP at *
          generalize inL (xss.getD k []) = IL at *
          generalize (xss.getD k []).length = lk' at *
          generalize xss.getD m [] = zs at *
          generalize hzl : zs.length = zl at *
          go_wp2_with fail
          refine HC.out.mono ?_
          rintro e w1 ⟨rfl, rfl⟩
          go_wp2_with fail
          refine CM.out.mono ?_
          rintro e w1 ⟨rfl, rfl⟩
          go_wp2_with fail
          go_loop [4, 29] (fun q i => ∃ t : Nat, t ≤ zl ∧ i = .int .i64 t ∧ q = .bool (NN k && PP t)) (fun _ i => zl - (RowKit.intOf i).toNat)
          case atStart => exact ⟨0, Nat.zero_le _, rfl, by rw [HP0.out, Bool.and_true]⟩
          case round =>
            obtain ⟨t, ht, rfl, rfl⟩ := hrel
            by_cases hlz : t < zl
            · obtain ⟨b3, off3, rfl, hb3, p1⟩ := E0.out t hlz
              have HP1 := Lib.hid (HP.out t hlz)
              have t1 : (0 : Int) ≤ (t : Int) := by omega
              have t2 : (t : Int) < (zl : Int) := by omega
              have CHt := Lib.hid (CH.out (zs.getD t 0))
              generalize zs.getD t 0 = x at *
              cases hf : NN k && PP t
              · have G : Hid (false = (NN k && PP (t + 1))) := by show _ = _; rw [HP1.out, ← Bool.and_assoc, hf]; rfl
                clear hf
                go_wp2
                go_round
                case rel => exact ⟨t + 1, by omega, by go_num, by rw [← G.out]⟩
                case measure => simp [RowKit.intOf]; omega
              · have G : Hid (IL x = (NN k && PP (t + 1))) := by show _ = _; rw [HP1.out, ← Bool.and_assoc, hf]; rfl
                clear hf
                go_wp2_with fail
                refine CHt.out.mono ?_
                rintro e w1 ⟨rfl, rfl⟩
                go_wp2
                go_round
                case rel => exact ⟨t + 1, by omega, by go_num, by rw [← G.out]⟩
                case measure => simp [RowKit.intOf]; omega
            · obtain rfl : t = zl := by omega
              have G : Hid ((NN k && PP t) = NN (k + 1)) := by show _ = _; rw [H5.out, HX.out]
              go_wp2
              go_round
              case rel => exact ⟨k + 1, by omega, by go_num, by rw [G.out], HK2⟩
              case measure => simp [RowKit.intOf]; omega
      · obtain rfl : k = N := by omega
        have HR : Hid (R = true) := F2.out HK.out
        have HV : Hid (V = NN k) := F3.out HR.out
        go_wp2
        go_ret2
        exact ⟨by rw [HR.out, HV.out]; rfl, hB0.out⟩
  · have hgt : ((xss.length : Int) > 61) := by omega
    have G : chB xss = false := by unfold chB; rw [decide_eq_false hn]; rfl
    have G' : chV xss = false := by simp [chV, G]
    rw [G, G']
    clear HL2 HS G G'
    generalize xss.length = n at *
    go_enter Try.func38, Try.ntmps38
    go_wp2
    go_ret2
    exact ⟨rfl, hB0.out⟩
end Go.Proofs.Ytoakpepoopjlaaa
