/-
  Contracts: rising lists of block numbers, in the program and in the model of it.
-/
import Derived.Test.YtfpjodoimfbadaaM5
import Derived.Test.YtfpjodoimfbadaaS1
import Derived.BigQuiet
namespace Go.Proofs.Ytfpjodoimfbadaa
open Go.RowKit
set_option linter.unusedVariables false

/-- A grid that lies in a block of memory. -/
structure Box3 (w : World) (b : Nat) (x y z : Int) : Prop where
  lt : b < w.heap.size
  c0 : w.cell? ⟨b, 0, none⟩ = some (.int .i64 x)
  c1 : w.cell? ⟨b, 1, none⟩ = some (.int .i64 y)
  c2 : w.cell? ⟨b, 2, none⟩ = some (.int .i64 z)
theorem Box3.below {w w' : World} {b : Nat} {x y z : Int} (h : Box3 w b x y z) (hb : Below w.heap.size w w') : Box3 w' b x y z :=
  ⟨Nat.lt_of_lt_of_le h.lt hb.size, by rw [hb.cell (p := ⟨b, 0, none⟩) h.lt]; exact h.c0, by rw [hb.cell (p := ⟨b, 1, none⟩) h.lt]; exact h.c1, by rw [hb.cell (p := ⟨b, 2, none⟩) h.lt]; exact h.c2⟩
theorem Box3.new (w : World) (x y z : Int) (T : TypeId) : Box3 (w.alloc (.cells #[.int .i64 x, .int .i64 y, .int .i64 z] T)) w.heap.size x y z := ⟨by simp, by simp, by simp, by simp⟩

/-- A model that lies in a block of memory. -/
structure Box6 (w : World) (b : Nat) (x y z : Int) (v1 v2 v3 : Value) : Prop where
  lt : b < w.heap.size
  c0 : w.cell? ⟨b, 0, none⟩ = some (.int .i64 x)
  c1 : w.cell? ⟨b, 1, none⟩ = some (.int .i64 y)
  c2 : w.cell? ⟨b, 2, none⟩ = some (.int .i64 z)
  c3 : w.cell? ⟨b, 3, none⟩ = some v1
  c4 : w.cell? ⟨b, 4, none⟩ = some v2
  c5 : w.cell? ⟨b, 5, none⟩ = some v3
theorem Box6.below {w w' : World} {b : Nat} {x y z : Int} {v1 v2 v3 : Value} (h : Box6 w b x y z v1 v2 v3) (hb : Below w.heap.size w w') : Box6 w' b x y z v1 v2 v3 :=
  ⟨Nat.lt_of_lt_of_le h.lt hb.size, by rw [hb.cell (p := ⟨b, 0, none⟩) h.lt]; exact h.c0, by rw [hb.cell (p := ⟨b, 1, none⟩) h.lt]; exact h.c1, by rw [hb.cell (p := ⟨b, 2, none⟩) h.lt]; exact h.c2,
    by rw [hb.cell (p := ⟨b, 3, none⟩) h.lt]; exact h.c3, by rw [hb.cell (p := ⟨b, 4, none⟩) h.lt]; exact h.c4, by rw [hb.cell (p := ⟨b, 5, none⟩) h.lt]; exact h.c5⟩
theorem Box6.new (w : World) (x y z : Int) (v1 v2 v3 : Value) (T : TypeId) : Box6 (w.alloc (.cells #[.int .i64 x, .int .i64 y, .int .i64 z, v1, v2, v3] T)) w.heap.size x y z v1 v2 v3 := ⟨by simp, by simp, by simp, by simp, by simp, by simp, by simp⟩

def RisTo (n : Int) (xs : List Int) (k : Nat) : Prop := ∀ j : Nat, j < k → prevOf xs j < xs.getD j 0 ∧ xs.getD j 0 < n
theorem RisTo.zero (n : Int) (xs : List Int) : RisTo n xs 0 := fun j hj => by omega
theorem RisTo.succ {n : Int} {xs : List Int} {k : Nat} (h : RisTo n xs k) (hk : prevOf xs k < xs.getD k 0 ∧ xs.getD k 0 < n) : RisTo n xs (k + 1) := fun j hj => by
  by_cases e : j = k
  · rw [e]; exact hk
  · exact h j (by omega)

set_option maxHeartbeats 1000000 in
theorem c_areBlocksBelow (m : Int) (bs : List Int) (v : Value) (w : World) (hl : bs.length ≤ 4000000) (h : Seen w v bs) :
    Calls Try.prog 73 #[v, .int .i64 m] w fun e w' => e = .returned (.bool (risB m bs)) ∧ w = w' := by
  obtain ⟨A, c, rfl, hm, hA⟩ := h
  clear hm
  by_cases h0 : bs.length = 0
  · obtain rfl : bs = [] := List.eq_nil_of_length_eq_zero h0
    clear hA h0 hl
    simp only [List.length_nil]
    go_enter Try.func73, Try.ntmps73
    go_wp2
    go_rounds 1
    go_ret
    exact ⟨rfl, rfl⟩
  · obtain ⟨b, off, rfl, hb, hc⟩ := hA (by omega)
    have E1 : Hid (∀ k : Nat, k < bs.length → w.cell? ⟨b, off + k, none⟩ = some (.int .i64 (bs.getD k 0))) := hc
    have F1 : Hid (∀ k : Nat, k < bs.length → ¬ (prevOf bs k < bs.getD k 0 ∧ bs.getD k 0 < m) → risB m bs = false) := fun k hk h => ris_false hk h
    have F2 : Hid (RisTo m bs bs.length → risB m bs = true) := ris_true
    clear hA hc hb
    generalize hR : risB m bs = R at *
    clear hR
    generalize hn : bs.length = n at *
    clear hn
    go_enter Try.func73, Try.ntmps73
    go_wp2_with fail
    go_loop [5, 10] (fun q i => ∃ k : Nat, k ≤ n ∧ i = .int .i64 k ∧ q = .int .i64 (prevOf bs k) ∧ Hid (RisTo m bs k)) (fun _ i => n - (intOf i).toNat)
    case atStart => exact ⟨0, Nat.zero_le _, rfl, rfl, RisTo.zero _ _⟩
    case round =>
      obtain ⟨k, hk, rfl, rfl, HK⟩ := hrel
      by_cases hlt : k < n
      · have q1 := E1.out k hlt
        have f1 : Hid (¬ (prevOf bs k < bs.getD k 0 ∧ bs.getD k 0 < m) → R = false) := F1.out k hlt
        have g1 : Hid ((prevOf bs k < bs.getD k 0 ∧ bs.getD k 0 < m) → RisTo m bs (k + 1)) := fun h => HK.out.succ h
        have g2 : Hid (bs.getD k 0 = prevOf bs (k + 1)) := rfl
        generalize prevOf bs k = p at *
        generalize bs.getD k 0 = t at *
        have b1 : (0 : Int) ≤ (k : Int) := by omega
        have b2 : (k : Int) < (n : Int) := by omega
        by_cases t1 : t ≤ p
        · have G := Lib.hid (f1.out (by omega))
          go_wp2
          go_ret
          exact ⟨ret_bool G.out.symm, rfl⟩
        · by_cases t2 : t < m
          · have G := Lib.hid (g1.out ⟨by omega, t2⟩)
            go_wp2
            go_round
            case rel => exact ⟨k + 1, by omega, by go_num, by rw [g2.out], G⟩
            case measure => simp [intOf]; omega
          · have G := Lib.hid (f1.out (by omega))
            go_wp2
            go_ret
            exact ⟨ret_bool G.out.symm, rfl⟩
      · obtain rfl : k = n := by omega
        have G := Lib.hid (F2.out HK.out)
        go_wp2
        go_ret
        exact ⟨ret_bool G.out.symm, rfl⟩

set_option maxHeartbeats 1000000 in
theorem c_l1Rising (n : Int) (bs : List Int) (v : Value) (w : World) (hn0 : 0 ≤ n) (hn1 : n ≤ 4000000) (hl : bs.length ≤ 4000000) (h : Seen w v bs) :
    Calls Try.prog 65 #[v, .int .i64 0, .int .i64 (n - 1)] w fun e w' => e = .returned (.bool (risB n bs)) ∧ w = w' := by
  obtain ⟨A, c, rfl, hm, hA⟩ := h
  clear hm
  by_cases h0 : bs.length = 0
  · obtain rfl : bs = [] := List.eq_nil_of_length_eq_zero h0
    clear hA h0 hl
    simp only [List.length_nil]
    go_enter Try.func65, Try.ntmps65
    go_wp2
    go_rounds 1
    go_ret
    exact ⟨rfl, rfl⟩
  · obtain ⟨b, off, rfl, hb, hc⟩ := hA (by omega)
    have E1 : Hid (∀ k : Nat, k < bs.length → w.cell? ⟨b, off + k, none⟩ = some (.int .i64 (bs.getD k 0))) := hc
    have F1 : Hid (∀ k : Nat, k < bs.length → ¬ (prevOf bs k < bs.getD k 0 ∧ bs.getD k 0 < n) → risB n bs = false) := fun k hk h => ris_false hk h
    have F2 : Hid (RisTo n bs bs.length → risB n bs = true) := ris_true
    have F3 : Hid (∀ k : Nat, RisTo n bs k → -1 ≤ prevOf bs k) := by
      intro k hk
      cases k with
      | zero => simp [prevOf]
      | succ k =>
        have : ∀ j : Nat, j < k + 1 → -1 ≤ prevOf bs j ∧ 0 ≤ bs.getD j 0 := by
          intro j
          induction j with
          | zero => intro hj; have := (hk 0 hj).1; simp only [prevOf] at this ⊢; omega
          | succ j ih => intro hj; have h1 := (hk (j + 1) hj).1; have h2 := ih (by omega); simp only [prevOf] at h1 ⊢; omega
        have := this k (by omega)
        simp only [prevOf]; omega
    clear hA hc hb
    generalize hR : risB n bs = R at *
    clear hR
    generalize hN : bs.length = N at *
    clear hN
    go_enter Try.func65, Try.ntmps65
    go_wp2_with fail
    go_loop [11] (fun i => ∃ k : Nat, k ≤ N ∧ i = .int .i64 k ∧ Hid (RisTo n bs k)) (fun i => N - (intOf i).toNat)
    case atStart => exact ⟨0, Nat.zero_le _, rfl, RisTo.zero _ _⟩
    case round =>
      obtain ⟨k, hk, rfl, HK⟩ := hrel
      by_cases hlt : k < N
      · have q1 := E1.out k hlt
        have f1 : Hid (¬ (prevOf bs k < bs.getD k 0 ∧ bs.getD k 0 < n) → R = false) := F1.out k hlt
        have g1 : Hid ((prevOf bs k < bs.getD k 0 ∧ bs.getD k 0 < n) → RisTo n bs (k + 1)) := fun h => HK.out.succ h
        have f3 := F3.out k HK.out
        cases k with
        | zero =>
          have g0 : Hid (prevOf bs 0 = -1) := rfl
          rw [g0.out] at f1 g1 f3
          rw [Nat.add_zero] at q1
          have b2 : (0 : Int) < (N : Int) := by omega
          have b3 : 0 < N := by omega
          simp only [Int.natCast_zero]
          generalize bs.getD 0 0 = t at *
          by_cases ht : 0 ≤ t ∧ t ≤ n - 1
          · have G := Lib.hid (g1.out (by omega))
            go_wp2_with fail
            refine (c_l1In _ _ _ _).mono ?_
            rintro e w1 ⟨rfl, rfl⟩
            rw [decide_eq_true ht]
            go_wp2
            go_round
            case rel => exact ⟨1, by omega, by go_num, G.out⟩
            case measure => simp [intOf]; omega
          · have G := Lib.hid (f1.out (by omega))
            go_wp2_with fail
            refine (c_l1In _ _ _ _).mono ?_
            rintro e w1 ⟨rfl, rfl⟩
            rw [decide_eq_false ht]
            go_wp2
            go_ret
            exact ⟨ret_bool G.out.symm, rfl⟩
        | succ k =>
          have q0 := E1.out k (by omega)
          have g0 : Hid (prevOf bs (k + 1) = bs.getD k 0) := rfl
          rw [g0.out] at f1 g1 f3
          generalize bs.getD (k + 1) 0 = t at *
          generalize bs.getD k 0 = p at *
          have e1 : Hid (((k + 1 : Nat) : Int) - 1 = (k : Int)) := by unfold Hid; omega
          have b1 : (0 : Int) ≤ ((k + 1 : Nat) : Int) := by omega
          have b2 : ((k + 1 : Nat) : Int) < (N : Int) := by omega
          have b3 : (0 : Int) ≤ ((k + 1 : Nat) : Int) - 1 := by omega
          have b4 : ((k + 1 : Nat) : Int) - 1 < (N : Int) := by omega
          have b5 : (0 : Int) < ((k + 1 : Nat) : Int) := by omega
          by_cases ht : 0 ≤ t ∧ t ≤ n - 1
          · go_wp2_with fail
            refine (c_l1In _ _ _ _).mono ?_
            rintro e w1 ⟨rfl, rfl⟩
            rw [decide_eq_true ht]
            by_cases hp : p < t
            · have G := Lib.hid (g1.out (by omega))
              have hp' : ¬ t ≤ p := by omega
              go_wp2
              go_round
              case rel => exact ⟨k + 1 + 1, by omega, by go_num, G.out⟩
              case measure => simp [intOf]; omega
            · have G := Lib.hid (f1.out (by omega))
              have hp' : t ≤ p := by omega
              go_wp2
              go_ret
              exact ⟨ret_bool G.out.symm, rfl⟩
          · have G := Lib.hid (f1.out (by omega))
            go_wp2_with fail
            refine (c_l1In _ _ _ _).mono ?_
            rintro e w1 ⟨rfl, rfl⟩
            rw [decide_eq_false ht]
            go_wp2
            go_ret
            exact ⟨ret_bool G.out.symm, rfl⟩
      · obtain rfl : k = N := by omega
        have G := Lib.hid (F2.out HK.out)
        go_wp2
        go_ret
        exact ⟨ret_bool G.out.symm, rfl⟩
end Go.Proofs.Ytfpjodoimfbadaa
