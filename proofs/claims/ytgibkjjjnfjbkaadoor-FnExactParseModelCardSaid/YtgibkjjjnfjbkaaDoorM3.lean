/-
  Contracts: two models compared; a list of numbers within bounds; a valid model, in the program and in the model of it.
-/
import Derived.Test.YtgibkjjjnfjbkaaDoorM2
namespace Go.Proofs.YtgibkjjjnfjbkaaDoor
open Go.RowKit

set_option maxHeartbeats 1000000 in
theorem c_eqModel (x y z : Int) (v1 v2 v3 u1 u2 u3 : Value) (ts gs rs : List Int) (B1 B2 : Nat) (w : World) (l1 : ts.length ≤ 4000000) (l2 : gs.length ≤ 4000000) (l3 : rs.length ≤ 4000000) (h : Mod w B1 v1 v2 v3 ts gs rs) (h' : Mod w B2 u1 u2 u3 ts gs rs) :
    Calls Tryd.prog 6 #[.agg #[.int .i64 x, .int .i64 y, .int .i64 z, v1, v2, v3], .agg #[.int .i64 x, .int .i64 y, .int .i64 z, u1, u2, u3]] w fun e w' => e = .returned (.bool true) ∧ Below w.heap.size w w' := by
  have H := Lib.hid h
  have H' := Lib.hid h'
  obtain ⟨A1, c1, rfl⟩ := h.t.shape
  obtain ⟨A2, c2, rfl⟩ := h.g.shape
  obtain ⟨A3, c3, rfl⟩ := h.r.shape
  obtain ⟨E1, d1, rfl⟩ := h'.t.shape
  obtain ⟨E2, d2, rfl⟩ := h'.g.shape
  obtain ⟨E3, d3, rfl⟩ := h'.r.shape
  clear h h'
  go_enter Tryd.func6, Tryd.ntmps6
  go_wp2_with fail
  refine (c_eqGrid _ _ _ _).mono ?_
  rintro e w1 ⟨rfl, hb1⟩
  obtain ⟨hc1, hf1⟩ := bcell hb1
  have s1 := hb1.size
  simp at s1 hc1 hf1
  have p10 : w.heap.size < w1.heap.size := by omega
  have p11 : w.heap.size + 1 < w1.heap.size := by omega
  have HB1 : Hid (Below w.heap.size w w1) := (((Below.refl _ _).alloc (Nat.le_refl _) _).alloc (by simp) _).trans (hb1.mono (by simp; omega))
  clear hb1
  go_wp2_with fail
  refine (c_eqIntS ts _ _ B1 B2 _ l1 (H.out.t.below HB1.out) (H'.out.t.below HB1.out)).mono ?_
  rintro e w2 ⟨rfl, hb2⟩
  obtain ⟨hc2, hf2⟩ := bcell hb2
  have s2 := hb2.size
  have p20 : w.heap.size < w2.heap.size := by omega
  have p21 : w.heap.size + 1 < w2.heap.size := by omega
  have HB2 : Hid (Below w.heap.size w w2) := HB1.out.trans (hb2.mono (by omega))
  clear hb2
  go_wp2_with fail
  refine (c_eqIntS gs _ _ B1 B2 _ l2 (H.out.g.below HB2.out) (H'.out.g.below HB2.out)).mono ?_
  rintro e w3 ⟨rfl, hb3⟩
  obtain ⟨hc3, hf3⟩ := bcell hb3
  have s3 := hb3.size
  have p30 : w.heap.size < w3.heap.size := by omega
  have p31 : w.heap.size + 1 < w3.heap.size := by omega
  have HB3 : Hid (Below w.heap.size w w3) := HB2.out.trans (hb3.mono (by omega))
  clear hb3
  go_wp2_with fail
  refine (c_eqIntS rs _ _ B1 B2 _ l3 (H.out.r.below HB3.out) (H'.out.r.below HB3.out)).mono ?_
  rintro e w4 ⟨rfl, hb4⟩
  go_wp2
  go_ret
  exact ⟨rfl, HB3.out.trans (hb4.mono (by omega))⟩

def allB (hi : Int) (xs : List Int) : Bool := xs.all fun t => decide (0 ≤ t ∧ t ≤ hi)
theorem getD_mem {xs : List Int} {k : Nat} (hk : k < xs.length) : xs.getD k 0 ∈ xs := by
  rw [List.getD_eq_getElem?_getD, List.getElem?_eq_getElem hk]; exact List.getElem_mem hk
theorem all_false {hi : Int} {xs : List Int} {k : Nat} (hk : k < xs.length) (h : ¬ (0 ≤ xs.getD k 0 ∧ xs.getD k 0 ≤ hi)) : allB hi xs = false := by
  unfold allB
  rw [List.all_eq_false]
  exact ⟨_, getD_mem hk, by simpa using h⟩
theorem all_true {hi : Int} {xs : List Int} (h : ∀ k : Nat, k < xs.length → 0 ≤ xs.getD k 0 ∧ xs.getD k 0 ≤ hi) : allB hi xs = true := by
  unfold allB
  rw [List.all_eq_true]
  intro t ht
  obtain ⟨k, hk, rfl⟩ := List.mem_iff_getElem.1 ht
  have := h k hk
  rw [List.getD_eq_getElem?_getD, List.getElem?_eq_getElem hk] at this
  simpa using this
theorem all_at {hi : Int} {xs : List Int} (h : allB hi xs = true) {k : Nat} (hk : k < xs.length) : 0 ≤ xs.getD k 0 ∧ xs.getD k 0 ≤ hi := by
  unfold allB at h
  rw [List.all_eq_true] at h
  simpa using h _ (getD_mem hk)
def areB (n hi : Int) (xs : List Int) : Bool := decide ((xs.length : Int) = n) && allB hi xs

set_option maxHeartbeats 1000000 in
theorem c_l1All (xs : List Int) (v : Value) (hi : Int) (w : World) (hl : xs.length ≤ 4000000) (h : Seen w v xs) :
    Calls Tryd.prog 23 #[v, .int .i64 0, .int .i64 hi] w fun e w' => e = .returned (.bool (allB hi xs)) ∧ w = w' := by
  obtain ⟨A, c, rfl, hm, hA⟩ := h
  clear hm
  by_cases h0 : xs.length = 0
  · obtain rfl : xs = [] := List.eq_nil_of_length_eq_zero h0
    clear hA h0 hl
    simp only [List.length_nil]
    go_enter Tryd.func23, Tryd.ntmps23
    go_wp2
    go_rounds 1
    go_ret
    exact ⟨rfl, rfl⟩
  · obtain ⟨b, off, rfl, hb, hc⟩ := hA (by omega)
    have E1 : Hid (∀ k : Nat, k < xs.length → w.cell? ⟨b, off + k, none⟩ = some (.int .i64 (xs.getD k 0))) := hc
    have F1 : Hid (∀ k : Nat, k < xs.length → ¬ (0 ≤ xs.getD k 0 ∧ xs.getD k 0 ≤ hi) → allB hi xs = false) := fun k hk h => all_false hk h
    have F2 : Hid ((∀ k : Nat, k < xs.length → 0 ≤ xs.getD k 0 ∧ xs.getD k 0 ≤ hi) → allB hi xs = true) := all_true
    clear hA hc hb
    generalize allB hi xs = R at *
    generalize xs.length = n at *
    go_enter Tryd.func23, Tryd.ntmps23
    go_wp2_with fail
    go_loop [11] (fun i => ∃ k : Nat, k ≤ n ∧ i = .int .i64 k ∧ Hid (∀ j : Nat, j < k → 0 ≤ xs.getD j 0 ∧ xs.getD j 0 ≤ hi)) (fun i => n - (intOf i).toNat)
    case atStart => exact ⟨0, Nat.zero_le _, rfl, fun j hj => by omega⟩
    case round =>
      obtain ⟨k, hk, rfl, HK⟩ := hrel
      by_cases hlt : k < n
      · have q1 := E1.out k hlt
        have f1 : Hid (¬ (0 ≤ xs.getD k 0 ∧ xs.getD k 0 ≤ hi) → R = false) := F1.out k hlt
        have G1 : Hid ((0 ≤ xs.getD k 0 ∧ xs.getD k 0 ≤ hi) → ∀ j : Nat, j < k + 1 → 0 ≤ xs.getD j 0 ∧ xs.getD j 0 ≤ hi) := fun h j hj => by
          by_cases e : j = k
          · rw [e]; exact h
          · exact HK.out j (by omega)
        generalize xs.getD k 0 = t at q1 f1 G1
        have b1 : (0 : Int) ≤ (k : Int) := by omega
        have b2 : (k : Int) < (n : Int) := by omega
        go_wp2_with fail
        refine (c_l1In _ _ _ _).mono ?_
        rintro e w1 ⟨rfl, rfl⟩
        by_cases ht : 0 ≤ t ∧ t ≤ hi
        · rw [decide_eq_true ht]
          have G2 := Lib.hid (G1.out ht)
          clear ht
          go_wp2
          go_round
          case rel => exact ⟨k + 1, by omega, by go_num, G2⟩
          case measure => simp [intOf]; omega
        · rw [decide_eq_false ht]
          have G2 := Lib.hid (f1.out ht)
          clear ht
          go_wp2
          go_ret
          exact ⟨ret_bool G2.out.symm, rfl⟩
      · obtain rfl : k = n := by omega
        go_wp2
        go_ret
        exact ⟨ret_bool (F2.out HK.out).symm, rfl⟩

set_option maxHeartbeats 1000000 in
theorem c_areNumbers (xs : List Int) (v : Value) (m hi : Int) (w : World) (hl : xs.length ≤ 4000000) (h : Seen w v xs) :
    Calls Tryd.prog 40 #[v, .int .i64 m, .int .i64 hi] w fun e w' => e = .returned (.bool (areB m hi xs)) ∧ w = w' := by
  obtain ⟨A, c, rfl, hm, hA⟩ := h
  clear hm
  unfold areB
  by_cases hq : (xs.length : Int) = m
  · subst hq
    rw [decide_eq_true rfl, Bool.true_and]
    by_cases h0 : xs.length = 0
    · obtain rfl : xs = [] := List.eq_nil_of_length_eq_zero h0
      clear hA h0 hl
      simp only [List.length_nil]
      go_enter Tryd.func40, Tryd.ntmps40
      go_wp2
      go_rounds 1
      go_ret
      exact ⟨rfl, rfl⟩
    · obtain ⟨b, off, rfl, hb, hc⟩ := hA (by omega)
      have E1 : Hid (∀ k : Nat, k < xs.length → w.cell? ⟨b, off + k, none⟩ = some (.int .i64 (xs.getD k 0))) := hc
      have F1 : Hid (∀ k : Nat, k < xs.length → ¬ (0 ≤ xs.getD k 0 ∧ xs.getD k 0 ≤ hi) → allB hi xs = false) := fun k hk h => all_false hk h
      have F2 : Hid ((∀ k : Nat, k < xs.length → 0 ≤ xs.getD k 0 ∧ xs.getD k 0 ≤ hi) → allB hi xs = true) := all_true
      clear hA hc hb
      generalize allB hi xs = R at *
      have hne : ((xs.length : Int) != (xs.length : Int)) = false := by simp
      generalize xs.length = n at *
      go_enter Tryd.func40, Tryd.ntmps40
      go_wp2_with fail
      go_loop [15] (fun i => ∃ k : Nat, k ≤ n ∧ i = .int .i64 k ∧ Hid (∀ j : Nat, j < k → 0 ≤ xs.getD j 0 ∧ xs.getD j 0 ≤ hi)) (fun i => n - (intOf i).toNat)
      case atStart => exact ⟨0, Nat.zero_le _, rfl, fun j hj => by omega⟩
      case round =>
        obtain ⟨k, hk, rfl, HK⟩ := hrel
        by_cases hlt : k < n
        · have q1 := E1.out k hlt
          have f1 : Hid (¬ (0 ≤ xs.getD k 0 ∧ xs.getD k 0 ≤ hi) → R = false) := F1.out k hlt
          have G1 : Hid ((0 ≤ xs.getD k 0 ∧ xs.getD k 0 ≤ hi) → ∀ j : Nat, j < k + 1 → 0 ≤ xs.getD j 0 ∧ xs.getD j 0 ≤ hi) := fun h j hj => by
            by_cases e : j = k
            · rw [e]; exact h
            · exact HK.out j (by omega)
          generalize xs.getD k 0 = t at q1 f1 G1
          have b1 : (0 : Int) ≤ (k : Int) := by omega
          have b2 : (k : Int) < (n : Int) := by omega
          by_cases t1 : 0 ≤ t
          · by_cases t2 : t ≤ hi
            · have G2 := Lib.hid (G1.out ⟨t1, t2⟩)
              go_wp2
              go_round
              case rel => exact ⟨k + 1, by omega, by go_num, G2⟩
              case measure => simp [intOf]; omega
            · have G2 := Lib.hid (f1.out (by omega))
              go_wp2
              go_ret
              exact ⟨ret_bool G2.out.symm, rfl⟩
          · have G2 := Lib.hid (f1.out (by omega))
            go_wp2
            go_ret
            exact ⟨ret_bool G2.out.symm, rfl⟩
        · obtain rfl : k = n := by omega
          go_wp2
          go_ret
          exact ⟨ret_bool (F2.out HK.out).symm, rfl⟩
  · rw [decide_eq_false hq, Bool.false_and]
    have hq' : ((xs.length : Int) != m) = true := by simpa using hq
    clear hA
    generalize xs.length = n at *
    go_enter Tryd.func40, Tryd.ntmps40
    go_wp2
    go_ret
    exact ⟨rfl, rfl⟩
end Go.Proofs.YtgibkjjjnfjbkaaDoor
