/-
  Contracts: two models compared; a list of numbers within bounds; a valid model, in the program and in the model of it.
-/
import Derived.Test.YtdgkgnlilcbggaaM2
namespace Go.Proofs.Ytdgkgnlilcbggaa
open Go.RowKit

def allB (hi : Int) (xs : List Int) : Bool := xs.all fun t => decide (0 ≤ t ∧ t ≤ hi)
theorem getD_mem {xs : List Int} {k : Nat} (hk : k < xs.length) : xs.getD k 0 ∈ xs := by
  rw [List.getD_eq_getElem?_getD, List.getElem?_eq_getElem hk]; exact List.getElem_mem hk
theorem all_false {hi : Int} {xs : List Int} {k : Nat} (hk : k < xs.length) (h : ¬ (0 ≤ xs.getD k 0 ∧ xs.getD k 0 ≤ hi)) : allB hi xs = false := by
  unfold allB
  rw [List.all_eq_false]
  exact ⟨_, getD_mem hk, by simpa using h⟩
theorem all_true {hi : Int} {xs : List Int} (h : ∀ k : Nat, k < xs.length → 0 ≤ xs.getD k 0 ∧ xs.getD k 0 ≤ hi) : allB hi xs = true := by
  unfold allB
  rw [List.all_eq_true]
  intro t ht
  obtain ⟨k, hk, rfl⟩ := List.mem_iff_getElem.1 ht
  have := h k hk
  rw [List.getD_eq_getElem?_getD, List.getElem?_eq_getElem hk] at this
  simpa using this
theorem all_at {hi : Int} {xs : List Int} (h : allB hi xs = true) {k : Nat} (hk : k < xs.length) : 0 ≤ xs.getD k 0 ∧ xs.getD k 0 ≤ hi := by
  unfold allB at h
  rw [List.all_eq_true] at h
  simpa using h _ (getD_mem hk)
def areB (n hi : Int) (xs : List Int) : Bool := decide ((xs.length : Int) = n) && allB hi xs

set_option maxHeartbeats 1000000 in
theorem c_l1All (xs : List Int) (v : Value) (hi : Int) (w : World) (hl : xs.length ≤ 4000000) (h : Seen w v xs) :
    Calls Try.prog 35 #[v, .int .i64 0, .int .i64 hi] w fun e w' => e = .returned (.bool (allB hi xs)) ∧ w = w' := by
  obtain ⟨A, c, rfl, hm, hA⟩ := h
  clear hm
  by_cases h0 : xs.length = 0
  · obtain rfl : xs = [] := List.eq_nil_of_length_eq_zero h0
    clear hA h0 hl
    simp only [List.length_nil]
    go_enter Try.func35, Try.ntmps35
    go_wp2
    go_rounds 1
    go_ret
    exact ⟨rfl, rfl⟩
  · obtain ⟨b, off, rfl, hb, hc⟩ := hA (by omega)
    have E1 : Hid (∀ k : Nat, k < xs.length → w.cell? ⟨b, off + k, none⟩ = some (.int .i64 (xs.getD k 0))) := hc
    have F1 : Hid (∀ k : Nat, k < xs.length → ¬ (0 ≤ xs.getD k 0 ∧ xs.getD k 0 ≤ hi) → allB hi xs = false) := fun k hk h => all_false hk h
    have F2 : Hid ((∀ k : Nat, k < xs.length → 0 ≤ xs.getD k 0 ∧ xs.getD k 0 ≤ hi) → allB hi xs = true) := all_true
    clear hA hc hb
    generalize allB hi xs = R at *
    generalize xs.length = n at *
    go_enter Try.func35, Try.ntmps35
    go_wp2_with fail
    go_loop [11] (fun i => ∃ k : Nat, k ≤ n ∧ i = .int .i64 k ∧ Hid (∀ j : Nat, j < k → 0 ≤ xs.getD j 0 ∧ xs.getD j 0 ≤ hi)) (fun i => n - (intOf i).toNat)
    case atStart => exact ⟨0, Nat.zero_le _, rfl, fun j hj => by omega⟩
    case round =>
      obtain ⟨k, hk, rfl, HK⟩ := hrel
      by_cases hlt : k < n
      · have q1 := E1.out k hlt
        have f1 : Hid (¬ (0 ≤ xs.getD k 0 ∧ xs.getD k 0 ≤ hi) → R = false) := F1.out k hlt
        have G1 : Hid ((0 ≤ xs.getD k 0 ∧ xs.getD k 0 ≤ hi) → ∀ j : Nat, j < k + 1 → 0 ≤ xs.getD j 0 ∧ xs.getD j 0 ≤ hi) := fun h j hj => by
          by_cases e : j = k
          · rw [e]; exact h
          · exact HK.out j (by omega)
        generalize xs.getD k 0 = t at q1 f1 G1
        have b1 : (0 : Int) ≤ (k : Int) := by omega
        have b2 : (k : Int) < (n : Int) := by omega
        go_wp2_with fail
        refine (c_l1In _ _ _ _).mono ?_
        rintro e w1 ⟨rfl, rfl⟩
        by_cases ht : 0 ≤ t ∧ t ≤ hi
        · rw [decide_eq_true ht]
          have G2 := Lib.hid (G1.out ht)
          clear ht
          go_wp2
          go_round
          case rel => exact ⟨k + 1, by omega, by go_num, G2⟩
          case measure => simp [intOf]; omega
        · rw [decide_eq_false ht]
          have G2 := Lib.hid (f1.out ht)
          clear ht
          go_wp2
          go_ret
          exact ⟨ret_bool G2.out.symm, rfl⟩
      · obtain rfl : k = n := by omega
        go_wp2
        go_ret
        exact ⟨ret_bool (F2.out HK.out).symm, rfl⟩

end Go.Proofs.Ytdgkgnlilcbggaa
