/-
  Contracts: cuts and their values, in the program and in the model of it.
-/
import Derived.Test.YtfpjodoimfbadaaZD
import Derived.Test.YtfpjodoimfbadaaN5
import Derived.Test.YtfpjodoimfbadaaM6
import Derived.Test.YtfpjodoimfbadaaAP
import Derived.IntWalk
namespace Go.Proofs.Ytfpjodoimfbadaa
open Go.RowKit
set_option linter.unusedVariables false

def hasI (ys : List Int) (x : Int) : Bool := decide (x ∈ ys)
theorem hasI_hit {ys : List Int} {k : Nat} (hk : k < ys.length) : hasI ys (ys.getD k 0) = true := by
  unfold hasI
  rw [List.getD_eq_getElem?_getD, List.getElem?_eq_getElem hk]
  exact decide_eq_true (List.getElem_mem hk)
theorem hasI_miss {ys : List Int} {x : Int} (h : ∀ k, k < ys.length → ys.getD k 0 ≠ x) : hasI ys x = false := by
  unfold hasI
  refine decide_eq_false (fun hm => ?_)
  obtain ⟨k, hk, e⟩ := List.getElem_of_mem hm
  exact h k hk (by rw [List.getD_eq_getElem?_getD, List.getElem?_eq_getElem hk]; exact e)

set_option maxHeartbeats 2000000 in
theorem c_l1Has (ys : List Int) (x : Int) (v : Value) (w : World) (hl : ys.length ≤ 4000000) (h : Seen w v ys) :
    Calls Try.prog 35 #[v, .int .i64 x] w fun e w' => e = .returned (.bool (hasI ys x)) ∧ w = w' := by
  obtain ⟨A, c, rfl, _, hA⟩ := h
  have E1 : Hid (∀ k : Nat, k < ys.length → ∃ b off, A = some ⟨b, off, none⟩ ∧ w.cell? ⟨b, off + k, none⟩ = some (.int .i64 (ys.getD k 0))) := fun k hk => by
    obtain ⟨b, off, rfl, _, hc⟩ := hA (by omega)
    exact ⟨b, off, rfl, hc k hk⟩
  have H1 : Hid (∀ k, k < ys.length → ys.getD k 0 = x → hasI ys x = true) := fun k hk e => by rw [← e]; exact hasI_hit hk
  have H2 : Hid ((∀ k, k < ys.length → ys.getD k 0 ≠ x) → hasI ys x = false) := hasI_miss
  clear hA
  generalize hasI ys x = R at *
  generalize ys.length = n at *
  go_enter Try.func35, Try.ntmps35
  go_wp2_with fail
  go_loop [9] (fun i => ∃ k : Nat, k ≤ n ∧ i = .int .i64 k ∧ ∀ j, j < k → ys.getD j 0 ≠ x) (fun i => n - (RowKit.intOf i).toNat)
  case atStart => exact ⟨0, Nat.zero_le _, rfl, fun j hj => by omega⟩
  case round =>
    obtain ⟨k, hk, rfl, hm⟩ := hrel
    have HM := Lib.hid hm
    clear hm
    by_cases hlt : k < n
    · obtain ⟨b, off, rfl, q0⟩ := E1.out k hlt
      have b1 : (0 : Int) ≤ (k : Int) := by omega
      have b2 : (k : Int) < (n : Int) := by omega
      by_cases he : ys.getD k 0 = x
      · have G := Lib.hid (H1.out k hlt he)
        rw [he] at q0
        clear he
        go_wp2
        go_ret
        exact ⟨ret_bool G.out.symm, rfl⟩
      · have HM2 : Hid (∀ j, j < k + 1 → ys.getD j 0 ≠ x) := fun j hj => by
          by_cases e : j = k
          · rw [e]; exact he
          · exact HM.out j (by omega)
        have he' : (ys.getD k 0 == x) = false := beq_eq_false_iff_ne.2 he
        clear he
        generalize ys.getD k 0 = y at *
        go_wp2
        go_round
        case rel => exact ⟨k + 1, by omega, by go_num, HM2.out⟩
        case measure => simp [RowKit.intOf]; omega
    · obtain rfl : k = n := by omega
      have G := Lib.hid (H2.out HM.out)
      go_wp2
      go_ret
      exact ⟨ret_bool G.out.symm, rfl⟩

theorem hasI_inL (ys : List Int) (x : Int) : hasI ys x = inL ys x := by
  cases h : inL ys x
  · exact decide_eq_false (fun hm => by rw [inL_iff.2 hm] at h; cases h)
  · exact decide_eq_true (inL_iff.1 h)
/-- Nodes of a network, the source among them, the sink not. -/
def cutB (n : Int) (l : List Int) : Bool := risB (n - 1) l && (decide (0 < l.length) && decide (l.getD 0 0 = 0))
/-- The capacities out of the nodes p, of the first k edges. -/
def cvS (p : Int → Bool) (xs : List Int) : Nat → Int
  | 0 => 0
  | k + 1 => cvS p xs k + (if p (xs.getD (k * 3) 0) && !p (xs.getD (k * 3 + 1) 0) then xs.getD (k * 3 + 2) 0 else 0)
theorem cvS_in {n : Int} {m : Nat} {p : Int → Bool} {xs : List Int} (h : edgAll n m xs = true) : ∀ {k : Nat}, k ≤ m → 0 ≤ cvS p xs k ∧ cvS p xs k ≤ k * 1000000000
  | 0, _ => by simp [cvS]
  | k + 1, hk => by
    have h1 := cvS_in (p := p) h (k := k) (by omega)
    have h2 := edg_true (edgAll_at h (show k < m by omega))
    unfold cvS
    split <;> omega
def cvV (n : Int) (m : Nat) (xs l : List Int) : Int := if netB n m xs && cutB n l then cvS (inL l) xs m else 0
def cvB (n : Int) (m : Nat) (xs l : List Int) : Bool := netB n m xs && cutB n l
theorem cv_no1 {n : Int} {m : Nat} {xs l : List Int} (h : netB n m xs = false) : cvV n m xs l = 0 ∧ cvB n m xs l = false := by unfold cvV cvB; rw [h]; exact ⟨rfl, rfl⟩
theorem cv_no2 {n : Int} {m : Nat} {xs l : List Int} (h : cutB n l = false) : cvV n m xs l = 0 ∧ cvB n m xs l = false := by unfold cvV cvB; rw [h, Bool.and_false]; exact ⟨rfl, rfl⟩
theorem cv_yes {n : Int} {m : Nat} {xs l : List Int} (h : netB n m xs = true) (k : cutB n l = true) : cvV n m xs l = cvS (inL l) xs m ∧ cvB n m xs l = true := by unfold cvV cvB; rw [h, k]; exact ⟨rfl, rfl⟩
theorem cut_in {n : Int} {N : Nat} {l : List Int} (hn : (N : Int) = n) (h : cutB n l = true) : InN N l := fun x hx => by
  unfold cutB at h
  simp only [Bool.and_eq_true] at h
  have := ris_mem h.1 hx
  omega

end Go.Proofs.Ytfpjodoimfbadaa
