/-
  Contracts: the slices of a table from the last one to the first one (slices.Backward).
-/
import Derived.RangeFuncNested
import Derived.RangeFuncBound
import Derived.RangeFuncCalls
import Derived.RangeFuncLeaves
import Derived.Shelf.Abstract
import Derived.Shelf.RegionOpen
import Derived.WalkKit
import Derived.OwnWalkIn
import Derived.TacticsInMore
import Derived.LoopNIn
import Derived.LoopIn
import Derived.Test.YtmkbjkmpincogaaSU
namespace Go.Proofs.Ytmkbjkmpincogaa
open Go.RowKit Go.Shelf
set_option linter.unusedVariables false
attribute [local go_sem] Oper.semAt_some

/-- What has come when k rounds are over: n - 1, n - 2, .. -/
def dnL {α : Type} (el : Nat → α) (n k : Nat) : List α := (List.range k).map fun j => el (n - 1 - j)
theorem dnL_succ {α : Type} (el : Nat → α) (n k : Nat) : dnL el n (k + 1) = dnL el n k ++ [el (n - 1 - k)] := by simp [dnL, List.range_succ]
theorem dnL_len {α : Type} (el : Nat → α) (n k : Nat) : (dnL el n k).length = k := by simp [dnL]
/-- What a round that goes on keeps: two blocks. -/
def Keep2 (A B : Nat) (w w' : World) : Prop := w'.heap[A]? = w.heap[A]? ∧ w'.heap[B]? = w.heap[B]?
theorem Keep2.cellA {A B : Nat} {w w' : World} (h : Keep2 A B w w') (o : Nat) : w'.cell? ⟨A, o, none⟩ = w.cell? ⟨A, o, none⟩ := by
  unfold World.cell?
  simp only [h.1]
theorem Keep2.cellB {A B : Nat} {w w' : World} (h : Keep2 A B w w') (o : Nat) : w'.cell? ⟨B, o, none⟩ = w.cell? ⟨B, o, none⟩ := by
  unfold World.cell?
  simp only [h.2]

set_option maxHeartbeats 1000000 in
theorem c_Backward (a : Option Addr) (len cap : Nat) (w : World) :
    Calls Try.prog 85 #[.slice a len cap] w fun e w' => e = .returned (.func (.func 94) #[] #[.pointer (some ⟨w.heap.size, 0, none⟩)]) ∧ w' = w.alloc (.cells #[.slice a len cap] 22) := by
  go_enter Try.func85, Try.ntmps85
  go_wp2
  go_ret
  exact ⟨rfl, rfl⟩

set_option maxHeartbeats 4000000 in
set_option maxRecDepth 100000 in
/-- For each loop body that keeps the table's slices and the box. -/
theorem c_Backward1 {α : Type} (el : Nat → α) (enc : α → Nat) (m l Bs b n cap : Nat) (vs : Nat → Value) (hel : ∀ x, x < n → enc (el x) = x) (hm : 1 ≤ m) (hn : n ≤ 1000) (J Jx : List α → World → Prop)
    (hY : ∀ (pre : List α) (x : α) (W : World), J pre W → pre.length < n → YieldAt Fence.wide (m - 1) Try.prog l #[.int .i64 ((enc x : Nat) : Int), vs (enc x)] W fun e W' =>
      (e = .returned (.bool true) ∧ J (pre ++ [x]) W' ∧ Keep2 Bs b W W') ∨ (e = .returned (.bool false) ∧ Jx (pre ++ [x]) W'))
    (W : World) (hBs : W.cell? ⟨Bs, 0, none⟩ = some (.slice (some ⟨b, 0, none⟩) n cap)) (hc : ∀ j, j < n → W.cell? ⟨b, j, none⟩ = some (vs j)) (h0 : J [] W) :
    CallsIn Fence.wide m Try.prog 94 #[.func (.yield l) #[] #[], .pointer (some ⟨Bs, 0, none⟩)] W fun e W' => (∃ v, e = .returned v) ∧
      ((∃ ys, ys = dnL el n n ∧ J ys W') ∨ (∃ pre, (∃ k, k ≤ n ∧ pre = dnL el n k) ∧ Jx pre W')) := by
  refine callsIn_of_wp Try.func94 rfl trivial ?_ rfl
  simp only [Try.ntmps94, List.size_toArray, List.length_cons, List.length_nil, Nat.reduceAdd, Nat.reduceSub, Array.replicate_succ, Array.replicate_zero, List.push_toArray, List.append_toArray, List.nil_append, List.cons_append]
  have hn1 : (n : Int) - 1 ≤ 1000 := by omega
  gi_wp2
  gi_loopw [3] (fun i wr => ∃ k : Nat, k ≤ n ∧ i = .int .i64 ((n : Int) - 1 - (k : Int)) ∧ J (dnL el n k) wr ∧ Keep2 Bs b W wr) (fun i _ => (intOf i + 1).toNat)
  case atStart => exact ⟨0, Nat.zero_le _, by simp, h0, rfl, rfl⟩
  case round =>
    obtain ⟨k, hk, rfl, hJs, hnx⟩ := hrel
    by_cases hlt : k < n
    · obtain ⟨x, hx⟩ : ∃ x : Nat, n - 1 - k = x := ⟨_, rfl⟩
      have hxi : (n : Int) - 1 - (k : Int) = (x : Int) := by omega
      have hx1 : (x : Int) ≥ 0 := by omega
      have hx2 : (x : Int) < (n : Int) := by omega
      have hbx : wr.cell? ⟨Bs, 0, none⟩ = some (.slice (some ⟨b, 0, none⟩) n cap) := (hnx.cellA 0).trans hBs
      have hcx : wr.cell? ⟨b, x, none⟩ = some (vs x) := (hnx.cellB x).trans (hc x (by omega))
      rw [hxi]
      have HX := Lib.hid hx
      have HXI := Lib.hid hxi
      clear hx hxi
      obtain ⟨fn, tmps, assign, body, hy, hR⟩ := hY _ (el x) wr hJs (by rw [dnL_len]; exact hlt)
      rw [hel x (by omega)] at hy
      gi_wp2
      refine hR.mono ?_
      rintro e W3 (⟨rfl, hJ3, hk3⟩ | ⟨rfl, hJx3⟩)
      · gi_wp2
        go_roundw
        case rel => exact ⟨k + 1, by omega, by have := HXI.out; congr 1; omega, by rw [dnL_succ, HX.out]; exact hJ3, hk3.1.trans hnx.1, hk3.2.trans hnx.2⟩
        case measure => simp [intOf]
      · gi_wp2
        refine bodyPost_ret (results_none rfl _ _ _) rfl ?_
        exact ⟨⟨_, rfl⟩, .inr ⟨_, ⟨k + 1, by omega, by rw [dnL_succ, HX.out]⟩, hJx3⟩⟩
    · obtain rfl : k = n := by omega
      have hx1 : ¬ ((k : Int) - 1 - (k : Int)) ≥ 0 := by omega
      gi_wp2
      go_end0
      exact ⟨⟨_, rfl⟩, .inl (by first | exact hJs | exact ⟨_, rfl, hJs⟩)⟩
end Go.Proofs.Ytmkbjkmpincogaa
