/-
  Contracts: the parts of a list of marks, of equal lengths (slices.Chunk).
-/
import Derived.RangeFuncNested
import Derived.RangeFuncBound
import Derived.RangeFuncCalls
import Derived.RangeFuncLeaves
import Derived.Shelf.Abstract
import Derived.Shelf.RegionOpen
import Derived.WalkKit
import Derived.OwnWalkIn
import Derived.TacticsInMore
import Derived.RegionIn
import Derived.LoopNIn
import Derived.LoopIn
import Derived.Lib.Hide
import Derived.Test.YtmkbjkmpincogaaChecked
namespace Go.Proofs.Ytmkbjkmpincogaa
open Go.RowKit Go.Shelf
set_option linter.unusedVariables false
attribute [local go_sem] Oper.semAt_some

/-- What has come when k rounds are over: 0, 1, .. -/
def upE {α : Type} (el : Nat → α) (k : Nat) : List α := (List.range k).map el
theorem upE_succ {α : Type} (el : Nat → α) (k : Nat) : upE el (k + 1) = upE el k ++ [el k] := by simp [upE, List.range_succ]
theorem upE_len {α : Type} (el : Nat → α) (k : Nat) : (upE el k).length = k := by simp [upE]
/-- What a round that goes on keeps: two blocks. -/
def KeepT (A B : Nat) (w w' : World) : Prop := w'.heap[A]? = w.heap[A]? ∧ w'.heap[B]? = w.heap[B]?
theorem KeepT.cellA {A B : Nat} {w w' : World} (h : KeepT A B w w') (o : Nat) : w'.cell? ⟨A, o, none⟩ = w.cell? ⟨A, o, none⟩ := by
  unfold World.cell?
  simp only [h.1]
theorem KeepT.cellB {A B : Nat} {w w' : World} (h : KeepT A B w w') (o : Nat) : w'.cell? ⟨B, o, none⟩ = w.cell? ⟨B, o, none⟩ := by
  unfold World.cell?
  simp only [h.2]

set_option maxHeartbeats 1000000 in
theorem c_Chunk (g m cap n : Nat) (w : World) (hn : 1 ≤ n) :
    Calls Try.prog 71 #[.slice (some ⟨g, 0, none⟩) m cap, .int .i64 (n : Int)] w fun e w' => e = .returned (.func (.func 90) #[] #[.pointer (some ⟨w.heap.size, 0, none⟩), .pointer (some ⟨w.heap.size + 1, 0, none⟩)]) ∧ w' = (w.alloc (.cells #[.slice (some ⟨g, 0, none⟩) m cap] 61)).alloc (.cells #[.int .i64 (n : Int)] 3) := by
  have h1 : ¬ (n : Int) < 1 := by omega
  have h2 : ((w.alloc (.cells #[.slice (some ⟨g, 0, none⟩) m cap] 61)).alloc (.cells #[.int .i64 (n : Int)] 3)).cell? ⟨w.heap.size + 1, 0, none⟩ = some (.int .i64 (n : Int)) := by
    have := Boxed.new (w.alloc (.cells #[.slice (some ⟨g, 0, none⟩) m cap] 61)) 3 (.int .i64 (n : Int))
    rw [World.size_alloc] at this
    exact this.cell
  go_enter Try.func71, Try.ntmps71
  go_wp2
  go_ret
  exact ⟨rfl, rfl⟩

set_option maxHeartbeats 4000000 in
set_option maxRecDepth 100000 in
/-- For each loop body that keeps the two boxes. -/
theorem c_Chunk1 {α : Type} (el : Nat → α) (enc : α → Nat) (q l Bs Bn g n D cap : Nat) (hel : ∀ x, x < D → enc (el x) = x) (hq : 1 ≤ q) (hn : 1 ≤ n) (hm : D * n ≤ 100000) (hc : D * n ≤ cap) (J Jx : List α → World → Prop) (hJd : ∀ s W, J s W → J s W.drew)
    (hY : ∀ (pre : List α) (x : α) (W : World), J pre W → pre.length < D → YieldAt Fence.wide (q - 1) Try.prog l #[.slice (some ⟨g, enc x * n, none⟩) n n] W fun e W' =>
      (e = .returned (.bool true) ∧ J (pre ++ [x]) W' ∧ KeepT Bs Bn W W') ∨ (e = .returned (.bool false) ∧ Jx (pre ++ [x]) W'))
    (W : World) (hBs : W.cell? ⟨Bs, 0, none⟩ = some (.slice (some ⟨g, 0, none⟩) (D * n) cap)) (hBn : W.cell? ⟨Bn, 0, none⟩ = some (.int .i64 (n : Int))) (h0 : J [] W) :
    CallsIn Fence.wide q Try.prog 90 #[.func (.yield l) #[] #[], .pointer (some ⟨Bs, 0, none⟩), .pointer (some ⟨Bn, 0, none⟩)] W fun e W' => (∃ v, e = .returned v) ∧
      ((∃ ys, ys = upE el D ∧ J ys W') ∨ (∃ pre, (∃ k, k ≤ D ∧ pre = upE el k) ∧ Jx pre W')) := by
  refine callsIn_of_wp Try.func90 rfl trivial ?_ rfl
  simp only [Try.ntmps90, List.size_toArray, List.length_cons, List.length_nil, Nat.reduceAdd, Nat.reduceSub, Array.replicate_succ, Array.replicate_zero, List.push_toArray, List.append_toArray, List.nil_append, List.cons_append]
  gi_wp2
  gi_loopw [4] (fun i wr => ∃ k : Nat, k ≤ D ∧ i = .int .i64 ((k * n : Nat) : Int) ∧ J (upE el k) wr ∧ KeepT Bs Bn W wr) (fun i _ => (D * n - (intOf i).toNat))
  case atStart => exact ⟨0, Nat.zero_le _, by simp, h0, rfl, rfl⟩
  case round =>
    obtain ⟨k, hk, rfl, hJs, hnx⟩ := hrel
    have hbx : wr.cell? ⟨Bs, 0, none⟩ = some (.slice (some ⟨g, 0, none⟩) (D * n) cap) := (hnx.cellA 0).trans hBs
    have hbn : wr.cell? ⟨Bn, 0, none⟩ = some (.int .i64 (n : Int)) := (hnx.cellB 0).trans hBn
    by_cases hlt : k < D
    · have hle : k * n + n ≤ D * n := by have := Nat.mul_le_mul_right n (show k + 1 ≤ D from hlt); rwa [Nat.succ_mul] at this
      obtain ⟨fn, tmps, assign, body, hy, hR⟩ := hY _ (el k) wr.drew (hJd _ _ hJs) (by rw [upE_len]; exact hlt)
      rw [hel k hlt] at hy
      have HK : Hid ((k + 1) * n = k * n + n) := Nat.succ_mul k n
      obtain ⟨x, hx⟩ : ∃ x : Nat, k * n = x := ⟨_, rfl⟩
      obtain ⟨M, hM⟩ : ∃ M : Nat, D * n = M := ⟨_, rfl⟩
      rw [hx] at hy hle HK
      rw [hM] at hbx hle hm hc
      rw [hx]
      have HX := Lib.hid hx
      have HM := Lib.hid hM
      clear hx hM
      have hx1 : (x : Int) < (M : Int) := by omega
      have hx2 : (0 : Int) ≤ (x : Int) := by omega
      have hmin : ((M - x : Nat) : Int) ≥ (n : Int) := by omega
      have hmx : Try.prog.follows .mixedOrders = true := by kernel_rfl
      gi_wp2
      gi_region_o
      all_goals gi_wp2
      all_goals refine hR.mono ?_
      all_goals rintro e W3 (⟨rfl, hJ3, hk3⟩ | ⟨rfl, hJx3⟩)
      all_goals (try have hbn3 : W3.cell? ⟨Bn, 0, none⟩ = some (.int .i64 (n : Int)) := (hk3.cellB 0).trans hbn)
      all_goals gi_wp2
      all_goals first
        | (refine bodyPost_ret (results_none rfl _ _ _) rfl ?_
           exact ⟨⟨_, rfl⟩, .inr ⟨_, ⟨k + 1, by omega, by rw [upE_succ]⟩, hJx3⟩⟩)
        | exact ⟨⟨k + 1, by omega, by rw [HK.out]; simp, by rw [upE_succ]; exact hJ3, hk3.1.trans hnx.1, hk3.2.trans hnx.2⟩, by rw [HM.out]; simp only [intOf]; omega⟩
    · obtain rfl : k = D := by omega
      have hx1 : ¬ ((k * n : Nat) : Int) < ((k * n : Nat) : Int) := by omega
      gi_wp2
      go_end0
      exact ⟨⟨_, rfl⟩, .inl (by first | exact hJs | exact ⟨_, rfl, hJs⟩)⟩
end Go.Proofs.Ytmkbjkmpincogaa
