/-
  Contracts: the model's answers on next and last blocks, joins and meets.
-/
import Derived.Test.YtfpjodoimfbadaaNG
import Derived.Test.YtfpjodoimfbadaaLP
namespace Go.Proofs.Ytfpjodoimfbadaa
open Go.RowKit
set_option linter.unusedVariables false

theorem all_take_step {p : Int → Bool} {ys : List Int} {t : Nat} (ht : t < ys.length) : (ys.take (t + 1)).all p = ((ys.take t).all p && p (ys.getD t 0)) := by
  rw [List.take_succ_eq_append_getElem ht, List.all_append, show ys.getD t 0 = ys[t] by simp [ht]]
  simp

theorem unQ_put {xss : List (List Int)} {C : List Int} {k i t x : Nat} (hi : (C.getD k 0).toNat = i) (ht : t < (xss.getD i []).length) (hx : (xss.getD i []).getD t 0 = (x : Int)) : ∀ j : Nat, unQ xss C k (t + 1) j = if j = x then false else unQ xss C k t j := fun j => by
  subst hi
  rw [← unQ_succ ht, hx]
  exact set_false (unQ xss C k t) x j

theorem row_srcA {w : World} {B : Nat} {A : Option Addr} {c : Nat} {xs : List Int} (h : Row w B (.slice A xs.length c) xs) : Src w 1 A xs.length c (ints xs) := by
  have := ((row_src rfl h).2.2 xs.length (Nat.le_refl _)).1
  rwa [List.take_length] at this

/-- The first k of a list that are in another. -/
def fiT (a b : List Int) (k : Nat) : List Int := (a.take k).filter (inL b)
theorem fiT_yes {a b : List Int} {k : Nat} (hk : k < a.length) (h : inL b (a.getD k 0) = true) : fiT a b (k + 1) = fiT a b k ++ [a.getD k 0] := by
  unfold fiT
  rw [List.take_succ_eq_append_getElem hk, List.filter_append, show a.getD k 0 = a[k] by simp [hk]]
  rw [show a.getD k 0 = a[k] by simp [hk]] at h
  simp [h]
theorem fiT_no {a b : List Int} {k : Nat} (hk : k < a.length) (h : inL b (a.getD k 0) = false) : fiT a b (k + 1) = fiT a b k := by
  unfold fiT
  rw [List.take_succ_eq_append_getElem hk, List.filter_append]
  rw [show a.getD k 0 = a[k] by simp [hk]] at h
  simp [h]
theorem fiT_end {N : Nat} {a b : List Int} (h : risB N a = true) : fiT a b a.length = sel (fun y => inL a y && inL b y) N := by
  unfold fiT
  rw [List.take_length]
  refine rising_ext ((ris_rising h).sublist List.filter_sublist) (sel_rising _ _) fun x => ?_
  rw [List.mem_filter, mem_sel]
  unfold inr
  rw [Bool.and_eq_true, Bool.and_eq_true, decide_eq_true_eq, inL_iff (l := a)]
  exact ⟨fun ⟨h1, h2⟩ => ⟨ris_mem h h1, h1, h2⟩, fun ⟨_, h1, h2⟩ => ⟨h1, h2⟩⟩

end Go.Proofs.Ytfpjodoimfbadaa
