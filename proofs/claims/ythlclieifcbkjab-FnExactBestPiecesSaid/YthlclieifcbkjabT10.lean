/-
  Contracts: the library's sort over a list of ints of the call's own.
-/
import Derived.Test.YthlclieifcbkjabShelf
import Derived.Test.YthlclieifcbkjabT9
import Derived.Lib.SortBridge
namespace Go.Proofs.Ythlclieifcbkjab
open Go.RowKit Go.Sort
set_option linter.unusedVariables false

def putAt : List Value → Nat → List Value → List Value
  | xs, _, [] => xs
  | xs, k, v :: vs => putAt (xs.set k v) (k + 1) vs
theorem putAt_all : ∀ (vs xs : List Value) (k : Nat), k + vs.length = xs.length → putAt xs k vs = xs.take k ++ vs
  | [], xs, k, h => by simp at h; simp [putAt, h]
  | v :: vs, xs, k, h => by
    simp at h
    rw [putAt, putAt_all vs _ _ (by simp; omega)]
    rw [List.take_succ_eq_append_getElem (by simp; omega)]
    have e : (xs.set k v).take k = xs.take k := by
      apply List.ext_getElem?
      intro i
      rw [List.getElem?_take, List.getElem?_take]
      by_cases hi : i < k
      · rw [if_pos hi, if_pos hi, List.getElem?_set, if_neg (by omega)]
      · rw [if_neg hi, if_neg hi]
    rw [e]
    simp
theorem row_setCells {B e s g n c : Nat} : ∀ (vs xs : List Value) (k : Nat) (w : World), w.ownsRow B e s (.slice (some ⟨g, 0, none⟩) n c) n xs →
    (w.setCells g k vs).ownsRow B e s (.slice (some ⟨g, 0, none⟩) n c) n (putAt xs k vs) ∧ w.grownBy (w.setCells g k vs) (some g)
  | [], xs, k, w, h => ⟨h, World.grownBy.refl _ _⟩
  | v :: vs, xs, k, w, h => by
    obtain ⟨h1, h2⟩ := World.ownsRow.stored h k v
    obtain ⟨h3, h4⟩ := row_setCells vs _ (k + 1) _ h1
    exact ⟨h3, h2.trans h4⟩
theorem grow_grown (w : World) (os : Array Obj) (o : Option Nat) : w.grownBy (grow w os) o := ⟨rfl, rfl, rfl, by simp, fun k hk _ => by simp [grow, Array.getElem?_append, hk]⟩

theorem c_Sort (zs : List Int) (v : Value) (B : Nat) (w : World) (hl : zs.length ≤ 4000000) (h : Row w B v zs) :
    Calls Try.prog 31 #[v] w fun e w' => e = .returned (.tuple #[]) ∧ Row w' B v (zs.mergeSort fun x y => decide (x ≤ y)) ∧ w.grownBy w' v.ownBlock := by
  by_cases h0 : zs.length = 0
  · obtain rfl : zs = [] := List.eq_nil_of_length_eq_zero h0
    obtain ⟨A, c, rfl⟩ := h.shape
    refine (Try.slices_Sort_int_none A c w).mono ?_
    rintro e w' ⟨rfl, rfl⟩
    exact ⟨rfl, by simpa using h, World.grownBy.refl _ _⟩
  · obtain ⟨g, c, rfl, _, hg⟩ := h.form (by omega)
    have hm : (zs.mergeSort fun x y => decide (x ≤ y)).length = zs.length := List.length_mergeSort _
    have hH : Holds (Value.int .i64) w g 0 zs.toArray := fun j hj => by
      have hj' : j < zs.length := by simpa using hj
      refine ⟨?_, ?_⟩
      · rw [Nat.zero_add, h.cell j hj']
        simp [hj']
      · rw [Nat.zero_add]; exact h.frozen j
    refine (Try.slices_Sort_int g 0 c zs w hH hg (by omega)).mono ?_
    rintro e w' ⟨rfl, n, os, rfl⟩
    rw [Lib.sorted_world (Value.int .i64) w g 0 n zs.toArray _ os hH (by rw [hm]; simp)]
    have hr : (w.drewN n).ownsRow B 3 1 (.slice (some ⟨g, 0, none⟩) zs.length c) zs.length (ints zs) := h
    obtain ⟨h1, h2⟩ := row_setCells ((zs.mergeSort fun x y => decide (x ≤ y)).map (Value.int .i64)) (ints zs) 0 (w.drewN n) hr
    rw [putAt_all _ _ _ (by simp [ints]), List.take_zero, List.nil_append] at h1
    have h3 := grow_grown ((w.drewN n).setCells g 0 ((zs.mergeSort fun x y => decide (x ≤ y)).map (Value.int .i64))) os none
    refine ⟨rfl, ?_, ?_⟩
    · have := World.ownsRow.kept h1 h3 (.inr (by simp [Value.ownBlock]))
      unfold Row
      rw [hm]
      exact this
    · have h4 : w.grownBy (w.drewN n) (some g) := grown_draws (World.grownBy.refl w (some g)) n
      exact (h4.trans h2).trans (grow_grown _ os (some g))
end Go.Proofs.Ythlclieifcbkjab
