/-
  Lists of lists of integers that the calls make.
-/
import Derived.Test.YtdgkgnlilcbggaaDoorAP
import Derived.Test.YtdgkgnlilcbggaaDoorC6
import Derived.Lib.Hide
namespace Go.Proofs.YtdgkgnlilcbggaaDoor
open Go.RowKit
set_option linter.unusedVariables false

/-- An owned row stays where its own block does. -/
theorem own_stays {w w' : World} {B s n : Nat} {e : TypeId} {v : Value} {xs : List Value} (h : w.ownsRow B e s v n xs) (hk : ∀ k, v.ownBlock = some k → w'.heap[k]? = w.heap[k]?) : w'.ownsRow B e s v n xs := by
  refine ⟨h.1, ?_⟩
  rcases h.2 with hn | ⟨g, cap, cur, rfl, hb, hg, rest⟩
  · exact .inl hn
  · exact .inr ⟨g, cap, cur, rfl, hb, by rw [hk g rfl]; exact hg, rest⟩
/-- Two owned rows of different element types lie apart. -/
theorem own_types {w : World} {B B' s s' n n' : Nat} {e e' : TypeId} {v v' : Value} {xs xs' : List Value} (h : w.ownsRow B e s v n xs) (h' : w.ownsRow B' e' s' v' n' xs') (hne : e ≠ e') {k : Nat} (hk : v.ownBlock = some k) : v'.ownBlock ≠ some k := by
  intro hk'
  rcases h.2 with ⟨rfl, _⟩ | ⟨g, cap, cur, rfl, hb, hg, rest⟩
  · simp [Value.ownBlock] at hk
  · rcases h'.2 with ⟨rfl, _⟩ | ⟨g', cap', cur', rfl, hb', hg', rest'⟩
    · simp [Value.ownBlock] at hk'
    · simp [Value.ownBlock] at hk hk'
      subst hk
      subst hk'
      rw [hg] at hg'
      simp at hg'
      exact hne hg'.2

/-- The slice v is a list of the lists xss, each with memory of its own, all in blocks from B on and below U; vs: their slices. -/
structure RowsV (w : World) (B U : Nat) (v : Value) (xss : List (List Int)) (vs : List Value) : Prop where
  len : vs.length = xss.length
  own : w.ownsRow B 42 1 v xss.length vs
  top : ∀ k, v.ownBlock = some k → k < U
  row : ∀ i, i < xss.length → Row w B (vs.getD i (.slice none 0 0)) (xss.getD i [])
  rtop : ∀ i k, i < xss.length → (vs.getD i (.slice none 0 0)).ownBlock = some k → k < U
  apart : ∀ i j, i < xss.length → j < xss.length → i ≠ j → Apart (vs.getD i (.slice none 0 0)).ownBlock (vs.getD j (.slice none 0 0)).ownBlock
def Rows (w : World) (B U : Nat) (v : Value) (xss : List (List Int)) : Prop := ∃ vs, RowsV w B U v xss vs

theorem RowsV.stays {w w' : World} {B U : Nat} {v : Value} {xss : List (List Int)} {vs : List Value} (h : RowsV w B U v xss vs) (hk : ∀ k, B ≤ k → k < U → w'.heap[k]? = w.heap[k]?) : RowsV w' B U v xss vs :=
  ⟨h.len, own_stays h.own fun k e => hk k (World.ownsRow.lt h.own k e).1 (h.top k e), h.top, fun i hi => own_stays (h.row i hi) fun k e => hk k (World.ownsRow.lt (h.row i hi) k e).1 (h.rtop i k hi e), h.rtop, h.apart⟩
theorem Rows.stays {w w' : World} {B U : Nat} {v : Value} {xss : List (List Int)} (h : Rows w B U v xss) (hk : ∀ k, B ≤ k → k < U → w'.heap[k]? = w.heap[k]?) : Rows w' B U v xss := by
  obtain ⟨vs, h⟩ := h
  exact ⟨vs, h.stays hk⟩
theorem Rows.below {w w' : World} {B U N : Nat} {v : Value} {xss : List (List Int)} (h : Rows w B U v xss) (hb : Below N w w') (hU : U ≤ N) : Rows w' B U v xss := h.stays fun k _ hk => hb.block k (by omega)
theorem Rows.draws {w : World} {B U : Nat} {v : Value} {xss : List (List Int)} (h : Rows w B U v xss) (n : Nat) : Rows (w.drewN n) B U v xss := h.stays fun _ _ _ => rfl
theorem Rows.shape {w : World} {B U : Nat} {v : Value} {xss : List (List Int)} (h : Rows w B U v xss) : ∃ A c, v = .slice A xss.length c := by
  obtain ⟨vs, h⟩ := h
  rcases h.own.2 with ⟨rfl, h0⟩ | ⟨g, cap, cur, rfl, _⟩
  · exact ⟨none, 0, by rw [h0]⟩
  · exact ⟨_, _, rfl⟩
theorem Rows.nil (w : World) (B U : Nat) : Rows w B U (.slice none 0 0) [] :=
  ⟨[], rfl, World.ownsRow_nil _ _ _ _, fun k hk => by simp [Value.ownBlock] at hk, fun i hi => by simp at hi, fun i k hi => by simp at hi, fun i j hi => by simp at hi⟩
theorem RowsV.cell {w : World} {B U g c : Nat} {xss : List (List Int)} {vs : List Value} (h : RowsV w B U (.slice (some ⟨g, 0, none⟩) xss.length c) xss vs) {i : Nat} (hi : i < xss.length) : w.cell? ⟨g, i, none⟩ = some (vs.getD i (.slice none 0 0)) := by
  rw [World.ownsRow.cellAt h.own i (by omega)]
  have : i < vs.length := by rw [h.len]; exact hi
  simp [this]
theorem RowsV.form {w : World} {B U : Nat} {v : Value} {xss : List (List Int)} {vs : List Value} (h : RowsV w B U v xss vs) (h0 : 0 < xss.length) : ∃ g c, v = .slice (some ⟨g, 0, none⟩) xss.length c ∧ B ≤ g ∧ g < w.heap.size := World.ownsRow.form h.own h0

theorem RowsV.apart_row {w : World} {B U : Nat} {v : Value} {xss : List (List Int)} {vs : List Value} (h : RowsV w B U v xss vs) {B' : Nat} {p : Value} {ys : List Int} (hp : Row w B' p ys) : p.ownBlock = none ∨ p.ownBlock ≠ v.ownBlock := by
  cases e : p.ownBlock with
  | none => exact .inl rfl
  | some k => exact .inr fun e' => own_types h.own hp (by decide) e'.symm e
theorem getD_app {vs : List Value} {p d : Value} {i : Nat} (h : i < vs.length) : (vs ++ [p]).getD i d = vs.getD i d := by simp [List.getD_eq_getElem?_getD, List.getElem?_append_left h]
theorem getD_end {vs : List Value} {p d : Value} : (vs ++ [p]).getD vs.length d = p := by simp [List.getD_eq_getElem?_getD]
theorem getL_app {xss : List (List Int)} {p : List Int} {i : Nat} (h : i < xss.length) : (xss ++ [p]).getD i [] = xss.getD i [] := by simp [List.getD_eq_getElem?_getD, List.getElem?_append_left h]
theorem getL_end {xss : List (List Int)} {p : List Int} : (xss ++ [p]).getD xss.length [] = p := by simp [List.getD_eq_getElem?_getD]
/-- A list put behind the others. -/
theorem RowsV.push {w w4 : World} {B U : Nat} {v v' p : Value} {xss : List (List Int)} {vs : List Value} {ys : List Int} (h : RowsV w B U v xss vs) (hp : Row w B p ys) (hpo : ∀ k, p.ownBlock = some k → U ≤ k)
    (ho : w4.ownsRow B 42 1 v' (xss.length + 1) (vs ++ [p])) (hg : w.grownBy w4 v.ownBlock) : RowsV w4 B w4.heap.size v' (xss ++ [ys]) (vs ++ [p]) := by
  have hl := h.len
  have hrow : ∀ i, i < (xss ++ [ys]).length → Row w4 B ((vs ++ [p]).getD i (.slice none 0 0)) ((xss ++ [ys]).getD i []) := fun i hi => by
    rw [List.length_append, List.length_singleton] at hi
    by_cases e : i < xss.length
    · rw [getD_app (by omega), getL_app e]
      exact World.ownsRow.kept (h.row i e) hg (h.apart_row (h.row i e))
    · obtain rfl : i = xss.length := by omega
      rw [getL_end, ← hl, getD_end]
      exact World.ownsRow.kept hp hg (h.apart_row hp)
  refine ⟨by simp [hl], by rw [List.length_append, List.length_singleton]; exact ho, fun k hk => (World.ownsRow.lt ho k hk).2, hrow, fun i k hi hk => (World.ownsRow.lt (hrow i hi) k hk).2, fun i j hi hj hne => ?_⟩
  rw [List.length_append, List.length_singleton] at hi hj
  have new : ∀ a, a < xss.length → ∀ k, (vs.getD a (.slice none 0 0)).ownBlock = some k → p.ownBlock ≠ some k := fun a ha k hk e => by have := hpo k e; have := h.rtop a k ha hk; omega
  by_cases ei : i < xss.length
  · by_cases ej : j < xss.length
    · rw [getD_app (by omega), getD_app (by omega)]
      exact h.apart i j ei ej hne
    · obtain rfl : j = xss.length := by omega
      rw [getD_app (by omega), ← hl, getD_end]
      cases e : (vs.getD i (.slice none 0 0)).ownBlock with
      | none => exact .inl rfl
      | some k => exact .inr fun e' => new i ei k e e'.symm
  · obtain rfl : i = xss.length := by omega
    have ej : j < xss.length := by omega
    rw [getD_app (i := j) (by omega), ← hl, getD_end]
    cases e : p.ownBlock with
    | none => exact .inl rfl
    | some k => exact .inr fun e' => new j ej k e'.symm e
end Go.Proofs.YtdgkgnlilcbggaaDoor
