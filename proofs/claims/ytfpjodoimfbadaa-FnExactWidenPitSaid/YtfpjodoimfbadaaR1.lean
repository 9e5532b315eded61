/-
  Lists of lists of integers that the calls make: plain facts, and the contracts of the law's own helpers over them.
-/
import Derived.Test.YtfpjodoimfbadaaC6
import Derived.Test.YtfpjodoimfbadaaM2
import Derived.Test.YtfpjodoimfbadaaGrow
namespace Go.Proofs.Ytfpjodoimfbadaa
open Go.RowKit
set_option linter.unusedVariables false

/-- An owned row stays where its own block does. -/
theorem own_stays {w w' : World} {B s n : Nat} {e : TypeId} {v : Value} {xs : List Value} (h : w.ownsRow B e s v n xs) (hk : ∀ k, v.ownBlock = some k → w'.heap[k]? = w.heap[k]?) : w'.ownsRow B e s v n xs := by
  refine ⟨h.1, ?_⟩
  rcases h.2 with hn | ⟨g, cap, cur, rfl, hb, hg, rest⟩
  · exact .inl hn
  · exact .inr ⟨g, cap, cur, rfl, hb, by rw [hk g rfl]; exact hg, rest⟩
/-- Two owned rows of different element types lie apart. -/
theorem own_types {w : World} {B B' s s' n n' : Nat} {e e' : TypeId} {v v' : Value} {xs xs' : List Value} (h : w.ownsRow B e s v n xs) (h' : w.ownsRow B' e' s' v' n' xs') (hne : e ≠ e') {k : Nat} (hk : v.ownBlock = some k) : v'.ownBlock ≠ some k := by
  intro hk'
  rcases h.2 with ⟨rfl, _⟩ | ⟨g, cap, cur, rfl, hb, hg, rest⟩
  · simp [Value.ownBlock] at hk
  · rcases h'.2 with ⟨rfl, _⟩ | ⟨g', cap', cur', rfl, hb', hg', rest'⟩
    · simp [Value.ownBlock] at hk'
    · simp [Value.ownBlock] at hk hk'
      subst hk
      subst hk'
      rw [hg] at hg'
      simp at hg'
      exact hne hg'.2

/-- The slice v is a list of the lists xss, each with memory of its own, all in blocks from B on and below U; vs: their slices. -/
structure RowsV (w : World) (B U : Nat) (v : Value) (xss : List (List Int)) (vs : List Value) : Prop where
  len : vs.length = xss.length
  own : w.ownsRow B 25 1 v xss.length vs
  top : ∀ k, v.ownBlock = some k → k < U
  row : ∀ i, i < xss.length → Row w B (vs.getD i (.slice none 0 0)) (xss.getD i [])
  rtop : ∀ i k, i < xss.length → (vs.getD i (.slice none 0 0)).ownBlock = some k → k < U
  apart : ∀ i j, i < xss.length → j < xss.length → i ≠ j → Apart (vs.getD i (.slice none 0 0)).ownBlock (vs.getD j (.slice none 0 0)).ownBlock
def Rows (w : World) (B U : Nat) (v : Value) (xss : List (List Int)) : Prop := ∃ vs, RowsV w B U v xss vs

theorem RowsV.stays {w w' : World} {B U : Nat} {v : Value} {xss : List (List Int)} {vs : List Value} (h : RowsV w B U v xss vs) (hk : ∀ k, B ≤ k → k < U → w'.heap[k]? = w.heap[k]?) : RowsV w' B U v xss vs :=
  ⟨h.len, own_stays h.own fun k e => hk k (World.ownsRow.lt h.own k e).1 (h.top k e), h.top, fun i hi => own_stays (h.row i hi) fun k e => hk k (World.ownsRow.lt (h.row i hi) k e).1 (h.rtop i k hi e), h.rtop, h.apart⟩
theorem Rows.stays {w w' : World} {B U : Nat} {v : Value} {xss : List (List Int)} (h : Rows w B U v xss) (hk : ∀ k, B ≤ k → k < U → w'.heap[k]? = w.heap[k]?) : Rows w' B U v xss := by
  obtain ⟨vs, h⟩ := h
  exact ⟨vs, h.stays hk⟩
theorem Rows.below {w w' : World} {B U N : Nat} {v : Value} {xss : List (List Int)} (h : Rows w B U v xss) (hb : Below N w w') (hU : U ≤ N) : Rows w' B U v xss := h.stays fun k _ hk => hb.block k (by omega)
theorem Rows.draws {w : World} {B U : Nat} {v : Value} {xss : List (List Int)} (h : Rows w B U v xss) (n : Nat) : Rows (w.drewN n) B U v xss := h.stays fun _ _ _ => rfl
theorem Rows.shape {w : World} {B U : Nat} {v : Value} {xss : List (List Int)} (h : Rows w B U v xss) : ∃ A c, v = .slice A xss.length c := by
  obtain ⟨vs, h⟩ := h
  rcases h.own.2 with ⟨rfl, h0⟩ | ⟨g, cap, cur, rfl, _⟩
  · exact ⟨none, 0, by rw [h0]⟩
  · exact ⟨_, _, rfl⟩
theorem Rows.nil (w : World) (B U : Nat) : Rows w B U (.slice none 0 0) [] :=
  ⟨[], rfl, World.ownsRow_nil _ _ _ _, fun k hk => by simp [Value.ownBlock] at hk, fun i hi => by simp at hi, fun i k hi => by simp at hi, fun i j hi => by simp at hi⟩
theorem RowsV.cell {w : World} {B U g c : Nat} {xss : List (List Int)} {vs : List Value} (h : RowsV w B U (.slice (some ⟨g, 0, none⟩) xss.length c) xss vs) {i : Nat} (hi : i < xss.length) : w.cell? ⟨g, i, none⟩ = some (vs.getD i (.slice none 0 0)) := by
  rw [World.ownsRow.cellAt h.own i (by omega)]
  have : i < vs.length := by rw [h.len]; exact hi
  simp [this]
theorem RowsV.form {w : World} {B U : Nat} {v : Value} {xss : List (List Int)} {vs : List Value} (h : RowsV w B U v xss vs) (h0 : 0 < xss.length) : ∃ g c, v = .slice (some ⟨g, 0, none⟩) xss.length c ∧ B ≤ g ∧ g < w.heap.size := World.ownsRow.form h.own h0

/-- One of the lists has turned, and nothing else. -/
theorem RowsV.turn {w w' : World} {B U i : Nat} {v : Value} {xss : List (List Int)} {vs : List Value} {ys : List Int} (h : RowsV w B U v xss vs) (hi : i < xss.length) (hr : Row w' B (vs.getD i (.slice none 0 0)) ys) (hg : w.grownBy w' (vs.getD i (.slice none 0 0)).ownBlock) : RowsV w' B U v (xss.set i ys) vs := by
  refine ⟨by rw [List.length_set]; exact h.len, ?_, h.top, fun j hj => ?_, fun j k hj => h.rtop j k (by rw [List.length_set] at hj; exact hj), fun a b ha hb => h.apart a b (by rw [List.length_set] at ha; exact ha) (by rw [List.length_set] at hb; exact hb)⟩
  · rw [List.length_set]
    exact own_stays h.own fun k hk => hg.block k (World.ownsRow.lt h.own k hk).2 (fun e => own_types h.own (h.row i hi) (by decide) hk e.symm)
  · rw [List.length_set] at hj
    by_cases e : i = j
    · subst e
      rw [show (xss.set i ys).getD i [] = ys by simp [hi]]
      exact hr
    · rw [show (xss.set i ys).getD j [] = xss.getD j [] by simp [List.getD_eq_getElem?_getD, e]]
      exact World.ownsRow.kept (h.row j hj) hg (h.apart j i hj hi (Ne.symm e))

/-- All lists are short. -/
def Short (xss : List (List Int)) : Prop := ∀ i, i < xss.length → (xss.getD i []).length ≤ 1048576

/-- The lengths of the first i lists together. -/
def totN (xss : List (List Int)) : Nat → Nat
  | 0 => 0
  | i + 1 => totN xss i + (xss.getD i []).length
/-- The first i lists marked. -/
def marksTo (k0 : Int) (xss : List (List Int)) : Nat → List (List Int)
  | 0 => xss
  | i + 1 => (marksTo k0 xss i).set i (marks (k0 + totN xss i) (xss.getD i []).length)
theorem marksTo_len (k0 : Int) (xss : List (List Int)) : ∀ i, (marksTo k0 xss i).length = xss.length
  | 0 => rfl
  | i + 1 => by unfold marksTo; rw [List.length_set, marksTo_len k0 xss i]
theorem marksTo_later (k0 : Int) (xss : List (List Int)) : ∀ {i j : Nat}, i ≤ j → (marksTo k0 xss i).getD j [] = xss.getD j []
  | 0, _, _ => rfl
  | i + 1, j, h => by
    unfold marksTo
    rw [show ((marksTo k0 xss i).set i (marks (k0 + totN xss i) (xss.getD i []).length)).getD j [] = (marksTo k0 xss i).getD j [] by simp [List.getD_eq_getElem?_getD, show i ≠ j by omega]]
    exact marksTo_later k0 xss (by omega)
theorem marksTo_at (k0 : Int) (xss : List (List Int)) : ∀ {i j : Nat}, j < i → j < xss.length → (marksTo k0 xss i).getD j [] = marks (k0 + totN xss j) (xss.getD j []).length
  | i + 1, j, h, hj => by
    unfold marksTo
    by_cases e : i = j
    · subst e
      simp [marksTo_len, hj]
    · rw [show ((marksTo k0 xss i).set i (marks (k0 + totN xss i) (xss.getD i []).length)).getD j [] = (marksTo k0 xss i).getD j [] by simp [List.getD_eq_getElem?_getD, e]]
      exact marksTo_at k0 xss (by omega) hj
theorem tot_mono (xss : List (List Int)) : ∀ {i j : Nat}, i ≤ j → totN xss i ≤ totN xss j
  | i, 0, h => by obtain rfl : i = 0 := by omega
                  exact Nat.le_refl _
  | i, j + 1, h => by
    by_cases e : i = j + 1
    · rw [e]; exact Nat.le_refl _
    · exact Nat.le_trans (tot_mono xss (show i ≤ j by omega)) (Nat.le_add_right _ _)

end Go.Proofs.Ytfpjodoimfbadaa
