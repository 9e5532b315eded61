/-
  Lists of lists of integers: how an argument reads; measured and copied.
-/
import Derived.Test.YtkdhjmidpijkeaaRB
import Derived.Test.YtkdhjmidpijkeaaM4
namespace Go.Proofs.Ytkdhjmidpijkeaa
open Go.RowKit
set_option linter.unusedVariables false

/-- The slice v reads as the lists tss. -/
def SeenL (w : World) (v : Value) (tss : List (List Int)) : Prop :=
  ∃ A c, v = .slice A tss.length c ∧ tss.length ≤ maxLen ∧ (0 < tss.length → ∃ b off, A = some ⟨b, off, none⟩ ∧ b < w.heap.size ∧ ∀ k : Nat, k < tss.length → ∃ u, w.cell? ⟨b, off + k, none⟩ = some u ∧ Seen w u (tss.getD k []))
theorem SeenL.below {w w' : World} {v : Value} {tss : List (List Int)} (h : SeenL w v tss) (hb : Below w.heap.size w w') : SeenL w' v tss := by
  obtain ⟨A, c, rfl, hm, h⟩ := h
  refine ⟨A, c, rfl, hm, fun h0 => ?_⟩
  obtain ⟨b, off, rfl, hlt, hc⟩ := h h0
  refine ⟨b, off, rfl, Nat.lt_of_lt_of_le hlt hb.size, fun k hk => ?_⟩
  obtain ⟨u, hu, hs⟩ := hc k hk
  exact ⟨u, by rw [hb.cell (p := ⟨b, off + k, none⟩) hlt]; exact hu, hs.below hb⟩
theorem SeenL.shape {w : World} {v : Value} {tss : List (List Int)} (h : SeenL w v tss) : ∃ A c, v = .slice A tss.length c ∧ tss.length ≤ maxLen := by
  obtain ⟨A, c, rfl, hm, _⟩ := h
  exact ⟨A, c, rfl, hm⟩
theorem Rows.seen {w : World} {B U : Nat} {v : Value} {tss : List (List Int)} (h : Rows w B U v tss) : SeenL w v tss := by
  obtain ⟨vs, h⟩ := h
  rcases h.own.2 with ⟨rfl, h0⟩ | ⟨g, cap, cur, rfl, _, hg, hn, hm, _⟩
  · exact ⟨none, 0, by rw [h0], by omega, fun h1 => by omega⟩
  · refine ⟨_, _, rfl, by omega, fun h0 => ⟨g, 0, rfl, ?_, fun k hk => ⟨_, by rw [Nat.zero_add]; exact h.cell hk, Row.seen (h.row k hk)⟩⟩⟩
    obtain ⟨g', c', e, _, hl⟩ := h.form h0
    simp at e
    rw [e.1]; exact hl

def ShortL (tss : List (List Int)) : Prop := tss.length ≤ 1048576 ∧ ∀ i, i < tss.length → (tss.getD i []).length ≤ 1048576
theorem shortL_of {tss : List (List Int)} {left : Int} (h : (tss.length : Int) + (totN tss tss.length : Int) ≤ left) (hl : left ≤ 1048576) : ShortL tss := by
  refine ⟨by omega, fun i hi => ?_⟩
  have := tot_mono tss (show i + 1 ≤ tss.length by omega)
  rw [show totN tss (i + 1) = totN tss i + (tss.getD i []).length from rfl] at this
  omega

/-- The first k lists are there, the others empty. -/
def stg (tss : List (List Int)) (k : Nat) : List (List Int) := tss.take k ++ List.replicate (tss.length - k) []
theorem stg_len (tss : List (List Int)) (k : Nat) (h : k ≤ tss.length) : (stg tss k).length = tss.length := by simp [stg]; omega
theorem stg_zero (tss : List (List Int)) : stg tss 0 = List.replicate tss.length [] := by simp [stg]
theorem stg_all (tss : List (List Int)) : stg tss tss.length = tss := by simp [stg]
theorem stg_set (tss : List (List Int)) (j : Nat) (h : j < tss.length) : (stg tss j).set j (tss.getD j []) = stg tss (j + 1) := by
  apply List.ext_getElem
  · simp only [List.length_set]; rw [stg_len _ _ (by omega), stg_len _ _ (by omega)]
  · intro i h1 h2
    simp only [stg, List.getElem_set, List.getElem_append, List.length_take, List.getElem_take, List.getElem_replicate]
    simp only [List.length_set] at h1
    rw [stg_len _ _ (by omega)] at h1
    by_cases e : j = i
    · subst e
      simp [h, show j < min (j + 1) tss.length by omega]
    · simp only [e, if_false]
      by_cases l : i < j
      · simp [show i < min j tss.length by omega, show i < min (j + 1) tss.length by omega]
      · simp [show ¬ i < min j tss.length by omega, show ¬ i < min (j + 1) tss.length by omega]

def GivesLL (w : World) (tss : List (List Int)) (e : Ending) (w' : World) : Prop := ∃ v, e = .returned v ∧ Rows w' w.heap.size w'.heap.size v tss ∧ Below w.heap.size w w'

end Go.Proofs.Ytkdhjmidpijkeaa
