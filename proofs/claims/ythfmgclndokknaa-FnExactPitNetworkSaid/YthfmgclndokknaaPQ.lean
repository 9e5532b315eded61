/-
  Contracts: PitNetwork, in the program and in the model.
-/
import Derived.Test.YthfmgclndokknaaPE0
import Derived.Test.YthfmgclndokknaaZC0
namespace Go.Proofs.Ythfmgclndokknaa
open Go.RowKit
set_option linter.unusedVariables false

/-- Arcs and values whose network has no more edges than there may be. -/
def pnB (xss : List (List Int)) (vs : List Int) : Bool := pgB xss vs && decide (pN xss vs xss.length ≤ 2000)
def pnA (xss : List (List Int)) (vs : List Int) : Int := if pnB xss vs then (xss.length : Int) + 2 else 0
def pnN (xss : List (List Int)) (vs : List Int) : Nat := if pnB xss vs then pN xss vs xss.length else 0
def pnE (xss : List (List Int)) (vs : List Int) : List Int := if pnB xss vs then pE xss vs xss.length else []
theorem pnN_le (xss : List (List Int)) (vs : List Int) : pnN xss vs ≤ 1000000 := by
  unfold pnN
  split
  · rename_i h
    unfold pnB at h
    rw [Bool.and_eq_true, decide_eq_true_eq] at h
    omega
  · omega
/-- A number, edges and a bool. -/
def GivesE3 (w : World) (a : Int) (n : Nat) (xs : List Int) (b : Bool) (e : Ending) (w' : World) : Prop := ∃ v, e = .returned (.tuple #[.int .i64 a, v, .bool b]) ∧ RowP w' w.heap.size v n xs ∧ Below w.heap.size w w'

set_option maxHeartbeats 2000000 in
theorem c_PitNetwork (xss : List (List Int)) (vs : List Int) (v u : Value) (w : World) (hs : ShortL xss) (hl : vs.length ≤ 4000000) (h : SeenL w v xss) (hu : Seen w u vs) :
    Calls Try.prog 11 #[v, u] w (GivesE3 w (pnA xss vs) (pnN xss vs) (pnE xss vs) (pnB xss vs)) := by
  have H1 := Lib.hid (c_areArcsAndValues xss vs v u w hs hl h hu)
  unfold pnA pnN pnE pnB
  cases hg : pgB xss vs
  · rw [hg] at H1
    obtain ⟨A, c, rfl, _⟩ := h.shape
    obtain ⟨A2, c2, rfl⟩ := hu.shape
    clear h hu
    go_enter Try.func11, Try.ntmps11
    go_wp2_with fail
    refine H1.out.mono ?_
    rintro e w1 ⟨rfl, rfl⟩
    go_wp2
    go_ret3
    exact ⟨_, rfl, RowP.nil _ _, Below.refl _ _⟩
  · rw [hg] at H1
    have P := PitOk.of hg
    have hn := arc_len P.arcs
    have hmx := pN_max P.arcs vs (Nat.le_refl xss.length)
    obtain ⟨A, c, rfl, _⟩ := h.shape
    obtain ⟨A2, c2, rfl⟩ := hu.shape
    rw [P.len] at H1 ⊢
    have hu2 : Seen w (.slice A2 xss.length c2) vs := by rw [← P.len]; exact hu
    have HB0 : Hid (Below w.heap.size w (w.alloc (.cells #[.slice A xss.length c, .slice A2 xss.length c2] 44))) := (Below.refl _ _).alloc (Nat.le_refl _) _
    have HE : Hid (∀ W, Below w.heap.size w W → Calls Try.prog 30 #[.agg #[.slice A xss.length c, .slice A2 xss.length c2]] W (GivesP W (pN xss vs xss.length) (pE xss vs xss.length))) := fun W hb => c_edges xss vs A A2 c c2 W P (h.below hb) (hu2.below hb)
    have HK : Hid (∀ W, Calls Try.prog 31 #[.agg #[.slice A xss.length c, .slice A2 xss.length c2]] W fun e w' => e = .returned (.int .i64 ((xss.length : Int) + 1)) ∧ Below W.heap.size W w') := fun W => c_sink A A2 xss.length c xss.length c2 W (by omega)
    have hz : Hid (∀ W, Below (w.alloc (.cells #[.slice A xss.length c, .slice A2 xss.length c2] 44)).heap.size (w.alloc (.cells #[.slice A xss.length c, .slice A2 xss.length c2] 44)) W → W.cell? ⟨w.heap.size, 0, none⟩ = some (.slice A xss.length c) ∧ W.cell? ⟨w.heap.size, 1, none⟩ = some (.slice A2 xss.length c2)) := fun W hb => ⟨by rw [hb.cell (p := ⟨w.heap.size, 0, none⟩) (by simp)]; simp, by rw [hb.cell (p := ⟨w.heap.size, 1, none⟩) (by simp)]; simp⟩
    clear h hu hu2 P hg
    generalize pN xss vs xss.length = m at *
    generalize pE xss vs xss.length = E at *
    generalize xss.length = n at *
    obtain ⟨n1, n2⟩ := hn
    by_cases hm : m ≤ 2000
    · rw [Bool.true_and, decide_eq_true hm]
      simp only [if_true]
      have m1 : ¬ ((m : Int) > 2000) := by omega
      go_enter Try.func11, Try.ntmps11
      go_wp2_with fail
      refine H1.out.mono ?_
      rintro e w1 ⟨rfl, rfl⟩
      go_wp2_with fail
      refine (HE.out _ HB0.out).mono ?_
      rintro e w2 ⟨v2, rfl, hr, hb⟩
      obtain ⟨z0, z1⟩ := hz.out _ hb
      obtain ⟨A3, c3, rfl⟩ := hr.shape
      have HR := Lib.hid hr
      have HB := Lib.hid (HB0.out.trans (hb.mono (by simp)))
      have hsz : w.heap.size < w2.heap.size := Nat.lt_of_lt_of_le (by simp) hb.size
      clear hb hr
      go_wp2_with fail
      refine (HK.out _).mono ?_
      rintro e w3 ⟨rfl, hb⟩
      have HR3 := Lib.hid (HR.out.below hb)
      have HB3 : Hid (Below w.heap.size w w3) := HB.out.trans (hb.mono HB.out.size)
      clear hb
      go_wp2
      go_ret3
      exact ⟨_, by simp <;> omega, HR3.out.mono (by simp), HB3.out⟩
    · rw [Bool.true_and, decide_eq_false hm]
      simp only [Bool.false_eq_true, if_false]
      have m1 : ((m : Int) > 2000) := by omega
      go_enter Try.func11, Try.ntmps11
      go_wp2_with fail
      refine H1.out.mono ?_
      rintro e w1 ⟨rfl, rfl⟩
      go_wp2_with fail
      refine (HE.out _ HB0.out).mono ?_
      rintro e w2 ⟨v2, rfl, hr, hb⟩
      obtain ⟨A3, c3, rfl⟩ := hr.shape
      have HB := Lib.hid (HB0.out.trans (hb.mono (by simp)))
      clear hb hr
      go_wp2
      go_ret3
      exact ⟨_, rfl, RowP.nil _ _, HB.out⟩

set_option maxHeartbeats 2000000 in
theorem c_PitNetworkS (xss : List (List Int)) (vs : List Int) (v u : Value) (w : World) (hs : ShortL xss) (hl : vs.length ≤ 4000000) (h : SeenL w v xss) (hu : Seen w u vs) :
    Calls Try.prog 8 #[v, u] w (GivesE3 w (pnA xss vs) (pnN xss vs) (pnE xss vs) (pnB xss vs)) := by
  have H1 := Lib.hid (c_paGood xss vs v u w hs hl h hu)
  unfold pnA pnN pnE pnB
  cases hg : pgB xss vs
  · rw [hg] at H1
    obtain ⟨A, c, rfl, _⟩ := h.shape
    obtain ⟨A2, c2, rfl⟩ := hu.shape
    clear h hu
    go_enter Try.func8, Try.ntmps8
    go_wp2_with fail
    refine H1.out.mono ?_
    rintro e w1 ⟨rfl, rfl⟩
    go_wp2
    go_ret3
    exact ⟨_, rfl, RowP.nil _ _, Below.refl _ _⟩
  · rw [hg] at H1
    have P := PitOk.of hg
    have hn := arc_len P.arcs
    have hmx := pN_max P.arcs vs (Nat.le_refl xss.length)
    have HE : Hid (∀ W, Below w.heap.size w W → Calls Try.prog 28 #[v, u] W (GivesP W (pN xss vs xss.length) (pE xss vs xss.length))) := fun W hb => c_paEdges xss vs v u W P.arcs P.len P.wide (h.below hb) (hu.below hb)
    obtain ⟨A, c, rfl, _⟩ := h.shape
    obtain ⟨A2, c2, rfl⟩ := hu.shape
    clear h hu P hg
    generalize pN xss vs xss.length = m at *
    generalize pE xss vs xss.length = E at *
    generalize vs.length = n2 at *
    generalize xss.length = n at *
    obtain ⟨n1, n2⟩ := hn
    have HB0 : Hid (Below w.heap.size w w) := Below.refl _ _
    by_cases hm : m ≤ 2000
    · rw [Bool.true_and, decide_eq_true hm]
      simp only [if_true]
      have m1 : ¬ ((m : Int) > 2000) := by omega
      go_enter Try.func8, Try.ntmps8
      go_wp2_with fail
      refine H1.out.mono ?_
      rintro e w1 ⟨rfl, rfl⟩
      go_wp2_with fail
      refine (HE.out _ HB0.out).mono ?_
      rintro e w2 ⟨v2, rfl, hr, hb⟩
      obtain ⟨A3, c3, rfl⟩ := hr.shape
      have HB := Lib.hid hb
      clear hb hr
      go_wp2_with fail
      refine (HE.out _ HB.out).mono ?_
      rintro e w3 ⟨v3, rfl, hr, hb⟩
      obtain ⟨A4, c4, rfl⟩ := hr.shape
      have HR3 := Lib.hid (hr.mono HB.out.size)
      have HB3 : Hid (Below w.heap.size w w3) := HB.out.trans (hb.mono HB.out.size)
      clear hb hr
      go_wp2
      go_ret3
      exact ⟨_, rfl, HR3.out, HB3.out⟩
    · rw [Bool.true_and, decide_eq_false hm]
      simp only [Bool.false_eq_true, if_false]
      have m1 : ((m : Int) > 2000) := by omega
      go_enter Try.func8, Try.ntmps8
      go_wp2_with fail
      refine H1.out.mono ?_
      rintro e w1 ⟨rfl, rfl⟩
      go_wp2_with fail
      refine (HE.out _ HB0.out).mono ?_
      rintro e w2 ⟨v2, rfl, hr, hb⟩
      obtain ⟨A3, c3, rfl⟩ := hr.shape
      have HB := Lib.hid hb
      clear hb hr
      go_wp2
      go_ret3
      exact ⟨_, rfl, RowP.nil _ _, HB.out⟩
end Go.Proofs.Ythfmgclndokknaa
