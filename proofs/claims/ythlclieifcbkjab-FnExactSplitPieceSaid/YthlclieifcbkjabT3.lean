/-
  Contracts: the library's stable sort of at most twenty numbers, with the comparison of SortPieces; orderOf.
-/
import Derived.Test.YthlclieifcbkjabT2
import Derived.Test.YthlclieifcbkjabM1
namespace Go.Proofs.Ythlclieifcbkjab
open Go.RowKit
set_option linter.unusedVariables false

set_option maxHeartbeats 1000000 in
theorem c_insNone (n g c b0 : Nat) (a : Int) (W : World) (ha : 0 ≤ a) (ha2 : a ≤ 100) (hn : (n : Int) ≤ a) :
    Calls Try.prog 64 #[.slice (some ⟨g, 0, none⟩) n c, .int .i64 a, .int .i64 n, .func (.func 26) #[] #[.pointer (some ⟨b0, 0, none⟩)]] W fun e w' => e = .returned (.tuple #[]) ∧ W = w' := by
  go_enter Try.func64, Try.ntmps64
  go_wp2
  go_rounds 1
  refine bodyPost_end (v := .tuple #[]) (by simp [results, Try.results64, go_sem]) rfl ?_
  exact ⟨rfl, rfl⟩

/-- Before the sort, or behind its first twenty. -/
inductive StRel (W : World) (g c n B : Nat) (SN : List Int) : Nat → World → Prop where
  | first : StRel W g c n B SN 0 W
  | done {w' : World} (h : n = 20) (r : Row w' B (.slice (some ⟨g, 0, none⟩) n c) SN) (k : W.grownBy w' (some g)) : StRel W g c n B SN 1 w'

set_option maxHeartbeats 4000000 in
theorem c_stable (n g c b0 : Nat) (cf : Int → Int → Int) (B : Nat) (W : World) (hn : n ≤ 20) (h0 : 0 < n) (hr : Row W B (.slice (some ⟨g, 0, none⟩) n c) (marks 0 n))
    (H : Hid (∀ (a b : Nat) (u : World), a < n → b < n → W.grownBy u (some g) → Calls Try.prog 26 #[.int .i64 a, .int .i64 b, .pointer (some ⟨b0, 0, none⟩)] u fun e u' => e = .returned (.int .i64 (cf a b)) ∧ Below u.heap.size u u')) :
    Calls Try.prog 51 #[.slice (some ⟨g, 0, none⟩) n c, .int .i64 n, .func (.func 26) #[] #[.pointer (some ⟨b0, 0, none⟩)]] W fun e w' => e = .returned (.tuple #[]) ∧ Row w' B (.slice (some ⟨g, 0, none⟩) n c) (sortN (fun a b => decide (cf a b < 0)) n) ∧ W.grownBy w' (some g) := by
  have HC := Lib.hid (c_insSort n g c b0 cf B W hn h0 hr H)
  clear hr
  generalize sortN (fun a b => decide (cf a b < 0)) n = SN at *
  go_enter Try.func51, Try.ntmps51
  go_wp2_with fail
  go_loopw [7, 8] (fun p q wr => ∃ t : Nat, p = .int .i64 (20 * (t : Int)) ∧ q = .int .i64 (20 + 20 * (t : Int)) ∧ StRel W g c n B SN t wr) (fun p _ _ => 1 - (intOf p).toNat)
  case atStart => exact ⟨0, by simp, by simp, StRel.first⟩
  case round =>
    obtain ⟨t, rfl, rfl, hs⟩ := hrel
    rcases hs with _ | ⟨h, r, k⟩
    · simp only [Int.natCast_zero, Int.mul_zero, Int.add_zero]
      by_cases h20 : n = 20
      · have e20 : (n : Int) = 20 := by omega
        have HC20 := Lib.hid (by have := HC.out; rw [e20] at this; exact this)
        have l20 : (20 : Int) ≤ (n : Int) := by omega
        have HE := Lib.hid h20
        clear e20 h20
        go_wp2_with fail
        refine HC20.out.mono ?_
        rintro e w1 ⟨rfl, hr1, hg1⟩
        have HR1 := Lib.hid hr1
        have HG1 := Lib.hid hg1
        clear hr1 hg1
        go_wp2
        go_roundw
        case rel => exact ⟨1, by simp, by simp, StRel.done HE.out HR1.out HG1.out⟩
        case measure => simp [intOf]
      · have hlt : (n : Int) < 20 := by omega
        go_wp2_with fail
        refine HC.out.mono ?_
        rintro e w1 ⟨rfl, hr1, hg1⟩
        have HR1 := Lib.hid hr1
        have HG1 := Lib.hid hg1
        clear hr1 hg1
        go_wp2_with fail
        go_rounds 1
        refine bodyPost_end (v := .tuple #[]) (by simp [results, Try.results51, go_sem]) rfl ?_
        exact ⟨rfl, HR1.out, HG1.out⟩
    · have l20 : (n : Int) < 40 := by omega
      have l21 : (n : Int) ≤ 20 := by omega
      clear h
      have HR1 := Lib.hid r
      have HG1 := Lib.hid k
      clear r k
      simp only [Int.natCast_one, Int.mul_one]
      go_wp2_with fail
      refine (c_insNone n g c b0 20 _ (by omega) (by omega) (by omega)).mono ?_
      rintro e w1 ⟨rfl, rfl⟩
      go_wp2_with fail
      go_rounds 1
      refine bodyPost_end (v := .tuple #[]) (by simp [results, Try.results51, go_sem]) rfl ?_
      exact ⟨rfl, HR1.out, HG1.out⟩
end Go.Proofs.Ythlclieifcbkjab
