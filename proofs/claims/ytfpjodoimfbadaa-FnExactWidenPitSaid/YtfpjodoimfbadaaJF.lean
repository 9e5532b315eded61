/-
  Facts of the program as a whole that every law's frame asks: read off the signs of its order of initialisers once.
-/
import Derived.Test.YtfpjodoimfbadaaRows
import Derived.JoinedOf
import Derived.RowKit
import Derived.KernelRfl
namespace Go.Proofs.Ytfpjodoimfbadaa
open Go.RowKit

def ordNums : List Nat := [104, 97, 114, 110, 101, 115, 115, 32, 49, 52, 97, 54, 97, 52, 97, 54, 97, 99, 56, 101, 50, 54, 100, 102, 55, 56, 57, 102, 52, 102, 102, 52, 52, 99, 100, 54, 48, 56, 97, 53, 53, 51, 50, 54, 56, 97, 98, 101, 56, 54, 54, 98, 55, 100, 100, 101, 98, 97, 98, 97, 98, 98, 99, 101, 100, 102, 48, 97, 48, 100, 54, 99, 32, 99, 117, 116, 32, 97, 116, 32, 108, 111, 111, 112, 46, 101, 120, 97, 109, 112, 108, 101, 47, 103, 48, 48, 57, 49, 52, 47, 108, 97, 119, 115, 46, 70, 110, 69, 120, 97, 99, 116, 87, 105, 100, 101, 110, 80, 105, 116]
theorem ord_signs : Try.prog.initOrder.toList = ordNums.map Char.ofNat := by
  have h : Try.prog.initOrder = String.ofList (ordNums.map Char.ofNat) := by kernel_rfl
  rw [h]
  exact String.toList_ofList
/-- What stands behind the first two words: the word itself, and the rest. -/
def ordRest : List (List Char) := (behindMainWord (wordsSigns (ordNums.map Char.ofNat))).tail
theorem ord_cut : behindMainWord (wordsSigns (ordNums.map Char.ofNat)) = "cut".toList :: ordRest := by kernel_rfl
theorem ord_lifts : stripLifts liftWords ("cut".toList :: ordRest) = ([], "cut".toList :: ordRest) := by kernel_rfl
theorem make_at (P : Program) {l : List Char} {r : List (List Char)} (h : P.initOrder.toList = l) (b : behindMainWord (wordsSigns l) = "cut".toList :: r) : P.make = some Make.cut := by
  unfold Program.make
  rw [h, b]
  rfl
theorem lifts_at (P : Program) {l : List Char} {r : List (List Char)} (h : P.initOrder.toList = l) (b : behindMainWord (wordsSigns l) = "cut".toList :: r) (q : stripLifts liftWords ("cut".toList :: r) = ([], "cut".toList :: r)) : P.liftsFinal = false := by
  unfold Program.liftsFinal Program.headLifts
  rw [h, b, q]
  rfl
theorem may_at (P : Program) {l : List Char} {r : List (List Char)} (h : P.initOrder.toList = l) (b : behindMainWord (wordsSigns l) = "cut".toList :: r) (q : stripLifts liftWords ("cut".toList :: r) = ([], "cut".toList :: r)) (c1 : P.laysLater = false) (c2 : P.bearsReflect = false) (c3 : P.doorFits [] = true) : P.mayEnter = true := by
  unfold Program.mayEnter
  rw [h, b]
  simp only [q, c1, c2, c3]
  rfl
theorem jf_may : Try.prog.mayEnter = true := may_at Try.prog ord_signs ord_cut ord_lifts (by as_aux_lemma => kernel_rfl) (by as_aux_lemma => kernel_rfl) (by as_aux_lemma => kernel_rfl)
theorem jf_lifts : Try.prog.liftsFinal = false := lifts_at Try.prog ord_signs ord_cut ord_lifts
theorem jf_make : Try.prog.make = some Make.cut := make_at Try.prog ord_signs ord_cut
end Go.Proofs.Ytfpjodoimfbadaa
