/-
  Facts of the program as a whole that every law's frame asks: read off the signs of its order of initialisers once.
-/
import Derived.Test.YtoakpepoopjlaaaRows
import Derived.JoinedOf
import Derived.RowKit
import Derived.KernelRfl
namespace Go.Proofs.Ytoakpepoopjlaaa
open Go.RowKit

def ordNums : List Nat := [104, 97, 114, 110, 101, 115, 115, 32, 97, 99, 53, 101, 100, 97, 49, 98, 55, 100, 50, 49, 101, 55, 49, 50, 99, 99, 52, 48, 55, 56, 55, 98, 57, 48, 51, 53, 51, 101, 48, 48, 56, 53, 52, 57, 101, 100, 57, 50, 48, 57, 56, 100, 53, 54, 48, 54, 101, 49, 50, 51, 99, 51, 97, 56, 56, 50, 100, 99, 98, 55, 49, 50, 32, 99, 117, 116, 32, 97, 116, 32, 108, 111, 111, 112, 46, 101, 120, 97, 109, 112, 108, 101, 47, 103, 48, 48, 57, 49, 52, 47, 108, 97, 119, 115, 46, 70, 110, 69, 120, 97, 99, 116, 65, 114, 101, 71, 97, 105, 110, 115, 32, 108, 111, 111, 112, 46, 101, 120, 97, 109, 112, 108, 101, 47, 103, 48, 48, 57, 49, 52, 47, 108, 97, 119, 115, 46, 70, 110, 69, 120, 97, 99, 116, 70, 97, 99, 116, 111, 114, 86, 97, 108, 117, 101, 115, 32, 108, 111, 111, 112, 46, 101, 120, 97, 109, 112, 108, 101, 47, 103, 48, 48, 57, 49, 52, 47, 108, 97, 119, 115, 46, 70, 110, 69, 120, 97, 99, 116, 80, 105, 116, 65, 116, 32, 108, 111, 111, 112, 46, 101, 120, 97, 109, 112, 108, 101, 47, 103, 48, 48, 57, 49, 52, 47, 108, 97, 119, 115, 46, 70, 110, 69, 120, 97, 99, 116, 80, 105, 116, 115, 84, 111, 32, 108, 111, 111, 112, 46, 101, 120, 97, 109, 112, 108, 101, 47, 103, 48, 48, 57, 49, 52, 47, 108, 97, 119, 115, 46, 70, 110, 69, 120, 97, 99, 116, 67, 104, 97, 110, 103, 101, 115, 79, 102, 32, 108, 111, 111, 112, 46, 101, 120, 97, 109, 112, 108, 101, 47, 103, 48, 48, 57, 49, 52, 47, 108, 97, 119, 115, 46, 70, 110, 69, 120, 97, 99, 116, 70, 105, 114, 115, 116, 70, 97, 99, 116, 111, 114, 115, 32, 108, 111, 111, 112, 46, 101, 120, 97, 109, 112, 108, 101, 47, 103, 48, 48, 57, 49, 52, 47, 108, 97, 119, 115, 46, 70, 110, 69, 120, 97, 99, 116, 83, 104, 101, 108, 108, 115, 79, 102, 32, 108, 111, 111, 112, 46, 101, 120, 97, 109, 112, 108, 101, 47, 103, 48, 48, 57, 49, 52, 47, 108, 97, 119, 115, 46, 70, 110, 69, 120, 97, 99, 116, 86, 97, 108, 117, 101, 115, 84, 111, 32, 108, 111, 111, 112, 46, 101, 120, 97, 109, 112, 108, 101, 47, 103, 48, 48, 57, 49, 52, 47, 108, 97, 119, 115, 46, 70, 110, 69, 120, 97, 99, 116, 73, 115, 67, 104, 97, 105, 110, 32, 108, 111, 111, 112, 46, 101, 120, 97, 109, 112, 108, 101, 47, 103, 48, 48, 57, 49, 52, 47, 108, 97, 119, 115, 46, 70, 110, 69, 120, 97, 99, 116, 78, 101, 97, 114, 101, 115, 116, 80, 105, 116]
theorem ord_signs : Try.prog.initOrder.toList = ordNums.map Char.ofNat := by
  have h : Try.prog.initOrder = String.ofList (ordNums.map Char.ofNat) := by kernel_rfl
  rw [h]
  exact String.toList_ofList
/-- What stands behind the first two words: the word itself, and the rest. -/
def ordRest : List (List Char) := (behindMainWord (wordsSigns (ordNums.map Char.ofNat))).tail
theorem ord_cut : behindMainWord (wordsSigns (ordNums.map Char.ofNat)) = "cut".toList :: ordRest := by kernel_rfl
theorem ord_lifts : stripLifts liftWords ("cut".toList :: ordRest) = ([], "cut".toList :: ordRest) := by kernel_rfl
theorem make_at (P : Program) {l : List Char} {r : List (List Char)} (h : P.initOrder.toList = l) (b : behindMainWord (wordsSigns l) = "cut".toList :: r) : P.make = some Make.cut := by
  unfold Program.make
  rw [h, b]
  rfl
theorem lifts_at (P : Program) {l : List Char} {r : List (List Char)} (h : P.initOrder.toList = l) (b : behindMainWord (wordsSigns l) = "cut".toList :: r) (q : stripLifts liftWords ("cut".toList :: r) = ([], "cut".toList :: r)) : P.liftsFinal = false := by
  unfold Program.liftsFinal Program.headLifts
  rw [h, b, q]
  rfl
theorem may_at (P : Program) {l : List Char} {r : List (List Char)} (h : P.initOrder.toList = l) (b : behindMainWord (wordsSigns l) = "cut".toList :: r) (q : stripLifts liftWords ("cut".toList :: r) = ([], "cut".toList :: r)) (c1 : P.laysLater = false) (c2 : P.bearsReflect = false) (c3 : P.doorFits [] = true) : P.mayEnter = true := by
  unfold Program.mayEnter
  rw [h, b]
  simp only [q, c1, c2, c3]
  rfl
theorem jf_may : Try.prog.mayEnter = true := may_at Try.prog ord_signs ord_cut ord_lifts (by as_aux_lemma => kernel_rfl) (by as_aux_lemma => kernel_rfl) (by as_aux_lemma => kernel_rfl)
theorem jf_lifts : Try.prog.liftsFinal = false := lifts_at Try.prog ord_signs ord_cut ord_lifts
theorem jf_make : Try.prog.make = some Make.cut := make_at Try.prog ord_signs ord_cut
end Go.Proofs.Ytoakpepoopjlaaa
