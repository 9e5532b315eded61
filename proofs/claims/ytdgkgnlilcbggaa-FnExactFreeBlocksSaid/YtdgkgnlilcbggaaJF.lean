/-
  Facts of the program as a whole that every law's frame asks: read off the signs of its order of initialisers once.
-/
import Derived.Test.YtdgkgnlilcbggaaRows
import Derived.JoinedOf
import Derived.RowKit
import Derived.KernelRfl
namespace Go.Proofs.Ytdgkgnlilcbggaa
open Go.RowKit

def ordNums : List Nat := [104, 97, 114, 110, 101, 115, 115, 32, 98, 49, 52, 102, 99, 101, 99, 51, 49, 53, 54, 48, 99, 101, 57, 53, 54, 97, 99, 56, 54, 48, 102, 50, 49, 99, 101, 49, 56, 55, 101, 98, 98, 98, 50, 53, 97, 55, 51, 97, 100, 57, 102, 48, 57, 98, 99, 97, 55, 99, 56, 53, 53, 52, 51, 51, 55, 97, 49, 48, 56, 55, 100, 100, 32, 99, 117, 116, 32, 97, 116, 32, 108, 111, 111, 112, 46, 101, 120, 97, 109, 112, 108, 101, 47, 103, 48, 48, 57, 49, 52, 47, 108, 97, 119, 115, 46, 70, 110, 69, 120, 97, 99, 116, 70, 114, 101, 101, 66, 108, 111, 99, 107, 115]
theorem ord_signs : Try.prog.initOrder.toList = ordNums.map Char.ofNat := by
  have h : Try.prog.initOrder = String.ofList (ordNums.map Char.ofNat) := by kernel_rfl
  rw [h]
  exact String.toList_ofList
/-- What stands behind the first two words: the word itself, and the rest. -/
def ordRest : List (List Char) := (behindMainWord (wordsSigns (ordNums.map Char.ofNat))).tail
theorem ord_cut : behindMainWord (wordsSigns (ordNums.map Char.ofNat)) = "cut".toList :: ordRest := by kernel_rfl
theorem ord_lifts : stripLifts liftWords ("cut".toList :: ordRest) = ([], "cut".toList :: ordRest) := by kernel_rfl
theorem make_at (P : Program) {l : List Char} {r : List (List Char)} (h : P.initOrder.toList = l) (b : behindMainWord (wordsSigns l) = "cut".toList :: r) : P.make = some Make.cut := by
  unfold Program.make
  rw [h, b]
  rfl
theorem lifts_at (P : Program) {l : List Char} {r : List (List Char)} (h : P.initOrder.toList = l) (b : behindMainWord (wordsSigns l) = "cut".toList :: r) (q : stripLifts liftWords ("cut".toList :: r) = ([], "cut".toList :: r)) : P.liftsFinal = false := by
  unfold Program.liftsFinal Program.headLifts
  rw [h, b, q]
  rfl
theorem may_at (P : Program) {l : List Char} {r : List (List Char)} (h : P.initOrder.toList = l) (b : behindMainWord (wordsSigns l) = "cut".toList :: r) (q : stripLifts liftWords ("cut".toList :: r) = ([], "cut".toList :: r)) (c1 : P.laysLater = false) (c2 : P.bearsReflect = false) (c3 : P.doorFits [] = true) : P.mayEnter = true := by
  unfold Program.mayEnter
  rw [h, b]
  simp only [q, c1, c2, c3]
  rfl
theorem jf_may : Try.prog.mayEnter = true := may_at Try.prog ord_signs ord_cut ord_lifts (by as_aux_lemma => kernel_rfl) (by as_aux_lemma => kernel_rfl) (by as_aux_lemma => kernel_rfl)
theorem jf_lifts : Try.prog.liftsFinal = false := lifts_at Try.prog ord_signs ord_cut ord_lifts
theorem jf_make : Try.prog.make = some Make.cut := make_at Try.prog ord_signs ord_cut
end Go.Proofs.Ytdgkgnlilcbggaa
