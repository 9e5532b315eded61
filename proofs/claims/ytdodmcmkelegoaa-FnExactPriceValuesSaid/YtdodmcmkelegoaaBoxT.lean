/-
  Prices in a block, behind marks.
-/
import Derived.Test.YtdodmcmkelegoaaM11
import Derived.Test.YtdodmcmkelegoaaW2
namespace Go.Proofs.Ytdodmcmkelegoaa
open Go.RowKit
theorem Box4.turned {w w' : World} {o1 o2 o3 : Option Nat} {b : Nat} {p q r s : Int} (h : Box4 w b p q r s) (ht : Turned w w' o1 o2 o3) (n1 : o1 ≠ some b) (n2 : o2 ≠ some b) (n3 : o3 ≠ some b) : Box4 w' b p q r s :=
  ⟨Nat.lt_of_lt_of_le h.lt ht.size, by rw [ht.cell h.lt n1 n2 n3]; exact h.c0, by rw [ht.cell h.lt n1 n2 n3]; exact h.c1, by rw [ht.cell h.lt n1 n2 n3]; exact h.c2, by rw [ht.cell h.lt n1 n2 n3]; exact h.c3⟩
theorem Box4.grown {w w' : World} {o : Option Nat} {b : Nat} {p q r s : Int} (h : Box4 w b p q r s) (ht : w.grownBy w' o) (n1 : o ≠ some b) : Box4 w' b p q r s :=
  h.turned (Turned.one ht) n1 (by simp) (by simp)
end Go.Proofs.Ytdodmcmkelegoaa
