/-
  No cell of these rows narrows 'for every input' (looked for: loops, veiled, ifaces, maps, wideKeys, modest, calm, conditions, laid).
  DERIVED. THE GIVEN ROWS OF THIS SEAT. 4 by the template 'for every input the law returns true; each argument reads behind the call as it read before'; 0 by the template 'total and deterministic' (their statements: YthfmgclndokknaaTotals.lean).
  GIVEN WITH THE SEED: the statements are not yours to turn. If you find one false, say at which input.
  Laid BY PROGRAM, IN A SANDBOX (cutbox-rows.mjs): the forced cells as the released guide's own fill.sh prints them over the translation ac0ea5bc3c4b8850… (all of the seat's roots in one cut). By AI agents, Wed Nov 11 2026. No macro, syntax, notation, axiom, sorry.
-/
import Derived.Test.YthfmgclndokknaaChecked
import GoSem.Claim
import GoSem.ClaimJoined
import GoSem.ClaimMapViews
import Derived.JoinedTies
import Derived.KernelRfl
namespace Go.Proofs.Ythfmgclndokknaa
/- THE CELL 'sum', in the pinned program and in every row, IS THE sha256 OF THE DUMP (.gsa) THAT YthfmgclndokknaaProg.lean LOADS. Nothing in Lean hashes anything: it is a label: what it is worth is what the hold of that sum in a sandbox is worth. -/
noncomputable def Try.pinned : Pinned := { name := "ythfmgclndokknaa", sum := "ac0ea5bc3c4b8850ded1ceb89a3e3765a68f3ec0a62a56b521e0612663eb5d57", checked := Try.checked }
namespace Rows
def none {H : Type} : Left H := { results := [], args := [] }

/-- 'laws.FnExactPitNetwork': WHATEVER THE INPUT: true; the input reads as it did. -/
def fnExactPitNetworkSpec : ChangeSpec := { name := "fnExactPitNetwork", fn := fun _ => fun
  | [d1, d2] => { results := [.lit (.bool true)], args := [d1, d2] }
  | _ => none }
def fnExactPitNetworkRow : OpenClaim := { program := "ythfmgclndokknaa", sum := "ac0ea5bc3c4b8850ded1ceb89a3e3765a68f3ec0a62a56b521e0612663eb5d57", func := "loop.example/g00914/laws.FnExactPitNetwork", spec := "fnExactPitNetwork", unfollowed := true, recurses := true, apart := false }
def FnExactPitNetworkSaid : Prop := fnExactPitNetworkRow.holds Try.pinned (OpenSpec.ofChange fnExactPitNetworkSpec)

/-- ITS FALSE NEIGHBOUR: 'it returns false'. Refute it at one input. -/
def fnExactPitNetworkWrong : ChangeSpec := { name := "fnExactPitNetwork", fn := fun _ => fun
  | [d1, d2] => { results := [.lit (.bool false)], args := [d1, d2] }
  | _ => none }
def FnExactPitNetworkWrongFalsely : Prop := fnExactPitNetworkRow.holds Try.pinned (OpenSpec.ofChange fnExactPitNetworkWrong)

/-- 'laws.FnExactForcedPit': WHATEVER THE INPUT: true; the input reads as it did. -/
def fnExactForcedPitSpec : ChangeSpec := { name := "fnExactForcedPit", fn := fun _ => fun
  | [d1, d2, d3] => { results := [.lit (.bool true)], args := [d1, d2, d3] }
  | _ => none }
def fnExactForcedPitRow : OpenClaim := { program := "ythfmgclndokknaa", sum := "ac0ea5bc3c4b8850ded1ceb89a3e3765a68f3ec0a62a56b521e0612663eb5d57", func := "loop.example/g00914/laws.FnExactForcedPit", spec := "fnExactForcedPit", unfollowed := true, recurses := true, apart := false }
def FnExactForcedPitSaid : Prop := fnExactForcedPitRow.holds Try.pinned (OpenSpec.ofChange fnExactForcedPitSpec)

/-- ITS FALSE NEIGHBOUR: 'it returns false'. Refute it at one input. -/
def fnExactForcedPitWrong : ChangeSpec := { name := "fnExactForcedPit", fn := fun _ => fun
  | [d1, d2, d3] => { results := [.lit (.bool false)], args := [d1, d2, d3] }
  | _ => none }
def FnExactForcedPitWrongFalsely : Prop := fnExactForcedPitRow.holds Try.pinned (OpenSpec.ofChange fnExactForcedPitWrong)

/-- 'laws.FnExactPitInside': WHATEVER THE INPUT: true; the input reads as it did. -/
def fnExactPitInsideSpec : ChangeSpec := { name := "fnExactPitInside", fn := fun _ => fun
  | [d1, d2, d3] => { results := [.lit (.bool true)], args := [d1, d2, d3] }
  | _ => none }
def fnExactPitInsideRow : OpenClaim := { program := "ythfmgclndokknaa", sum := "ac0ea5bc3c4b8850ded1ceb89a3e3765a68f3ec0a62a56b521e0612663eb5d57", func := "loop.example/g00914/laws.FnExactPitInside", spec := "fnExactPitInside", unfollowed := true, recurses := true, apart := false }
def FnExactPitInsideSaid : Prop := fnExactPitInsideRow.holds Try.pinned (OpenSpec.ofChange fnExactPitInsideSpec)

/-- ITS FALSE NEIGHBOUR: 'it returns false'. Refute it at one input. -/
def fnExactPitInsideWrong : ChangeSpec := { name := "fnExactPitInside", fn := fun _ => fun
  | [d1, d2, d3] => { results := [.lit (.bool false)], args := [d1, d2, d3] }
  | _ => none }
def FnExactPitInsideWrongFalsely : Prop := fnExactPitInsideRow.holds Try.pinned (OpenSpec.ofChange fnExactPitInsideWrong)

/-- 'laws.FnExactLossWithout': WHATEVER THE INPUT: true; the input reads as it did. -/
def fnExactLossWithoutSpec : ChangeSpec := { name := "fnExactLossWithout", fn := fun _ => fun
  | [d1, d2, d3] => { results := [.lit (.bool true)], args := [d1, d2, d3] }
  | _ => none }
def fnExactLossWithoutRow : OpenClaim := { program := "ythfmgclndokknaa", sum := "ac0ea5bc3c4b8850ded1ceb89a3e3765a68f3ec0a62a56b521e0612663eb5d57", func := "loop.example/g00914/laws.FnExactLossWithout", spec := "fnExactLossWithout", unfollowed := true, recurses := true, apart := false }
def FnExactLossWithoutSaid : Prop := fnExactLossWithoutRow.holds Try.pinned (OpenSpec.ofChange fnExactLossWithoutSpec)

/-- ITS FALSE NEIGHBOUR: 'it returns false'. Refute it at one input. -/
def fnExactLossWithoutWrong : ChangeSpec := { name := "fnExactLossWithout", fn := fun _ => fun
  | [d1, d2, d3] => { results := [.lit (.bool false)], args := [d1, d2, d3] }
  | _ => none }
def FnExactLossWithoutWrongFalsely : Prop := fnExactLossWithoutRow.holds Try.pinned (OpenSpec.ofChange fnExactLossWithoutWrong)

/- THE SECOND FORM. 'bulk': how many values and letters a reading holds, each counted each time it is reached (what is shared counts as often as it is met; a slice's spare places count too). A statement '..UptoSaid' is the law's where the arguments, and the package variables that the reading takes, are together of bulk at most 1048576: NARROWER than '..Said'. Prove '..Said' where nothing that the law and all that it calls make is longer than what came in: it says more and counts as full. Else prove '..UptoSaid'. A law counts once. -/
mutual
def uptoBulk {H : Type} : DataW H → Nat
  | .lit (.string bytes) => bytes.length + 1
  | .lit _ => 1
  | .nil => 1
  | .ptr d => uptoBulk d + 1
  | .slice elems spare => uptoBulkAll elems + uptoBulkAll spare + 1
  | .agg parts => uptoBulkAll parts + 1
  | .iface _ d => uptoBulk d + 1
  | .map entries => uptoBulkEntries entries + 1
  | .held _ => 1
def uptoBulkAll {H : Type} : List (DataW H) → Nat
  | [] => 0
  | d :: r => uptoBulk d + uptoBulkAll r
def uptoBulkEntries {H : Type} : List (Lit × DataW H) → Nat
  | [] => 0
  | x :: r => uptoBulkEntry x + uptoBulkEntries r
def uptoBulkEntry {H : Type} : Lit × DataW H → Nat
  | (.string bytes, d) => bytes.length + uptoBulk d + 1
  | (_, d) => uptoBulk d + 1
 end
def uptoSmall : (H : Type) → List (DataW H) → Bool := fun _ ds => decide (uptoBulkAll ds ≤ 1048576)
def OpenSpec.upto (s : _root_.Go.ChangeSpec) : _root_.Go.OpenSpec := { _root_.Go.OpenSpec.ofChange s with cond := some uptoSmall }

/-- 'laws.FnExactPitNetwork', WHERE WHAT IT READS IS OF BULK AT MOST 1048576: true; the input reads as it did. -/
def fnExactPitNetworkUptoRow : OpenClaim := { program := "ythfmgclndokknaa", sum := "ac0ea5bc3c4b8850ded1ceb89a3e3765a68f3ec0a62a56b521e0612663eb5d57", func := "loop.example/g00914/laws.FnExactPitNetwork", spec := "fnExactPitNetwork", unfollowed := true, recurses := true, apart := false, narrowed := true }
def FnExactPitNetworkUptoSaid : Prop := fnExactPitNetworkUptoRow.holds Try.pinned (OpenSpec.upto fnExactPitNetworkSpec)

/-- 'laws.FnExactForcedPit', WHERE WHAT IT READS IS OF BULK AT MOST 1048576: true; the input reads as it did. -/
def fnExactForcedPitUptoRow : OpenClaim := { program := "ythfmgclndokknaa", sum := "ac0ea5bc3c4b8850ded1ceb89a3e3765a68f3ec0a62a56b521e0612663eb5d57", func := "loop.example/g00914/laws.FnExactForcedPit", spec := "fnExactForcedPit", unfollowed := true, recurses := true, apart := false, narrowed := true }
def FnExactForcedPitUptoSaid : Prop := fnExactForcedPitUptoRow.holds Try.pinned (OpenSpec.upto fnExactForcedPitSpec)

/-- 'laws.FnExactPitInside', WHERE WHAT IT READS IS OF BULK AT MOST 1048576: true; the input reads as it did. -/
def fnExactPitInsideUptoRow : OpenClaim := { program := "ythfmgclndokknaa", sum := "ac0ea5bc3c4b8850ded1ceb89a3e3765a68f3ec0a62a56b521e0612663eb5d57", func := "loop.example/g00914/laws.FnExactPitInside", spec := "fnExactPitInside", unfollowed := true, recurses := true, apart := false, narrowed := true }
def FnExactPitInsideUptoSaid : Prop := fnExactPitInsideUptoRow.holds Try.pinned (OpenSpec.upto fnExactPitInsideSpec)

/-- 'laws.FnExactLossWithout', WHERE WHAT IT READS IS OF BULK AT MOST 1048576: true; the input reads as it did. -/
def fnExactLossWithoutUptoRow : OpenClaim := { program := "ythfmgclndokknaa", sum := "ac0ea5bc3c4b8850ded1ceb89a3e3765a68f3ec0a62a56b521e0612663eb5d57", func := "loop.example/g00914/laws.FnExactLossWithout", spec := "fnExactLossWithout", unfollowed := true, recurses := true, apart := false, narrowed := true }
def FnExactLossWithoutUptoSaid : Prop := fnExactLossWithoutUptoRow.holds Try.pinned (OpenSpec.upto fnExactLossWithoutSpec)

end Rows
end Go.Proofs.Ythfmgclndokknaa
