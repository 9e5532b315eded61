/-
  No cell of these rows narrows 'for every input' (looked for: loops, veiled, ifaces, maps, wideKeys, modest, calm, conditions, laid).
  DERIVED. THE GIVEN ROWS OF THIS SEAT. 10 by the template 'for every input the law returns true; each argument reads behind the call as it read before'; 0 by the template 'total and deterministic' (their statements: YtoakpepoopjlaaaTotals.lean).
  GIVEN WITH THE SEED: the statements are not yours to turn. If you find one false, say at which input.
  Laid BY PROGRAM, IN A SANDBOX (cutbox-rows.mjs): the forced cells as the released guide's own fill.sh prints them over the translation 26d31c9da925784e… (all of the seat's roots in one cut). By AI agents, Wed Nov 11 2026. No macro, syntax, notation, axiom, sorry.
-/
import Derived.Test.YtoakpepoopjlaaaChecked
import GoSem.Claim
import GoSem.ClaimJoined
import GoSem.ClaimMapViews
import Derived.JoinedTies
import Derived.KernelRfl
namespace Go.Proofs.Ytoakpepoopjlaaa
/- THE CELL 'sum', in the pinned program and in every row, IS THE sha256 OF THE DUMP (.gsa) THAT YtoakpepoopjlaaaProg.lean LOADS. Nothing in Lean hashes anything: it is a label: what it is worth is what the hold of that sum in a sandbox is worth. -/
noncomputable def Try.pinned : Pinned := { name := "ytoakpepoopjlaaa", sum := "26d31c9da925784eaa8f50e55ae49a724f2939c0dcc7750713c0952d900c9b9d", checked := Try.checked }
namespace Rows
def none {H : Type} : Left H := { results := [], args := [] }

/-- 'laws.FnExactAreGains': WHATEVER THE INPUT: true; the input reads as it did. -/
def fnExactAreGainsSpec : ChangeSpec := { name := "fnExactAreGains", fn := fun _ => fun
  | [d1, d2, d3] => { results := [.lit (.bool true)], args := [d1, d2, d3] }
  | _ => none }
def fnExactAreGainsRow : OpenClaim := { program := "ytoakpepoopjlaaa", sum := "26d31c9da925784eaa8f50e55ae49a724f2939c0dcc7750713c0952d900c9b9d", func := "loop.example/g00914/laws.FnExactAreGains", spec := "fnExactAreGains", apart := false }
def FnExactAreGainsSaid : Prop := fnExactAreGainsRow.holds Try.pinned (OpenSpec.ofChange fnExactAreGainsSpec)

/-- ITS FALSE NEIGHBOUR: 'it returns false'. Refute it at one input. -/
def fnExactAreGainsWrong : ChangeSpec := { name := "fnExactAreGains", fn := fun _ => fun
  | [d1, d2, d3] => { results := [.lit (.bool false)], args := [d1, d2, d3] }
  | _ => none }
def FnExactAreGainsWrongFalsely : Prop := fnExactAreGainsRow.holds Try.pinned (OpenSpec.ofChange fnExactAreGainsWrong)

/-- 'laws.FnExactFactorValues': WHATEVER THE INPUT: true; the input reads as it did. -/
def fnExactFactorValuesSpec : ChangeSpec := { name := "fnExactFactorValues", fn := fun _ => fun
  | [d1, d2, d3] => { results := [.lit (.bool true)], args := [d1, d2, d3] }
  | _ => none }
def fnExactFactorValuesRow : OpenClaim := { program := "ytoakpepoopjlaaa", sum := "26d31c9da925784eaa8f50e55ae49a724f2939c0dcc7750713c0952d900c9b9d", func := "loop.example/g00914/laws.FnExactFactorValues", spec := "fnExactFactorValues", apart := false }
def FnExactFactorValuesSaid : Prop := fnExactFactorValuesRow.holds Try.pinned (OpenSpec.ofChange fnExactFactorValuesSpec)

/-- ITS FALSE NEIGHBOUR: 'it returns false'. Refute it at one input. -/
def fnExactFactorValuesWrong : ChangeSpec := { name := "fnExactFactorValues", fn := fun _ => fun
  | [d1, d2, d3] => { results := [.lit (.bool false)], args := [d1, d2, d3] }
  | _ => none }
def FnExactFactorValuesWrongFalsely : Prop := fnExactFactorValuesRow.holds Try.pinned (OpenSpec.ofChange fnExactFactorValuesWrong)

/-- 'laws.FnExactPitAt': WHATEVER THE INPUT: true; the input reads as it did. -/
def fnExactPitAtSpec : ChangeSpec := { name := "fnExactPitAt", fn := fun _ => fun
  | [d1, d2, d3, d4] => { results := [.lit (.bool true)], args := [d1, d2, d3, d4] }
  | _ => none }
def fnExactPitAtRow : OpenClaim := { program := "ytoakpepoopjlaaa", sum := "26d31c9da925784eaa8f50e55ae49a724f2939c0dcc7750713c0952d900c9b9d", func := "loop.example/g00914/laws.FnExactPitAt", spec := "fnExactPitAt", unfollowed := true, recurses := true, apart := false }
def FnExactPitAtSaid : Prop := fnExactPitAtRow.holds Try.pinned (OpenSpec.ofChange fnExactPitAtSpec)

/-- ITS FALSE NEIGHBOUR: 'it returns false'. Refute it at one input. -/
def fnExactPitAtWrong : ChangeSpec := { name := "fnExactPitAt", fn := fun _ => fun
  | [d1, d2, d3, d4] => { results := [.lit (.bool false)], args := [d1, d2, d3, d4] }
  | _ => none }
def FnExactPitAtWrongFalsely : Prop := fnExactPitAtRow.holds Try.pinned (OpenSpec.ofChange fnExactPitAtWrong)

/-- 'laws.FnExactPitsTo': WHATEVER THE INPUT: true; the input reads as it did. -/
def fnExactPitsToSpec : ChangeSpec := { name := "fnExactPitsTo", fn := fun _ => fun
  | [d1, d2, d3, d4] => { results := [.lit (.bool true)], args := [d1, d2, d3, d4] }
  | _ => none }
def fnExactPitsToRow : OpenClaim := { program := "ytoakpepoopjlaaa", sum := "26d31c9da925784eaa8f50e55ae49a724f2939c0dcc7750713c0952d900c9b9d", func := "loop.example/g00914/laws.FnExactPitsTo", spec := "fnExactPitsTo", unfollowed := true, recurses := true, apart := false }
def FnExactPitsToSaid : Prop := fnExactPitsToRow.holds Try.pinned (OpenSpec.ofChange fnExactPitsToSpec)

/-- ITS FALSE NEIGHBOUR: 'it returns false'. Refute it at one input. -/
def fnExactPitsToWrong : ChangeSpec := { name := "fnExactPitsTo", fn := fun _ => fun
  | [d1, d2, d3, d4] => { results := [.lit (.bool false)], args := [d1, d2, d3, d4] }
  | _ => none }
def FnExactPitsToWrongFalsely : Prop := fnExactPitsToRow.holds Try.pinned (OpenSpec.ofChange fnExactPitsToWrong)

/-- 'laws.FnExactChangesOf': WHATEVER THE INPUT: true; the input reads as it did. -/
def fnExactChangesOfSpec : ChangeSpec := { name := "fnExactChangesOf", fn := fun _ => fun
  | [d1, d2, d3, d4] => { results := [.lit (.bool true)], args := [d1, d2, d3, d4] }
  | _ => none }
def fnExactChangesOfRow : OpenClaim := { program := "ytoakpepoopjlaaa", sum := "26d31c9da925784eaa8f50e55ae49a724f2939c0dcc7750713c0952d900c9b9d", func := "loop.example/g00914/laws.FnExactChangesOf", spec := "fnExactChangesOf", unfollowed := true, recurses := true, apart := false }
def FnExactChangesOfSaid : Prop := fnExactChangesOfRow.holds Try.pinned (OpenSpec.ofChange fnExactChangesOfSpec)

/-- ITS FALSE NEIGHBOUR: 'it returns false'. Refute it at one input. -/
def fnExactChangesOfWrong : ChangeSpec := { name := "fnExactChangesOf", fn := fun _ => fun
  | [d1, d2, d3, d4] => { results := [.lit (.bool false)], args := [d1, d2, d3, d4] }
  | _ => none }
def FnExactChangesOfWrongFalsely : Prop := fnExactChangesOfRow.holds Try.pinned (OpenSpec.ofChange fnExactChangesOfWrong)

/-- 'laws.FnExactFirstFactors': WHATEVER THE INPUT: true; the input reads as it did. -/
def fnExactFirstFactorsSpec : ChangeSpec := { name := "fnExactFirstFactors", fn := fun _ => fun
  | [d1, d2, d3, d4] => { results := [.lit (.bool true)], args := [d1, d2, d3, d4] }
  | _ => none }
def fnExactFirstFactorsRow : OpenClaim := { program := "ytoakpepoopjlaaa", sum := "26d31c9da925784eaa8f50e55ae49a724f2939c0dcc7750713c0952d900c9b9d", func := "loop.example/g00914/laws.FnExactFirstFactors", spec := "fnExactFirstFactors", unfollowed := true, recurses := true, apart := false }
def FnExactFirstFactorsSaid : Prop := fnExactFirstFactorsRow.holds Try.pinned (OpenSpec.ofChange fnExactFirstFactorsSpec)

/-- ITS FALSE NEIGHBOUR: 'it returns false'. Refute it at one input. -/
def fnExactFirstFactorsWrong : ChangeSpec := { name := "fnExactFirstFactors", fn := fun _ => fun
  | [d1, d2, d3, d4] => { results := [.lit (.bool false)], args := [d1, d2, d3, d4] }
  | _ => none }
def FnExactFirstFactorsWrongFalsely : Prop := fnExactFirstFactorsRow.holds Try.pinned (OpenSpec.ofChange fnExactFirstFactorsWrong)

/-- 'laws.FnExactShellsOf': WHATEVER THE INPUT: true; the input reads as it did. -/
def fnExactShellsOfSpec : ChangeSpec := { name := "fnExactShellsOf", fn := fun _ => fun
  | [d1, d2, d3, d4] => { results := [.lit (.bool true)], args := [d1, d2, d3, d4] }
  | _ => none }
def fnExactShellsOfRow : OpenClaim := { program := "ytoakpepoopjlaaa", sum := "26d31c9da925784eaa8f50e55ae49a724f2939c0dcc7750713c0952d900c9b9d", func := "loop.example/g00914/laws.FnExactShellsOf", spec := "fnExactShellsOf", unfollowed := true, recurses := true, apart := false }
def FnExactShellsOfSaid : Prop := fnExactShellsOfRow.holds Try.pinned (OpenSpec.ofChange fnExactShellsOfSpec)

/-- ITS FALSE NEIGHBOUR: 'it returns false'. Refute it at one input. -/
def fnExactShellsOfWrong : ChangeSpec := { name := "fnExactShellsOf", fn := fun _ => fun
  | [d1, d2, d3, d4] => { results := [.lit (.bool false)], args := [d1, d2, d3, d4] }
  | _ => none }
def FnExactShellsOfWrongFalsely : Prop := fnExactShellsOfRow.holds Try.pinned (OpenSpec.ofChange fnExactShellsOfWrong)

/-- 'laws.FnExactValuesTo': WHATEVER THE INPUT: true; the input reads as it did. -/
def fnExactValuesToSpec : ChangeSpec := { name := "fnExactValuesTo", fn := fun _ => fun
  | [d1, d2, d3, d4] => { results := [.lit (.bool true)], args := [d1, d2, d3, d4] }
  | _ => none }
def fnExactValuesToRow : OpenClaim := { program := "ytoakpepoopjlaaa", sum := "26d31c9da925784eaa8f50e55ae49a724f2939c0dcc7750713c0952d900c9b9d", func := "loop.example/g00914/laws.FnExactValuesTo", spec := "fnExactValuesTo", unfollowed := true, recurses := true, apart := false }
def FnExactValuesToSaid : Prop := fnExactValuesToRow.holds Try.pinned (OpenSpec.ofChange fnExactValuesToSpec)

/-- ITS FALSE NEIGHBOUR: 'it returns false'. Refute it at one input. -/
def fnExactValuesToWrong : ChangeSpec := { name := "fnExactValuesTo", fn := fun _ => fun
  | [d1, d2, d3, d4] => { results := [.lit (.bool false)], args := [d1, d2, d3, d4] }
  | _ => none }
def FnExactValuesToWrongFalsely : Prop := fnExactValuesToRow.holds Try.pinned (OpenSpec.ofChange fnExactValuesToWrong)

/-- 'laws.FnExactIsChain': WHATEVER THE INPUT: true; the input reads as it did. -/
def fnExactIsChainSpec : ChangeSpec := { name := "fnExactIsChain", fn := fun _ => fun
  | [d] => { results := [.lit (.bool true)], args := [d] }
  | _ => none }
def fnExactIsChainRow : OpenClaim := { program := "ytoakpepoopjlaaa", sum := "26d31c9da925784eaa8f50e55ae49a724f2939c0dcc7750713c0952d900c9b9d", func := "loop.example/g00914/laws.FnExactIsChain", spec := "fnExactIsChain", unfollowed := true, recurses := true, apart := false }
def FnExactIsChainSaid : Prop := fnExactIsChainRow.holds Try.pinned (OpenSpec.ofChange fnExactIsChainSpec)

/-- ITS FALSE NEIGHBOUR: 'it returns false'. Refute it at one input. -/
def fnExactIsChainWrong : ChangeSpec := { name := "fnExactIsChain", fn := fun _ => fun
  | [d] => { results := [.lit (.bool false)], args := [d] }
  | _ => none }
def FnExactIsChainWrongFalsely : Prop := fnExactIsChainRow.holds Try.pinned (OpenSpec.ofChange fnExactIsChainWrong)

/-- 'laws.FnExactNearestPit': WHATEVER THE INPUT: true; the input reads as it did. -/
def fnExactNearestPitSpec : ChangeSpec := { name := "fnExactNearestPit", fn := fun _ => fun
  | [d1, d2, d3, d4, d5] => { results := [.lit (.bool true)], args := [d1, d2, d3, d4, d5] }
  | _ => none }
def fnExactNearestPitRow : OpenClaim := { program := "ytoakpepoopjlaaa", sum := "26d31c9da925784eaa8f50e55ae49a724f2939c0dcc7750713c0952d900c9b9d", func := "loop.example/g00914/laws.FnExactNearestPit", spec := "fnExactNearestPit", unfollowed := true, recurses := true, apart := false }
def FnExactNearestPitSaid : Prop := fnExactNearestPitRow.holds Try.pinned (OpenSpec.ofChange fnExactNearestPitSpec)

/-- ITS FALSE NEIGHBOUR: 'it returns false'. Refute it at one input. -/
def fnExactNearestPitWrong : ChangeSpec := { name := "fnExactNearestPit", fn := fun _ => fun
  | [d1, d2, d3, d4, d5] => { results := [.lit (.bool false)], args := [d1, d2, d3, d4, d5] }
  | _ => none }
def FnExactNearestPitWrongFalsely : Prop := fnExactNearestPitRow.holds Try.pinned (OpenSpec.ofChange fnExactNearestPitWrong)

/- THE SECOND FORM. 'bulk': how many values and letters a reading holds, each counted each time it is reached (what is shared counts as often as it is met; a slice's spare places count too). A statement '..UptoSaid' is the law's where the arguments, and the package variables that the reading takes, are together of bulk at most 1048576: NARROWER than '..Said'. Prove '..Said' where nothing that the law and all that it calls make is longer than what came in: it says more and counts as full. Else prove '..UptoSaid'. A law counts once. -/
mutual
def uptoBulk {H : Type} : DataW H → Nat
  | .lit (.string bytes) => bytes.length + 1
  | .lit _ => 1
  | .nil => 1
  | .ptr d => uptoBulk d + 1
  | .slice elems spare => uptoBulkAll elems + uptoBulkAll spare + 1
  | .agg parts => uptoBulkAll parts + 1
  | .iface _ d => uptoBulk d + 1
  | .map entries => uptoBulkEntries entries + 1
  | .held _ => 1
def uptoBulkAll {H : Type} : List (DataW H) → Nat
  | [] => 0
  | d :: r => uptoBulk d + uptoBulkAll r
def uptoBulkEntries {H : Type} : List (Lit × DataW H) → Nat
  | [] => 0
  | x :: r => uptoBulkEntry x + uptoBulkEntries r
def uptoBulkEntry {H : Type} : Lit × DataW H → Nat
  | (.string bytes, d) => bytes.length + uptoBulk d + 1
  | (_, d) => uptoBulk d + 1
 end
def uptoSmall : (H : Type) → List (DataW H) → Bool := fun _ ds => decide (uptoBulkAll ds ≤ 1048576)
def OpenSpec.upto (s : _root_.Go.ChangeSpec) : _root_.Go.OpenSpec := { _root_.Go.OpenSpec.ofChange s with cond := some uptoSmall }

/-- 'laws.FnExactAreGains', WHERE WHAT IT READS IS OF BULK AT MOST 1048576: true; the input reads as it did. -/
def fnExactAreGainsUptoRow : OpenClaim := { program := "ytoakpepoopjlaaa", sum := "26d31c9da925784eaa8f50e55ae49a724f2939c0dcc7750713c0952d900c9b9d", func := "loop.example/g00914/laws.FnExactAreGains", spec := "fnExactAreGains", apart := false, narrowed := true }
def FnExactAreGainsUptoSaid : Prop := fnExactAreGainsUptoRow.holds Try.pinned (OpenSpec.upto fnExactAreGainsSpec)

/-- 'laws.FnExactFactorValues', WHERE WHAT IT READS IS OF BULK AT MOST 1048576: true; the input reads as it did. -/
def fnExactFactorValuesUptoRow : OpenClaim := { program := "ytoakpepoopjlaaa", sum := "26d31c9da925784eaa8f50e55ae49a724f2939c0dcc7750713c0952d900c9b9d", func := "loop.example/g00914/laws.FnExactFactorValues", spec := "fnExactFactorValues", apart := false, narrowed := true }
def FnExactFactorValuesUptoSaid : Prop := fnExactFactorValuesUptoRow.holds Try.pinned (OpenSpec.upto fnExactFactorValuesSpec)

/-- 'laws.FnExactPitAt', WHERE WHAT IT READS IS OF BULK AT MOST 1048576: true; the input reads as it did. -/
def fnExactPitAtUptoRow : OpenClaim := { program := "ytoakpepoopjlaaa", sum := "26d31c9da925784eaa8f50e55ae49a724f2939c0dcc7750713c0952d900c9b9d", func := "loop.example/g00914/laws.FnExactPitAt", spec := "fnExactPitAt", unfollowed := true, recurses := true, apart := false, narrowed := true }
def FnExactPitAtUptoSaid : Prop := fnExactPitAtUptoRow.holds Try.pinned (OpenSpec.upto fnExactPitAtSpec)

/-- 'laws.FnExactPitsTo', WHERE WHAT IT READS IS OF BULK AT MOST 1048576: true; the input reads as it did. -/
def fnExactPitsToUptoRow : OpenClaim := { program := "ytoakpepoopjlaaa", sum := "26d31c9da925784eaa8f50e55ae49a724f2939c0dcc7750713c0952d900c9b9d", func := "loop.example/g00914/laws.FnExactPitsTo", spec := "fnExactPitsTo", unfollowed := true, recurses := true, apart := false, narrowed := true }
def FnExactPitsToUptoSaid : Prop := fnExactPitsToUptoRow.holds Try.pinned (OpenSpec.upto fnExactPitsToSpec)

/-- 'laws.FnExactChangesOf', WHERE WHAT IT READS IS OF BULK AT MOST 1048576: true; the input reads as it did. -/
def fnExactChangesOfUptoRow : OpenClaim := { program := "ytoakpepoopjlaaa", sum := "26d31c9da925784eaa8f50e55ae49a724f2939c0dcc7750713c0952d900c9b9d", func := "loop.example/g00914/laws.FnExactChangesOf", spec := "fnExactChangesOf", unfollowed := true, recurses := true, apart := false, narrowed := true }
def FnExactChangesOfUptoSaid : Prop := fnExactChangesOfUptoRow.holds Try.pinned (OpenSpec.upto fnExactChangesOfSpec)

/-- 'laws.FnExactFirstFactors', WHERE WHAT IT READS IS OF BULK AT MOST 1048576: true; the input reads as it did. -/
def fnExactFirstFactorsUptoRow : OpenClaim := { program := "ytoakpepoopjlaaa", sum := "26d31c9da925784eaa8f50e55ae49a724f2939c0dcc7750713c0952d900c9b9d", func := "loop.example/g00914/laws.FnExactFirstFactors", spec := "fnExactFirstFactors", unfollowed := true, recurses := true, apart := false, narrowed := true }
def FnExactFirstFactorsUptoSaid : Prop := fnExactFirstFactorsUptoRow.holds Try.pinned (OpenSpec.upto fnExactFirstFactorsSpec)

/-- 'laws.FnExactShellsOf', WHERE WHAT IT READS IS OF BULK AT MOST 1048576: true; the input reads as it did. -/
def fnExactShellsOfUptoRow : OpenClaim := { program := "ytoakpepoopjlaaa", sum := "26d31c9da925784eaa8f50e55ae49a724f2939c0dcc7750713c0952d900c9b9d", func := "loop.example/g00914/laws.FnExactShellsOf", spec := "fnExactShellsOf", unfollowed := true, recurses := true, apart := false, narrowed := true }
def FnExactShellsOfUptoSaid : Prop := fnExactShellsOfUptoRow.holds Try.pinned (OpenSpec.upto fnExactShellsOfSpec)

/-- 'laws.FnExactValuesTo', WHERE WHAT IT READS IS OF BULK AT MOST 1048576: true; the input reads as it did. -/
def fnExactValuesToUptoRow : OpenClaim := { program := "ytoakpepoopjlaaa", sum := "26d31c9da925784eaa8f50e55ae49a724f2939c0dcc7750713c0952d900c9b9d", func := "loop.example/g00914/laws.FnExactValuesTo", spec := "fnExactValuesTo", unfollowed := true, recurses := true, apart := false, narrowed := true }
def FnExactValuesToUptoSaid : Prop := fnExactValuesToUptoRow.holds Try.pinned (OpenSpec.upto fnExactValuesToSpec)

/-- 'laws.FnExactIsChain', WHERE WHAT IT READS IS OF BULK AT MOST 1048576: true; the input reads as it did. -/
def fnExactIsChainUptoRow : OpenClaim := { program := "ytoakpepoopjlaaa", sum := "26d31c9da925784eaa8f50e55ae49a724f2939c0dcc7750713c0952d900c9b9d", func := "loop.example/g00914/laws.FnExactIsChain", spec := "fnExactIsChain", unfollowed := true, recurses := true, apart := false, narrowed := true }
def FnExactIsChainUptoSaid : Prop := fnExactIsChainUptoRow.holds Try.pinned (OpenSpec.upto fnExactIsChainSpec)

/-- 'laws.FnExactNearestPit', WHERE WHAT IT READS IS OF BULK AT MOST 1048576: true; the input reads as it did. -/
def fnExactNearestPitUptoRow : OpenClaim := { program := "ytoakpepoopjlaaa", sum := "26d31c9da925784eaa8f50e55ae49a724f2939c0dcc7750713c0952d900c9b9d", func := "loop.example/g00914/laws.FnExactNearestPit", spec := "fnExactNearestPit", unfollowed := true, recurses := true, apart := false, narrowed := true }
def FnExactNearestPitUptoSaid : Prop := fnExactNearestPitUptoRow.holds Try.pinned (OpenSpec.upto fnExactNearestPitSpec)

end Rows
end Go.Proofs.Ytoakpepoopjlaaa
