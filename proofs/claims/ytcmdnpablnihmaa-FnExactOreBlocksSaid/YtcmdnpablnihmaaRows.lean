/-
  No cell of these rows narrows 'for every input' (looked for: loops, veiled, ifaces, maps, wideKeys, modest, calm, conditions, laid).
  DERIVED. THE GIVEN ROWS OF THIS SEAT. 11 by the template 'for every input the law returns true; each argument reads behind the call as it read before'; 0 by the template 'total and deterministic' (their statements: YtcmdnpablnihmaaTotals.lean).
  GIVEN WITH THE SEED: the statements are not yours to turn. If you find one false, say at which input.
  Laid BY PROGRAM, IN A SANDBOX (cutbox-rows.mjs): the forced cells as the released guide's own fill.sh prints them over the translation f4ea4c0ed783d1e0… (all of the seat's roots in one cut). By AI agents, Wed Nov 11 2026. No macro, syntax, notation, axiom, sorry.
-/
import Derived.Test.YtcmdnpablnihmaaChecked
import GoSem.Claim
import GoSem.ClaimJoined
import GoSem.ClaimMapViews
import Derived.JoinedTies
import Derived.KernelRfl
namespace Go.Proofs.Ytcmdnpablnihmaa
/- THE CELL 'sum', in the pinned program and in every row, IS THE sha256 OF THE DUMP (.gsa) THAT YtcmdnpablnihmaaProg.lean LOADS. Nothing in Lean hashes anything: it is a label: what it is worth is what the hold of that sum in a sandbox is worth. -/
noncomputable def Try.pinned : Pinned := { name := "ytcmdnpablnihmaa", sum := "f4ea4c0ed783d1e0d15f044571deb45fb3f9c7e3231bb09f0a44a860af816808", checked := Try.checked }
namespace Rows
def none {H : Type} : Left H := { results := [], args := [] }

/-- 'laws.FnExactAreValues': WHATEVER THE INPUT: true; the input reads as it did. -/
def fnExactAreValuesSpec : ChangeSpec := { name := "fnExactAreValues", fn := fun _ => fun
  | [d1, d2] => { results := [.lit (.bool true)], args := [d1, d2] }
  | _ => none }
def fnExactAreValuesRow : OpenClaim := { program := "ytcmdnpablnihmaa", sum := "f4ea4c0ed783d1e0d15f044571deb45fb3f9c7e3231bb09f0a44a860af816808", func := "loop.example/g00914/laws.FnExactAreValues", spec := "fnExactAreValues", apart := false }
def FnExactAreValuesSaid : Prop := fnExactAreValuesRow.holds Try.pinned (OpenSpec.ofChange fnExactAreValuesSpec)

/-- ITS FALSE NEIGHBOUR: 'it returns false'. Refute it at one input. -/
def fnExactAreValuesWrong : ChangeSpec := { name := "fnExactAreValues", fn := fun _ => fun
  | [d1, d2] => { results := [.lit (.bool false)], args := [d1, d2] }
  | _ => none }
def FnExactAreValuesWrongFalsely : Prop := fnExactAreValuesRow.holds Try.pinned (OpenSpec.ofChange fnExactAreValuesWrong)

/-- 'laws.FnExactArePrices': WHATEVER THE INPUT: true; the input reads as it did. -/
def fnExactArePricesSpec : ChangeSpec := { name := "fnExactArePrices", fn := fun _ => fun
  | [d] => { results := [.lit (.bool true)], args := [d] }
  | _ => none }
def fnExactArePricesRow : OpenClaim := { program := "ytcmdnpablnihmaa", sum := "f4ea4c0ed783d1e0d15f044571deb45fb3f9c7e3231bb09f0a44a860af816808", func := "loop.example/g00914/laws.FnExactArePrices", spec := "fnExactArePrices", apart := false }
def FnExactArePricesSaid : Prop := fnExactArePricesRow.holds Try.pinned (OpenSpec.ofChange fnExactArePricesSpec)

/-- ITS FALSE NEIGHBOUR: 'it returns false'. Refute it at one input. -/
def fnExactArePricesWrong : ChangeSpec := { name := "fnExactArePrices", fn := fun _ => fun
  | [d] => { results := [.lit (.bool false)], args := [d] }
  | _ => none }
def FnExactArePricesWrongFalsely : Prop := fnExactArePricesRow.holds Try.pinned (OpenSpec.ofChange fnExactArePricesWrong)

/-- 'laws.FnExactRuleValue': WHATEVER THE INPUT: true; the input reads as it did. -/
def fnExactRuleValueSpec : ChangeSpec := { name := "fnExactRuleValue", fn := fun _ => fun
  | [d1, d2, d3] => { results := [.lit (.bool true)], args := [d1, d2, d3] }
  | _ => none }
def fnExactRuleValueRow : OpenClaim := { program := "ytcmdnpablnihmaa", sum := "f4ea4c0ed783d1e0d15f044571deb45fb3f9c7e3231bb09f0a44a860af816808", func := "loop.example/g00914/laws.FnExactRuleValue", spec := "fnExactRuleValue", unfollowed := true, recurses := true, apart := false }
def FnExactRuleValueSaid : Prop := fnExactRuleValueRow.holds Try.pinned (OpenSpec.ofChange fnExactRuleValueSpec)

/-- ITS FALSE NEIGHBOUR: 'it returns false'. Refute it at one input. -/
def fnExactRuleValueWrong : ChangeSpec := { name := "fnExactRuleValue", fn := fun _ => fun
  | [d1, d2, d3] => { results := [.lit (.bool false)], args := [d1, d2, d3] }
  | _ => none }
def FnExactRuleValueWrongFalsely : Prop := fnExactRuleValueRow.holds Try.pinned (OpenSpec.ofChange fnExactRuleValueWrong)

/-- 'laws.FnExactRuleValues': WHATEVER THE INPUT: true; the input reads as it did. -/
def fnExactRuleValuesSpec : ChangeSpec := { name := "fnExactRuleValues", fn := fun _ => fun
  | [d1, d2] => { results := [.lit (.bool true)], args := [d1, d2] }
  | _ => none }
def fnExactRuleValuesRow : OpenClaim := { program := "ytcmdnpablnihmaa", sum := "f4ea4c0ed783d1e0d15f044571deb45fb3f9c7e3231bb09f0a44a860af816808", func := "loop.example/g00914/laws.FnExactRuleValues", spec := "fnExactRuleValues", unfollowed := true, recurses := true, apart := false }
def FnExactRuleValuesSaid : Prop := fnExactRuleValuesRow.holds Try.pinned (OpenSpec.ofChange fnExactRuleValuesSpec)

/-- ITS FALSE NEIGHBOUR: 'it returns false'. Refute it at one input. -/
def fnExactRuleValuesWrong : ChangeSpec := { name := "fnExactRuleValues", fn := fun _ => fun
  | [d1, d2] => { results := [.lit (.bool false)], args := [d1, d2] }
  | _ => none }
def FnExactRuleValuesWrongFalsely : Prop := fnExactRuleValuesRow.holds Try.pinned (OpenSpec.ofChange fnExactRuleValuesWrong)

/-- 'laws.FnExactPriceValue': WHATEVER THE INPUT: true; the input reads as it did. -/
def fnExactPriceValueSpec : ChangeSpec := { name := "fnExactPriceValue", fn := fun _ => fun
  | [d1, d2, d3] => { results := [.lit (.bool true)], args := [d1, d2, d3] }
  | _ => none }
def fnExactPriceValueRow : OpenClaim := { program := "ytcmdnpablnihmaa", sum := "f4ea4c0ed783d1e0d15f044571deb45fb3f9c7e3231bb09f0a44a860af816808", func := "loop.example/g00914/laws.FnExactPriceValue", spec := "fnExactPriceValue", apart := false }
def FnExactPriceValueSaid : Prop := fnExactPriceValueRow.holds Try.pinned (OpenSpec.ofChange fnExactPriceValueSpec)

/-- ITS FALSE NEIGHBOUR: 'it returns false'. Refute it at one input. -/
def fnExactPriceValueWrong : ChangeSpec := { name := "fnExactPriceValue", fn := fun _ => fun
  | [d1, d2, d3] => { results := [.lit (.bool false)], args := [d1, d2, d3] }
  | _ => none }
def FnExactPriceValueWrongFalsely : Prop := fnExactPriceValueRow.holds Try.pinned (OpenSpec.ofChange fnExactPriceValueWrong)

/-- 'laws.FnExactPriceValues': WHATEVER THE INPUT: true; the input reads as it did. -/
def fnExactPriceValuesSpec : ChangeSpec := { name := "fnExactPriceValues", fn := fun _ => fun
  | [d1, d2] => { results := [.lit (.bool true)], args := [d1, d2] }
  | _ => none }
def fnExactPriceValuesRow : OpenClaim := { program := "ytcmdnpablnihmaa", sum := "f4ea4c0ed783d1e0d15f044571deb45fb3f9c7e3231bb09f0a44a860af816808", func := "loop.example/g00914/laws.FnExactPriceValues", spec := "fnExactPriceValues", apart := false }
def FnExactPriceValuesSaid : Prop := fnExactPriceValuesRow.holds Try.pinned (OpenSpec.ofChange fnExactPriceValuesSpec)

/-- ITS FALSE NEIGHBOUR: 'it returns false'. Refute it at one input. -/
def fnExactPriceValuesWrong : ChangeSpec := { name := "fnExactPriceValues", fn := fun _ => fun
  | [d1, d2] => { results := [.lit (.bool false)], args := [d1, d2] }
  | _ => none }
def FnExactPriceValuesWrongFalsely : Prop := fnExactPriceValuesRow.holds Try.pinned (OpenSpec.ofChange fnExactPriceValuesWrong)

/-- 'laws.FnExactCutOff': WHATEVER THE INPUT: true; the input reads as it did. -/
def fnExactCutOffSpec : ChangeSpec := { name := "fnExactCutOff", fn := fun _ => fun
  | [d] => { results := [.lit (.bool true)], args := [d] }
  | _ => none }
def fnExactCutOffRow : OpenClaim := { program := "ytcmdnpablnihmaa", sum := "f4ea4c0ed783d1e0d15f044571deb45fb3f9c7e3231bb09f0a44a860af816808", func := "loop.example/g00914/laws.FnExactCutOff", spec := "fnExactCutOff", apart := false }
def FnExactCutOffSaid : Prop := fnExactCutOffRow.holds Try.pinned (OpenSpec.ofChange fnExactCutOffSpec)

/-- ITS FALSE NEIGHBOUR: 'it returns false'. Refute it at one input. -/
def fnExactCutOffWrong : ChangeSpec := { name := "fnExactCutOff", fn := fun _ => fun
  | [d] => { results := [.lit (.bool false)], args := [d] }
  | _ => none }
def FnExactCutOffWrongFalsely : Prop := fnExactCutOffRow.holds Try.pinned (OpenSpec.ofChange fnExactCutOffWrong)

/-- 'laws.FnExactOreBlocks': WHATEVER THE INPUT: true; the input reads as it did. -/
def fnExactOreBlocksSpec : ChangeSpec := { name := "fnExactOreBlocks", fn := fun _ => fun
  | [d] => { results := [.lit (.bool true)], args := [d] }
  | _ => none }
def fnExactOreBlocksRow : OpenClaim := { program := "ytcmdnpablnihmaa", sum := "f4ea4c0ed783d1e0d15f044571deb45fb3f9c7e3231bb09f0a44a860af816808", func := "loop.example/g00914/laws.FnExactOreBlocks", spec := "fnExactOreBlocks", unfollowed := true, recurses := true, apart := false }
def FnExactOreBlocksSaid : Prop := fnExactOreBlocksRow.holds Try.pinned (OpenSpec.ofChange fnExactOreBlocksSpec)

/-- ITS FALSE NEIGHBOUR: 'it returns false'. Refute it at one input. -/
def fnExactOreBlocksWrong : ChangeSpec := { name := "fnExactOreBlocks", fn := fun _ => fun
  | [d] => { results := [.lit (.bool false)], args := [d] }
  | _ => none }
def FnExactOreBlocksWrongFalsely : Prop := fnExactOreBlocksRow.holds Try.pinned (OpenSpec.ofChange fnExactOreBlocksWrong)

/-- 'laws.FnExactSumOfValues': WHATEVER THE INPUT: true; the input reads as it did. -/
def fnExactSumOfValuesSpec : ChangeSpec := { name := "fnExactSumOfValues", fn := fun _ => fun
  | [d1, d2] => { results := [.lit (.bool true)], args := [d1, d2] }
  | _ => none }
def fnExactSumOfValuesRow : OpenClaim := { program := "ytcmdnpablnihmaa", sum := "f4ea4c0ed783d1e0d15f044571deb45fb3f9c7e3231bb09f0a44a860af816808", func := "loop.example/g00914/laws.FnExactSumOfValues", spec := "fnExactSumOfValues", unfollowed := true, recurses := true, apart := false }
def FnExactSumOfValuesSaid : Prop := fnExactSumOfValuesRow.holds Try.pinned (OpenSpec.ofChange fnExactSumOfValuesSpec)

/-- ITS FALSE NEIGHBOUR: 'it returns false'. Refute it at one input. -/
def fnExactSumOfValuesWrong : ChangeSpec := { name := "fnExactSumOfValues", fn := fun _ => fun
  | [d1, d2] => { results := [.lit (.bool false)], args := [d1, d2] }
  | _ => none }
def FnExactSumOfValuesWrongFalsely : Prop := fnExactSumOfValuesRow.holds Try.pinned (OpenSpec.ofChange fnExactSumOfValuesWrong)

/-- 'laws.FnExactStripRatio': WHATEVER THE INPUT: true; the input reads as it did. -/
def fnExactStripRatioSpec : ChangeSpec := { name := "fnExactStripRatio", fn := fun _ => fun
  | [d1, d2, d3] => { results := [.lit (.bool true)], args := [d1, d2, d3] }
  | _ => none }
def fnExactStripRatioRow : OpenClaim := { program := "ytcmdnpablnihmaa", sum := "f4ea4c0ed783d1e0d15f044571deb45fb3f9c7e3231bb09f0a44a860af816808", func := "loop.example/g00914/laws.FnExactStripRatio", spec := "fnExactStripRatio", apart := false }
def FnExactStripRatioSaid : Prop := fnExactStripRatioRow.holds Try.pinned (OpenSpec.ofChange fnExactStripRatioSpec)

/-- ITS FALSE NEIGHBOUR: 'it returns false'. Refute it at one input. -/
def fnExactStripRatioWrong : ChangeSpec := { name := "fnExactStripRatio", fn := fun _ => fun
  | [d1, d2, d3] => { results := [.lit (.bool false)], args := [d1, d2, d3] }
  | _ => none }
def FnExactStripRatioWrongFalsely : Prop := fnExactStripRatioRow.holds Try.pinned (OpenSpec.ofChange fnExactStripRatioWrong)

/-- 'laws.FnOre': WHATEVER THE INPUT: true; the input reads as it did. -/
def fnOreSpec : ChangeSpec := { name := "fnOre", fn := fun _ => fun
  | [d1, d2] => { results := [.lit (.bool true)], args := [d1, d2] }
  | _ => none }
def fnOreRow : OpenClaim := { program := "ytcmdnpablnihmaa", sum := "f4ea4c0ed783d1e0d15f044571deb45fb3f9c7e3231bb09f0a44a860af816808", func := "loop.example/g00914/laws.FnOre", spec := "fnOre", unfollowed := true, recurses := true, apart := false }
def FnOreSaid : Prop := fnOreRow.holds Try.pinned (OpenSpec.ofChange fnOreSpec)

/-- ITS FALSE NEIGHBOUR: 'it returns false'. Refute it at one input. -/
def fnOreWrong : ChangeSpec := { name := "fnOre", fn := fun _ => fun
  | [d1, d2] => { results := [.lit (.bool false)], args := [d1, d2] }
  | _ => none }
def FnOreWrongFalsely : Prop := fnOreRow.holds Try.pinned (OpenSpec.ofChange fnOreWrong)

/- THE SECOND FORM. 'bulk': how many values and letters a reading holds, each counted each time it is reached (what is shared counts as often as it is met; a slice's spare places count too). A statement '..UptoSaid' is the law's where the arguments, and the package variables that the reading takes, are together of bulk at most 1048576: NARROWER than '..Said'. Prove '..Said' where nothing that the law and all that it calls make is longer than what came in: it says more and counts as full. Else prove '..UptoSaid'. A law counts once. -/
mutual
def uptoBulk {H : Type} : DataW H → Nat
  | .lit (.string bytes) => bytes.length + 1
  | .lit _ => 1
  | .nil => 1
  | .ptr d => uptoBulk d + 1
  | .slice elems spare => uptoBulkAll elems + uptoBulkAll spare + 1
  | .agg parts => uptoBulkAll parts + 1
  | .iface _ d => uptoBulk d + 1
  | .map entries => uptoBulkEntries entries + 1
  | .held _ => 1
def uptoBulkAll {H : Type} : List (DataW H) → Nat
  | [] => 0
  | d :: r => uptoBulk d + uptoBulkAll r
def uptoBulkEntries {H : Type} : List (Lit × DataW H) → Nat
  | [] => 0
  | x :: r => uptoBulkEntry x + uptoBulkEntries r
def uptoBulkEntry {H : Type} : Lit × DataW H → Nat
  | (.string bytes, d) => bytes.length + uptoBulk d + 1
  | (_, d) => uptoBulk d + 1
 end
def uptoSmall : (H : Type) → List (DataW H) → Bool := fun _ ds => decide (uptoBulkAll ds ≤ 1048576)
def OpenSpec.upto (s : _root_.Go.ChangeSpec) : _root_.Go.OpenSpec := { _root_.Go.OpenSpec.ofChange s with cond := some uptoSmall }

/-- 'laws.FnExactAreValues', WHERE WHAT IT READS IS OF BULK AT MOST 1048576: true; the input reads as it did. -/
def fnExactAreValuesUptoRow : OpenClaim := { program := "ytcmdnpablnihmaa", sum := "f4ea4c0ed783d1e0d15f044571deb45fb3f9c7e3231bb09f0a44a860af816808", func := "loop.example/g00914/laws.FnExactAreValues", spec := "fnExactAreValues", apart := false, narrowed := true }
def FnExactAreValuesUptoSaid : Prop := fnExactAreValuesUptoRow.holds Try.pinned (OpenSpec.upto fnExactAreValuesSpec)

/-- 'laws.FnExactArePrices', WHERE WHAT IT READS IS OF BULK AT MOST 1048576: true; the input reads as it did. -/
def fnExactArePricesUptoRow : OpenClaim := { program := "ytcmdnpablnihmaa", sum := "f4ea4c0ed783d1e0d15f044571deb45fb3f9c7e3231bb09f0a44a860af816808", func := "loop.example/g00914/laws.FnExactArePrices", spec := "fnExactArePrices", apart := false, narrowed := true }
def FnExactArePricesUptoSaid : Prop := fnExactArePricesUptoRow.holds Try.pinned (OpenSpec.upto fnExactArePricesSpec)

/-- 'laws.FnExactRuleValue', WHERE WHAT IT READS IS OF BULK AT MOST 1048576: true; the input reads as it did. -/
def fnExactRuleValueUptoRow : OpenClaim := { program := "ytcmdnpablnihmaa", sum := "f4ea4c0ed783d1e0d15f044571deb45fb3f9c7e3231bb09f0a44a860af816808", func := "loop.example/g00914/laws.FnExactRuleValue", spec := "fnExactRuleValue", unfollowed := true, recurses := true, apart := false, narrowed := true }
def FnExactRuleValueUptoSaid : Prop := fnExactRuleValueUptoRow.holds Try.pinned (OpenSpec.upto fnExactRuleValueSpec)

/-- 'laws.FnExactRuleValues', WHERE WHAT IT READS IS OF BULK AT MOST 1048576: true; the input reads as it did. -/
def fnExactRuleValuesUptoRow : OpenClaim := { program := "ytcmdnpablnihmaa", sum := "f4ea4c0ed783d1e0d15f044571deb45fb3f9c7e3231bb09f0a44a860af816808", func := "loop.example/g00914/laws.FnExactRuleValues", spec := "fnExactRuleValues", unfollowed := true, recurses := true, apart := false, narrowed := true }
def FnExactRuleValuesUptoSaid : Prop := fnExactRuleValuesUptoRow.holds Try.pinned (OpenSpec.upto fnExactRuleValuesSpec)

/-- 'laws.FnExactPriceValue', WHERE WHAT IT READS IS OF BULK AT MOST 1048576: true; the input reads as it did. -/
def fnExactPriceValueUptoRow : OpenClaim := { program := "ytcmdnpablnihmaa", sum := "f4ea4c0ed783d1e0d15f044571deb45fb3f9c7e3231bb09f0a44a860af816808", func := "loop.example/g00914/laws.FnExactPriceValue", spec := "fnExactPriceValue", apart := false, narrowed := true }
def FnExactPriceValueUptoSaid : Prop := fnExactPriceValueUptoRow.holds Try.pinned (OpenSpec.upto fnExactPriceValueSpec)

/-- 'laws.FnExactPriceValues', WHERE WHAT IT READS IS OF BULK AT MOST 1048576: true; the input reads as it did. -/
def fnExactPriceValuesUptoRow : OpenClaim := { program := "ytcmdnpablnihmaa", sum := "f4ea4c0ed783d1e0d15f044571deb45fb3f9c7e3231bb09f0a44a860af816808", func := "loop.example/g00914/laws.FnExactPriceValues", spec := "fnExactPriceValues", apart := false, narrowed := true }
def FnExactPriceValuesUptoSaid : Prop := fnExactPriceValuesUptoRow.holds Try.pinned (OpenSpec.upto fnExactPriceValuesSpec)

/-- 'laws.FnExactCutOff', WHERE WHAT IT READS IS OF BULK AT MOST 1048576: true; the input reads as it did. -/
def fnExactCutOffUptoRow : OpenClaim := { program := "ytcmdnpablnihmaa", sum := "f4ea4c0ed783d1e0d15f044571deb45fb3f9c7e3231bb09f0a44a860af816808", func := "loop.example/g00914/laws.FnExactCutOff", spec := "fnExactCutOff", apart := false, narrowed := true }
def FnExactCutOffUptoSaid : Prop := fnExactCutOffUptoRow.holds Try.pinned (OpenSpec.upto fnExactCutOffSpec)

/-- 'laws.FnExactOreBlocks', WHERE WHAT IT READS IS OF BULK AT MOST 1048576: true; the input reads as it did. -/
def fnExactOreBlocksUptoRow : OpenClaim := { program := "ytcmdnpablnihmaa", sum := "f4ea4c0ed783d1e0d15f044571deb45fb3f9c7e3231bb09f0a44a860af816808", func := "loop.example/g00914/laws.FnExactOreBlocks", spec := "fnExactOreBlocks", unfollowed := true, recurses := true, apart := false, narrowed := true }
def FnExactOreBlocksUptoSaid : Prop := fnExactOreBlocksUptoRow.holds Try.pinned (OpenSpec.upto fnExactOreBlocksSpec)

/-- 'laws.FnExactSumOfValues', WHERE WHAT IT READS IS OF BULK AT MOST 1048576: true; the input reads as it did. -/
def fnExactSumOfValuesUptoRow : OpenClaim := { program := "ytcmdnpablnihmaa", sum := "f4ea4c0ed783d1e0d15f044571deb45fb3f9c7e3231bb09f0a44a860af816808", func := "loop.example/g00914/laws.FnExactSumOfValues", spec := "fnExactSumOfValues", unfollowed := true, recurses := true, apart := false, narrowed := true }
def FnExactSumOfValuesUptoSaid : Prop := fnExactSumOfValuesUptoRow.holds Try.pinned (OpenSpec.upto fnExactSumOfValuesSpec)

/-- 'laws.FnExactStripRatio', WHERE WHAT IT READS IS OF BULK AT MOST 1048576: true; the input reads as it did. -/
def fnExactStripRatioUptoRow : OpenClaim := { program := "ytcmdnpablnihmaa", sum := "f4ea4c0ed783d1e0d15f044571deb45fb3f9c7e3231bb09f0a44a860af816808", func := "loop.example/g00914/laws.FnExactStripRatio", spec := "fnExactStripRatio", apart := false, narrowed := true }
def FnExactStripRatioUptoSaid : Prop := fnExactStripRatioUptoRow.holds Try.pinned (OpenSpec.upto fnExactStripRatioSpec)

/-- 'laws.FnOre', WHERE WHAT IT READS IS OF BULK AT MOST 1048576: true; the input reads as it did. -/
def fnOreUptoRow : OpenClaim := { program := "ytcmdnpablnihmaa", sum := "f4ea4c0ed783d1e0d15f044571deb45fb3f9c7e3231bb09f0a44a860af816808", func := "loop.example/g00914/laws.FnOre", spec := "fnOre", unfollowed := true, recurses := true, apart := false, narrowed := true }
def FnOreUptoSaid : Prop := fnOreUptoRow.holds Try.pinned (OpenSpec.upto fnOreSpec)

end Rows
end Go.Proofs.Ytcmdnpablnihmaa
