/-
  No cell of these rows narrows 'for every input' (looked for: loops, veiled, ifaces, maps, wideKeys, modest, calm, conditions, laid).
  DERIVED. THE GIVEN ROWS OF THIS SEAT. 11 by the template 'for every input the law returns true; each argument reads behind the call as it read before'; 0 by the template 'total and deterministic' (their statements: YtmkbjkmpincogaaTotals.lean).
  GIVEN WITH THE SEED: the statements are not yours to turn. If you find one false, say at which input.
  Laid BY PROGRAM, IN A SANDBOX (cutbox-rows.mjs): the forced cells as the released guide's own fill.sh prints them over the translation 69e88204510d994c… (all of the seat's roots in one cut). By AI agents, Wed Nov 11 2026. No macro, syntax, notation, axiom, sorry.
-/
import Derived.Test.YtmkbjkmpincogaaChecked
import GoSem.Claim
import GoSem.ClaimJoined
import GoSem.ClaimMapViews
import Derived.JoinedTies
import Derived.KernelRfl
namespace Go.Proofs.Ytmkbjkmpincogaa
/- THE CELL 'sum', in the pinned program and in every row, IS THE sha256 OF THE DUMP (.gsa) THAT YtmkbjkmpincogaaProg.lean LOADS. Nothing in Lean hashes anything: it is a label: what it is worth is what the hold of that sum in a sandbox is worth. -/
noncomputable def Try.pinned : Pinned := { name := "ytmkbjkmpincogaa", sum := "69e88204510d994c6bc649311c001433d6f33fc777f8401338335b3d855570d4", checked := Try.checked }
namespace Rows
def none {H : Type} : Left H := { results := [], args := [] }

/-- 'laws.FnExactIsSection': WHATEVER THE INPUT: true; the input reads as it did. -/
def fnExactIsSectionSpec : ChangeSpec := { name := "fnExactIsSection", fn := fun _ => fun
  | [d] => { results := [.lit (.bool true)], args := [d] }
  | _ => none }
def fnExactIsSectionRow : OpenClaim := { program := "ytmkbjkmpincogaa", sum := "69e88204510d994c6bc649311c001433d6f33fc777f8401338335b3d855570d4", func := "loop.example/g00914/laws.FnExactIsSection", spec := "fnExactIsSection", apart := false }
def FnExactIsSectionSaid : Prop := fnExactIsSectionRow.holds Try.pinned (OpenSpec.ofChange fnExactIsSectionSpec)

/-- ITS FALSE NEIGHBOUR: 'it returns false'. Refute it at one input. -/
def fnExactIsSectionWrong : ChangeSpec := { name := "fnExactIsSection", fn := fun _ => fun
  | [d] => { results := [.lit (.bool false)], args := [d] }
  | _ => none }
def FnExactIsSectionWrongFalsely : Prop := fnExactIsSectionRow.holds Try.pinned (OpenSpec.ofChange fnExactIsSectionWrong)

/-- 'laws.FnExactIsProfile': WHATEVER THE INPUT: true; the input reads as it did. -/
def fnExactIsProfileSpec : ChangeSpec := { name := "fnExactIsProfile", fn := fun _ => fun
  | [d1, d2] => { results := [.lit (.bool true)], args := [d1, d2] }
  | _ => none }
def fnExactIsProfileRow : OpenClaim := { program := "ytmkbjkmpincogaa", sum := "69e88204510d994c6bc649311c001433d6f33fc777f8401338335b3d855570d4", func := "loop.example/g00914/laws.FnExactIsProfile", spec := "fnExactIsProfile", apart := false }
def FnExactIsProfileSaid : Prop := fnExactIsProfileRow.holds Try.pinned (OpenSpec.ofChange fnExactIsProfileSpec)

/-- ITS FALSE NEIGHBOUR: 'it returns false'. Refute it at one input. -/
def fnExactIsProfileWrong : ChangeSpec := { name := "fnExactIsProfile", fn := fun _ => fun
  | [d1, d2] => { results := [.lit (.bool false)], args := [d1, d2] }
  | _ => none }
def FnExactIsProfileWrongFalsely : Prop := fnExactIsProfileRow.holds Try.pinned (OpenSpec.ofChange fnExactIsProfileWrong)

/-- 'laws.FnExactProfileValue': WHATEVER THE INPUT: true; the input reads as it did. -/
def fnExactProfileValueSpec : ChangeSpec := { name := "fnExactProfileValue", fn := fun _ => fun
  | [d1, d2] => { results := [.lit (.bool true)], args := [d1, d2] }
  | _ => none }
def fnExactProfileValueRow : OpenClaim := { program := "ytmkbjkmpincogaa", sum := "69e88204510d994c6bc649311c001433d6f33fc777f8401338335b3d855570d4", func := "loop.example/g00914/laws.FnExactProfileValue", spec := "fnExactProfileValue", unfollowed := true, recurses := true, apart := false }
def FnExactProfileValueSaid : Prop := fnExactProfileValueRow.holds Try.pinned (OpenSpec.ofChange fnExactProfileValueSpec)

/-- ITS FALSE NEIGHBOUR: 'it returns false'. Refute it at one input. -/
def fnExactProfileValueWrong : ChangeSpec := { name := "fnExactProfileValue", fn := fun _ => fun
  | [d1, d2] => { results := [.lit (.bool false)], args := [d1, d2] }
  | _ => none }
def FnExactProfileValueWrongFalsely : Prop := fnExactProfileValueRow.holds Try.pinned (OpenSpec.ofChange fnExactProfileValueWrong)

/-- 'laws.FnExactBestProfile': WHATEVER THE INPUT: true; the input reads as it did. -/
def fnExactBestProfileSpec : ChangeSpec := { name := "fnExactBestProfile", fn := fun _ => fun
  | [d] => { results := [.lit (.bool true)], args := [d] }
  | _ => none }
def fnExactBestProfileRow : OpenClaim := { program := "ytmkbjkmpincogaa", sum := "69e88204510d994c6bc649311c001433d6f33fc777f8401338335b3d855570d4", func := "loop.example/g00914/laws.FnExactBestProfile", spec := "fnExactBestProfile", unfollowed := true, recurses := true, apart := false }
def FnExactBestProfileSaid : Prop := fnExactBestProfileRow.holds Try.pinned (OpenSpec.ofChange fnExactBestProfileSpec)

/-- ITS FALSE NEIGHBOUR: 'it returns false'. Refute it at one input. -/
def fnExactBestProfileWrong : ChangeSpec := { name := "fnExactBestProfile", fn := fun _ => fun
  | [d] => { results := [.lit (.bool false)], args := [d] }
  | _ => none }
def FnExactBestProfileWrongFalsely : Prop := fnExactBestProfileRow.holds Try.pinned (OpenSpec.ofChange fnExactBestProfileWrong)

/-- 'laws.FnExactBestBelow': WHATEVER THE INPUT: true; the input reads as it did. -/
def fnExactBestBelowSpec : ChangeSpec := { name := "fnExactBestBelow", fn := fun _ => fun
  | [d1, d2] => { results := [.lit (.bool true)], args := [d1, d2] }
  | _ => none }
def fnExactBestBelowRow : OpenClaim := { program := "ytmkbjkmpincogaa", sum := "69e88204510d994c6bc649311c001433d6f33fc777f8401338335b3d855570d4", func := "loop.example/g00914/laws.FnExactBestBelow", spec := "fnExactBestBelow", unfollowed := true, recurses := true, apart := false }
def FnExactBestBelowSaid : Prop := fnExactBestBelowRow.holds Try.pinned (OpenSpec.ofChange fnExactBestBelowSpec)

/-- ITS FALSE NEIGHBOUR: 'it returns false'. Refute it at one input. -/
def fnExactBestBelowWrong : ChangeSpec := { name := "fnExactBestBelow", fn := fun _ => fun
  | [d1, d2] => { results := [.lit (.bool false)], args := [d1, d2] }
  | _ => none }
def FnExactBestBelowWrongFalsely : Prop := fnExactBestBelowRow.holds Try.pinned (OpenSpec.ofChange fnExactBestBelowWrong)

/-- 'laws.FnExactLeastProfile': WHATEVER THE INPUT: true; the input reads as it did. -/
def fnExactLeastProfileSpec : ChangeSpec := { name := "fnExactLeastProfile", fn := fun _ => fun
  | [d1, d2] => { results := [.lit (.bool true)], args := [d1, d2] }
  | _ => none }
def fnExactLeastProfileRow : OpenClaim := { program := "ytmkbjkmpincogaa", sum := "69e88204510d994c6bc649311c001433d6f33fc777f8401338335b3d855570d4", func := "loop.example/g00914/laws.FnExactLeastProfile", spec := "fnExactLeastProfile", unfollowed := true, recurses := true, apart := false }
def FnExactLeastProfileSaid : Prop := fnExactLeastProfileRow.holds Try.pinned (OpenSpec.ofChange fnExactLeastProfileSpec)

/-- ITS FALSE NEIGHBOUR: 'it returns false'. Refute it at one input. -/
def fnExactLeastProfileWrong : ChangeSpec := { name := "fnExactLeastProfile", fn := fun _ => fun
  | [d1, d2] => { results := [.lit (.bool false)], args := [d1, d2] }
  | _ => none }
def FnExactLeastProfileWrongFalsely : Prop := fnExactLeastProfileRow.holds Try.pinned (OpenSpec.ofChange fnExactLeastProfileWrong)

/-- 'laws.FnExactGreatestProfile': WHATEVER THE INPUT: true; the input reads as it did. -/
def fnExactGreatestProfileSpec : ChangeSpec := { name := "fnExactGreatestProfile", fn := fun _ => fun
  | [d1, d2] => { results := [.lit (.bool true)], args := [d1, d2] }
  | _ => none }
def fnExactGreatestProfileRow : OpenClaim := { program := "ytmkbjkmpincogaa", sum := "69e88204510d994c6bc649311c001433d6f33fc777f8401338335b3d855570d4", func := "loop.example/g00914/laws.FnExactGreatestProfile", spec := "fnExactGreatestProfile", unfollowed := true, recurses := true, apart := false }
def FnExactGreatestProfileSaid : Prop := fnExactGreatestProfileRow.holds Try.pinned (OpenSpec.ofChange fnExactGreatestProfileSpec)

/-- ITS FALSE NEIGHBOUR: 'it returns false'. Refute it at one input. -/
def fnExactGreatestProfileWrong : ChangeSpec := { name := "fnExactGreatestProfile", fn := fun _ => fun
  | [d1, d2] => { results := [.lit (.bool false)], args := [d1, d2] }
  | _ => none }
def FnExactGreatestProfileWrongFalsely : Prop := fnExactGreatestProfileRow.holds Try.pinned (OpenSpec.ofChange fnExactGreatestProfileWrong)

/-- 'laws.FnExactCountProfiles': WHATEVER THE INPUT: true; the input reads as it did. -/
def fnExactCountProfilesSpec : ChangeSpec := { name := "fnExactCountProfiles", fn := fun _ => fun
  | [d1, d2] => { results := [.lit (.bool true)], args := [d1, d2] }
  | _ => none }
def fnExactCountProfilesRow : OpenClaim := { program := "ytmkbjkmpincogaa", sum := "69e88204510d994c6bc649311c001433d6f33fc777f8401338335b3d855570d4", func := "loop.example/g00914/laws.FnExactCountProfiles", spec := "fnExactCountProfiles", unfollowed := true, recurses := true, apart := false }
def FnExactCountProfilesSaid : Prop := fnExactCountProfilesRow.holds Try.pinned (OpenSpec.ofChange fnExactCountProfilesSpec)

/-- ITS FALSE NEIGHBOUR: 'it returns false'. Refute it at one input. -/
def fnExactCountProfilesWrong : ChangeSpec := { name := "fnExactCountProfiles", fn := fun _ => fun
  | [d1, d2] => { results := [.lit (.bool false)], args := [d1, d2] }
  | _ => none }
def FnExactCountProfilesWrongFalsely : Prop := fnExactCountProfilesRow.holds Try.pinned (OpenSpec.ofChange fnExactCountProfilesWrong)

/-- 'laws.FnExactSectionValues': WHATEVER THE INPUT: true; the input reads as it did. -/
def fnExactSectionValuesSpec : ChangeSpec := { name := "fnExactSectionValues", fn := fun _ => fun
  | [d] => { results := [.lit (.bool true)], args := [d] }
  | _ => none }
def fnExactSectionValuesRow : OpenClaim := { program := "ytmkbjkmpincogaa", sum := "69e88204510d994c6bc649311c001433d6f33fc777f8401338335b3d855570d4", func := "loop.example/g00914/laws.FnExactSectionValues", spec := "fnExactSectionValues", apart := false }
def FnExactSectionValuesSaid : Prop := fnExactSectionValuesRow.holds Try.pinned (OpenSpec.ofChange fnExactSectionValuesSpec)

/-- ITS FALSE NEIGHBOUR: 'it returns false'. Refute it at one input. -/
def fnExactSectionValuesWrong : ChangeSpec := { name := "fnExactSectionValues", fn := fun _ => fun
  | [d] => { results := [.lit (.bool false)], args := [d] }
  | _ => none }
def FnExactSectionValuesWrongFalsely : Prop := fnExactSectionValuesRow.holds Try.pinned (OpenSpec.ofChange fnExactSectionValuesWrong)

/-- 'laws.FnExactProfileBlocks': WHATEVER THE INPUT: true; the input reads as it did. -/
def fnExactProfileBlocksSpec : ChangeSpec := { name := "fnExactProfileBlocks", fn := fun _ => fun
  | [d1, d2] => { results := [.lit (.bool true)], args := [d1, d2] }
  | _ => none }
def fnExactProfileBlocksRow : OpenClaim := { program := "ytmkbjkmpincogaa", sum := "69e88204510d994c6bc649311c001433d6f33fc777f8401338335b3d855570d4", func := "loop.example/g00914/laws.FnExactProfileBlocks", spec := "fnExactProfileBlocks", unfollowed := true, recurses := true, apart := false }
def FnExactProfileBlocksSaid : Prop := fnExactProfileBlocksRow.holds Try.pinned (OpenSpec.ofChange fnExactProfileBlocksSpec)

/-- ITS FALSE NEIGHBOUR: 'it returns false'. Refute it at one input. -/
def fnExactProfileBlocksWrong : ChangeSpec := { name := "fnExactProfileBlocks", fn := fun _ => fun
  | [d1, d2] => { results := [.lit (.bool false)], args := [d1, d2] }
  | _ => none }
def FnExactProfileBlocksWrongFalsely : Prop := fnExactProfileBlocksRow.holds Try.pinned (OpenSpec.ofChange fnExactProfileBlocksWrong)

/-- 'laws.FnExactProfileText': WHATEVER THE INPUT: true; the input reads as it did. -/
def fnExactProfileTextSpec : ChangeSpec := { name := "fnExactProfileText", fn := fun _ => fun
  | [d1, d2] => { results := [.lit (.bool true)], args := [d1, d2] }
  | _ => none }
def fnExactProfileTextRow : OpenClaim := { program := "ytmkbjkmpincogaa", sum := "69e88204510d994c6bc649311c001433d6f33fc777f8401338335b3d855570d4", func := "loop.example/g00914/laws.FnExactProfileText", spec := "fnExactProfileText", inPlace := ["internal/abi.NoEscape"], unfollowed := true, recurses := true, apart := false }
def FnExactProfileTextSaid : Prop := fnExactProfileTextRow.holds Try.pinned (OpenSpec.ofChange fnExactProfileTextSpec)

/-- ITS FALSE NEIGHBOUR: 'it returns false'. Refute it at one input. -/
def fnExactProfileTextWrong : ChangeSpec := { name := "fnExactProfileText", fn := fun _ => fun
  | [d1, d2] => { results := [.lit (.bool false)], args := [d1, d2] }
  | _ => none }
def FnExactProfileTextWrongFalsely : Prop := fnExactProfileTextRow.holds Try.pinned (OpenSpec.ofChange fnExactProfileTextWrong)

/- THE SECOND FORM. 'bulk': how many values and letters a reading holds, each counted each time it is reached (what is shared counts as often as it is met; a slice's spare places count too). A statement '..UptoSaid' is the law's where the arguments, and the package variables that the reading takes, are together of bulk at most 1048576: NARROWER than '..Said'. Prove '..Said' where nothing that the law and all that it calls make is longer than what came in: it says more and counts as full. Else prove '..UptoSaid'. A law counts once. -/
mutual
def uptoBulk {H : Type} : DataW H → Nat
  | .lit (.string bytes) => bytes.length + 1
  | .lit _ => 1
  | .nil => 1
  | .ptr d => uptoBulk d + 1
  | .slice elems spare => uptoBulkAll elems + uptoBulkAll spare + 1
  | .agg parts => uptoBulkAll parts + 1
  | .iface _ d => uptoBulk d + 1
  | .map entries => uptoBulkEntries entries + 1
  | .held _ => 1
def uptoBulkAll {H : Type} : List (DataW H) → Nat
  | [] => 0
  | d :: r => uptoBulk d + uptoBulkAll r
def uptoBulkEntries {H : Type} : List (Lit × DataW H) → Nat
  | [] => 0
  | x :: r => uptoBulkEntry x + uptoBulkEntries r
def uptoBulkEntry {H : Type} : Lit × DataW H → Nat
  | (.string bytes, d) => bytes.length + uptoBulk d + 1
  | (_, d) => uptoBulk d + 1
 end
def uptoSmall : (H : Type) → List (DataW H) → Bool := fun _ ds => decide (uptoBulkAll ds ≤ 1048576)
def OpenSpec.upto (s : _root_.Go.ChangeSpec) : _root_.Go.OpenSpec := { _root_.Go.OpenSpec.ofChange s with cond := some uptoSmall }

/-- 'laws.FnExactIsSection', WHERE WHAT IT READS IS OF BULK AT MOST 1048576: true; the input reads as it did. -/
def fnExactIsSectionUptoRow : OpenClaim := { program := "ytmkbjkmpincogaa", sum := "69e88204510d994c6bc649311c001433d6f33fc777f8401338335b3d855570d4", func := "loop.example/g00914/laws.FnExactIsSection", spec := "fnExactIsSection", apart := false, narrowed := true }
def FnExactIsSectionUptoSaid : Prop := fnExactIsSectionUptoRow.holds Try.pinned (OpenSpec.upto fnExactIsSectionSpec)

/-- 'laws.FnExactIsProfile', WHERE WHAT IT READS IS OF BULK AT MOST 1048576: true; the input reads as it did. -/
def fnExactIsProfileUptoRow : OpenClaim := { program := "ytmkbjkmpincogaa", sum := "69e88204510d994c6bc649311c001433d6f33fc777f8401338335b3d855570d4", func := "loop.example/g00914/laws.FnExactIsProfile", spec := "fnExactIsProfile", apart := false, narrowed := true }
def FnExactIsProfileUptoSaid : Prop := fnExactIsProfileUptoRow.holds Try.pinned (OpenSpec.upto fnExactIsProfileSpec)

/-- 'laws.FnExactProfileValue', WHERE WHAT IT READS IS OF BULK AT MOST 1048576: true; the input reads as it did. -/
def fnExactProfileValueUptoRow : OpenClaim := { program := "ytmkbjkmpincogaa", sum := "69e88204510d994c6bc649311c001433d6f33fc777f8401338335b3d855570d4", func := "loop.example/g00914/laws.FnExactProfileValue", spec := "fnExactProfileValue", unfollowed := true, recurses := true, apart := false, narrowed := true }
def FnExactProfileValueUptoSaid : Prop := fnExactProfileValueUptoRow.holds Try.pinned (OpenSpec.upto fnExactProfileValueSpec)

/-- 'laws.FnExactBestProfile', WHERE WHAT IT READS IS OF BULK AT MOST 1048576: true; the input reads as it did. -/
def fnExactBestProfileUptoRow : OpenClaim := { program := "ytmkbjkmpincogaa", sum := "69e88204510d994c6bc649311c001433d6f33fc777f8401338335b3d855570d4", func := "loop.example/g00914/laws.FnExactBestProfile", spec := "fnExactBestProfile", unfollowed := true, recurses := true, apart := false, narrowed := true }
def FnExactBestProfileUptoSaid : Prop := fnExactBestProfileUptoRow.holds Try.pinned (OpenSpec.upto fnExactBestProfileSpec)

/-- 'laws.FnExactBestBelow', WHERE WHAT IT READS IS OF BULK AT MOST 1048576: true; the input reads as it did. -/
def fnExactBestBelowUptoRow : OpenClaim := { program := "ytmkbjkmpincogaa", sum := "69e88204510d994c6bc649311c001433d6f33fc777f8401338335b3d855570d4", func := "loop.example/g00914/laws.FnExactBestBelow", spec := "fnExactBestBelow", unfollowed := true, recurses := true, apart := false, narrowed := true }
def FnExactBestBelowUptoSaid : Prop := fnExactBestBelowUptoRow.holds Try.pinned (OpenSpec.upto fnExactBestBelowSpec)

/-- 'laws.FnExactLeastProfile', WHERE WHAT IT READS IS OF BULK AT MOST 1048576: true; the input reads as it did. -/
def fnExactLeastProfileUptoRow : OpenClaim := { program := "ytmkbjkmpincogaa", sum := "69e88204510d994c6bc649311c001433d6f33fc777f8401338335b3d855570d4", func := "loop.example/g00914/laws.FnExactLeastProfile", spec := "fnExactLeastProfile", unfollowed := true, recurses := true, apart := false, narrowed := true }
def FnExactLeastProfileUptoSaid : Prop := fnExactLeastProfileUptoRow.holds Try.pinned (OpenSpec.upto fnExactLeastProfileSpec)

/-- 'laws.FnExactGreatestProfile', WHERE WHAT IT READS IS OF BULK AT MOST 1048576: true; the input reads as it did. -/
def fnExactGreatestProfileUptoRow : OpenClaim := { program := "ytmkbjkmpincogaa", sum := "69e88204510d994c6bc649311c001433d6f33fc777f8401338335b3d855570d4", func := "loop.example/g00914/laws.FnExactGreatestProfile", spec := "fnExactGreatestProfile", unfollowed := true, recurses := true, apart := false, narrowed := true }
def FnExactGreatestProfileUptoSaid : Prop := fnExactGreatestProfileUptoRow.holds Try.pinned (OpenSpec.upto fnExactGreatestProfileSpec)

/-- 'laws.FnExactCountProfiles', WHERE WHAT IT READS IS OF BULK AT MOST 1048576: true; the input reads as it did. -/
def fnExactCountProfilesUptoRow : OpenClaim := { program := "ytmkbjkmpincogaa", sum := "69e88204510d994c6bc649311c001433d6f33fc777f8401338335b3d855570d4", func := "loop.example/g00914/laws.FnExactCountProfiles", spec := "fnExactCountProfiles", unfollowed := true, recurses := true, apart := false, narrowed := true }
def FnExactCountProfilesUptoSaid : Prop := fnExactCountProfilesUptoRow.holds Try.pinned (OpenSpec.upto fnExactCountProfilesSpec)

/-- 'laws.FnExactSectionValues', WHERE WHAT IT READS IS OF BULK AT MOST 1048576: true; the input reads as it did. -/
def fnExactSectionValuesUptoRow : OpenClaim := { program := "ytmkbjkmpincogaa", sum := "69e88204510d994c6bc649311c001433d6f33fc777f8401338335b3d855570d4", func := "loop.example/g00914/laws.FnExactSectionValues", spec := "fnExactSectionValues", apart := false, narrowed := true }
def FnExactSectionValuesUptoSaid : Prop := fnExactSectionValuesUptoRow.holds Try.pinned (OpenSpec.upto fnExactSectionValuesSpec)

/-- 'laws.FnExactProfileBlocks', WHERE WHAT IT READS IS OF BULK AT MOST 1048576: true; the input reads as it did. -/
def fnExactProfileBlocksUptoRow : OpenClaim := { program := "ytmkbjkmpincogaa", sum := "69e88204510d994c6bc649311c001433d6f33fc777f8401338335b3d855570d4", func := "loop.example/g00914/laws.FnExactProfileBlocks", spec := "fnExactProfileBlocks", unfollowed := true, recurses := true, apart := false, narrowed := true }
def FnExactProfileBlocksUptoSaid : Prop := fnExactProfileBlocksUptoRow.holds Try.pinned (OpenSpec.upto fnExactProfileBlocksSpec)

/-- 'laws.FnExactProfileText', WHERE WHAT IT READS IS OF BULK AT MOST 1048576: true; the input reads as it did. -/
def fnExactProfileTextUptoRow : OpenClaim := { program := "ytmkbjkmpincogaa", sum := "69e88204510d994c6bc649311c001433d6f33fc777f8401338335b3d855570d4", func := "loop.example/g00914/laws.FnExactProfileText", spec := "fnExactProfileText", inPlace := ["internal/abi.NoEscape"], unfollowed := true, recurses := true, apart := false, narrowed := true }
def FnExactProfileTextUptoSaid : Prop := fnExactProfileTextUptoRow.holds Try.pinned (OpenSpec.upto fnExactProfileTextSpec)

end Rows
end Go.Proofs.Ytmkbjkmpincogaa
