/-
  DERIVED. GIVEN WITH THE SEED: THE CARDS: each row of YthdbcncdihcggaaDoorRows.lean that lists a variable, with what it lists TIED to the program's text (the seventh form; the later family's looks); each row that meets fmt, with fmt's text TOLD by the authors' own Lean function (tested against real Go, not proved from fmt's source: count such statements apart). THE CARD IS WHAT COUNTS. Prove the row's statement (the work); the ties are given (YthdbcncdihcggaaDoorTie.lean); close each card by the builder's one call (the guide's Derived/Test/ToyasCard.lean, 'card_holds'). Laid BY PROGRAM, IN A SANDBOX (cutbox-door.mjs). By AI agents, Wed Nov 11 2026. No macro, syntax, notation, axiom, sorry.
-/
import Derived.Test.YthdbcncdihcggaaDoorRows
import GoSem.ClaimSeven
namespace Go.Proofs.YthdbcncdihcggaaDoor
namespace Rows

/-- THE TIED CARD OF 'laws.FnExactTemplateOf'. -/
def fnExactTemplateOfCard : Claim7 := { stood := { row := fnExactTemplateOfRow, standIns := [], harness := (true, "31810c068f3fc0c8c8377f4d4863a7c22b48a35605a8abde753a9e65f97c0f54"), looks := false }, kinds := [], alts := [], laidByText := true, laidKinds := [.widerDeep], laidTests := true, laidLooks := .later }
def FnExactTemplateOfCardSaid : Prop := Claim7.holds Tryd.pinned (.plain (OpenSpec.ofChange fnExactTemplateOfSpec)) fnExactTemplateOfCard

/-- THE TIED CARD OF 'laws.FnExactUniformSlopes'. -/
def fnExactUniformSlopesCard : Claim7 := { stood := { row := fnExactUniformSlopesRow, standIns := [], harness := (true, "31810c068f3fc0c8c8377f4d4863a7c22b48a35605a8abde753a9e65f97c0f54"), looks := false }, kinds := [], alts := [], laidByText := true, laidKinds := [.widerDeep], laidTests := true, laidLooks := .later }
def FnExactUniformSlopesCardSaid : Prop := Claim7.holds Tryd.pinned (.plain (OpenSpec.ofChange fnExactUniformSlopesSpec)) fnExactUniformSlopesCard

/-- THE TIED CARD OF 'laws.FnExactHalfSlopes'. -/
def fnExactHalfSlopesCard : Claim7 := { stood := { row := fnExactHalfSlopesRow, standIns := [], harness := (true, "31810c068f3fc0c8c8377f4d4863a7c22b48a35605a8abde753a9e65f97c0f54"), looks := false }, kinds := [], alts := [], laidByText := true, laidKinds := [.widerDeep], laidTests := true, laidLooks := .later }
def FnExactHalfSlopesCardSaid : Prop := Claim7.holds Tryd.pinned (.plain (OpenSpec.ofChange fnExactHalfSlopesSpec)) fnExactHalfSlopesCard

/-- THE TIED CARD OF 'laws.FnExactSlopesText'. -/
def fnExactSlopesTextCard : Claim7 := { stood := { row := fnExactSlopesTextRow, standIns := [], harness := (true, "31810c068f3fc0c8c8377f4d4863a7c22b48a35605a8abde753a9e65f97c0f54"), looks := false }, kinds := [], alts := [], laidByText := true, laidKinds := [.data, .data, .data], laidTests := true, laidLooks := .later }
def FnExactSlopesTextCardSaid : Prop := Claim7.holds Tryd.pinned (.plain (OpenSpec.ofChange fnExactSlopesTextSpec)) fnExactSlopesTextCard

/-- THE SECOND FORM's CARD OF 'laws.FnExactTemplateOf'. -/
def fnExactTemplateOfUptoCard : Claim7 := { stood := { row := fnExactTemplateOfUptoRow, standIns := [], harness := (true, "31810c068f3fc0c8c8377f4d4863a7c22b48a35605a8abde753a9e65f97c0f54"), looks := false }, kinds := [], alts := [], laidByText := true, laidKinds := [.widerDeep], laidTests := true, laidLooks := .later }
def FnExactTemplateOfUptoCardSaid : Prop := Claim7.holds Tryd.pinned (.plain (OpenSpec.upto fnExactTemplateOfSpec)) fnExactTemplateOfUptoCard

/-- THE SECOND FORM's CARD OF 'laws.FnExactUniformSlopes'. -/
def fnExactUniformSlopesUptoCard : Claim7 := { stood := { row := fnExactUniformSlopesUptoRow, standIns := [], harness := (true, "31810c068f3fc0c8c8377f4d4863a7c22b48a35605a8abde753a9e65f97c0f54"), looks := false }, kinds := [], alts := [], laidByText := true, laidKinds := [.widerDeep], laidTests := true, laidLooks := .later }
def FnExactUniformSlopesUptoCardSaid : Prop := Claim7.holds Tryd.pinned (.plain (OpenSpec.upto fnExactUniformSlopesSpec)) fnExactUniformSlopesUptoCard

/-- THE SECOND FORM's CARD OF 'laws.FnExactHalfSlopes'. -/
def fnExactHalfSlopesUptoCard : Claim7 := { stood := { row := fnExactHalfSlopesUptoRow, standIns := [], harness := (true, "31810c068f3fc0c8c8377f4d4863a7c22b48a35605a8abde753a9e65f97c0f54"), looks := false }, kinds := [], alts := [], laidByText := true, laidKinds := [.widerDeep], laidTests := true, laidLooks := .later }
def FnExactHalfSlopesUptoCardSaid : Prop := Claim7.holds Tryd.pinned (.plain (OpenSpec.upto fnExactHalfSlopesSpec)) fnExactHalfSlopesUptoCard

/-- THE SECOND FORM's CARD OF 'laws.FnExactSlopesText'. -/
def fnExactSlopesTextUptoCard : Claim7 := { stood := { row := fnExactSlopesTextUptoRow, standIns := [], harness := (true, "31810c068f3fc0c8c8377f4d4863a7c22b48a35605a8abde753a9e65f97c0f54"), looks := false }, kinds := [], alts := [], laidByText := true, laidKinds := [.data, .data, .data], laidTests := true, laidLooks := .later }
def FnExactSlopesTextUptoCardSaid : Prop := Claim7.holds Tryd.pinned (.plain (OpenSpec.upto fnExactSlopesTextSpec)) fnExactSlopesTextUptoCard
end Rows
end Go.Proofs.YthdbcncdihcggaaDoor
