/-
  DERIVED. GIVEN WITH THE SEED: THE CARDS: each row of YtpbkobkakedegaaDoorRows.lean that lists a variable, with what it lists TIED to the program's text (the seventh form; the later family's looks); each row that meets fmt, with fmt's text TOLD by the authors' own Lean function (tested against real Go, not proved from fmt's source: count such statements apart). THE CARD IS WHAT COUNTS. Prove the row's statement (the work); the ties are given (YtpbkobkakedegaaDoorTie.lean); close each card by the builder's one call (the guide's Derived/Test/ToyasCard.lean, 'card_holds'). Laid BY PROGRAM, IN A SANDBOX (cutbox-door.mjs). By AI agents, Wed Nov 11 2026. No macro, syntax, notation, axiom, sorry.
-/
import Derived.Test.YtpbkobkakedegaaDoorRows
import GoSem.ClaimSeven
namespace Go.Proofs.YtpbkobkakedegaaDoor
namespace Rows

/-- THE TIED CARD OF 'laws.FnExactBlockName'. -/
def fnExactBlockNameCard : Claim7 := { stood := { row := fnExactBlockNameRow, standIns := [], harness := (true, "c653002c2dc0f5f14d7424716d6fceccd8b00ed7137f5cf8867d691640feb893"), looks := false }, kinds := [], alts := [], laidByText := true, laidKinds := [.data, .data, .data], laidTests := true, laidLooks := .later }
def FnExactBlockNameCardSaid : Prop := Claim7.holds Tryd.pinned (.plain (OpenSpec.ofChange fnExactBlockNameSpec)) fnExactBlockNameCard

/-- THE TIED CARD OF 'laws.FnExactGridText'. -/
def fnExactGridTextCard : Claim7 := { stood := { row := fnExactGridTextRow, standIns := [], harness := (true, "c653002c2dc0f5f14d7424716d6fceccd8b00ed7137f5cf8867d691640feb893"), looks := false }, kinds := [], alts := [], laidByText := true, laidKinds := [.data, .data, .data], laidTests := true, laidLooks := .later }
def FnExactGridTextCardSaid : Prop := Claim7.holds Tryd.pinned (.plain (OpenSpec.ofChange fnExactGridTextSpec)) fnExactGridTextCard

/-- THE SECOND FORM's CARD OF 'laws.FnExactBlockName'. -/
def fnExactBlockNameUptoCard : Claim7 := { stood := { row := fnExactBlockNameUptoRow, standIns := [], harness := (true, "c653002c2dc0f5f14d7424716d6fceccd8b00ed7137f5cf8867d691640feb893"), looks := false }, kinds := [], alts := [], laidByText := true, laidKinds := [.data, .data, .data], laidTests := true, laidLooks := .later }
def FnExactBlockNameUptoCardSaid : Prop := Claim7.holds Tryd.pinned (.plain (OpenSpec.upto fnExactBlockNameSpec)) fnExactBlockNameUptoCard

/-- THE SECOND FORM's CARD OF 'laws.FnExactGridText'. -/
def fnExactGridTextUptoCard : Claim7 := { stood := { row := fnExactGridTextUptoRow, standIns := [], harness := (true, "c653002c2dc0f5f14d7424716d6fceccd8b00ed7137f5cf8867d691640feb893"), looks := false }, kinds := [], alts := [], laidByText := true, laidKinds := [.data, .data, .data], laidTests := true, laidLooks := .later }
def FnExactGridTextUptoCardSaid : Prop := Claim7.holds Tryd.pinned (.plain (OpenSpec.upto fnExactGridTextSpec)) fnExactGridTextUptoCard
end Rows
end Go.Proofs.YtpbkobkakedegaaDoor
