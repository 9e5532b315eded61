/-
  DERIVED. GIVEN WITH THE SEED: THE CARDS: each row of YtglcdgonbmdhoaaDoorRows.lean that lists a variable, with what it lists TIED to the program's text (the seventh form; the later family's looks); each row that meets fmt, with fmt's text TOLD by the authors' own Lean function (tested against real Go, not proved from fmt's source: count such statements apart). THE CARD IS WHAT COUNTS. Prove the row's statement (the work); the ties are given (YtglcdgonbmdhoaaDoorTie.lean); close each card by the builder's one call (the guide's Derived/Test/ToyasCard.lean, 'card_holds'). Laid BY PROGRAM, IN A SANDBOX (cutbox-door.mjs). By AI agents, Wed Nov 11 2026. No macro, syntax, notation, axiom, sorry.
-/
import Derived.Test.YtglcdgonbmdhoaaDoorRows
import GoSem.ClaimSeven
namespace Go.Proofs.YtglcdgonbmdhoaaDoor
namespace Rows

/-- THE TIED CARD OF 'laws.FnExactModelText'. -/
def fnExactModelTextCard : Claim7 := { stood := { row := fnExactModelTextRow, standIns := [], harness := (true, "337162075174c2a3ac841e839e460659fd48acbdc5ebaeec2c9b923aed73b866"), looks := true }, kinds := [], alts := [], laidByText := true, laidKinds := [.data, .data, .data], laidTests := true, laidLooks := .later }
def FnExactModelTextCardSaid : Prop := Claim7.holds Tryd.pinned (.plain (OpenSpec.ofChange fnExactModelTextSpec)) fnExactModelTextCard

/-- THE TIED CARD OF 'laws.FnExactParseModel'. -/
def fnExactParseModelCard : Claim7 := { stood := { row := fnExactParseModelRow, standIns := [], harness := (true, "337162075174c2a3ac841e839e460659fd48acbdc5ebaeec2c9b923aed73b866"), looks := true }, kinds := [], alts := [], laidByText := true, laidKinds := [.data, .data, .data, .data, .sentinel, .sentinel, .listed, .data, .pinned], laidTests := true, laidLooks := .later }
def FnExactParseModelCardSaid : Prop := Claim7.holds Tryd.pinned (.plain (OpenSpec.ofChange fnExactParseModelSpec)) fnExactParseModelCard

/-- THE TIED CARD OF 'laws.FnExactBlockName'. -/
def fnExactBlockNameCard : Claim7 := { stood := { row := fnExactBlockNameRow, standIns := [], harness := (true, "337162075174c2a3ac841e839e460659fd48acbdc5ebaeec2c9b923aed73b866"), looks := true }, kinds := [], alts := [], laidByText := true, laidKinds := [.data, .data, .data], laidTests := true, laidLooks := .later }
def FnExactBlockNameCardSaid : Prop := Claim7.holds Tryd.pinned (.plain (OpenSpec.ofChange fnExactBlockNameSpec)) fnExactBlockNameCard

/-- THE TIED CARD OF 'laws.FnExactGridText'. -/
def fnExactGridTextCard : Claim7 := { stood := { row := fnExactGridTextRow, standIns := [], harness := (true, "337162075174c2a3ac841e839e460659fd48acbdc5ebaeec2c9b923aed73b866"), looks := true }, kinds := [], alts := [], laidByText := true, laidKinds := [.data, .data, .data], laidTests := true, laidLooks := .later }
def FnExactGridTextCardSaid : Prop := Claim7.holds Tryd.pinned (.plain (OpenSpec.ofChange fnExactGridTextSpec)) fnExactGridTextCard

/-- THE SECOND FORM's CARD OF 'laws.FnExactModelText'. -/
def fnExactModelTextUptoCard : Claim7 := { stood := { row := fnExactModelTextUptoRow, standIns := [], harness := (true, "337162075174c2a3ac841e839e460659fd48acbdc5ebaeec2c9b923aed73b866"), looks := true }, kinds := [], alts := [], laidByText := true, laidKinds := [.data, .data, .data], laidTests := true, laidLooks := .later }
def FnExactModelTextUptoCardSaid : Prop := Claim7.holds Tryd.pinned (.plain (OpenSpec.upto fnExactModelTextSpec)) fnExactModelTextUptoCard

/-- THE SECOND FORM's CARD OF 'laws.FnExactParseModel'. -/
def fnExactParseModelUptoCard : Claim7 := { stood := { row := fnExactParseModelUptoRow, standIns := [], harness := (true, "337162075174c2a3ac841e839e460659fd48acbdc5ebaeec2c9b923aed73b866"), looks := true }, kinds := [], alts := [], laidByText := true, laidKinds := [.data, .data, .data, .data, .sentinel, .sentinel, .listed, .data, .pinned], laidTests := true, laidLooks := .later }
def FnExactParseModelUptoCardSaid : Prop := Claim7.holds Tryd.pinned (.plain (OpenSpec.upto fnExactParseModelSpec)) fnExactParseModelUptoCard

/-- THE SECOND FORM's CARD OF 'laws.FnExactBlockName'. -/
def fnExactBlockNameUptoCard : Claim7 := { stood := { row := fnExactBlockNameUptoRow, standIns := [], harness := (true, "337162075174c2a3ac841e839e460659fd48acbdc5ebaeec2c9b923aed73b866"), looks := true }, kinds := [], alts := [], laidByText := true, laidKinds := [.data, .data, .data], laidTests := true, laidLooks := .later }
def FnExactBlockNameUptoCardSaid : Prop := Claim7.holds Tryd.pinned (.plain (OpenSpec.upto fnExactBlockNameSpec)) fnExactBlockNameUptoCard

/-- THE SECOND FORM's CARD OF 'laws.FnExactGridText'. -/
def fnExactGridTextUptoCard : Claim7 := { stood := { row := fnExactGridTextUptoRow, standIns := [], harness := (true, "337162075174c2a3ac841e839e460659fd48acbdc5ebaeec2c9b923aed73b866"), looks := true }, kinds := [], alts := [], laidByText := true, laidKinds := [.data, .data, .data], laidTests := true, laidLooks := .later }
def FnExactGridTextUptoCardSaid : Prop := Claim7.holds Tryd.pinned (.plain (OpenSpec.upto fnExactGridTextSpec)) fnExactGridTextUptoCard
end Rows
end Go.Proofs.YtglcdgonbmdhoaaDoor
