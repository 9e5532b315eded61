/-
  DERIVED. GIVEN WITH THE SEED: THE CARDS: each row of YtmimilchldjkbaaDoorRows.lean that lists a variable, with what it lists TIED to the program's text (the seventh form; the later family's looks); each row that meets fmt, with fmt's text TOLD by the authors' own Lean function (tested against real Go, not proved from fmt's source: count such statements apart). THE CARD IS WHAT COUNTS. Prove the row's statement (the work); the ties are given (YtmimilchldjkbaaDoorTie.lean); close each card by the builder's one call (the guide's Derived/Test/ToyasCard.lean, 'card_holds'). Laid BY PROGRAM, IN A SANDBOX (cutbox-door.mjs). By AI agents, Wed Nov 11 2026. No macro, syntax, notation, axiom, sorry.
-/
import Derived.Test.YtmimilchldjkbaaDoorRows
import GoSem.ClaimSeven
namespace Go.Proofs.YtmimilchldjkbaaDoor
namespace Rows

/-- THE TIED CARD OF 'laws.FnExactUniformSlopes'. -/
def fnExactUniformSlopesCard : Claim7 := { stood := { row := fnExactUniformSlopesRow, standIns := [], harness := (true, "63c1d98b6de2e212f9db0d7f14b1309f454d173e04c91644e1354e7d5f22daf8"), looks := true }, kinds := [], alts := [], laidByText := true, laidKinds := [.widerDeep], laidTests := true, laidLooks := .later }
def FnExactUniformSlopesCardSaid : Prop := Claim7.holds Tryd.pinned (.plain (OpenSpec.ofChange fnExactUniformSlopesSpec)) fnExactUniformSlopesCard

/-- THE TIED CARD OF 'laws.FnExactHalfSlopes'. -/
def fnExactHalfSlopesCard : Claim7 := { stood := { row := fnExactHalfSlopesRow, standIns := [], harness := (true, "63c1d98b6de2e212f9db0d7f14b1309f454d173e04c91644e1354e7d5f22daf8"), looks := true }, kinds := [], alts := [], laidByText := true, laidKinds := [.widerDeep], laidTests := true, laidLooks := .later }
def FnExactHalfSlopesCardSaid : Prop := Claim7.holds Tryd.pinned (.plain (OpenSpec.ofChange fnExactHalfSlopesSpec)) fnExactHalfSlopesCard

/-- THE TIED CARD OF 'laws.FnExactSlopesText'. -/
def fnExactSlopesTextCard : Claim7 := { stood := { row := fnExactSlopesTextRow, standIns := [], harness := (true, "63c1d98b6de2e212f9db0d7f14b1309f454d173e04c91644e1354e7d5f22daf8"), looks := true }, kinds := [], alts := [], laidByText := true, laidKinds := [.data, .data, .data], laidTests := true, laidLooks := .later }
def FnExactSlopesTextCardSaid : Prop := Claim7.holds Tryd.pinned (.plain (OpenSpec.ofChange fnExactSlopesTextSpec)) fnExactSlopesTextCard

/-- THE TIED CARD OF 'laws.FnExactCoarseModel'. -/
def fnExactCoarseModelCard : Claim7 := { stood := { row := fnExactCoarseModelRow, standIns := [], harness := (true, "63c1d98b6de2e212f9db0d7f14b1309f454d173e04c91644e1354e7d5f22daf8"), looks := true }, kinds := [], alts := [], laidByText := true, laidKinds := [.data], laidTests := true, laidLooks := .later }
def FnExactCoarseModelCardSaid : Prop := Claim7.holds Tryd.pinned (.plain (OpenSpec.ofChange fnExactCoarseModelSpec)) fnExactCoarseModelCard

/-- THE TIED CARD OF 'laws.FnExactModelText'. -/
def fnExactModelTextCard : Claim7 := { stood := { row := fnExactModelTextRow, standIns := [], harness := (true, "63c1d98b6de2e212f9db0d7f14b1309f454d173e04c91644e1354e7d5f22daf8"), looks := true }, kinds := [], alts := [], laidByText := true, laidKinds := [.data, .data, .data], laidTests := true, laidLooks := .later }
def FnExactModelTextCardSaid : Prop := Claim7.holds Tryd.pinned (.plain (OpenSpec.ofChange fnExactModelTextSpec)) fnExactModelTextCard

/-- THE TIED CARD OF 'laws.FnExactRuleText'. -/
def fnExactRuleTextCard : Claim7 := { stood := { row := fnExactRuleTextRow, standIns := [], harness := (true, "63c1d98b6de2e212f9db0d7f14b1309f454d173e04c91644e1354e7d5f22daf8"), looks := true }, kinds := [], alts := [], laidByText := true, laidKinds := [.data, .data, .data, .data, .data], laidTests := true, laidLooks := .later }
def FnExactRuleTextCardSaid : Prop := Claim7.holds Tryd.pinned (.plain (OpenSpec.ofChange fnExactRuleTextSpec)) fnExactRuleTextCard

/-- THE TIED CARD OF 'laws.FnExactParseModel'. -/
def fnExactParseModelCard : Claim7 := { stood := { row := fnExactParseModelRow, standIns := [], harness := (true, "63c1d98b6de2e212f9db0d7f14b1309f454d173e04c91644e1354e7d5f22daf8"), looks := true }, kinds := [], alts := [], laidByText := true, laidKinds := [.data, .data, .data, .data, .sentinel, .sentinel, .listed, .data, .pinned], laidTests := true, laidLooks := .later }
def FnExactParseModelCardSaid : Prop := Claim7.holds Tryd.pinned (.plain (OpenSpec.ofChange fnExactParseModelSpec)) fnExactParseModelCard

/-- THE SECOND FORM's CARD OF 'laws.FnExactUniformSlopes'. -/
def fnExactUniformSlopesUptoCard : Claim7 := { stood := { row := fnExactUniformSlopesUptoRow, standIns := [], harness := (true, "63c1d98b6de2e212f9db0d7f14b1309f454d173e04c91644e1354e7d5f22daf8"), looks := true }, kinds := [], alts := [], laidByText := true, laidKinds := [.widerDeep], laidTests := true, laidLooks := .later }
def FnExactUniformSlopesUptoCardSaid : Prop := Claim7.holds Tryd.pinned (.plain (OpenSpec.upto fnExactUniformSlopesSpec)) fnExactUniformSlopesUptoCard

/-- THE SECOND FORM's CARD OF 'laws.FnExactHalfSlopes'. -/
def fnExactHalfSlopesUptoCard : Claim7 := { stood := { row := fnExactHalfSlopesUptoRow, standIns := [], harness := (true, "63c1d98b6de2e212f9db0d7f14b1309f454d173e04c91644e1354e7d5f22daf8"), looks := true }, kinds := [], alts := [], laidByText := true, laidKinds := [.widerDeep], laidTests := true, laidLooks := .later }
def FnExactHalfSlopesUptoCardSaid : Prop := Claim7.holds Tryd.pinned (.plain (OpenSpec.upto fnExactHalfSlopesSpec)) fnExactHalfSlopesUptoCard

/-- THE SECOND FORM's CARD OF 'laws.FnExactSlopesText'. -/
def fnExactSlopesTextUptoCard : Claim7 := { stood := { row := fnExactSlopesTextUptoRow, standIns := [], harness := (true, "63c1d98b6de2e212f9db0d7f14b1309f454d173e04c91644e1354e7d5f22daf8"), looks := true }, kinds := [], alts := [], laidByText := true, laidKinds := [.data, .data, .data], laidTests := true, laidLooks := .later }
def FnExactSlopesTextUptoCardSaid : Prop := Claim7.holds Tryd.pinned (.plain (OpenSpec.upto fnExactSlopesTextSpec)) fnExactSlopesTextUptoCard

/-- THE SECOND FORM's CARD OF 'laws.FnExactCoarseModel'. -/
def fnExactCoarseModelUptoCard : Claim7 := { stood := { row := fnExactCoarseModelUptoRow, standIns := [], harness := (true, "63c1d98b6de2e212f9db0d7f14b1309f454d173e04c91644e1354e7d5f22daf8"), looks := true }, kinds := [], alts := [], laidByText := true, laidKinds := [.data], laidTests := true, laidLooks := .later }
def FnExactCoarseModelUptoCardSaid : Prop := Claim7.holds Tryd.pinned (.plain (OpenSpec.upto fnExactCoarseModelSpec)) fnExactCoarseModelUptoCard

/-- THE SECOND FORM's CARD OF 'laws.FnExactModelText'. -/
def fnExactModelTextUptoCard : Claim7 := { stood := { row := fnExactModelTextUptoRow, standIns := [], harness := (true, "63c1d98b6de2e212f9db0d7f14b1309f454d173e04c91644e1354e7d5f22daf8"), looks := true }, kinds := [], alts := [], laidByText := true, laidKinds := [.data, .data, .data], laidTests := true, laidLooks := .later }
def FnExactModelTextUptoCardSaid : Prop := Claim7.holds Tryd.pinned (.plain (OpenSpec.upto fnExactModelTextSpec)) fnExactModelTextUptoCard

/-- THE SECOND FORM's CARD OF 'laws.FnExactRuleText'. -/
def fnExactRuleTextUptoCard : Claim7 := { stood := { row := fnExactRuleTextUptoRow, standIns := [], harness := (true, "63c1d98b6de2e212f9db0d7f14b1309f454d173e04c91644e1354e7d5f22daf8"), looks := true }, kinds := [], alts := [], laidByText := true, laidKinds := [.data, .data, .data, .data, .data], laidTests := true, laidLooks := .later }
def FnExactRuleTextUptoCardSaid : Prop := Claim7.holds Tryd.pinned (.plain (OpenSpec.upto fnExactRuleTextSpec)) fnExactRuleTextUptoCard

/-- THE SECOND FORM's CARD OF 'laws.FnExactParseModel'. -/
def fnExactParseModelUptoCard : Claim7 := { stood := { row := fnExactParseModelUptoRow, standIns := [], harness := (true, "63c1d98b6de2e212f9db0d7f14b1309f454d173e04c91644e1354e7d5f22daf8"), looks := true }, kinds := [], alts := [], laidByText := true, laidKinds := [.data, .data, .data, .data, .sentinel, .sentinel, .listed, .data, .pinned], laidTests := true, laidLooks := .later }
def FnExactParseModelUptoCardSaid : Prop := Claim7.holds Tryd.pinned (.plain (OpenSpec.upto fnExactParseModelSpec)) fnExactParseModelUptoCard
end Rows
end Go.Proofs.YtmimilchldjkbaaDoor
