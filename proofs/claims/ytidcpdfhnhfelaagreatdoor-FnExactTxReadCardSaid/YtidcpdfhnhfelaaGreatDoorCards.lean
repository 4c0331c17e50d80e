/-
  DERIVED. GIVEN WITH THE SEED: THE CARDS: each row of YtidcpdfhnhfelaaGreatDoorRows.lean that lists a variable, with what it lists TIED to the program's text (the seventh form; the later family's looks); each row that meets fmt, with fmt's text TOLD by the authors' own Lean function (tested against real Go, not proved from fmt's source: count such statements apart). THE CARD IS WHAT COUNTS. Prove the row's statement (the work); the ties are given (YtidcpdfhnhfelaaGreatDoorTie.lean); close each card by the builder's one call (the guide's Derived/Test/ToyasCard.lean, 'card_holds'). Laid BY PROGRAM, IN A SANDBOX (cutbox-door.mjs). By AI agents, Wed Nov 11 2026. No macro, syntax, notation, axiom, sorry.
-/
import Derived.Test.YtidcpdfhnhfelaaGreatDoorRows
import GoSem.ClaimSeven
namespace Go.Proofs.YtidcpdfhnhfelaaGreatDoor
namespace Rows

/-- THE TIED CARD OF 'laws.FnExactTxRead'. -/
def fnExactTxReadCard : Claim7 := { stood := { row := fnExactTxReadRow, standIns := [], harness := (true, "1a824217808e8e0482a3ea95531d06b50ca782f6a87ea0df17f32e5c4788e6d3"), looks := true }, kinds := [], alts := [], laidByText := true, laidKinds := [.handle], laidTests := true, laidLooks := .later }
def FnExactTxReadCardSaid : Prop := Claim7.holds Tryz.pinned (.plain (OpenSpec.ofChange fnExactTxReadSpec)) fnExactTxReadCard

/-- THE TIED CARD OF 'laws.FnExactReplay'. -/
def fnExactReplayCard : Claim7 := { stood := { row := fnExactReplayRow, standIns := [], harness := (true, "1a824217808e8e0482a3ea95531d06b50ca782f6a87ea0df17f32e5c4788e6d3"), looks := true }, kinds := [], alts := [], laidByText := true, laidKinds := [.handle], laidTests := true, laidLooks := .later }
def FnExactReplayCardSaid : Prop := Claim7.holds Tryz.pinned (.plain (OpenSpec.ofChange fnExactReplaySpec)) fnExactReplayCard

/-- THE TIED CARD OF 'laws.FnExactVaultRight'. -/
def fnExactVaultRightCard : Claim7 := { stood := { row := fnExactVaultRightRow, standIns := [], harness := (true, "1a824217808e8e0482a3ea95531d06b50ca782f6a87ea0df17f32e5c4788e6d3"), looks := true }, kinds := [], alts := [], laidByText := true, laidKinds := [.handle], laidTests := true, laidLooks := .later }
def FnExactVaultRightCardSaid : Prop := Claim7.holds Tryz.pinned (.plain (OpenSpec.ofChange fnExactVaultRightSpec)) fnExactVaultRightCard

/-- THE SECOND FORM's CARD OF 'laws.FnExactTxRead'. -/
def fnExactTxReadUptoCard : Claim7 := { stood := { row := fnExactTxReadUptoRow, standIns := [], harness := (true, "1a824217808e8e0482a3ea95531d06b50ca782f6a87ea0df17f32e5c4788e6d3"), looks := true }, kinds := [], alts := [], laidByText := true, laidKinds := [.handle], laidTests := true, laidLooks := .later }
def FnExactTxReadUptoCardSaid : Prop := Claim7.holds Tryz.pinned (.plain (OpenSpec.upto fnExactTxReadSpec)) fnExactTxReadUptoCard

/-- THE SECOND FORM's CARD OF 'laws.FnExactReplay'. -/
def fnExactReplayUptoCard : Claim7 := { stood := { row := fnExactReplayUptoRow, standIns := [], harness := (true, "1a824217808e8e0482a3ea95531d06b50ca782f6a87ea0df17f32e5c4788e6d3"), looks := true }, kinds := [], alts := [], laidByText := true, laidKinds := [.handle], laidTests := true, laidLooks := .later }
def FnExactReplayUptoCardSaid : Prop := Claim7.holds Tryz.pinned (.plain (OpenSpec.upto fnExactReplaySpec)) fnExactReplayUptoCard

/-- THE SECOND FORM's CARD OF 'laws.FnExactVaultRight'. -/
def fnExactVaultRightUptoCard : Claim7 := { stood := { row := fnExactVaultRightUptoRow, standIns := [], harness := (true, "1a824217808e8e0482a3ea95531d06b50ca782f6a87ea0df17f32e5c4788e6d3"), looks := true }, kinds := [], alts := [], laidByText := true, laidKinds := [.handle], laidTests := true, laidLooks := .later }
def FnExactVaultRightUptoCardSaid : Prop := Claim7.holds Tryz.pinned (.plain (OpenSpec.upto fnExactVaultRightSpec)) fnExactVaultRightUptoCard
end Rows
end Go.Proofs.YtidcpdfhnhfelaaGreatDoor
