/-
  DERIVED. GIVEN WITH THE SEED: THE CARDS: each row of YtnoefpkhbllmiaaGreatDoorRows.lean that lists a variable, with what it lists TIED to the program's text (the seventh form; the later family's looks); each row that meets fmt, with fmt's text TOLD by the authors' own Lean function (tested against real Go, not proved from fmt's source: count such statements apart). THE CARD IS WHAT COUNTS. Prove the row's statement (the work); the ties are given (YtnoefpkhbllmiaaGreatDoorTie.lean); close each card by the builder's one call (the guide's Derived/Test/ToyasCard.lean, 'card_holds'). Laid BY PROGRAM, IN A SANDBOX (cutbox-door.mjs). By AI agents, Wed Nov 11 2026. No macro, syntax, notation, axiom, sorry.
-/
import Derived.Test.YtnoefpkhbllmiaaGreatDoorRows
import GoSem.ClaimSeven
namespace Go.Proofs.YtnoefpkhbllmiaaGreatDoor
namespace Rows

/-- THE TIED CARD OF 'laws.FnExactTxRead'. -/
def fnExactTxReadCard : Claim7 := { stood := { row := fnExactTxReadRow, standIns := [], harness := (true, "50ee4fd34b6ba9c196e47a503a8aa2043919284f1534e7a26bf19cdc3de42ab4"), looks := true }, kinds := [], alts := [], laidByText := true, laidKinds := [.handle], laidTests := true, laidLooks := .later }
def FnExactTxReadCardSaid : Prop := Claim7.holds Tryz.pinned (.plain (OpenSpec.ofChange fnExactTxReadSpec)) fnExactTxReadCard

/-- THE TIED CARD OF 'laws.FnExactReplay'. -/
def fnExactReplayCard : Claim7 := { stood := { row := fnExactReplayRow, standIns := [], harness := (true, "50ee4fd34b6ba9c196e47a503a8aa2043919284f1534e7a26bf19cdc3de42ab4"), looks := true }, kinds := [], alts := [], laidByText := true, laidKinds := [.handle], laidTests := true, laidLooks := .later }
def FnExactReplayCardSaid : Prop := Claim7.holds Tryz.pinned (.plain (OpenSpec.ofChange fnExactReplaySpec)) fnExactReplayCard

/-- THE SECOND FORM's CARD OF 'laws.FnExactTxRead'. -/
def fnExactTxReadUptoCard : Claim7 := { stood := { row := fnExactTxReadUptoRow, standIns := [], harness := (true, "50ee4fd34b6ba9c196e47a503a8aa2043919284f1534e7a26bf19cdc3de42ab4"), looks := true }, kinds := [], alts := [], laidByText := true, laidKinds := [.handle], laidTests := true, laidLooks := .later }
def FnExactTxReadUptoCardSaid : Prop := Claim7.holds Tryz.pinned (.plain (OpenSpec.upto fnExactTxReadSpec)) fnExactTxReadUptoCard

/-- THE SECOND FORM's CARD OF 'laws.FnExactReplay'. -/
def fnExactReplayUptoCard : Claim7 := { stood := { row := fnExactReplayUptoRow, standIns := [], harness := (true, "50ee4fd34b6ba9c196e47a503a8aa2043919284f1534e7a26bf19cdc3de42ab4"), looks := true }, kinds := [], alts := [], laidByText := true, laidKinds := [.handle], laidTests := true, laidLooks := .later }
def FnExactReplayUptoCardSaid : Prop := Claim7.holds Tryz.pinned (.plain (OpenSpec.upto fnExactReplaySpec)) fnExactReplayUptoCard
end Rows
end Go.Proofs.YtnoefpkhbllmiaaGreatDoor
