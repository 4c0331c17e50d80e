/-
  DERIVED. GIVEN WITH THE SEED: THE CARDS: each row of YtdnbkjiijpeiiaaDoorRows.lean that lists a variable, with what it lists TIED to the program's text (the seventh form; the later family's looks); each row that meets fmt, with fmt's text TOLD by the authors' own Lean function (tested against real Go, not proved from fmt's source: count such statements apart). THE CARD IS WHAT COUNTS. Prove the row's statement (the work); the ties are given (YtdnbkjiijpeiiaaDoorTie.lean); close each card by the builder's one call (the guide's Derived/Test/ToyasCard.lean, 'card_holds'). Laid BY PROGRAM, IN A SANDBOX (cutbox-door.mjs). By AI agents, Wed Nov 11 2026. No macro, syntax, notation, axiom, sorry.
-/
import Derived.Test.YtdnbkjiijpeiiaaDoorRows
import GoSem.ClaimSeven
namespace Go.Proofs.YtdnbkjiijpeiiaaDoor
namespace Rows

/-- THE TIED CARD OF 'laws.FnEnv'. -/
def fnEnvCard : Claim7 := { stood := { row := fnEnvRow, standIns := [], harness := (true, "c036d7c32bb8d0a25a10251cb5218d53be6fc9322dd513e07b654f056fe55be6"), looks := true }, kinds := [], alts := [], laidByText := true, laidKinds := [.handle], laidTests := true, laidLooks := .later }
def FnEnvCardSaid : Prop := Claim7.holds Tryd.pinned (.plain (OpenSpec.ofChange fnEnvSpec)) fnEnvCard

/-- THE TIED CARD OF 'laws.FnExactEnvRead'. -/
def fnExactEnvReadCard : Claim7 := { stood := { row := fnExactEnvReadRow, standIns := [], harness := (true, "c036d7c32bb8d0a25a10251cb5218d53be6fc9322dd513e07b654f056fe55be6"), looks := true }, kinds := [], alts := [], laidByText := true, laidKinds := [.handle], laidTests := true, laidLooks := .later }
def FnExactEnvReadCardSaid : Prop := Claim7.holds Tryd.pinned (.plain (OpenSpec.ofChange fnExactEnvReadSpec)) fnExactEnvReadCard

/-- THE SECOND FORM's CARD OF 'laws.FnEnv'. -/
def fnEnvUptoCard : Claim7 := { stood := { row := fnEnvUptoRow, standIns := [], harness := (true, "c036d7c32bb8d0a25a10251cb5218d53be6fc9322dd513e07b654f056fe55be6"), looks := true }, kinds := [], alts := [], laidByText := true, laidKinds := [.handle], laidTests := true, laidLooks := .later }
def FnEnvUptoCardSaid : Prop := Claim7.holds Tryd.pinned (.plain (OpenSpec.upto fnEnvSpec)) fnEnvUptoCard

/-- THE SECOND FORM's CARD OF 'laws.FnExactEnvRead'. -/
def fnExactEnvReadUptoCard : Claim7 := { stood := { row := fnExactEnvReadUptoRow, standIns := [], harness := (true, "c036d7c32bb8d0a25a10251cb5218d53be6fc9322dd513e07b654f056fe55be6"), looks := true }, kinds := [], alts := [], laidByText := true, laidKinds := [.handle], laidTests := true, laidLooks := .later }
def FnExactEnvReadUptoCardSaid : Prop := Claim7.holds Tryd.pinned (.plain (OpenSpec.upto fnExactEnvReadSpec)) fnExactEnvReadUptoCard
end Rows
end Go.Proofs.YtdnbkjiijpeiiaaDoor
