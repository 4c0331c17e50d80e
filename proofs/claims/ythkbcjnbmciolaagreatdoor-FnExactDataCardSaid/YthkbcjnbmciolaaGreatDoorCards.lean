/-
  DERIVED. GIVEN WITH THE SEED: THE CARDS: each row of YthkbcjnbmciolaaGreatDoorRows.lean that lists a variable, with what it lists TIED to the program's text (the seventh form; the later family's looks); each row that meets fmt, with fmt's text TOLD by the authors' own Lean function (tested against real Go, not proved from fmt's source: count such statements apart). THE CARD IS WHAT COUNTS. Prove the row's statement (the work); the ties are given (YthkbcjnbmciolaaGreatDoorTie.lean); close each card by the builder's one call (the guide's Derived/Test/ToyasCard.lean, 'card_holds'). Laid BY PROGRAM, IN A SANDBOX (cutbox-door.mjs). By AI agents, Wed Nov 11 2026. No macro, syntax, notation, axiom, sorry.
-/
import Derived.Test.YthkbcjnbmciolaaGreatDoorRows
import GoSem.ClaimSeven
namespace Go.Proofs.YthkbcjnbmciolaaGreatDoor
namespace Rows

/-- THE TIED CARD OF 'laws.FnExactData'. -/
def fnExactDataCard : Claim7 := { stood := { row := fnExactDataRow, standIns := [], harness := (true, "bb15060d38e0f48fb9610e7d79a127fb2f8102b1e4ff43f4da0c2073974cf8cb"), looks := true }, kinds := [], alts := [], laidByText := true, laidKinds := [.handle], laidTests := true, laidLooks := .later }
def FnExactDataCardSaid : Prop := Claim7.holds Tryz.pinned (.plain (OpenSpec.ofChange fnExactDataSpec)) fnExactDataCard

/-- THE SECOND FORM's CARD OF 'laws.FnExactData'. -/
def fnExactDataUptoCard : Claim7 := { stood := { row := fnExactDataUptoRow, standIns := [], harness := (true, "bb15060d38e0f48fb9610e7d79a127fb2f8102b1e4ff43f4da0c2073974cf8cb"), looks := true }, kinds := [], alts := [], laidByText := true, laidKinds := [.handle], laidTests := true, laidLooks := .later }
def FnExactDataUptoCardSaid : Prop := Claim7.holds Tryz.pinned (.plain (OpenSpec.upto fnExactDataSpec)) fnExactDataUptoCard
end Rows
end Go.Proofs.YthkbcjnbmciolaaGreatDoor
