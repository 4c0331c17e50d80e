/-
  DERIVED. GIVEN WITH THE SEED: THE CARDS: each row of YtgafndgnmadcfaaGreatDoorRows.lean that lists a variable, with what it lists TIED to the program's text (the seventh form; the later family's looks); each row that meets fmt, with fmt's text TOLD by the authors' own Lean function (tested against real Go, not proved from fmt's source: count such statements apart). THE CARD IS WHAT COUNTS. Prove the row's statement (the work); the ties are given (YtgafndgnmadcfaaGreatDoorTie.lean); close each card by the builder's one call (the guide's Derived/Test/ToyasCard.lean, 'card_holds'). Laid BY PROGRAM, IN A SANDBOX (cutbox-door.mjs). By AI agents, Wed Nov 11 2026. No macro, syntax, notation, axiom, sorry.
-/
import Derived.Test.YtgafndgnmadcfaaGreatDoorRows
import GoSem.ClaimSeven
namespace Go.Proofs.YtgafndgnmadcfaaGreatDoor
namespace Rows

/-- THE TIED CARD OF 'laws.FnExactVaultRight'. -/
def fnExactVaultRightCard : Claim7 := { stood := { row := fnExactVaultRightRow, standIns := [], harness := (true, "dc90df52dddb48c902006567fea872fe284647291b2d3e1db973351e62d446e1"), looks := true }, kinds := [], alts := [], laidByText := true, laidKinds := [.handle], laidTests := true, laidLooks := .later }
def FnExactVaultRightCardSaid : Prop := Claim7.holds Tryz.pinned (.plain (OpenSpec.ofChange fnExactVaultRightSpec)) fnExactVaultRightCard

/-- THE TIED CARD OF 'laws.FnExactData'. -/
def fnExactDataCard : Claim7 := { stood := { row := fnExactDataRow, standIns := [], harness := (true, "dc90df52dddb48c902006567fea872fe284647291b2d3e1db973351e62d446e1"), looks := true }, kinds := [], alts := [], laidByText := true, laidKinds := [.handle], laidTests := true, laidLooks := .later }
def FnExactDataCardSaid : Prop := Claim7.holds Tryz.pinned (.plain (OpenSpec.ofChange fnExactDataSpec)) fnExactDataCard

/-- THE TIED CARD OF 'laws.FnExactUnlock'. -/
def fnExactUnlockCard : Claim7 := { stood := { row := fnExactUnlockRow, standIns := [], harness := (true, "dc90df52dddb48c902006567fea872fe284647291b2d3e1db973351e62d446e1"), looks := true }, kinds := [], alts := [], laidByText := true, laidKinds := [.handle, .sentinel, .sentinel, .sentinel], laidTests := true, laidLooks := .later }
def FnExactUnlockCardSaid : Prop := Claim7.holds Tryz.pinned (.plain (OpenSpec.ofChange fnExactUnlockSpec)) fnExactUnlockCard

/-- THE TIED CARD OF 'laws.FnExactCurrent'. -/
def fnExactCurrentCard : Claim7 := { stood := { row := fnExactCurrentRow, standIns := [], harness := (true, "dc90df52dddb48c902006567fea872fe284647291b2d3e1db973351e62d446e1"), looks := true }, kinds := [], alts := [], laidByText := true, laidKinds := [.handle], laidTests := true, laidLooks := .later }
def FnExactCurrentCardSaid : Prop := Claim7.holds Tryz.pinned (.plain (OpenSpec.ofChange fnExactCurrentSpec)) fnExactCurrentCard

/-- THE SECOND FORM's CARD OF 'laws.FnExactVaultRight'. -/
def fnExactVaultRightUptoCard : Claim7 := { stood := { row := fnExactVaultRightUptoRow, standIns := [], harness := (true, "dc90df52dddb48c902006567fea872fe284647291b2d3e1db973351e62d446e1"), looks := true }, kinds := [], alts := [], laidByText := true, laidKinds := [.handle], laidTests := true, laidLooks := .later }
def FnExactVaultRightUptoCardSaid : Prop := Claim7.holds Tryz.pinned (.plain (OpenSpec.upto fnExactVaultRightSpec)) fnExactVaultRightUptoCard

/-- THE SECOND FORM's CARD OF 'laws.FnExactData'. -/
def fnExactDataUptoCard : Claim7 := { stood := { row := fnExactDataUptoRow, standIns := [], harness := (true, "dc90df52dddb48c902006567fea872fe284647291b2d3e1db973351e62d446e1"), looks := true }, kinds := [], alts := [], laidByText := true, laidKinds := [.handle], laidTests := true, laidLooks := .later }
def FnExactDataUptoCardSaid : Prop := Claim7.holds Tryz.pinned (.plain (OpenSpec.upto fnExactDataSpec)) fnExactDataUptoCard

/-- THE SECOND FORM's CARD OF 'laws.FnExactUnlock'. -/
def fnExactUnlockUptoCard : Claim7 := { stood := { row := fnExactUnlockUptoRow, standIns := [], harness := (true, "dc90df52dddb48c902006567fea872fe284647291b2d3e1db973351e62d446e1"), looks := true }, kinds := [], alts := [], laidByText := true, laidKinds := [.handle, .sentinel, .sentinel, .sentinel], laidTests := true, laidLooks := .later }
def FnExactUnlockUptoCardSaid : Prop := Claim7.holds Tryz.pinned (.plain (OpenSpec.upto fnExactUnlockSpec)) fnExactUnlockUptoCard

/-- THE SECOND FORM's CARD OF 'laws.FnExactCurrent'. -/
def fnExactCurrentUptoCard : Claim7 := { stood := { row := fnExactCurrentUptoRow, standIns := [], harness := (true, "dc90df52dddb48c902006567fea872fe284647291b2d3e1db973351e62d446e1"), looks := true }, kinds := [], alts := [], laidByText := true, laidKinds := [.handle], laidTests := true, laidLooks := .later }
def FnExactCurrentUptoCardSaid : Prop := Claim7.holds Tryz.pinned (.plain (OpenSpec.upto fnExactCurrentSpec)) fnExactCurrentUptoCard
end Rows
end Go.Proofs.YtgafndgnmadcfaaGreatDoor
