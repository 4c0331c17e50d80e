/-
  DERIVED. GIVEN WITH THE SEED: THE CARDS: each row of YtdgafigmgiepdaaDoorRows.lean that lists a variable, with what it lists TIED to the program's text (the seventh form; the later family's looks); each row that meets fmt, with fmt's text TOLD by the authors' own Lean function (tested against real Go, not proved from fmt's source: count such statements apart). THE CARD IS WHAT COUNTS. Prove the row's statement (the work); the ties are given (YtdgafigmgiepdaaDoorTie.lean); close each card by the builder's one call (the guide's Derived/Test/ToyasCard.lean, 'card_holds'). Laid BY PROGRAM, IN A SANDBOX (cutbox-door.mjs). By AI agents, Wed Nov 11 2026. No macro, syntax, notation, axiom, sorry.
-/
import Derived.Test.YtdgafigmgiepdaaDoorRows
import GoSem.ClaimSeven
namespace Go.Proofs.YtdgafigmgiepdaaDoor
namespace Rows

/-- THE TIED CARD OF 'laws.FnNums'. -/
def fnNumsCard : Claim7 := { stood := { row := fnNumsRow, standIns := [], harness := (true, "b468a2d9f30a48a0cad426128651d0c4a7fb514b68e4e9392c755eb496a613a2"), looks := true }, kinds := [], alts := [], laidByText := true, laidKinds := [.handle], laidTests := true, laidLooks := .later }
def FnNumsCardSaid : Prop := Claim7.holds Tryd.pinned (.plain (OpenSpec.ofChange fnNumsSpec)) fnNumsCard

/-- THE TIED CARD OF 'laws.FnSeal'. -/
def fnSealCard : Claim7 := { stood := { row := fnSealRow, standIns := [], harness := (true, "b468a2d9f30a48a0cad426128651d0c4a7fb514b68e4e9392c755eb496a613a2"), looks := true }, kinds := [], alts := [], laidByText := true, laidKinds := [.handle], laidTests := true, laidLooks := .later }
def FnSealCardSaid : Prop := Claim7.holds Tryd.pinned (.plain (OpenSpec.ofChange fnSealSpec)) fnSealCard

/-- THE TIED CARD OF 'laws.FnExactGetNum'. -/
def fnExactGetNumCard : Claim7 := { stood := { row := fnExactGetNumRow, standIns := [], harness := (true, "b468a2d9f30a48a0cad426128651d0c4a7fb514b68e4e9392c755eb496a613a2"), looks := true }, kinds := [], alts := [], laidByText := true, laidKinds := [.handle], laidTests := true, laidLooks := .later }
def FnExactGetNumCardSaid : Prop := Claim7.holds Tryd.pinned (.plain (OpenSpec.ofChange fnExactGetNumSpec)) fnExactGetNumCard

/-- THE TIED CARD OF 'laws.FnExactGetText'. -/
def fnExactGetTextCard : Claim7 := { stood := { row := fnExactGetTextRow, standIns := [], harness := (true, "b468a2d9f30a48a0cad426128651d0c4a7fb514b68e4e9392c755eb496a613a2"), looks := true }, kinds := [], alts := [], laidByText := true, laidKinds := [.handle], laidTests := true, laidLooks := .later }
def FnExactGetTextCardSaid : Prop := Claim7.holds Tryd.pinned (.plain (OpenSpec.ofChange fnExactGetTextSpec)) fnExactGetTextCard

/-- THE TIED CARD OF 'laws.FnExactUnseal'. -/
def fnExactUnsealCard : Claim7 := { stood := { row := fnExactUnsealRow, standIns := [], harness := (true, "b468a2d9f30a48a0cad426128651d0c4a7fb514b68e4e9392c755eb496a613a2"), looks := true }, kinds := [], alts := [], laidByText := true, laidKinds := [.handle], laidTests := true, laidLooks := .later }
def FnExactUnsealCardSaid : Prop := Claim7.holds Tryd.pinned (.plain (OpenSpec.ofChange fnExactUnsealSpec)) fnExactUnsealCard

/-- THE SECOND FORM's CARD OF 'laws.FnNums'. -/
def fnNumsUptoCard : Claim7 := { stood := { row := fnNumsUptoRow, standIns := [], harness := (true, "b468a2d9f30a48a0cad426128651d0c4a7fb514b68e4e9392c755eb496a613a2"), looks := true }, kinds := [], alts := [], laidByText := true, laidKinds := [.handle], laidTests := true, laidLooks := .later }
def FnNumsUptoCardSaid : Prop := Claim7.holds Tryd.pinned (.plain (OpenSpec.upto fnNumsSpec)) fnNumsUptoCard

/-- THE SECOND FORM's CARD OF 'laws.FnSeal'. -/
def fnSealUptoCard : Claim7 := { stood := { row := fnSealUptoRow, standIns := [], harness := (true, "b468a2d9f30a48a0cad426128651d0c4a7fb514b68e4e9392c755eb496a613a2"), looks := true }, kinds := [], alts := [], laidByText := true, laidKinds := [.handle], laidTests := true, laidLooks := .later }
def FnSealUptoCardSaid : Prop := Claim7.holds Tryd.pinned (.plain (OpenSpec.upto fnSealSpec)) fnSealUptoCard

/-- THE SECOND FORM's CARD OF 'laws.FnExactGetNum'. -/
def fnExactGetNumUptoCard : Claim7 := { stood := { row := fnExactGetNumUptoRow, standIns := [], harness := (true, "b468a2d9f30a48a0cad426128651d0c4a7fb514b68e4e9392c755eb496a613a2"), looks := true }, kinds := [], alts := [], laidByText := true, laidKinds := [.handle], laidTests := true, laidLooks := .later }
def FnExactGetNumUptoCardSaid : Prop := Claim7.holds Tryd.pinned (.plain (OpenSpec.upto fnExactGetNumSpec)) fnExactGetNumUptoCard

/-- THE SECOND FORM's CARD OF 'laws.FnExactGetText'. -/
def fnExactGetTextUptoCard : Claim7 := { stood := { row := fnExactGetTextUptoRow, standIns := [], harness := (true, "b468a2d9f30a48a0cad426128651d0c4a7fb514b68e4e9392c755eb496a613a2"), looks := true }, kinds := [], alts := [], laidByText := true, laidKinds := [.handle], laidTests := true, laidLooks := .later }
def FnExactGetTextUptoCardSaid : Prop := Claim7.holds Tryd.pinned (.plain (OpenSpec.upto fnExactGetTextSpec)) fnExactGetTextUptoCard

/-- THE SECOND FORM's CARD OF 'laws.FnExactUnseal'. -/
def fnExactUnsealUptoCard : Claim7 := { stood := { row := fnExactUnsealUptoRow, standIns := [], harness := (true, "b468a2d9f30a48a0cad426128651d0c4a7fb514b68e4e9392c755eb496a613a2"), looks := true }, kinds := [], alts := [], laidByText := true, laidKinds := [.handle], laidTests := true, laidLooks := .later }
def FnExactUnsealUptoCardSaid : Prop := Claim7.holds Tryd.pinned (.plain (OpenSpec.upto fnExactUnsealSpec)) fnExactUnsealUptoCard
end Rows
end Go.Proofs.YtdgafigmgiepdaaDoor
