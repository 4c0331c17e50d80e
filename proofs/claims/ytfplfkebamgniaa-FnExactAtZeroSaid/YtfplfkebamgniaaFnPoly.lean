/- The program's polynomials: what the laws over lists want of them. -/
import Derived.Test.YtfplfkebamgniaaPoly6
import Derived.Test.YtfplfkebamgniaaHPoly
import Derived.Test.YtfplfkebamgniaaSPoints2
namespace Go.Proofs.Ytfplfkebamgniaa
open Go.RowKit Go.PlainAid G IRow MGF
set_option linter.unusedVariables false
theorem implPolyRightB_any (a : Option Addr) (n cap : Nat) (zs : List Int) (w : World) (h : IR w a n cap zs) (hn : n ≤ 1048576) :
    Calls Try.prog 47 #[.slice a n cap] w fun e w' => e = .returned (.bool (rightB zs)) ∧ Below w.heap.size w w' := by
  refine (implPolyRight_any a n cap zs w h hn).mono ?_
  rintro e w' ⟨rfl, rfl⟩
  exact ⟨rfl, Below.refl _ _⟩
end Go.Proofs.Ytfplfkebamgniaa
