/- Two answers that are the same are told to be the same. -/
import Derived.Test.YteigjnjcfnpckaaDoorFnGetText
namespace Go.Proofs.YteigjnjcfnpckaaDoor
open Go.RowKit G
set_option linter.unusedVariables false
theorem eqNumOut_same (t : Int × Int × Int) (w : World) :
    Calls Tryd.prog 26 #[numOutV t, numOutV t] w fun e w' => e = .returned (.bool true) ∧ Below w.heap.size w w' := by
  unfold numOutV
  obtain ⟨a, b, c⟩ := t
  go_enter Tryd.func26, Tryd.ntmps26
  go_wp2_with fail
  go_ret
  exact ⟨rfl, ((Below.refl _ _).alloc (Nat.le_refl _) _).alloc (by simp) _⟩
theorem eqTextOut_same (t : ByteArray × Int × Int) (w : World) :
    Calls Tryd.prog 28 #[textOutV t, textOutV t] w fun e w' => e = .returned (.bool true) ∧ Below w.heap.size w w' := by
  unfold textOutV
  obtain ⟨a, b, c⟩ := t
  go_enter Tryd.func28, Tryd.ntmps28
  go_wp2_with fail
  go_ret
  exact ⟨rfl, ((Below.refl _ _).alloc (Nat.le_refl _) _).alloc (by simp) _⟩
end Go.Proofs.YteigjnjcfnpckaaDoor
