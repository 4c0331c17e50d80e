/- Texts put together: what the law uses of them. -/
import Derived.Stop.Asserts
import Derived.Test.YtidcpdfhnhfelaaGreatDoorQTxr28
import Derived.Test.YtidcpdfhnhfelaaGreatDoorQTxr00
/- What the program's EnvRead answers: the face that recovers. -/
namespace Go.Proofs.YtidcpdfhnhfelaaGreatDoor
open Go.RowKit Go.PlainAid G MGet MGF IRow MNum MJoin
set_option linter.unusedVariables false
theorem leaves_ret {P : Program} {fn : Func} {tmps : Array Value} {R : Ending → World → Prop} {w : World} {v : Value} (h : (results fn tmps).run P w = .ok v w) (hr : R (.returned v) w) : Leaves P fn tmps R [] .returning w := ⟨v, h, hr⟩
theorem openS_is {s : ByteArray} (h : (openS s).2.2 = 0) : openS s = ((openS s).1, 0, 0) := Prod.ext rfl (Prod.ext (openS_at s) h)
theorem openS_fits {s : ByteArray} (h : (openS s).2.2 = 0) : (openS s).1.size ≤ 8000 := by
  unfold openS at h ⊢
  split at h
  · exact absurd h (by decide)
  · rename_i h1
    split at h
    · exact absurd h (by decide)
    · rename_i h2
      rw [if_neg h1, if_neg h2]
      unfold unsS
      split
      · dsimp only
        unfold bodyS
        rw [ByteArray.size_extract]
        omega
      · exact Nat.zero_le _
end Go.Proofs.YtidcpdfhnhfelaaGreatDoor

