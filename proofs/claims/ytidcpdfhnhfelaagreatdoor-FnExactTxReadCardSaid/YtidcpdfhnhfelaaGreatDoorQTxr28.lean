/- Texts put together: what the law uses of them. -/
import Derived.Defers
import Derived.Test.YtidcpdfhnhfelaaGreatDoorQTxr18
import Derived.Test.YtidcpdfhnhfelaaGreatDoorQTxr00
/- What the program's EnvRead answers. -/
namespace Go.Proofs.YtidcpdfhnhfelaaGreatDoor
open Go.RowKit Go.PlainAid G MGet MGF IRow MNum MJoin
set_option linter.unusedVariables false
theorem sco {w : World} {h i j : Nat} {v : Value} (hne : j ≠ i) : (w.setCell ⟨h, j, none⟩ v).cell? ⟨h, i, none⟩ = w.cell? ⟨h, i, none⟩ := World.cell?_setCell_other _ _ _ _ (by simp [hne])
theorem below_kept {B : Nat} {a w w' : World} {b : Nat} (h : Below B a w) (hg : w.grownBy w' (some b)) (hB : B ≤ w.heap.size) (hb : B ≤ b) : Below B a w' :=
  h.grown hg hB (fun k hk => by cases hk; exact hb)
theorem txt_fits {u : ByteArray} {a : Nat} (hu : u.size ≤ 8000) : (txtS u a).1.size ≤ 8000 := by
  unfold txtS
  split
  · exact Nat.zero_le _
  · split
    · exact Nat.zero_le _
    · split
      · exact Nat.zero_le _
      · dsimp only
        rw [ByteArray.size_extract]
        omega
end Go.Proofs.YtidcpdfhnhfelaaGreatDoor

