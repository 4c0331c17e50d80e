/- Texts put together: what the law uses of them. -/
import Derived.Stop.Asserts
import Derived.Test.YtidcpdfhnhfelaaGreatDoorQRpl10
import Derived.Test.YtidcpdfhnhfelaaGreatDoorQRpl11
import Derived.Test.YtidcpdfhnhfelaaGreatDoorQRpl14
import Derived.Test.YtidcpdfhnhfelaaGreatDoorQRpl00
/- What the program's EnvRead answers: the face that recovers. -/
namespace Go.Proofs.YtidcpdfhnhfelaaGreatDoor
open Go.RowKit Go.PlainAid G MGet MGF IRow MNum MJoin
set_option linter.unusedVariables false
theorem leaves_ret {P : Program} {fn : Func} {tmps : Array Value} {R : Ending → World → Prop} {w : World} {v : Value} (h : (results fn tmps).run P w = .ok v w) (hr : R (.returned v) w) : Leaves P fn tmps R [] .returning w := ⟨v, h, hr⟩
theorem openS_is {s : ByteArray} (h : (openS s).2.2 = 0) : openS s = ((openS s).1, 0, 0) := Prod.ext rfl (Prod.ext (openS_at s) h)
theorem openS_fits {s : ByteArray} (h : (openS s).2.2 = 0) : (openS s).1.size ≤ 8000 := by
  unfold openS at h ⊢
  split at h
  · exact absurd h (by decide)
  · rename_i h1
    split at h
    · exact absurd h (by decide)
    · rename_i h2
      rw [if_neg h1, if_neg h2]
      unfold unsS
      split
      · dsimp only
        unfold bodyS
        rw [ByteArray.size_extract]
        omega
      · exact Nat.zero_le _
end Go.Proofs.YtidcpdfhnhfelaaGreatDoor

/- Rows of deeds: an element by its cells; what the laws' own functions on such rows answer. -/
namespace Go.Proofs.YtidcpdfhnhfelaaGreatDoor
open Go.RowKit Go.PlainAid G MGF IRow
set_option linter.unusedVariables false
/-- A row of deeds that can be read. -/
abbrev DdR (w : World) (a : Option Addr) (n cap : Nat) (l : List Dd) : Prop := SR ddE ddD w a n cap l
theorem DdR.at {w : World} {a : Option Addr} {n cap : Nat} {l : List Dd} (h : DdR w a n cap l) {i : Nat} (hi : i < n) : ∃ g o, a = some ⟨g, o, none⟩ ∧ g < w.heap.size ∧ w.cell? ⟨g, o + i * 10, none⟩ = some (.int .i64 (l.getD i ddD).kd) ∧ w.cell? ⟨g, o + i * 10 + 1, none⟩ = some (.int .i64 (l.getD i ddD).gn) ∧ w.cell? ⟨g, o + i * 10 + 2, none⟩ = some (.int .i64 (l.getD i ddD).nd) ∧ w.cell? ⟨g, o + i * 10 + 3, none⟩ = some (.int .i64 (l.getD i ddD).mn) ∧ w.cell? ⟨g, o + i * 10 + 4, none⟩ = some (.int .i64 (l.getD i ddD).ck) ∧ w.cell? ⟨g, o + i * 10 + 5, none⟩ = some (.int .i64 (l.getD i ddD).no) ∧ w.cell? ⟨g, o + i * 10 + 6, none⟩ = some (.string (l.getD i ddD).lk) ∧ w.cell? ⟨g, o + i * 10 + 7, none⟩ = some (.string (l.getD i ddD).nm) ∧ w.cell? ⟨g, o + i * 10 + 8, none⟩ = some (.int .i64 (l.getD i ddD).tm) ∧ w.cell? ⟨g, o + i * 10 + 9, none⟩ = some (.string (l.getD i ddD).bd) := by
  obtain ⟨g, o, ha, hg, hc⟩ := h.cells (by omega)
  exact ⟨g, o, ha, hg, hc i hi 0 _ rfl, hc i hi 1 _ rfl, hc i hi 2 _ rfl, hc i hi 3 _ rfl, hc i hi 4 _ rfl, hc i hi 5 _ rfl, hc i hi 6 _ rfl, hc i hi 7 _ rfl, hc i hi 8 _ rfl, hc i hi 9 _ rfl⟩
theorem DdR.own {w : World} {base n cap : Nat} {a : Option Addr} {e : TypeId} {l : List Dd} (h : w.ownsRow base e ddE.k (.slice a n cap) n (ddE.flat l)) : DdR w a n cap l := SR.own (by decide) h
theorem DdR.olen {w : World} {base n cap : Nat} {a : Option Addr} {e : TypeId} {l : List Dd} (h : w.ownsRow base e ddE.k (.slice a n cap) n (ddE.flat l)) : l.length = n := by
  have := h.1; rw [ddE.flat_length] at this; exact Nat.eq_of_mul_eq_mul_right (show 0 < ddE.k by decide) this
theorem infoDeed : (Tryz.prog.info? 110).map (fun i => (i.zero, i.size, i.bytes)) = some (some (.agg #[.int .i64 0, .int .i64 0, .int .i64 0, .int .i64 0, .int .i64 0, .int .i64 0, .string ByteArray.empty, .string ByteArray.empty, .int .i64 0, .string ByteArray.empty]), 10, 104) := by kernel_rfl
end Go.Proofs.YtidcpdfhnhfelaaGreatDoor

