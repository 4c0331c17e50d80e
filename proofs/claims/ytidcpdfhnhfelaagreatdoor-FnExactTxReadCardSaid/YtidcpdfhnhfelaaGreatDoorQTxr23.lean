/- Texts put together: what the law uses of them. -/
import Derived.Test.YtidcpdfhnhfelaaGreatDoorQTxr21
import Derived.Test.YtidcpdfhnhfelaaGreatDoorQTxr22
import Derived.Test.YtidcpdfhnhfelaaGreatDoorQTxr00
/- A deed by its cells; what the laws' own functions on one deed answer. -/
namespace Go.Proofs.YtidcpdfhnhfelaaGreatDoor
open Go.RowKit Go.PlainAid G MGF IRow
set_option linter.unusedVariables false
/-- A deed. -/
structure Dd where
  kd : Int
  gn : Int
  nd : Int
  mn : Int
  ck : Int
  no : Int
  lk : ByteArray
  nm : ByteArray
  tm : Int
  bd : ByteArray
def ddD : Dd := ⟨0, 0, 0, 0, 0, 0, ByteArray.empty, ByteArray.empty, 0, ByteArray.empty⟩
/-- A deed in memory. -/
def ddE : Enc Dd := ⟨10, fun e => [.int .i64 e.kd, .int .i64 e.gn, .int .i64 e.nd, .int .i64 e.mn, .int .i64 e.ck, .int .i64 e.no, .string e.lk, .string e.nm, .int .i64 e.tm, .string e.bd], fun _ => rfl, by intro x v hv; simp at hv; rcases hv with rfl | rfl | rfl | rfl | rfl | rfl | rfl | rfl | rfl | rfl <;> rfl⟩
theorem eqConf_same (q0 q1 q2 q3 : Int) (w : World) :
    Calls Tryz.prog 31 #[.agg #[.int .i64 q0, .int .i64 q1, .int .i64 q2, .int .i64 q3], .agg #[.int .i64 q0, .int .i64 q1, .int .i64 q2, .int .i64 q3]] w fun e w' => e = .returned (.bool true) ∧ Below w.heap.size w w' := by
  go_enter Tryz.func31, Tryz.ntmps31
  go_wp2_with fail
  go_ret
  exact ⟨rfl, ((Below.refl _ _).alloc (Nat.le_refl _) _).alloc (by simp) _⟩
set_option maxRecDepth 100000 in
theorem eqDeed_same (q0 q1 q2 q3 q4 q5 : Int) (q6 q7 : ByteArray) (q8 : Int) (q9 : ByteArray) (w : World) :
    Calls Tryz.prog 75 #[.agg #[.int .i64 q0, .int .i64 q1, .int .i64 q2, .int .i64 q3, .int .i64 q4, .int .i64 q5, .string q6, .string q7, .int .i64 q8, .string q9], .agg #[.int .i64 q0, .int .i64 q1, .int .i64 q2, .int .i64 q3, .int .i64 q4, .int .i64 q5, .string q6, .string q7, .int .i64 q8, .string q9]] w fun e w' => e = .returned (.bool true) ∧ Below w.heap.size w w' := by
  obtain ⟨W, hW⟩ : ∃ W, W = (w.alloc (.cells #[.int .i64 q0, .int .i64 q1, .int .i64 q2, .int .i64 q3, .int .i64 q4, .int .i64 q5, .string q6, .string q7, .int .i64 q8, .string q9] 110)).alloc (.cells #[.int .i64 q0, .int .i64 q1, .int .i64 q2, .int .i64 q3, .int .i64 q4, .int .i64 q5, .string q6, .string q7, .int .i64 q8, .string q9] 110) := ⟨_, rfl⟩
  have hb0 : Below w.heap.size w W := by rw [hW]; repeat' (first | exact Below.refl _ _ | refine Below.alloc ?_ (by first | exact Nat.le_refl _ | (simp; done) | (simp; omega)) _)
  have hA : BoxC W w.heap.size [.int .i64 q0, .int .i64 q1, .int .i64 q2, .int .i64 q3, .int .i64 q4, .int .i64 q5, .string q6, .string q7, .int .i64 q8, .string q9] := by rw [hW]; exact (BoxC.made _ _ _).alloc _
  have hB : BoxC W (w.heap.size + 1) [.int .i64 q0, .int .i64 q1, .int .i64 q2, .int .i64 q3, .int .i64 q4, .int .i64 q5, .string q6, .string q7, .int .i64 q8, .string q9] := by rw [hW]; have := BoxC.made (w.alloc (.cells #[.int .i64 q0, .int .i64 q1, .int .i64 q2, .int .i64 q3, .int .i64 q4, .int .i64 q5, .string q6, .string q7, .int .i64 q8, .string q9] 110)) #[.int .i64 q0, .int .i64 q1, .int .i64 q2, .int .i64 q3, .int .i64 q4, .int .i64 q5, .string q6, .string q7, .int .i64 q8, .string q9] 110; rwa [World.size_alloc] at this
  go_enter Tryz.func75, Tryz.ntmps75
  go_wp2_with fail
  rw [← hW]
  clear hW
  refine (eqConf_same q1 q2 q3 q4 _).mono ?_
  rintro e w1 ⟨rfl, hb⟩
  have hAw1 := hA.below hb
  have hBw1 := hB.below hb
  have hbw1 := hb0.trans (hb.mono hb0.size)
  clear hb hA hB hb0
  have a5 := hAw1.cell 5 _ rfl
  have b5 := hBw1.cell 5 _ rfl
  have a6 := hAw1.cell 6 _ rfl
  have b6 := hBw1.cell 6 _ rfl
  have HA := Lib.hid hAw1
  have HB := Lib.hid hBw1
  have HW := Lib.hid hbw1
  clear hAw1 hBw1 hbw1
  go_wp2_with fail
  have hA := HA.out
  have hB := HB.out
  have hb0 := HW.out
  clear HA HB HW a5 b5 a6 b6
  refine (eqTerm_same q5 q6 _).mono ?_
  rintro e w2 ⟨rfl, hb⟩
  have hAw2 := hA.below hb
  have hBw2 := hB.below hb
  have hbw2 := hb0.trans (hb.mono hb0.size)
  clear hb hA hB hb0
  have a7 := hAw2.cell 7 _ rfl
  have b7 := hBw2.cell 7 _ rfl
  have a8 := hAw2.cell 8 _ rfl
  have b8 := hBw2.cell 8 _ rfl
  have a9 := hAw2.cell 9 _ rfl
  have b9 := hBw2.cell 9 _ rfl
  have HA := Lib.hid hAw2
  have HB := Lib.hid hBw2
  have HW := Lib.hid hbw2
  clear hAw2 hBw2 hbw2
  go_wp2_with fail
  have hA := HA.out
  have hB := HB.out
  have hb0 := HW.out
  clear HA HB HW a7 b7 a8 b8 a9 b9
  refine (eqItem_same q7 q8 q9 _).mono ?_
  rintro e w3 ⟨rfl, hb⟩
  have hAw3 := hA.below hb
  have hBw3 := hB.below hb
  have hbw3 := hb0.trans (hb.mono hb0.size)
  clear hb hA hB hb0
  have HA := Lib.hid hAw3
  have HB := Lib.hid hBw3
  have HW := Lib.hid hbw3
  clear hAw3 hBw3 hbw3
  go_wp2_with fail
  go_ret
  exact ⟨rfl, HW.out⟩
end Go.Proofs.YtidcpdfhnhfelaaGreatDoor

