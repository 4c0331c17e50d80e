/- The disk: what the laws' own functions answer of it, and the model. -/
import Derived.Test.YtnoefpkhbllmiaaDoorFnSmall
import Derived.Deep.RegionHeld3
import Derived.PlainAid
import Derived.IntWalk
namespace Go.Proofs.YtnoefpkhbllmiaaDoor
open Go.RowKit Go.PlainAid G
set_option linter.unusedVariables false
def dkRight (s t : ByteArray) : Bool := decide (s.size + t.size ≤ 3000)
/-- What Append answers: a disk, and a code. -/
def dkAppend (s t b : ByteArray) : ByteArray × ByteArray × Int :=
  if 8000 < b.size then (⟨#[]⟩, ⟨#[]⟩, 2) else if 3000 < s.size + t.size then (⟨#[]⟩, ⟨#[]⟩, 1) else if 3000 < s.size + t.size + b.size then (⟨#[]⟩, ⟨#[]⟩, 9) else (s, t ++ b, 0)
def dkSync (s t : ByteArray) : ByteArray × ByteArray := if 3000 < s.size + t.size then (s, t) else (s ++ t, ⟨#[]⟩)
def dkKeep (t : ByteArray) (k : Int) : Nat := (min (max k 0) (t.size : Int)).toNat
def dkCrash (s t : ByteArray) (k : Int) : ByteArray × ByteArray := if 3000 < s.size + t.size then (s, t) else (s ++ t.extract 0 (dkKeep t k), ⟨#[]⟩)
def dkV (r : ByteArray × ByteArray) : Value := .agg #[.string r.1, .string r.2]
def dkOutV (r : ByteArray × ByteArray × Int) : Value := .agg #[.string r.1, .string r.2.1, .int .i64 r.2.2]
theorem szDisk_any (s t : ByteArray) (w : World) (hs : s.size ≤ maxLen) (ht : t.size ≤ maxLen) :
    Calls Tryd.prog 15 #[.agg #[.string s, .string t], .int .i64 1048576] w fun e w' => (∃ r, e = .returned (.int .i64 r) ∧ (r = -1 ∨ (0 ≤ r ∧ s.size + t.size ≤ 1048576))) ∧ Below w.heap.size w w' := by
  unfold maxLen at hs ht
  have HB : Hid (Below w.heap.size w (w.alloc (.cells #[.string s, .string t] 36))) := Lib.hid ((Below.refl _ _).alloc (Nat.le_refl _) _)
  have hw : IntKind.i64.wrap (1048576 - (s.size : Int)) = 1048576 - (s.size : Int) := by rw [IntWalk.i64_in _ (by omega)]
  by_cases h : (s.size : Int) ≤ 1048576
  · have h2 : ¬ 1048576 - (s.size : Int) < 0 := by omega
    have hw2 : IntKind.i64.wrap (1048576 - (s.size : Int) - (t.size : Int)) = 1048576 - (s.size : Int) - (t.size : Int) := by rw [IntWalk.i64_in _ (by omega)]
    by_cases h3 : (s.size : Int) + t.size ≤ 1048576
    · have h4 : ¬ 1048576 - (s.size : Int) - (t.size : Int) < 0 := by omega
      go_enter Tryd.func15, Tryd.ntmps15
      go_wp2_with fail
      go_ret
      exact ⟨⟨_, rfl, .inr ⟨by omega, by omega⟩⟩, HB.out⟩
    · have h4 : 1048576 - (s.size : Int) - (t.size : Int) < 0 := by omega
      go_enter Tryd.func15, Tryd.ntmps15
      go_wp2_with fail
      go_ret
      exact ⟨⟨_, rfl, .inl rfl⟩, HB.out⟩
  · have h2 : 1048576 - (s.size : Int) < 0 := by omega
    go_enter Tryd.func15, Tryd.ntmps15
    go_wp2_with fail
    go_ret
    exact ⟨⟨_, rfl, .inl rfl⟩, HB.out⟩
set_option maxRecDepth 100000 in
theorem toDisk_any (s t : ByteArray) (w : World) :
    Calls Tryd.prog 16 #[.agg #[.string s, .string t]] w fun e w' => e = .returned (dkV (s, t)) ∧ Below w.heap.size w w' := by
  go_enter Tryd.func16, Tryd.ntmps16
  go_wp2_with fail
  exact bodyPost_ret (v := .agg #[.string s, .string t]) (by simp [results, Tryd.results16, go_sem]) rfl ⟨rfl, by repeat' (first | exact Below.refl _ _ | refine Below.alloc ?_ (by first | exact Nat.le_refl _ | (simp; done) | (simp; omega)) _ | refine Below.setCell ?_ (by first | exact Nat.le_refl _ | (simp; done) | (simp; omega)) _)⟩
theorem eqDisk_same (s t : ByteArray) (w : World) :
    Calls Tryd.prog 32 #[.agg #[.string s, .string t], .agg #[.string s, .string t]] w fun e w' => e = .returned (.bool true) ∧ Below w.heap.size w w' := by
  go_enter Tryd.func32, Tryd.ntmps32
  go_wp2_with fail
  go_ret
  exact ⟨rfl, ((Below.refl _ _).alloc (Nat.le_refl _) _).alloc (by simp) _⟩
theorem eqDiskOut_same (s t : ByteArray) (c : Int) (w : World) :
    Calls Tryd.prog 17 #[.agg #[.string s, .string t, .int .i64 c], .agg #[.string s, .string t, .int .i64 c]] w fun e w' => e = .returned (.bool true) ∧ Below w.heap.size w w' := by
  obtain ⟨W, hW⟩ : ∃ W, W = (w.alloc (.cells #[.string s, .string t, .int .i64 c] 28)).alloc (.cells #[.string s, .string t, .int .i64 c] 28) := ⟨_, rfl⟩
  have HB : Hid (Below w.heap.size w W) := Lib.hid (by rw [hW]; exact ((Below.refl _ _).alloc (Nat.le_refl _) _).alloc (by simp) _)
  have a2 : W.cell? ⟨w.heap.size, 2, none⟩ = some (.int .i64 c) := by rw [hW]; simp
  have b2 : W.cell? ⟨w.heap.size + 1, 2, none⟩ = some (.int .i64 c) := by rw [hW]; simp
  have hlt : w.heap.size + 1 < W.heap.size := by rw [hW]; simp
  go_enter Tryd.func17, Tryd.ntmps17
  go_wp2_with fail
  rw [← hW]
  clear hW
  refine (eqDisk_same s t W).mono ?_
  rintro e w1 ⟨rfl, hb⟩
  have a2' := (hb.cell (p := ⟨w.heap.size, 2, none⟩) (by show w.heap.size < W.heap.size; omega)).trans a2
  have b2' := (hb.cell (p := ⟨w.heap.size + 1, 2, none⟩) hlt).trans b2
  have HB1 := Lib.hid (HB.out.trans (hb.mono HB.out.size))
  clear hb a2 b2
  go_wp2_with fail
  go_ret
  exact ⟨rfl, HB1.out⟩
theorem specDiskRight_any (s t : ByteArray) (w : World) (h : s.size + t.size ≤ 9007199254740992) :
    Calls Tryd.prog 14 #[.agg #[.string s, .string t]] w fun e w' => e = .returned (.bool (decide (s.size + t.size ≤ 3000))) ∧ Below w.heap.size w w' := by
  have HB : Hid (Below w.heap.size w (w.alloc (.cells #[.string s, .string t] 24))) := Lib.hid ((Below.refl _ _).alloc (Nat.le_refl _) _)
  by_cases h1 : s.size + t.size ≤ 3000
  · have h2 : (s.size : Int) + (t.size : Int) ≤ 3000 := by omega
    have hw : IntKind.i64.wrap ((s.size : Int) + (t.size : Int)) = (s.size : Int) + (t.size : Int) := by rw [IntWalk.i64_in _ (by omega)]
    go_enter Tryd.func14, Tryd.ntmps14
    go_wp2_with fail
    go_ret
    exact ⟨ret_bool (by simp; omega), HB.out⟩
  · have h2 : ¬ (s.size : Int) + (t.size : Int) ≤ 3000 := by omega
    have hw : IntKind.i64.wrap ((s.size : Int) + (t.size : Int)) = (s.size : Int) + (t.size : Int) := by rw [IntWalk.i64_in _ (by omega)]
    go_enter Tryd.func14, Tryd.ntmps14
    go_wp2_with fail
    go_ret
    exact ⟨ret_bool (by simp; try omega), HB.out⟩
end Go.Proofs.YtnoefpkhbllmiaaDoor
