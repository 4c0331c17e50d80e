/- Texts in order: what 'ahead of' says. -/
import Derived.Test.YtnoefpkhbllmiaaGreatBookA
import Derived.WideShapes
import Derived.WideAt
namespace Go.Proofs.YtnoefpkhbllmiaaGreat
open Go.RowKit Go.PlainAid G
set_option linter.unusedVariables false
theorem less_before : ∀ x y : List UInt8, Op.bytesLess x y = bytesBefore x y
  | [], [] => rfl
  | [], _ :: _ => rfl
  | _ :: _, [] => rfl
  | a :: r, b :: s => by simp only [Op.bytesLess, bytesBefore, less_before r s]
theorem ltS_bytes (a b : ByteArray) : ltS a b = bytesBefore a.data.toList b.data.toList := by
  unfold ltS
  rw [less_before, Lib.toList_data, Lib.toList_data]
theorem ba_inj {a b : ByteArray} (h : a.data.toList = b.data.toList) : a = b := ByteArray.ext (Array.toList_inj.1 h)
theorem ltS_tr {a b c : ByteArray} (h1 : ltS a b = true) (h2 : ltS b c = true) : ltS a c = true := by
  rw [ltS_bytes] at *
  exact WideShapes.bytes_trans _ _ _ h1 h2
theorem ltS_ir (a : ByteArray) : ltS a a = false := by rw [ltS_bytes]; exact WideAt.bytes_irrefl _
theorem ltS_tot {a b : ByteArray} (h : a ≠ b) : ltS a b = true ∨ ltS b a = true := by
  rw [ltS_bytes, ltS_bytes]
  exact WideAt.bytes_total _ _ (fun e => h (ba_inj e))
theorem ltS_ne {a b : ByteArray} (h : ltS a b = true) : a ≠ b := fun e => by subst e; rw [ltS_ir] at h; cases h
theorem ltS_asym {a b : ByteArray} (h : ltS a b = true) : ltS b a = false := by
  cases h2 : ltS b a
  · rfl
  · have := ltS_tr h h2
    rw [ltS_ir] at this
    cases this
theorem leS_not (a b : ByteArray) : (Op.bytesLess a.toList b.toList || a.toList == b.toList) = !(ltS b a) := by
  show (ltS a b || a.toList == b.toList) = _
  by_cases h : a = b
  · subst h; rw [ltS_ir]; simp
  · have h2 : (a.toList == b.toList) = false := by
      rw [beq_eq_false_iff_ne, Lib.toList_data, Lib.toList_data]
      exact fun e => h (ba_inj e)
    rw [h2, Bool.or_false]
    rcases ltS_tot h with h3 | h3
    · rw [h3, ltS_asym h3]; rfl
    · rw [h3, ltS_asym h3]; rfl
theorem leq_str (a b : ByteArray) (W : World) : (binOp .leq 9 (.string a) (.string b)).run Tryz.prog W = .ok (.bool (!(ltS b a))) W := by
  rw [← leS_not]
  simp only [binOp]
  rfl
end Go.Proofs.YtnoefpkhbllmiaaGreat
