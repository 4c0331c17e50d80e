/- What more of the draws of chapter 2 answer. -/
import Derived.Test.YtfplfkebamgniaaDraw5
import Derived.Test.YtfplfkebamgniaaFnSeal
namespace Go.Proofs.Ytfplfkebamgniaa
open Go.RowKit G MCrc
set_option linter.unusedVariables false
/-- A byte of a list of bytes, below most. -/
theorem lwAt_any (ao : Option Addr) (len cap k : Nat) (most : Int) (w : World) (hC : CodeAt w ao len) (hl : len ≤ 1048576) (hk : k ≤ 1000) (hm : most ≤ 9223372036854775807) :
    Calls Try.prog 28 #[.slice ao len cap, .int .i64 k, .int .i64 most] w fun e w' => ∃ r : Int, e = .returned (.int .i64 r) ∧ 0 ≤ r ∧ (r < most ∨ r = 0) ∧ w = w' := by
  by_cases hm1 : most ≤ 1
  · go_enter Try.func28, Try.ntmps28
    go_wp2_with fail
    go_ret
    exact ⟨0, rfl, by omega, Or.inr rfl, rfl⟩
  · by_cases h0 : len = 0
    · subst h0
      go_enter Try.func28, Try.ntmps28
      go_wp2_with fail
      go_ret
      exact ⟨0, rfl, by omega, Or.inr rfl, rfl⟩
    · obtain ⟨cb, co, ha, hz⟩ := hC
      obtain rfl := ha (by omega)
      have hmod : k % len < len := Nat.mod_lt _ (by omega)
      obtain ⟨z, z0, z1, hc⟩ := hz (k % len) hmod
      have hne : ((len : Int) == 0) = false := by simp; omega
      have hlp : (1 : Int) ≤ (len : Int) := by omega
      have ek : (k : Int) % (len : Int) = ((k % len : Nat) : Int) := by omega
      generalize k % len = i at *
      clear hz
      have EK := Lib.hid ek
      go_enter Try.func28, Try.ntmps28
      go_wp2_with fail
      go_ret
      first
        | exact ⟨_, rfl, Int.emod_nonneg _ (by omega), Or.inl (Int.emod_lt_of_pos _ (by omega)), rfl⟩
        | exact ⟨_, rfl, Int.tmod_nonneg _ z0, Or.inl (Int.tmod_lt_of_pos _ (by omega)), rfl⟩
def SomeCrc (w : World) (e : Ending) (w' : World) : Prop := ∃ (r : Int) (x : ByteArray), e = .returned (.tuple #[.int .i64 r, .string x]) ∧ (Lit.int .i64 r).wf = true ∧ x.size ≤ 30000 ∧ Below w.heap.size w w'
end Go.Proofs.Ytfplfkebamgniaa
