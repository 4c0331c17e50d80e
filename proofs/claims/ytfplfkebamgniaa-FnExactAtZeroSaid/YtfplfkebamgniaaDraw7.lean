/- The byte that laws' lwAt tells, named ahead of the call. -/
import Derived.Test.YtfplfkebamgniaaDraw6
namespace Go.Proofs.Ytfplfkebamgniaa
open Go.RowKit G MCrc
set_option linter.unusedVariables false
theorem lwAt_is (ao : Option Addr) (len cap k : Nat) (most : Int) (w : World) (hC : CodeAt w ao len) (hl : len ≤ 1048576) (hk : k ≤ 1000) (hm : most ≤ 9223372036854775807) :
    ∃ r : Int, (0 ≤ r ∧ (r < most ∨ r = 0)) ∧ Calls Try.prog 28 #[.slice ao len cap, .int .i64 k, .int .i64 most] w fun e w' => e = .returned (.int .i64 r) ∧ w' = w := by
  by_cases hm1 : most ≤ 1
  · refine ⟨0, ⟨by omega, Or.inr rfl⟩, ?_⟩
    go_enter Try.func28, Try.ntmps28
    go_wp2_with fail
    go_ret
    exact ⟨rfl, rfl⟩
  · by_cases h0 : len = 0
    · subst h0
      refine ⟨0, ⟨by omega, Or.inr rfl⟩, ?_⟩
      go_enter Try.func28, Try.ntmps28
      go_wp2_with fail
      go_ret
      exact ⟨rfl, rfl⟩
    · obtain ⟨cb, co, ha, hz⟩ := hC
      obtain rfl := ha (by omega)
      have hmod : k % len < len := Nat.mod_lt _ (by omega)
      obtain ⟨z, z0, z1, hc⟩ := hz (k % len) hmod
      have hne : ((len : Int) == 0) = false := by simp; omega
      have hlp : (1 : Int) ≤ (len : Int) := by omega
      have ek : (k : Int) % (len : Int) = ((k % len : Nat) : Int) := by omega
      generalize k % len = i at *
      clear hz
      have EK := Lib.hid ek
      refine ⟨z % most, ⟨Int.emod_nonneg _ (by omega), Or.inl (Int.emod_lt_of_pos _ (by omega))⟩, ?_⟩
      go_enter Try.func28, Try.ntmps28
      go_wp2_with fail
      go_ret
      first
        | exact ⟨rfl, rfl⟩
        | exact ⟨by rw [Int.tmod_eq_emod_of_nonneg z0], rfl⟩
end Go.Proofs.Ytfplfkebamgniaa
