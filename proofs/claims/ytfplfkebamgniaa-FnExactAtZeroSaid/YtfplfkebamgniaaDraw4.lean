/- How a source of draws is made. -/
import Derived.Test.YtfplfkebamgniaaDraw3
namespace Go.Proofs.Ytfplfkebamgniaa
open Go.RowKit G
set_option linter.unusedVariables false
/-- A list of bytes that came in. -/
def CodeAt (w : World) (ao : Option Addr) (len : Nat) : Prop := ∃ cb co : Nat, (0 < len → ao = some ⟨cb, co, none⟩) ∧ ∀ i, i < len → ∃ z : Int, 0 ≤ z ∧ z ≤ 255 ∧ w.cell? ⟨cb, co + i, none⟩ = some (.int .u8 z)
theorem CodeAt.below {w w' : World} {ao : Option Addr} {len : Nat} (h : CodeAt w ao len) (hb : Below w.heap.size w w') : CodeAt w' ao len := by
  obtain ⟨cb, co, ha, hc⟩ := h
  refine ⟨cb, co, ha, fun i hi => ?_⟩
  obtain ⟨z, z0, z1, hz⟩ := hc i hi
  exact ⟨z, z0, z1, (hb.cell (World.block_lt_of_cell? w _ hz)).trans hz⟩
set_option maxHeartbeats 1600000 in
theorem source_any (ao : Option Addr) (len cap : Nat) (w : World) (hC : CodeAt w ao len) (hl : len ≤ 1048576) :
    Calls Try.prog 59 #[.slice ao len cap] w fun e w' => ∃ p : Nat, e = .returned (.pointer (some ⟨p, 0, none⟩)) ∧ w.heap.size ≤ p ∧ Src w' p ∧ Below w.heap.size w w' := by
  obtain ⟨cb, co, ha, hz⟩ := hC
  have HZ := Lib.hid hz; clear hz
  have HA := Lib.hid ha; clear ha
  have fin : ∀ (W : World) (m size : Int) (nd : Nat), 0 ≤ m → m ≤ 18446744073709551615 → 0 ≤ size → size ≤ 12 → Src ((w.alloc (.cells #[.slice ao len cap, .int .i64 0, .int .u64 m, .int .i64 size] 107)).drewN nd) w.heap.size := by
    intro W m size nd hm0 hm1 s0 s1
    refine Src.drewN ?_ nd
    by_cases h0 : 0 < len
    · have hlt : cb < w.heap.size := by
        obtain ⟨z, _, _, hz⟩ := HZ.out 0 h0
        exact World.block_lt_of_cell? w _ hz
      refine ⟨cb, co, len, cap, ao, ⟨0, m, size, by simp, by simp, by simp, by simp, by simp, by simp, by simp, by simp, by omega, by omega, hl, hm0, hm1, s0, s1, HA.out, by omega, fun i hi => ?_⟩⟩
      obtain ⟨z, z0, z1, hz⟩ := HZ.out i hi
      exact ⟨z, z0, z1, by rw [World.cell?_alloc_lt _ _ ⟨cb, co + i, none⟩ hlt]; exact hz⟩
    · exact ⟨w.heap.size + 1, co, len, cap, ao, ⟨0, m, size, by simp, by simp, by simp, by simp, by simp, by simp, by simp, by simp, by omega, by omega, hl, hm0, hm1, s0, s1, fun h => absurd h h0, by omega, fun i hi => absurd hi (by omega)⟩⟩
  have FIN := Lib.hid fin; clear fin
  have hpush : ∀ (W : World) (n : Nat) (a : Addr) (v : Value), (W.drewN n).setCell a v = (W.setCell a v).drewN n := fun _ _ _ _ => rfl
  go_enter Try.func59, Try.ntmps59
  go_wp2_with fail
  go_loopw [4] (fun i wr => ∃ (k : Nat) (m : Int) (nd : Nat), k ≤ len ∧ i = .int .i64 k ∧ 0 ≤ m ∧ m ≤ 18446744073709551615 ∧ wr = (w.alloc (.cells #[.slice ao len cap, .int .i64 0, .int .u64 m, .int .i64 0] 107)).drewN nd) (fun i _ => len - (intOf i).toNat)
  case atStart => exact ⟨0, 88172645463325252, 0, Nat.zero_le _, rfl, by omega, by omega, rfl⟩
  case round =>
    obtain ⟨k, m, nd, hk, rfl, hm0, hm1, rfl⟩ := hrel
    by_cases hlt : k < len
    · by_cases h64 : k < 64
      · have hao := HA.out (by omega)
        obtain ⟨z, z0, z1, hz⟩ := HZ.out k hlt
        subst hao
        have hcb : cb < w.heap.size := World.block_lt_of_cell? w _ hz
        go_wp2_with fail
        go_region
        go_wp2_with fail
        go_roundw
        case rel => exact ⟨k + 1, _, nd + 1, by omega, by go_num, (u64_range _).1, (u64_range _).2, rfl⟩
        case measure => simp [intOf]; omega
      · by_cases h12 : 12 < (len : Int) / 20
        · go_wp2_with fail
          go_ret
          exact ⟨_, rfl, Nat.le_refl _, FIN.out w m 12 nd hm0 hm1 (by omega) (by omega), below_drewN ((Below.refl _ _).alloc (Nat.le_refl _) _) _⟩
        · go_wp2_with fail
          go_ret
          exact ⟨_, rfl, Nat.le_refl _, FIN.out w m _ nd hm0 hm1 (by omega) (by omega), below_drewN ((Below.refl _ _).alloc (Nat.le_refl _) _) _⟩
    · by_cases h12 : 12 < (len : Int) / 20
      · go_wp2_with fail
        go_ret
        exact ⟨_, rfl, Nat.le_refl _, FIN.out w m 12 nd hm0 hm1 (by omega) (by omega), below_drewN ((Below.refl _ _).alloc (Nat.le_refl _) _) _⟩
      · go_wp2_with fail
        go_ret
        exact ⟨_, rfl, Nat.le_refl _, FIN.out w m _ nd hm0 hm1 (by omega) (by omega), below_drewN ((Below.refl _ _).alloc (Nat.le_refl _) _) _⟩
end Go.Proofs.Ytfplfkebamgniaa
