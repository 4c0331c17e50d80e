/- What more of the draws of chapter 2 answer. -/
import Derived.Test.YtdgafigmgiepdaaDoorDraw5
import Derived.Test.YtdgafigmgiepdaaDoorFnSeal
namespace Go.Proofs.YtdgafigmgiepdaaDoor
open Go.RowKit G MCrc
set_option linter.unusedVariables false
set_option maxRecDepth 100000 in
set_option maxHeartbeats 1600000 in
theorem drawSeal_any (ao : Option Addr) (len cap : Nat) (w : World) (hC : CodeAt w ao len) (hl : len ≤ 1048576) :
    Calls Tryd.prog 16 #[.slice ao len cap] w (SomeText 30000 w) := by
  obtain ⟨i0, hi, hz0, hz1, hz2⟩ := info_parts infoU8
  go_enter Tryd.func16, Tryd.ntmps16
  go_wp2_with fail
  refine (source_any ao len cap w hC hl).mono ?_
  rintro e w1 ⟨p, rfl, hp, hS, hb1⟩
  go_wp2_with fail
  refine (one_any p 30 w1 hS (by omega)).mono ?_
  rintro e w2 ⟨b, rfl, hD, hz⟩
  have hb2 := below_drawn hb1 (Nat.le_refl _) hp hD
  have hS2 := hD.src
  have HB2 := Lib.hid hb2
  clear hb1 hD hz hb2 hS
  cases b
  · go_wp2_with fail
    refine (n_any p 20 w2 hS2 (by omega)).mono ?_
    rintro e w3 ⟨r, rfl, r0, r1, hS3, hg3, hz3⟩
    have hb3 := Lib.hid (below_drawn HB2.out (Nat.le_refl _) hp ⟨hS3, hg3⟩)
    have hr : r < 20 := by omega
    clear r1 hg3 hz3
    go_wp2_with fail
    refine (bytes_any p r w3 hS3 (by omega)).mono ?_
    rintro e w4 ⟨x, rfl, hx, hD4⟩
    have hb4 := Lib.hid (below_drawn hb3.out (Nat.le_refl _) hp hD4)
    have hx' : x.size ≤ 30000 := by omega
    have HX := Lib.hid hx'; clear hx hx' hD4
    go_wp2_with fail
    go_ret
    exact ⟨_, rfl, HX.out, hb4.out⟩
  · go_wp2_with fail
    refine (n_any p 3 w2 hS2 (by omega)).mono ?_
    rintro e w3 ⟨r, rfl, r0, r1, hS3, hg3, hz3⟩
    have hb3 := Lib.hid (below_drawn HB2.out (Nat.le_refl _) hp ⟨hS3, hg3⟩)
    obtain ⟨r, rfl⟩ := Int.eq_ofNat_of_zero_le r0
    have hr : r < 3 := by omega
    have hs3 : w.heap.size ≤ w3.heap.size := hb3.out.size
    clear r1 hg3 hz3 hS3 hp hS2
    obtain ⟨m, hm⟩ : ∃ m : Nat, m = 19995 + r := ⟨_, rfl⟩
    have HM := Lib.hid hm
    have hm2 : (19995 : Int) + (r : Int) = (m : Int) := by omega
    have hm3 : m ≤ 30000 := by omega
    have HM2 := Lib.hid hm2; clear hm hm2
    go_wp2_with (at_make; refine wpList_make_full _ rfl (.tmp 10) (.tmp 10) 22 rfl w.heap.size 5 i0 (.int .u8 0) 1 Tryd.underlying22 hi hz0 hz1 .i64 .i64 _ _ m rfl rfl HM2.out HM2.out (by rw [hz2]; omega) (by unfold maxLen; omega) hs3 ?_; intro w4 hown4 hg4; rw [made_zero] at hown4; have hcv := conv_owned 22 9 5 Tryd.underlying22 Tryd.underlying5 Tryd.underlying9 _ _ _ _ hown4; have hsz := strOfNums_size (List.replicate m (0 : Int)); generalize strOfNums (List.replicate m (0 : Int)) = x at hcv hsz; have HSZ := Lib.hid hsz; have HG4 := Lib.hid (hb3.out.grown hg4 hs3 (fun k hk => by cases hk)); clear hown4 hsz hg4)
    go_ret
    exact ⟨_, rfl, by rw [HSZ.out]; simpa using hm3, HG4.out⟩
/-- A byte of a list of bytes, below most. -/
theorem lwAt_any (ao : Option Addr) (len cap k : Nat) (most : Int) (w : World) (hC : CodeAt w ao len) (hl : len ≤ 1048576) (hk : k ≤ 1000) (hm : most ≤ 9223372036854775807) :
    Calls Tryd.prog 19 #[.slice ao len cap, .int .i64 k, .int .i64 most] w fun e w' => ∃ r : Int, e = .returned (.int .i64 r) ∧ 0 ≤ r ∧ (r < most ∨ r = 0) ∧ w = w' := by
  by_cases hm1 : most ≤ 1
  · go_enter Tryd.func19, Tryd.ntmps19
    go_wp2_with fail
    go_ret
    exact ⟨0, rfl, by omega, Or.inr rfl, rfl⟩
  · by_cases h0 : len = 0
    · subst h0
      go_enter Tryd.func19, Tryd.ntmps19
      go_wp2_with fail
      go_ret
      exact ⟨0, rfl, by omega, Or.inr rfl, rfl⟩
    · obtain ⟨cb, co, ha, hz⟩ := hC
      obtain rfl := ha (by omega)
      have hmod : k % len < len := Nat.mod_lt _ (by omega)
      obtain ⟨z, z0, z1, hc⟩ := hz (k % len) hmod
      have hne : ((len : Int) == 0) = false := by simp; omega
      have hlp : (1 : Int) ≤ (len : Int) := by omega
      have ek : (k : Int) % (len : Int) = ((k % len : Nat) : Int) := by omega
      generalize k % len = i at *
      clear hz
      have EK := Lib.hid ek
      go_enter Tryd.func19, Tryd.ntmps19
      go_wp2_with fail
      go_ret
      first
        | exact ⟨_, rfl, Int.emod_nonneg _ (by omega), Or.inl (Int.emod_lt_of_pos _ (by omega)), rfl⟩
        | exact ⟨_, rfl, Int.tmod_nonneg _ z0, Or.inl (Int.tmod_lt_of_pos _ (by omega)), rfl⟩
def SomeCrc (w : World) (e : Ending) (w' : World) : Prop := ∃ (r : Int) (x : ByteArray), e = .returned (.tuple #[.int .i64 r, .string x]) ∧ (Lit.int .i64 r).wf = true ∧ x.size ≤ 30000 ∧ Below w.heap.size w w'
set_option maxHeartbeats 1600000 in
theorem drawCrcMore_any (ao : Option Addr) (len cap : Nat) (w : World) (hC : CodeAt w ao len) (hl : len ≤ 1048576) :
    Calls Tryd.prog 21 #[.slice ao len cap] w (SomeCrc w) := by
  go_enter Tryd.func21, Tryd.ntmps21
  go_wp2_with fail
  refine (source_any ao len cap w hC hl).mono ?_
  rintro e w1 ⟨p, rfl, hp, hS, hb1⟩
  go_wp2_with fail
  refine (n_any p 9 w1 hS (by omega)).mono ?_
  rintro e w2 ⟨r, rfl, r0, r1, hS2, hg2, hz2⟩
  have hb2 := Lib.hid (below_drawn hb1 (Nat.le_refl _) hp ⟨hS2, hg2⟩)
  have hr : r < 9 := by omega
  clear r1 hg2 hz2 hb1 hS
  go_wp2_with fail
  refine (bytes_any p r w2 hS2 (by omega)).mono ?_
  rintro e w3 ⟨x, rfl, hx, hD3⟩
  have hb3 := Lib.hid (below_drawn hb2.out (Nat.le_refl _) hp hD3)
  have hx' : x.size ≤ 30000 := by omega
  have HX := Lib.hid hx'; clear hx hx'
  have hS3 := hD3.src
  clear hD3 hS2
  go_wp2_with fail
  refine (one_any p 5 w3 hS3 (by omega)).mono ?_
  rintro e w4 ⟨b, rfl, hD4, hz4⟩
  have hb4 := Lib.hid (below_drawn hb3.out (Nat.le_refl _) hp hD4)
  have hS4 := hD4.src
  clear hD4 hz4 hS3
  cases b
  · go_wp2_with fail
    refine (n_any p 9 w4 hS4 (by omega)).mono ?_
    rintro e w5 ⟨q, rfl, q0, q1, hS5, hg5, hz5⟩
    have hb5 := Lib.hid (below_drawn hb4.out (Nat.le_refl _) hp ⟨hS5, hg5⟩)
    have hq : q < 9 := by omega
    clear q1 hg5 hz5
    go_wp2_with fail
    refine (bytes_any p q w5 hS5 (by omega)).mono ?_
    rintro e w6 ⟨y, rfl, hy, hD6⟩
    have hb6 := Lib.hid (below_drawn hb5.out (Nat.le_refl _) hp hD6)
    have HY : Hid (y.size ≤ maxLen) := by unfold maxLen; exact (by omega : y.size ≤ 9223372036854775807)
    clear hy hD6
    go_wp2_with fail
    refine (specCrc_any y w6 HY.out).mono ?_
    rintro e w7 ⟨rfl, rfl⟩
    have hc := crcI_range y
    have HC : Hid ((Lit.int .i64 (crcI y)).wf = true) := WalkArith.wf_i64 (by omega)
    clear hc
    go_wp2_with fail
    go_ret2
    exact ⟨_, _, rfl, HC.out, HX.out, hb6.out⟩
  · go_wp2_with fail
    refine (edge_any p w4 hS4).mono ?_
    rintro e w5 ⟨q, rfl, hq, hD5⟩
    have HQ := Lib.hid hq
    have hb5 := Lib.hid (below_drawn hb4.out (Nat.le_refl _) hp hD5)
    clear hq hD5
    go_wp2_with fail
    go_ret2
    exact ⟨_, _, rfl, HQ.out, HX.out, hb5.out⟩
end Go.Proofs.YtdgafigmgiepdaaDoor
