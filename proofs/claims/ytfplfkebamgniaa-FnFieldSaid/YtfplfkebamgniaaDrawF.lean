/- What the model's draws of chapter 3 answer. -/
import Derived.Test.YtfplfkebamgniaaDraw5
namespace Go.Proofs.Ytfplfkebamgniaa
open Go.RowKit G
set_option linter.unusedVariables false
set_option maxHeartbeats 800000 in
theorem byteAny_any (p : Nat) (w : World) (hS : Src w p) :
    Calls Try.prog 60 #[.pointer (some ⟨p, 0, none⟩)] w (SomeI64 w p) := by
  have hp := hS.lt
  go_enter Try.func60, Try.ntmps60
  go_wp2_with fail
  refine (one_any p 12 w hS (by omega)).mono ?_
  rintro e w1 ⟨b, rfl, hD, hz⟩
  have HD := Lib.hid hD
  have hS1 := hD.src
  clear hD
  cases b
  · go_wp2_with fail
    refine (n_any p 256 w1 hS1 (by omega)).mono ?_
    rintro e w2 ⟨r, rfl, r0, r1, hS2, hg2, hz2⟩
    have HD2 := Lib.hid (HD.out.trans ⟨hS2, hg2⟩)
    clear hS2 hg2 hz hz2 hS1
    have hr : r < 256 := by omega
    clear r1
    go_wp2_with fail
    go_ret
    exact ⟨_, rfl, WalkArith.wf_i64 (by omega), HD2.out⟩
  · have hp1 : p < w1.heap.size := by omega
    clear hz
    go_wp2_with fail
    refine (n_any p 4 _ (hS1.alloc _) (by omega)).mono ?_
    rintro e w2 ⟨r, rfl, r0, r1, hS2, hg, hz2⟩
    have HG : Hid (w1.grownBy w2 (some p)) := grownBy_trans (World.grownBy_alloc w1 _ _) hg
    have HS2 := Lib.hid hS2; clear hS2
    have hblk := hg.block w1.heap.size (by simp) (by simp; omega)
    have hcl : ∀ o, w2.cell? ⟨w1.heap.size, o, none⟩ = (w1.alloc _).cell? ⟨w1.heap.size, o, none⟩ := fun o => World.cell?_of_block hblk
    clear hblk hg hz2
    have HD2 : Hid (Drawn w w2 p) := Lib.hid (HD.out.trans ⟨HS2.out, HG.out⟩)
    have hr : r = 0 ∨ r = 1 ∨ r = 2 ∨ r = 3 := by omega
    clear r0 r1
    rcases hr with rfl | rfl | rfl | rfl
    all_goals
      go_wp2_with fail
      go_ret
      exact ⟨_, rfl, by decide, HD2.out⟩
def SomeTwo (w : World) (e : Ending) (w' : World) : Prop := ∃ a b : Int, e = .returned (.tuple #[.int .i64 a, .int .i64 b]) ∧ (Lit.int .i64 a).wf = true ∧ (Lit.int .i64 b).wf = true ∧ Below w.heap.size w w'
theorem drawMul_any (ao : Option Addr) (len cap : Nat) (w : World) (hC : CodeAt w ao len) (hl : len ≤ 1048576) :
    Calls Try.prog 16 #[.slice ao len cap] w (SomeTwo w) := by
  go_enter Try.func16, Try.ntmps16
  go_wp2_with fail
  refine (source_any ao len cap w hC hl).mono ?_
  rintro e w1 ⟨p, rfl, hp, hS, hb1⟩
  go_wp2_with fail
  refine (byteAny_any p w1 hS).mono ?_
  rintro e w2 ⟨a, rfl, ha, hD⟩
  have HA := Lib.hid ha; clear ha
  have HB := Lib.hid (below_drawn hb1 (Nat.le_refl _) hp hD)
  have hS2 := hD.src
  clear hD hb1
  go_wp2_with fail
  refine (byteAny_any p w2 hS2).mono ?_
  rintro e w3 ⟨b, rfl, hb, hD⟩
  have HBB := Lib.hid hb; clear hb
  have HB3 := Lib.hid (below_drawn HB.out (Nat.le_refl _) hp hD)
  clear hD
  go_wp2_with fail
  go_ret2
  exact ⟨_, _, rfl, HA.out, HBB.out, HB3.out⟩
theorem drawDiv_any (ao : Option Addr) (len cap : Nat) (w : World) (hC : CodeAt w ao len) (hl : len ≤ 1048576) :
    Calls Try.prog 19 #[.slice ao len cap] w (SomeTwo w) := by
  go_enter Try.func19, Try.ntmps19
  go_wp2_with fail
  refine (drawMul_any ao len cap w hC hl).mono ?_
  rintro e w1 ⟨a, b, rfl, ha, hb, hB⟩
  have HA := Lib.hid ha; clear ha
  have HBB := Lib.hid hb; clear hb
  have HB := Lib.hid hB; clear hB
  go_wp2_with fail
  go_ret2
  exact ⟨_, _, rfl, HA.out, HBB.out, HB.out⟩
theorem drawInv_any (ao : Option Addr) (len cap : Nat) (w : World) (hC : CodeAt w ao len) (hl : len ≤ 1048576) :
    Calls Try.prog 18 #[.slice ao len cap] w (SomeNum w) := by
  go_enter Try.func18, Try.ntmps18
  go_wp2_with fail
  refine (source_any ao len cap w hC hl).mono ?_
  rintro e w1 ⟨p, rfl, hp, hS, hb1⟩
  go_wp2_with fail
  refine (byteAny_any p w1 hS).mono ?_
  rintro e w2 ⟨a, rfl, ha, hD⟩
  have HA := Lib.hid ha; clear ha
  have HB := Lib.hid (below_drawn hb1 (Nat.le_refl _) hp hD)
  clear hD hb1
  go_wp2_with fail
  go_ret
  exact ⟨_, rfl, HA.out, HB.out⟩
theorem drawPow_any (ao : Option Addr) (len cap : Nat) (w : World) (hC : CodeAt w ao len) (hl : len ≤ 1048576) :
    Calls Try.prog 17 #[.slice ao len cap] w (SomeTwo w) := by
  go_enter Try.func17, Try.ntmps17
  go_wp2_with fail
  refine (source_any ao len cap w hC hl).mono ?_
  rintro e w1 ⟨p, rfl, hp, hS, hb1⟩
  go_wp2_with fail
  refine (n_any p 300 w1 hS (by omega)).mono ?_
  rintro e w2 ⟨r, rfl, r0, r1, hS2, hg2, hz2⟩
  have HB2 := Lib.hid (below_drawn hb1 (Nat.le_refl _) hp ⟨hS2, hg2⟩)
  have HR : Hid ((Lit.int .i64 r).wf = true) := Lib.hid (WalkArith.wf_i64 (by omega))
  clear r0 r1 hg2 hz2 hb1 hS
  go_wp2_with fail
  refine (one_any p 8 w2 hS2 (by omega)).mono ?_
  rintro e w3 ⟨b, rfl, hD, hz⟩
  have hS3 := hD.src
  have HB3 := Lib.hid (below_drawn HB2.out (Nat.le_refl _) hp hD)
  clear hD hz hS2
  cases b
  · go_wp2_with fail
    refine (byteAny_any p w3 hS3).mono ?_
    rintro e w4 ⟨a, rfl, ha, hD⟩
    have HA := Lib.hid ha; clear ha
    have HB := Lib.hid (below_drawn HB3.out (Nat.le_refl _) hp hD)
    clear hD
    go_wp2_with fail
    go_ret2
    exact ⟨_, _, rfl, HA.out, HR.out, HB.out⟩
  · go_wp2_with fail
    refine (edge_any p w3 hS3).mono ?_
    rintro e w4 ⟨n, rfl, hn, hD⟩
    have HN := Lib.hid hn; clear hn
    have hS4 := hD.src
    have HB4 := Lib.hid (below_drawn HB3.out (Nat.le_refl _) hp hD)
    clear hD
    go_wp2_with fail
    refine (byteAny_any p w4 hS4).mono ?_
    rintro e w5 ⟨a, rfl, ha, hD⟩
    have HA := Lib.hid ha; clear ha
    have HB := Lib.hid (below_drawn HB4.out (Nat.le_refl _) hp hD)
    clear hD
    go_wp2_with fail
    go_ret2
    exact ⟨_, _, rfl, HA.out, HN.out, HB.out⟩
end Go.Proofs.Ytfplfkebamgniaa
