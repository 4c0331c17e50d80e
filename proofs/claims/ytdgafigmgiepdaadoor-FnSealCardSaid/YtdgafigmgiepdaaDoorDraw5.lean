/- What the model's draws of chapter 2 answer: a number; texts that are not too long; nothing that was there turns. -/
import Derived.Test.YtdgafigmgiepdaaDoorDraw4
namespace Go.Proofs.YtdgafigmgiepdaaDoor
open Go.RowKit G
set_option linter.unusedVariables false
theorem below_drawn {B p : Nat} {w w1 w2 : World} (h : Below B w w1) (hB : B ≤ w.heap.size) (hp : B ≤ p) (hD : Drawn w1 w2 p) : Below B w w2 :=
  h.grown hD.gr (Nat.le_trans hB h.size) (fun k hk => by injection hk with hk; omega)
theorem made_zero (n : Nat) : (madeCells (Value.int .u8 0).cells (n * 1)).toList = (List.replicate n (0 : Int)).map (Value.int .u8) := by
  apply List.ext_getElem
  · simp [size_madeCells]
  · intro i h1 h2
    simp [madeCells, Value.cells, Nat.mod_one]
def SomeNum (w : World) (e : Ending) (w' : World) : Prop := ∃ r : Int, e = .returned (.int .i64 r) ∧ (Lit.int .i64 r).wf = true ∧ Below w.heap.size w w'
def SomeText (n : Nat) (w : World) (e : Ending) (w' : World) : Prop := ∃ x : ByteArray, e = .returned (.string x) ∧ x.size ≤ n ∧ Below w.heap.size w w'
theorem drawNum_any (ao : Option Addr) (len cap : Nat) (w : World) (hC : CodeAt w ao len) (hl : len ≤ 1048576) :
    Calls Tryd.prog 8 #[.slice ao len cap] w (SomeNum w) := by
  go_enter Tryd.func8, Tryd.ntmps8
  go_wp2_with fail
  refine (source_any ao len cap w hC hl).mono ?_
  rintro e w1 ⟨p, rfl, hp, hS, hb1⟩
  go_wp2_with fail
  refine (any_any p w1 hS).mono ?_
  rintro e w2 ⟨r, rfl, hr, hD⟩
  have HR := Lib.hid hr; clear hr
  have HB := Lib.hid (below_drawn hb1 (Nat.le_refl _) hp hD)
  go_wp2_with fail
  go_ret
  exact ⟨_, rfl, HR.out, HB.out⟩
set_option maxRecDepth 100000 in
set_option maxHeartbeats 1600000 in
theorem drawText_any (ao : Option Addr) (len cap : Nat) (w : World) (hC : CodeAt w ao len) (hl : len ≤ 1048576) :
    Calls Tryd.prog 12 #[.slice ao len cap] w (SomeText 30000 w) := by
  obtain ⟨i0, hi, hz0, hz1, hz2⟩ := info_parts infoU8
  go_enter Tryd.func12, Tryd.ntmps12
  go_wp2_with fail
  refine (source_any ao len cap w hC hl).mono ?_
  rintro e w1 ⟨p, rfl, hp, hS, hb1⟩
  go_wp2_with fail
  refine (one_any p 8 w1 hS (by omega)).mono ?_
  rintro e w2 ⟨b, rfl, hD, hz⟩
  have hb2 := below_drawn hb1 (Nat.le_refl _) hp hD
  have hS2 := hD.src
  have HB2 := Lib.hid hb2
  clear hb1 hD hz hb2 hS
  cases b
  · go_wp2_with fail
    refine (n_any p 20 w2 hS2 (by omega)).mono ?_
    rintro e w3 ⟨r, rfl, r0, r1, hS3, hg3, hz3⟩
    have hb3 := Lib.hid (below_drawn HB2.out (Nat.le_refl _) hp ⟨hS3, hg3⟩)
    have hr : r < 20 := by omega
    clear r1 hg3 hz3
    go_wp2_with fail
    refine (bytes_any p r w3 hS3 (by omega)).mono ?_
    rintro e w4 ⟨x, rfl, hx, hD4⟩
    have hb4 := Lib.hid (below_drawn hb3.out (Nat.le_refl _) hp hD4)
    have hx' : x.size ≤ 30000 := by omega
    have HX := Lib.hid hx'; clear hx hx' hD4
    go_wp2_with fail
    go_ret
    exact ⟨_, rfl, HX.out, hb4.out⟩
  · go_wp2_with fail
    refine (n_any p 3 w2 hS2 (by omega)).mono ?_
    rintro e w3 ⟨r, rfl, r0, r1, hS3, hg3, hz3⟩
    have hb3 := Lib.hid (below_drawn HB2.out (Nat.le_refl _) hp ⟨hS3, hg3⟩)
    obtain ⟨r, rfl⟩ := Int.eq_ofNat_of_zero_le r0
    have hr : r < 3 := by omega
    have hs3 : w.heap.size ≤ w3.heap.size := hb3.out.size
    clear r1 hg3 hz3 hS3 hp hS2
    obtain ⟨m, hm⟩ : ∃ m : Nat, m = 19999 + r := ⟨_, rfl⟩
    have HM := Lib.hid hm
    have hm2 : (19999 : Int) + (r : Int) = (m : Int) := by omega
    have hm3 : m ≤ 30000 := by omega
    have HM2 := Lib.hid hm2; clear hm hm2
    go_wp2_with (at_make; refine wpList_make_full _ rfl (.tmp 10) (.tmp 10) 22 rfl w.heap.size 5 i0 (.int .u8 0) 1 Tryd.underlying22 hi hz0 hz1 .i64 .i64 _ _ m rfl rfl HM2.out HM2.out (by rw [hz2]; omega) (by unfold maxLen; omega) hs3 ?_; intro w4 hown4 hg4; rw [made_zero] at hown4; have hcv := conv_owned 22 9 5 Tryd.underlying22 Tryd.underlying5 Tryd.underlying9 _ _ _ _ hown4; have hsz := strOfNums_size (List.replicate m (0 : Int)); generalize strOfNums (List.replicate m (0 : Int)) = x at hcv hsz; have HSZ := Lib.hid hsz; have HG4 := Lib.hid (hb3.out.grown hg4 hs3 (fun k hk => by cases hk)); clear hown4 hsz hg4)
    go_ret
    exact ⟨_, rfl, by rw [HSZ.out]; simpa using hm3, HG4.out⟩
end Go.Proofs.YtdgafigmgiepdaaDoor
