/- What the model's draws of chapter 3 answer. -/
import Derived.Test.YtnlmbcdaolccbaaDrawA
import Derived.Test.YtnlmbcdaolccbaaSPointsA
import Derived.Test.YtnlmbcdaolccbaaHPointA
import Derived.Test.YtnlmbcdaolccbaaChap2
namespace Go.Proofs.Ytnlmbcdaolccbaa
open Go.RowKit G
set_option linter.unusedVariables false
set_option maxHeartbeats 800000 in
theorem byteAny_any (p : Nat) (w : World) (hS : Src w p) :
    Calls Try.prog 61 #[.pointer (some ⟨p, 0, none⟩)] w (SomeI64 w p) := by
  have hp := hS.lt
  go_enter Try.func61, Try.ntmps61
  go_wp2_with fail
  refine (one_any p 12 w hS (by omega)).mono ?_
  rintro e w1 ⟨b, rfl, hD, hz⟩
  have HD := Lib.hid hD
  have hS1 := hD.src
  clear hD
  cases b
  · go_wp2_with fail
    refine (n_any p 256 w1 hS1 (by omega)).mono ?_
    rintro e w2 ⟨r, rfl, r0, r1, hS2, hg2, hz2⟩
    have HD2 := Lib.hid (HD.out.trans ⟨hS2, hg2⟩)
    clear hS2 hg2 hz hz2 hS1
    have hr : r < 256 := by omega
    clear r1
    go_wp2_with fail
    go_ret
    exact ⟨_, rfl, WalkArith.wf_i64 (by omega), HD2.out⟩
  · have hp1 : p < w1.heap.size := by omega
    clear hz
    go_wp2_with fail
    refine (n_any p 4 _ (hS1.alloc _) (by omega)).mono ?_
    rintro e w2 ⟨r, rfl, r0, r1, hS2, hg, hz2⟩
    have HG : Hid (w1.grownBy w2 (some p)) := grownBy_trans (World.grownBy_alloc w1 _ _) hg
    have HS2 := Lib.hid hS2; clear hS2
    have hblk := hg.block w1.heap.size (by simp) (by simp; omega)
    have hcl : ∀ o, w2.cell? ⟨w1.heap.size, o, none⟩ = (w1.alloc _).cell? ⟨w1.heap.size, o, none⟩ := fun o => World.cell?_of_block hblk
    clear hblk hg hz2
    have HD2 : Hid (Drawn w w2 p) := Lib.hid (HD.out.trans ⟨HS2.out, HG.out⟩)
    have hr : r = 0 ∨ r = 1 ∨ r = 2 ∨ r = 3 := by omega
    clear r0 r1
    rcases hr with rfl | rfl | rfl | rfl
    all_goals
      go_wp2_with fail
      go_ret
      exact ⟨_, rfl, by decide, HD2.out⟩
def SomeTwo (w : World) (e : Ending) (w' : World) : Prop := ∃ a b : Int, e = .returned (.tuple #[.int .i64 a, .int .i64 b]) ∧ (Lit.int .i64 a).wf = true ∧ (Lit.int .i64 b).wf = true ∧ Below w.heap.size w w'
end Go.Proofs.Ytnlmbcdaolccbaa
/- What the model's draws of polynomials and places answer. -/
namespace Go.Proofs.Ytnlmbcdaolccbaa
open Go.RowKit Go.PlainAid G MGF IRow
set_option linter.unusedVariables false
theorem SrcC.grown {w w' : World} {p cb co sl sc : Nat} {sa : Option Addr} {row : Option Nat} {B : Nat} (h : SrcC w p cb co sl sc sa) (hp : p < B) (hcb : 0 < sl → cb < B) (hg : w.grownBy w' row) (hr : ∀ k, row = some k → B ≤ k) : SrcC w' p cb co sl sc sa :=
  h.kept (hg.block p h.lt (fun e => by have := hr p e.symm; omega)) (fun hs => hg.block cb (h.code hs) (fun e => by have := hr cb e.symm; have := hcb hs; omega))
theorem SrcC.below {w w' : World} {p cb co sl sc : Nat} {sa : Option Addr} (h : SrcC w p cb co sl sc sa) (hb : Below w.heap.size w w') : SrcC w' p cb co sl sc sa :=
  h.kept (hb.block p h.lt) (fun hs => hb.block cb (h.code hs))
theorem grown_below {w wr w' : World} {p : Nat} (h : w.grownBy wr (some p)) (k : Below wr.heap.size wr w') : w.grownBy w' (some p) :=
  grown_own h (row := none) ⟨k.os, k.tape, k.output, k.size, fun i hi _ => k.block i hi⟩ (fun g hg => by cases hg)
theorem own_drawn {w w' : World} {B p : Nat} {e : TypeId} {size : Nat} {v : Value} {n : Nat} {xs : List Value} (h : w.ownsRow B e size v n xs) (hg : w.grownBy w' (some p)) (hp : p < B) : w'.ownsRow B e size v n xs :=
  h.kept hg (Or.inr (fun e => by have := (h.lt p e).1; omega))
/-- What a draw leaves, told with the source's own bytes. -/
structure DrawnC (w w' : World) (p cb co sl sc : Nat) (sa : Option Addr) : Prop where
  src : SrcC w' p cb co sl sc sa
  gr : w.grownBy w' (some p)
theorem DrawnC.drawn {w w' : World} {p cb co sl sc : Nat} {sa : Option Addr} (h : DrawnC w w' p cb co sl sc sa) : Drawn w w' p := ⟨⟨cb, co, sl, sc, sa, h.src⟩, h.gr⟩
/-- A row of int64 in new memory, drawn. -/
def SomeRowC (N : Nat) (w : World) (p cb co sl sc : Nat) (sa : Option Addr) (e : Ending) (w' : World) : Prop :=
  ∃ a k c zs, e = .returned (.slice a k c) ∧ w'.ownsRow w.heap.size 2 1 (.slice a k c) k (List.map (Value.int .i64) zs) ∧ zs.length ≤ N ∧ DrawnC w w' p cb co sl sc sa
set_option maxRecDepth 100000 in
theorem one_c (p cb co sl sc : Nat) (sa : Option Addr) (most : Int) (w : World) (hS : SrcC w p cb co sl sc sa) (hm : most ≤ 9223372036854775807) :
    Calls Try.prog 104 #[.pointer (some ⟨p, 0, none⟩), .int .i64 most] w fun e w' => ∃ b : Bool, e = .returned (.bool b) ∧ DrawnC w w' p cb co sl sc sa ∧ w'.heap.size = w.heap.size := by
  go_enter Try.func104, Try.ntmps104
  go_wp2_with fail
  refine (n_c p cb co sl sc sa most w hS hm).mono ?_
  rintro e w1 ⟨r, rfl, r0, r1, hS1, hg, hz⟩
  have HP := Lib.hid (⟨⟨hS1, hg⟩, hz⟩ : DrawnC w w1 p cb co sl sc sa ∧ w1.heap.size = w.heap.size)
  clear r1 hS1 hg hz
  go_wp2_with fail
  go_ret
  exact ⟨_, rfl, HP.out.1, HP.out.2⟩
set_option maxRecDepth 100000 in
set_option maxHeartbeats 800000 in
theorem byteAny_c (p cb co sl sc : Nat) (sa : Option Addr) (w : World) (hS : SrcC w p cb co sl sc sa) :
    Calls Try.prog 61 #[.pointer (some ⟨p, 0, none⟩)] w fun e w' => ∃ r : Int, e = .returned (.int .i64 r) ∧ (Lit.int .i64 r).wf = true ∧ DrawnC w w' p cb co sl sc sa := by
  have hp := hS.lt
  go_enter Try.func61, Try.ntmps61
  go_wp2_with fail
  refine (one_c p cb co sl sc sa 12 w hS (by omega)).mono ?_
  rintro e w1 ⟨b, rfl, hD, hz⟩
  have HD := Lib.hid hD
  have hS1 := hD.src
  clear hD
  cases b
  · go_wp2_with fail
    refine (n_c p cb co sl sc sa 256 w1 hS1 (by omega)).mono ?_
    rintro e w2 ⟨r, rfl, r0, r1, hS2, hg2, hz2⟩
    have HD2 : Hid (DrawnC w w2 p cb co sl sc sa) := Lib.hid ⟨hS2, grownBy_trans HD.out.gr hg2⟩
    clear hS2 hg2 hz hz2 hS1
    have hr : r < 256 := by omega
    clear r1
    go_wp2_with fail
    go_ret
    exact ⟨_, rfl, WalkArith.wf_i64 (by omega), HD2.out⟩
  · have hp1 : p < w1.heap.size := by omega
    clear hz
    go_wp2_with fail
    refine (n_c p cb co sl sc sa 4 _ (hS1.below ((Below.refl _ _).alloc (Nat.le_refl _) _)) (by omega)).mono ?_
    rintro e w2 ⟨r, rfl, r0, r1, hS2, hg, hz2⟩
    have HG : Hid (w1.grownBy w2 (some p)) := grownBy_trans (World.grownBy_alloc w1 _ _) hg
    have hblk := hg.block w1.heap.size (by simp) (by simp; omega)
    have hcl : ∀ o, w2.cell? ⟨w1.heap.size, o, none⟩ = (w1.alloc _).cell? ⟨w1.heap.size, o, none⟩ := fun o => World.cell?_of_block hblk
    have HD2 : Hid (DrawnC w w2 p cb co sl sc sa) := Lib.hid ⟨hS2, grownBy_trans HD.out.gr HG.out⟩
    clear hblk hg hz2 hS2
    have hr : r = 0 ∨ r = 1 ∨ r = 2 ∨ r = 3 := by omega
    clear r0 r1
    rcases hr with rfl | rfl | rfl | rfl
    all_goals
      go_wp2_with fail
      go_ret
      exact ⟨_, rfl, by decide, HD2.out⟩
set_option maxRecDepth 100000 in
set_option maxHeartbeats 1600000 in
theorem polyOf_c (p cb co sl sc : Nat) (sa : Option Addr) (w : World) (hSC : SrcC w p cb co sl sc sa) :
    Calls Try.prog 98 #[.pointer (some ⟨p, 0, none⟩)] w (SomeRowC 6 w p cb co sl sc sa) := by
  have hp := hSC.lt
  have hcb := hSC.code
  have HSC := Lib.hid (hSC.below ((Below.refl _ w).alloc (Nat.le_refl _) (.cells #[] 2)))
  obtain ⟨i0, hi, hz0, hz1, hz2⟩ := info_parts infoI64
  clear hSC
  go_enter Try.func98, Try.ntmps98
  go_wp2_with fail
  refine (n_c p cb co sl sc sa 7 _ HSC.out (by omega)).mono ?_
  rintro e w1 ⟨r, rfl, r0, r1, hS1, hg1, hz1'⟩
  obtain ⟨m, rfl⟩ := Int.eq_ofNat_of_zero_le r0
  have HO1 := Lib.hid (own_drawn (own_empty (w := w) (e := 2) (Nat.le_refl _)) hg1 hp)
  have HG1 : Hid (w.grownBy w1 (some p)) := Lib.hid (grownBy_trans (World.grownBy_alloc w _ _) hg1)
  have HS1 := Lib.hid hS1
  have hm6 : m ≤ 6 := by omega
  clear hg1 hz1' hS1 HSC r1
  go_wp2_with fail
  go_loopw [3, 4] (fun v i wr => ∃ (ps : List B) (j : Nat), i = .int .i64 j ∧ ps.length + j ≤ 6 ∧ wr.ownsRow w.heap.size 2 1 v ps.length ((pv ps).map (Value.int .i64)) ∧ SrcC wr p cb co sl sc sa ∧ w.grownBy wr (some p)) (fun _ i _ => (intOf i).toNat)
  case atStart => exact ⟨[], m, rfl, by simpa using hm6, HO1.out, HS1.out, HG1.out⟩
  case round =>
    obtain ⟨ps, j, rfl, hl, hown, hS1, hgr⟩ := hrel
    have hsz := hgr.size
    by_cases hlt : 0 < j
    · go_wp2_with fail
      refine (n_c p cb co sl sc sa 4 wr hS1 (by omega)).mono ?_
      rintro e w2 ⟨r1, rfl, r10, r11, hS2, hg2, hz2'⟩
      have HO2 := Lib.hid (own_drawn hown hg2 hp)
      have HG2 : Hid (w.grownBy w2 (some p)) := Lib.hid (grownBy_trans hgr hg2)
      have HS2 := Lib.hid hS2
      clear hown hgr hS1 hg2 hz2' hS2
      go_wp2_with fail
      refine (n_c p cb co sl sc sa 64 w2 HS2.out (by omega)).mono ?_
      rintro e w3 ⟨r2, rfl, r20, r21, hS3, hg3, hz3'⟩
      have HO3 := HO2.out
      have hown3 := own_drawn HO3 hg3 hp
      have HG3 : Hid (w.grownBy w3 (some p)) := Lib.hid (grownBy_trans HG2.out hg3)
      have HS3 := Lib.hid hS3
      have hz3 : w.heap.size ≤ w3.heap.size := HG3.out.size
      have hpr : r1 * r2 ≤ 3 * 63 := Int.mul_le_mul (by omega) (by omega) r20 (by omega)
      have hpr0 : 0 ≤ r1 * r2 := Int.mul_nonneg r10 r20
      have hw : IntKind.i64.wrap (r1 * r2) = r1 * r2 := by rw [IntWalk.i64_in _ (by omega)]
      have hlo := Lib.hid hown3.lt
      obtain ⟨y, hy⟩ := byte_of hpr0 (by omega)
      clear HO2 HO3 hS3 hg3 hz3' HG2 HS2 r11 r21
      go_wp2_with (at_builtin; refine append_one_g rfl (.tmp 12) (.tmp 18) 23 rfl 2 i0 (.int .i64 0) 8 Try.underlying23 hi hz0 hz1 hz2 rfl w.heap.size _ _ _ rfl hown3 (.int .i64 (bi y)) _ rfl rfl hz3 (by unfold maxLen; omega) (by omega) ?_; intro v' w4 hown4 hg4; have hown5 : w4.ownsRow w.heap.size 2 1 v' (ps ++ [y]).length ((pv (ps ++ [y])).map (Value.int .i64)) := (by simpa [pv] using hown4); have HG4 := Lib.hid hg4; clear hown4 hown3 hg4)
      go_roundw
      case rel =>
        refine ⟨ps ++ [y], j - 1, by simp; omega, by simp; omega, hown5, HS3.out.grown hp hcb HG4.out (fun k hk => (hlo.out k hk).1), grown_own HG3.out HG4.out (fun g hg => (hlo.out g hg).1)⟩
      case measure => simp [intOf]; omega
    · obtain rfl : j = 0 := by omega
      obtain ⟨a1, c1, rfl⟩ := own_shape hown
      have HI := Lib.hid (IR.own hown)
      have HS := Lib.hid hS1
      have HG := Lib.hid hgr
      clear hown hS1 hgr
      go_wp2_with fail
      refine (l03Trim_any a1 ps.length c1 ps _ HI.out (by omega)).mono ?_
      rintro e w5 ⟨a', k', c', rfl, ho, hb⟩
      have HO := Lib.hid (own_mono ho HG.out.size)
      have HD : Hid (DrawnC w w5 p cb co sl sc sa) := Lib.hid ⟨HS.out.below hb, grown_below HG.out hb⟩
      have hlt2 : (pv (trim ps)).length ≤ 6 := by rw [pv_length]; have := length_trim ps; omega
      have HL := Lib.hid hlt2
      clear ho hb hlt2
      go_wp2_with fail
      go_ret
      exact ⟨_, _, _, _, rfl, HO.out, HL.out, HD.out⟩
set_option maxRecDepth 100000 in
set_option maxHeartbeats 1600000 in
theorem poly_c (p cb co sl sc : Nat) (sa : Option Addr) (w : World) (hSC : SrcC w p cb co sl sc sa) :
    Calls Try.prog 48 #[.pointer (some ⟨p, 0, none⟩)] w (SomeRowC 100 w p cb co sl sc sa) := by
  have hp := hSC.lt
  have hcb := hSC.code
  obtain ⟨i0, hi, hz0, hz1, hz2⟩ := info_parts infoI64
  go_enter Try.func48, Try.ntmps48
  go_wp2_with fail
  refine (polyOf_c p cb co sl sc sa w hSC).mono ?_
  rintro e w1 ⟨a1, k1, c1, zs, rfl, ho, hzl, hD⟩
  have hlen : zs.length = k1 := by have := ho.1; simpa using this
  have hS1 := hD.src
  have HD1 := Lib.hid hD
  have HO1 := Lib.hid ho
  clear ho hD hSC
  go_wp2_with fail
  refine (n_c p cb co sl sc sa 12 w1 hS1 (by omega)).mono ?_
  rintro e w2 ⟨r, rfl, r0, r1, hS2, hg2, hz2'⟩
  have HO2 := Lib.hid (own_drawn HO1.out hg2 hp)
  have HD2 : Hid (DrawnC w w2 p cb co sl sc sa) := Lib.hid ⟨hS2, grownBy_trans HD1.out.gr hg2⟩
  clear hg2 hz2' hS1 HO1 HD1
  by_cases hr0 : r = 0
  · subst hr0
    go_wp2_with fail
    refine (byteAny_c p cb co sl sc sa w2 hS2).mono ?_
    rintro e w3 ⟨x, rfl, hx, hD3⟩
    have hown3 := own_drawn HO2.out hD3.gr hp
    have HG3 : Hid (w.grownBy w3 (some p)) := Lib.hid (grownBy_trans HD2.out.gr hD3.gr)
    have HS3 := Lib.hid hD3.src
    have hz3 : w.heap.size ≤ w3.heap.size := HG3.out.size
    have hlo := Lib.hid hown3.lt
    clear HO2 HD2 hS2 hD3 hx
    go_wp2_with (at_builtin; refine append_one_g rfl (.tmp 10) (.tmp 13) 23 rfl 2 i0 (.int .i64 0) 8 Try.underlying23 hi hz0 hz1 hz2 rfl w.heap.size _ _ _ rfl hown3 (.int .i64 x) _ rfl rfl hz3 (by unfold maxLen; omega) (by omega) ?_; intro v' w4 hown4 hg4; have HG4 := Lib.hid hg4; obtain ⟨a', c', rfl⟩ := own_shape hown4; have HO4 := Lib.hid hown4; clear hown4 hown3 hg4)
    go_ret
    exact ⟨_, _, _, zs ++ [x], rfl, by simpa using HO4.out, by simp; omega, HS3.out.grown hp hcb HG4.out (fun k hk => (hlo.out k hk).1), grown_own HG3.out HG4.out (fun g hg => (hlo.out g hg).1)⟩
  · by_cases hr1 : r = 1
    · subst hr1
      go_wp2_with fail
      refine (n_c p cb co sl sc sa 32 w2 hS2 (by omega)).mono ?_
      rintro e w3 ⟨x, rfl, x0, x1, hS3, hg3, hz3'⟩
      obtain ⟨x, rfl⟩ := Int.eq_ofNat_of_zero_le x0
      have hx : x < 32 := by omega
      have HG3 : Hid (w.grownBy w3 (some p)) := Lib.hid (grownBy_trans HD2.out.gr hg3)
      have HS3 := Lib.hid hS3
      have hz3 : w.heap.size ≤ w3.heap.size := HG3.out.size
      obtain ⟨m, hm⟩ : ∃ m : Nat, m = 30 + x := ⟨_, rfl⟩
      have HM : Hid ((30 : Int) + (x : Int) = (m : Int)) := Lib.hid (by omega)
      have hm2 : m ≤ 61 := by omega
      clear HO2 HD2 hS2 hg3 hz3' hS3 x1 hm
      go_wp2_with (first
        | (at_make; refine wpList_make_full _ rfl (.tmp 19) (.tmp 19) 23 rfl w.heap.size 2 i0 (.int .i64 0) 1 Try.underlying23 hi hz0 hz1 .i64 .i64 _ _ m rfl rfl HM.out HM.out (by rw [hz2]; omega) (by unfold maxLen; omega) hz3 ?_; intro w4 hown4 hg4; rw [madeZero] at hown4; have HG4 := Lib.hid hg4; have hz4 : w.heap.size ≤ w4.heap.size := Nat.le_trans hz3 hg4.size; have hlo := Lib.hid hown4.lt; have HV : Hid (w3.heap.size ≤ w3.heap.size) := Lib.hid (Nat.le_refl _); clear hg4)
        | (at_builtin; refine append_one_g rfl (.tmp 20) (.tmp 21) 23 rfl 2 i0 (.int .i64 0) 8 Try.underlying23 hi hz0 hz1 hz2 rfl w.heap.size _ _ _ rfl hown4 (.int .i64 1) _ rfl rfl hz4 (by unfold maxLen; omega) (by omega) ?_; intro v' w5 hown5 hg5; have HG5 := Lib.hid hg5; obtain ⟨a', c', rfl⟩ := own_shape hown5; have HO5 := Lib.hid hown5; clear hown5 hown4 hg5))
      go_ret
      have hS4 : SrcC w4 p cb co sl sc sa := HS3.out.grown hp hcb HG4.out (fun k hk => by cases hk)
      have hG4 : w.grownBy w4 (some p) := grown_own HG3.out HG4.out (fun g hg => by cases hg)
      exact ⟨_, _, _, List.replicate m 0 ++ [1], rfl, by simpa using HO5.out, by simp; omega, hS4.grown hp hcb HG5.out (fun k hk => (hlo.out k hk).1), grown_own hG4 HG5.out (fun g hg => (hlo.out g hg).1)⟩
    · have hb0 : (r == 0) = false := by rw [beq_eq_false_iff_ne]; exact hr0
      have hb1 : (r == 1) = false := by rw [beq_eq_false_iff_ne]; exact hr1
      clear hS2 r1
      go_wp2_with fail
      go_ret
      exact ⟨_, _, _, zs, rfl, HO2.out, by omega, HD2.out⟩
end Go.Proofs.Ytnlmbcdaolccbaa
/- What the model's draws of places and points answer. -/
namespace Go.Proofs.Ytnlmbcdaolccbaa
open Go.RowKit Go.PlainAid G MGF IRow
set_option linter.unusedVariables false
set_option maxRecDepth 100000 in
set_option maxHeartbeats 1600000 in
theorem xsOf_c (p cb co sl sc : Nat) (sa : Option Addr) (M : Nat) (w : World) (hSC : SrcC w p cb co sl sc sa) (hM : M ≤ 100) :
    Calls Try.prog 58 #[.pointer (some ⟨p, 0, none⟩), .int .i64 M] w (SomeRowC 101 w p cb co sl sc sa) := by
  have hp := hSC.lt
  have hcb := hSC.code
  have HSC := Lib.hid (hSC.below ((Below.refl _ w).alloc (Nat.le_refl _) (.cells #[] 2)))
  obtain ⟨i0, hi, hz0, hz1, hz2⟩ := info_parts infoI64
  clear hSC
  go_enter Try.func58, Try.ntmps58
  go_wp2_with fail
  refine (n_c p cb co sl sc sa 5 _ HSC.out (by omega)).mono ?_
  rintro e w1 ⟨r, rfl, r0, r1, hS1, hg1, hz1'⟩
  have HO1 := Lib.hid (own_drawn (own_empty (w := w) (e := 2) (Nat.le_refl _)) hg1 hp)
  have HG1 : Hid (w.grownBy w1 (some p)) := Lib.hid (grownBy_trans (World.grownBy_alloc w _ _) hg1)
  have hr5 : r ≤ 4 := by omega
  clear hg1 hz1' HSC r1
  go_wp2_with fail
  refine (n_c p cb co sl sc sa ((M : Int) + 1) _ hS1 (by omega)).mono ?_
  rintro e w2 ⟨q, rfl, q0, q1, hS2, hg2, hz2'⟩
  obtain ⟨m, rfl⟩ := Int.eq_ofNat_of_zero_le q0
  have HO2 := Lib.hid (own_drawn HO1.out hg2 hp)
  have HG2 : Hid (w.grownBy w2 (some p)) := Lib.hid (grownBy_trans HG1.out hg2)
  have HS2 := Lib.hid hS2
  have hmM : m ≤ M := by omega
  clear hg2 hz2' hS1 hS2 HO1 HG1 q1
  go_wp2_with fail
  go_loopw [5, 6, 7] (fun v x i wr => ∃ (zs : List Int) (j : Nat) (y : Int), i = .int .i64 j ∧ x = .int .i64 y ∧ 0 ≤ y ∧ y ≤ 5 + 13 * (zs.length : Int) ∧ zs.length + j ≤ M ∧ wr.ownsRow w.heap.size 2 1 v zs.length (zs.map (Value.int .i64)) ∧ SrcC wr p cb co sl sc sa ∧ w.grownBy wr (some p)) (fun _ _ i _ => (intOf i).toNat)
  case atStart => exact ⟨[], m, _, rfl, rfl, by omega, by simp; omega, by simpa using hmM, HO2.out, HS2.out, HG2.out⟩
  case round =>
    obtain ⟨zs, j, y, rfl, rfl, hy0, hy1, hl, hown, hS1, hgr⟩ := hrel
    have hsz := hgr.size
    by_cases hlt : 0 < j
    · have HS := Lib.hid hS1
      have HG := Lib.hid hgr
      have hlo := Lib.hid hown.lt
      clear hS1 hgr
      go_wp2_with (at_builtin; refine append_one_g rfl (.tmp 20) (.tmp 22) 23 rfl 2 i0 (.int .i64 0) 8 Try.underlying23 hi hz0 hz1 hz2 rfl w.heap.size _ _ _ rfl hown (.int .i64 y) _ rfl rfl hsz (by unfold maxLen; omega) (by omega) ?_; intro v' w4 hown4 hg4; have hown5 : w4.ownsRow w.heap.size 2 1 v' (zs ++ [y]).length ((zs ++ [y]).map (Value.int .i64)) := (by simpa using hown4); have HG4 := Lib.hid hg4; clear hown4 hown hg4)
      have hS4 : SrcC w4 p cb co sl sc sa := HS.out.grown hp hcb HG4.out (fun k hk => (hlo.out k hk).1)
      have HGG : Hid (w.grownBy w4 (some p)) := Lib.hid (grown_own HG.out HG4.out (fun g hg => (hlo.out g hg).1))
      refine (n_c p cb co sl sc sa 12 _ hS4 (by omega)).mono ?_
      rintro e w5 ⟨q, rfl, q0, q1, hS5, hg5, hz5'⟩
      have HO5 := Lib.hid (own_drawn hown5 hg5 hp)
      have HG5 : Hid (w.grownBy w5 (some p)) := Lib.hid (grownBy_trans HGG.out hg5)
      have HS5 := Lib.hid hS5
      have hq : q ≤ 11 := by omega
      clear hS4 hown5 hg5 hz5' hS5 q1 HGG HG4 HG HS hlo
      have hw1 : IntKind.i64.wrap (y + 1) = y + 1 := by rw [IntWalk.i64_in _ (by omega)]
      have hw2 : IntKind.i64.wrap (y + 1 + q) = y + 1 + q := by rw [IntWalk.i64_in _ (by omega)]
      go_wp2_with fail
      go_roundw
      case rel =>
        exact ⟨zs ++ [y], j - 1, _, by simp; omega, rfl, by omega, by simp; omega, by simp; omega, HO5.out, HS5.out, HG5.out⟩
      case measure => simp [intOf]; omega
    · obtain rfl : j = 0 := by omega
      obtain ⟨a1, c1, rfl⟩ := own_shape hown
      have HO := Lib.hid hown
      have HG := Lib.hid hgr
      clear hown hgr
      go_wp2_with fail
      refine (one_c p cb co sl sc sa 12 _ hS1 (by omega)).mono ?_
      rintro e w5 ⟨b, rfl, hD, hz⟩
      have HO5 := Lib.hid (own_drawn HO.out hD.gr hp)
      have HD5 : Hid (DrawnC w w5 p cb co sl sc sa) := Lib.hid ⟨hD.src, grownBy_trans HG.out hD.gr⟩
      clear hD hz HO HG hS1
      cases b
      · go_wp2_with fail
        go_ret
        exact ⟨_, _, _, zs, rfl, HO5.out, by omega, HD5.out⟩
      · have hp1 : p < w5.heap.size := Nat.lt_of_lt_of_le hp HD5.out.gr.size
        have hS6 := HD5.out.src.below ((Below.refl w5.heap.size w5).alloc (Nat.le_refl _) (.cells #[.int .i64 0, .int .i64 1, .int .i64 255, .int .i64 256] 2))
        have HO6 := Lib.hid (HO5.out.alloc (.cells #[.int .i64 0, .int .i64 1, .int .i64 255, .int .i64 256] 2))
        go_wp2_with fail
        refine (n_c p cb co sl sc sa 4 _ hS6 (by omega)).mono ?_
        rintro e w6 ⟨q, rfl, q0, q1, hS7, hg, hz7⟩
        have hown7 := own_drawn HO6.out hg hp
        have HG : Hid (w.grownBy w6 (some p)) := Lib.hid (grownBy_trans HD5.out.gr (grownBy_trans (World.grownBy_alloc w5 _ _) hg))
        have HS7 := Lib.hid hS7
        have hblk := hg.block w5.heap.size (by simp) (by simp; omega)
        have hcl : ∀ o, w6.cell? ⟨w5.heap.size, o, none⟩ = (w5.alloc _).cell? ⟨w5.heap.size, o, none⟩ := fun o => World.cell?_of_block hblk
        have hz6 : w.heap.size ≤ w6.heap.size := HG.out.size
        have hlo := Lib.hid hown7.lt
        clear hblk hg hz7 hS6 HO6 HO5 HD5 hS7
        have hr : q = 0 ∨ q = 1 ∨ q = 2 ∨ q = 3 := by omega
        clear q0 q1
        rcases hr with rfl | rfl | rfl | rfl
        all_goals
          go_wp2_with (at_builtin; refine append_one_g rfl (.tmp 31) (.tmp 37) 23 rfl 2 i0 (.int .i64 0) 8 Try.underlying23 hi hz0 hz1 hz2 rfl w.heap.size _ _ _ rfl hown7 (.int .i64 _) _ rfl rfl hz6 (by unfold maxLen; omega) (by omega) ?_; intro v' w7 hown8 hg8; have HG8 := Lib.hid hg8; obtain ⟨a', c', rfl⟩ := own_shape hown8; have HO8 := Lib.hid hown8; clear hown8 hown7 hg8)
          go_ret
          exact ⟨_, _, _, zs ++ [_], rfl, by simpa using HO8.out, by simp; omega, HS7.out.grown hp hcb HG8.out (fun k hk => (hlo.out k hk).1), grown_own HG.out HG8.out (fun g hg => (hlo.out g hg).1)⟩
/-- A row of points in new memory, drawn. -/
def SomePtsC (N : Nat) (w : World) (p cb co sl sc : Nat) (sa : Option Addr) (e : Ending) (w' : World) : Prop :=
  ∃ a k c ps, e = .returned (.slice a k c) ∧ w'.ownsRow w.heap.size 43 2 (.slice a k c) k (flat ps) ∧ ps.length ≤ N ∧ DrawnC w w' p cb co sl sc sa
set_option maxRecDepth 100000 in
set_option maxHeartbeats 1600000 in
theorem pointsOf_c (p cb co sl sc : Nat) (sa : Option Addr) (w : World) (hSC : SrcC w p cb co sl sc sa) :
    Calls Try.prog 54 #[.pointer (some ⟨p, 0, none⟩)] w (SomePtsC 7 w p cb co sl sc sa) := by
  have hp := hSC.lt
  have hcb := hSC.code
  have HSC := Lib.hid (hSC.below ((Below.refl _ w).alloc (Nat.le_refl _) (.cells #[] 43)))
  obtain ⟨i0, hi, hz0, hz1, hz2⟩ := info_parts infoPoint
  have hemp : (w.alloc (.cells #[] 43)).ownsRow w.heap.size 43 2 (.slice (some ⟨w.heap.size, 0, none⟩) 0 0) 0 (flat []) := World.ownsRow_made w #[] 0 (Nat.le_refl _) (by decide) rfl
  clear hSC
  go_enter Try.func54, Try.ntmps54
  go_wp2_with fail
  refine (n_c p cb co sl sc sa 5 _ HSC.out (by omega)).mono ?_
  rintro e w1 ⟨r, rfl, r0, r1, hS1, hg1, hz1'⟩
  have HO1 := Lib.hid (own_drawn hemp hg1 hp)
  have HG1 : Hid (w.grownBy w1 (some p)) := Lib.hid (grownBy_trans (World.grownBy_alloc w _ _) hg1)
  have hr5 : r ≤ 4 := by omega
  clear hg1 hz1' HSC r1 hemp
  go_wp2_with fail
  refine (n_c p cb co sl sc sa 6 _ hS1 (by omega)).mono ?_
  rintro e w2 ⟨q, rfl, q0, q1, hS2, hg2, hz2'⟩
  obtain ⟨m, rfl⟩ := Int.eq_ofNat_of_zero_le q0
  have HO2 := Lib.hid (own_drawn HO1.out hg2 hp)
  have HG2 : Hid (w.grownBy w2 (some p)) := Lib.hid (grownBy_trans HG1.out hg2)
  have HS2 := Lib.hid hS2
  have hmM : m ≤ 5 := by omega
  have hm1 : (1 : Int) + (m : Int) = ((m + 1 : Nat) : Int) := by omega
  have HM1 := Lib.hid hm1
  clear hg2 hz2' hS1 hS2 HO1 HG1 q1 hm1
  go_wp2_with fail
  go_loopw [3, 4, 5] (fun v x i wr => ∃ (ps : List (Int × Int)) (j : Nat) (y : Int), i = .int .i64 j ∧ x = .int .i64 y ∧ 0 ≤ y ∧ y ≤ 5 + 31 * (ps.length : Int) ∧ ps.length + j = m + 1 ∧ wr.ownsRow w.heap.size 43 2 v ps.length (flat ps) ∧ SrcC wr p cb co sl sc sa ∧ w.grownBy wr (some p)) (fun _ _ i _ => (intOf i).toNat)
  case atStart => exact ⟨[], m + 1, _, by rw [HM1.out], rfl, by omega, by simp; omega, by simp, HO2.out, HS2.out, HG2.out⟩
  case round =>
    obtain ⟨ps, j, y, rfl, rfl, hy0, hy1, hl, hown, hS1, hgr⟩ := hrel
    have hsz := hgr.size
    by_cases hlt : 0 < j
    · have HO := Lib.hid hown
      have HG := Lib.hid hgr
      clear hown hgr hsz
      go_wp2_with fail
      refine (n_c p cb co sl sc sa 256 _ hS1 (by omega)).mono ?_
      rintro e w3 ⟨z, rfl, z0, z1, hS3, hg3, hz3'⟩
      have hown3 := own_drawn HO.out hg3 hp
      have HG3 : Hid (w.grownBy w3 (some p)) := Lib.hid (grownBy_trans HG.out hg3)
      have HS3 := Lib.hid hS3
      have hz3 : w.heap.size ≤ w3.heap.size := HG3.out.size
      have hlo := Lib.hid hown3.lt
      clear HO HG hS1 hS3 hg3 hz3' z1
      go_wp2_with (at_builtin; refine append_pair rfl (.tmp 16) (.tmp 21) 29 rfl 43 i0 Try.underlying29 hi hz0 hz1 hz2 w.heap.size _ _ _ rfl hown3 y z _ rfl hz3 (by omega) ?_; intro v' w4 hown4 hg4; have hown5 : w4.ownsRow w.heap.size 43 2 v' (ps ++ [(y, z)]).length (flat (ps ++ [(y, z)])) := (by simpa using hown4); have HG4 := Lib.hid hg4; clear hown4 hown3 hg4)
      have hS4 : SrcC w4 p cb co sl sc sa := HS3.out.grown hp hcb HG4.out (fun k hk => (hlo.out k hk).1)
      have HGG : Hid (w.grownBy w4 (some p)) := Lib.hid (grown_own HG3.out HG4.out (fun g hg => (hlo.out g hg).1))
      refine (n_c p cb co sl sc sa 30 _ hS4 (by omega)).mono ?_
      rintro e w5 ⟨q, rfl, q0, q1, hS5, hg5, hz5'⟩
      have HO5 := Lib.hid (own_drawn hown5 hg5 hp)
      have HG5 : Hid (w.grownBy w5 (some p)) := Lib.hid (grownBy_trans HGG.out hg5)
      have HS5 := Lib.hid hS5
      have hq : q ≤ 29 := by omega
      clear hS4 hown5 hg5 hz5' hS5 q1 HGG HG4 HG3 HS3 hlo
      have hw1 : IntKind.i64.wrap (y + 1) = y + 1 := by rw [IntWalk.i64_in _ (by omega)]
      have hw2 : IntKind.i64.wrap (y + 1 + q) = y + 1 + q := by rw [IntWalk.i64_in _ (by omega)]
      go_wp2_with fail
      go_roundw
      case rel =>
        exact ⟨ps ++ [(y, z)], j - 1, _, by simp; omega, rfl, by omega, by simp; omega, by simp; omega, HO5.out, HS5.out, HG5.out⟩
      case measure => simp [intOf]; omega
    · obtain rfl : j = 0 := by omega
      obtain ⟨g, c1, rfl, hgb, hgl⟩ := hown.form (by omega)
      have HO := Lib.hid hown
      have HG := Lib.hid hgr
      clear hown hgr
      go_wp2_with fail
      refine (n_c p cb co sl sc sa 12 _ hS1 (by omega)).mono ?_
      rintro e w5 ⟨q, rfl, q0, q1, hS5, hg5, hz5'⟩
      have hown5 := own_drawn HO.out hg5 hp
      have HG5 : Hid (w.grownBy w5 (some p)) := Lib.hid (grownBy_trans HG.out hg5)
      obtain ⟨_, _, _, hcells⟩ := PR.own hown5
      obtain ⟨g', o', hge, _, hcc⟩ := hcells (by omega)
      simp only [Option.some.injEq, Addr.mk.injEq, and_true] at hge
      obtain ⟨rfl, rfl⟩ := hge
      have hpl : 0 < ps.length := by omega
      have hoc := (hcc 0 hpl).1
      have hoc2 := (hcc 0 hpl).2
      have hlo := Lib.hid hown5.lt
      have hz5 : w.heap.size ≤ w5.heap.size := HG5.out.size
      clear hg5 hz5' hS1 HO HG hcc hcells
      by_cases hq0 : q = 0
      · subst hq0
        have HS5 := Lib.hid hS5
        simp only [Nat.zero_mul, Nat.zero_add] at hoc hoc2
        generalize (ps.getD 0 (0, 0)).1 = x at *
        generalize (ps.getD 0 (0, 0)).2 = y at *
        go_wp2_with (at_builtin; refine append_pair rfl (.tmp 32) (.tmp 36) 29 rfl 43 i0 Try.underlying29 hi hz0 hz1 hz2 w.heap.size _ _ _ rfl hown5 x y _ rfl hz5 (by omega) ?_; intro v' w4 hown4 hg4; have HG4 := Lib.hid hg4; obtain ⟨a', c', rfl⟩ := own_shape hown4; have HO6 := Lib.hid hown4; clear hown4 hown5 hg4)
        go_ret
        exact ⟨_, _, _, ps ++ [(x, y)], rfl, by simpa using HO6.out, by simp; omega, HS5.out.grown hp hcb HG4.out (fun k hk => (hlo.out k hk).1), grown_own HG5.out HG4.out (fun g hg => (hlo.out g hg).1)⟩
      · by_cases hq1 : q = 1
        · subst hq1
          have HO6 := Lib.hid hown5
          clear hown5 hoc hoc2
          go_wp2_with fail
          refine (byteAny_c p cb co sl sc sa _ hS5).mono ?_
          rintro e w6 ⟨x, rfl, hx, hD⟩
          have hown6 := own_drawn HO6.out hD.gr hp
          obtain ⟨_, _, _, hcells⟩ := PR.own hown6
          obtain ⟨g', o', hge, _, hcc⟩ := hcells (by omega)
          simp only [Option.some.injEq, Addr.mk.injEq, and_true] at hge
          obtain ⟨rfl, rfl⟩ := hge
          have hoc := (hcc 0 hpl).1
          have hoc2 := (hcc 0 hpl).2
          simp only [Nat.zero_mul, Nat.zero_add] at hoc hoc2
          have hof2 := hown6.frozenAt 1
          have hs := hown6.stored 1 (.int .i64 x)
          have hfs := flat_set_snd ps x 0 hpl
          rw [Nat.zero_mul, Nat.zero_add] at hfs
          rw [hfs] at hs
          have HS7 := Lib.hid hs.1
          have HG6 : Hid (w.grownBy w6 (some p)) := Lib.hid (grownBy_trans HG5.out hD.gr)
          have hlo6 := Lib.hid hown6.lt
          have HD7 : Hid (DrawnC w (w6.setCell ⟨g, 1, none⟩ (.int .i64 x)) p cb co sl sc sa) := Lib.hid ⟨hD.src.grown hp hcb hs.2 (fun k hk => by cases hk; exact hgb), grown_own HG6.out hs.2 (fun k hk => by cases hk; exact hgb)⟩
          clear hs hown6 hD hcc hcells HO6 hx hfs
          go_wp2_with fail
          go_ret
          exact ⟨_, _, _, _, rfl, by simpa using HS7.out, by simp; omega, HD7.out⟩
        · have hb0 : (q == 0) = false := by rw [beq_eq_false_iff_ne]; exact hq0
          have hb1 : (q == 1) = false := by rw [beq_eq_false_iff_ne]; exact hq1
          have HO7 := Lib.hid (own_cut0 hown5)
          have HO6 := Lib.hid hown5
          have HD7 : Hid (DrawnC w w5 p cb co sl sc sa) := Lib.hid ⟨hS5, HG5.out⟩
          clear hown5 hoc hoc2 hS5 q1
          by_cases hq2 : q = 2
          · subst hq2
            go_wp2_with fail
            go_ret
            exact ⟨_, _, _, [], rfl, HO7.out, by simp, HD7.out⟩
          · have hb2 : (q == 2) = false := by rw [beq_eq_false_iff_ne]; exact hq2
            go_wp2_with fail
            go_ret
            exact ⟨_, _, _, ps, rfl, HO6.out, by omega, HD7.out⟩
end Go.Proofs.Ytnlmbcdaolccbaa
/- What the model's draws of chapter 4 answer, and what the laws compare lists with. -/
namespace Go.Proofs.Ytnlmbcdaolccbaa
open Go.RowKit Go.PlainAid G MGF IRow
set_option linter.unusedVariables false
def TwoRows (w : World) (e : Ending) (w' : World) : Prop :=
  ∃ a k c zs b m d ys, e = .returned (.tuple #[.slice a k c, .slice b m d]) ∧ w'.ownsRow w.heap.size 2 1 (.slice a k c) k (List.map (Value.int .i64) zs) ∧ w'.ownsRow w.heap.size 2 1 (.slice b m d) m (List.map (Value.int .i64) ys) ∧ zs.length ≤ 101 ∧ ys.length ≤ 101 ∧ Below w.heap.size w w'
def OneRow (w : World) (e : Ending) (w' : World) : Prop :=
  ∃ a k c zs, e = .returned (.slice a k c) ∧ w'.ownsRow w.heap.size 2 1 (.slice a k c) k (List.map (Value.int .i64) zs) ∧ zs.length ≤ 101 ∧ Below w.heap.size w w'
def RowInt (w : World) (e : Ending) (w' : World) : Prop :=
  ∃ a k c zs x, e = .returned (.tuple #[.slice a k c, .int .i64 x]) ∧ w'.ownsRow w.heap.size 2 1 (.slice a k c) k (List.map (Value.int .i64) zs) ∧ zs.length ≤ 101 ∧ (Lit.int .i64 x).wf = true ∧ Below w.heap.size w w'
def PtsRow (w : World) (e : Ending) (w' : World) : Prop :=
  ∃ a k c ps, e = .returned (.slice a k c) ∧ w'.ownsRow w.heap.size 43 2 (.slice a k c) k (flat ps) ∧ ps.length ≤ 7 ∧ Below w.heap.size w w'
set_option maxRecDepth 100000 in
theorem drawPolyAdd_any (ao : Option Addr) (len cap : Nat) (w : World) (hC : CodeAt w ao len) (hl : len ≤ 1048576) :
    Calls Try.prog 8 #[.slice ao len cap] w (TwoRows w) := by
  go_enter Try.func8, Try.ntmps8
  go_wp2_with fail
  refine (source_any ao len cap w hC hl).mono ?_
  rintro e w1 ⟨p, rfl, hp, ⟨cb, co, sl, sc, sa, hS⟩, hb1⟩
  have HB1 := Lib.hid hb1
  clear hb1
  go_wp2_with fail
  refine (poly_c p cb co sl sc sa w1 hS).mono ?_
  rintro e w2 ⟨a, k, c, zs, rfl, ho, hzl, hD⟩
  have HO2 := Lib.hid (own_mono ho HB1.out.size)
  have HO2' := Lib.hid ho
  have HB2 := Lib.hid (below_drawn HB1.out (Nat.le_refl _) hp hD.drawn)
  have hS2 := hD.src
  have hpl := hS.lt
  clear hS ho hD
  go_wp2_with fail
  refine (poly_c p cb co sl sc sa w2 hS2).mono ?_
  rintro e w3 ⟨b, m, d, ys, rfl, ho, hyl, hD⟩
  have HO3 := Lib.hid (own_mono ho HB2.out.size)
  have HO4 := Lib.hid (own_mono (own_drawn HO2'.out hD.gr hpl) HB1.out.size)
  have HB3 := Lib.hid (below_drawn HB2.out (Nat.le_refl _) hp hD.drawn)
  clear hS2 ho hD HO2 HO2'
  go_wp2_with fail
  go_ret2
  exact ⟨_, _, _, zs, _, _, _, ys, rfl, HO4.out, HO3.out, by omega, by omega, HB3.out⟩
set_option maxRecDepth 100000 in
theorem drawEval_any (ao : Option Addr) (len cap : Nat) (w : World) (hC : CodeAt w ao len) (hl : len ≤ 1048576) :
    Calls Try.prog 15 #[.slice ao len cap] w (RowInt w) := by
  go_enter Try.func15, Try.ntmps15
  go_wp2_with fail
  refine (source_any ao len cap w hC hl).mono ?_
  rintro e w1 ⟨p, rfl, hp, ⟨cb, co, sl, sc, sa, hS⟩, hb1⟩
  have HB1 := Lib.hid hb1
  clear hb1
  go_wp2_with fail
  refine (poly_c p cb co sl sc sa w1 hS).mono ?_
  rintro e w2 ⟨a, k, c, zs, rfl, ho, hzl, hD⟩
  have HO2' := Lib.hid ho
  have HB2 := Lib.hid (below_drawn HB1.out (Nat.le_refl _) hp hD.drawn)
  have hS2 := hD.src
  have hpl := hS.lt
  clear hS ho hD
  go_wp2_with fail
  refine (byteAny_c p cb co sl sc sa w2 hS2).mono ?_
  rintro e w3 ⟨x, rfl, hx, hD⟩
  have HX := Lib.hid hx
  have HO4 := Lib.hid (own_mono (own_drawn HO2'.out hD.gr hpl) HB1.out.size)
  have HB3 := Lib.hid (below_drawn HB2.out (Nat.le_refl _) hp hD.drawn)
  clear hS2 hD HO2' hx
  go_wp2_with fail
  go_ret2
  exact ⟨_, _, _, zs, _, rfl, HO4.out, by omega, HX.out, HB3.out⟩
set_option maxRecDepth 100000 in
theorem drawVanish_any (ao : Option Addr) (len cap : Nat) (w : World) (hC : CodeAt w ao len) (hl : len ≤ 1048576) :
    Calls Try.prog 13 #[.slice ao len cap] w (OneRow w) := by
  go_enter Try.func13, Try.ntmps13
  go_wp2_with fail
  refine (source_any ao len cap w hC hl).mono ?_
  rintro e w1 ⟨p, rfl, hp, ⟨cb, co, sl, sc, sa, hS⟩, hb1⟩
  have HB1 := Lib.hid hb1
  clear hb1
  go_wp2_with fail
  refine (xsOf_c p cb co sl sc sa 6 w1 hS (by omega)).mono ?_
  rintro e w2 ⟨a, k, c, zs, rfl, ho, hzl, hD⟩
  have HO2 := Lib.hid (own_mono ho HB1.out.size)
  have HB2 := Lib.hid (below_drawn HB1.out (Nat.le_refl _) hp hD.drawn)
  clear hS ho hD
  go_wp2_with fail
  go_ret
  exact ⟨_, _, _, zs, rfl, HO2.out, by omega, HB2.out⟩
set_option maxRecDepth 100000 in
theorem drawThrough_any (ao : Option Addr) (len cap : Nat) (w : World) (hC : CodeAt w ao len) (hl : len ≤ 1048576) :
    Calls Try.prog 11 #[.slice ao len cap] w (PtsRow w) := by
  go_enter Try.func11, Try.ntmps11
  go_wp2_with fail
  refine (source_any ao len cap w hC hl).mono ?_
  rintro e w1 ⟨p, rfl, hp, ⟨cb, co, sl, sc, sa, hS⟩, hb1⟩
  have HB1 := Lib.hid hb1
  clear hb1
  go_wp2_with fail
  refine (pointsOf_c p cb co sl sc sa w1 hS).mono ?_
  rintro e w2 ⟨a, k, c, ps, rfl, ho, hzl, hD⟩
  have HO2 := Lib.hid (own_mono ho HB1.out.size)
  have HB2 := Lib.hid (below_drawn HB1.out (Nat.le_refl _) hp hD.drawn)
  clear hS ho hD
  go_wp2_with fail
  go_ret
  exact ⟨_, _, _, ps, rfl, HO2.out, by omega, HB2.out⟩
set_option maxRecDepth 100000 in
theorem drawAtZero_any (ao : Option Addr) (len cap : Nat) (w : World) (hC : CodeAt w ao len) (hl : len ≤ 1048576) :
    Calls Try.prog 16 #[.slice ao len cap] w (PtsRow w) := by
  go_enter Try.func16, Try.ntmps16
  go_wp2_with fail
  refine (source_any ao len cap w hC hl).mono ?_
  rintro e w1 ⟨p, rfl, hp, ⟨cb, co, sl, sc, sa, hS⟩, hb1⟩
  have HB1 := Lib.hid hb1
  clear hb1
  go_wp2_with fail
  refine (pointsOf_c p cb co sl sc sa w1 hS).mono ?_
  rintro e w2 ⟨a, k, c, ps, rfl, ho, hzl, hD⟩
  have HO2 := Lib.hid (own_mono ho HB1.out.size)
  have HB2 := Lib.hid (below_drawn HB1.out (Nat.le_refl _) hp hD.drawn)
  clear hS ho hD
  go_wp2_with fail
  go_ret
  exact ⟨_, _, _, ps, rfl, HO2.out, by omega, HB2.out⟩
end Go.Proofs.Ytnlmbcdaolccbaa
