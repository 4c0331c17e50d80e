/- What the model's draws of chapter 3 answer. -/
import Derived.Test.YtdnbkjiijpeiiaaGreatDrawA
import Derived.Test.YtdnbkjiijpeiiaaGreatSPointsA
import Derived.Test.YtdnbkjiijpeiiaaGreatHPointA
import Derived.Test.YtdnbkjiijpeiiaaGreatChap2
namespace Go.Proofs.YtdnbkjiijpeiiaaGreat
open Go.RowKit G
set_option linter.unusedVariables false
def SomeTwo (w : World) (e : Ending) (w' : World) : Prop := ∃ a b : Int, e = .returned (.tuple #[.int .i64 a, .int .i64 b]) ∧ (Lit.int .i64 a).wf = true ∧ (Lit.int .i64 b).wf = true ∧ Below w.heap.size w w'
end Go.Proofs.YtdnbkjiijpeiiaaGreat
/- What the model's draws of polynomials and places answer. -/
namespace Go.Proofs.YtdnbkjiijpeiiaaGreat
open Go.RowKit Go.PlainAid G MGF IRow
set_option linter.unusedVariables false
theorem SrcC.grown {w w' : World} {p cb co sl sc : Nat} {sa : Option Addr} {row : Option Nat} {B : Nat} (h : SrcC w p cb co sl sc sa) (hp : p < B) (hcb : 0 < sl → cb < B) (hg : w.grownBy w' row) (hr : ∀ k, row = some k → B ≤ k) : SrcC w' p cb co sl sc sa :=
  h.kept (hg.block p h.lt (fun e => by have := hr p e.symm; omega)) (fun hs => hg.block cb (h.code hs) (fun e => by have := hr cb e.symm; have := hcb hs; omega))
theorem SrcC.below {w w' : World} {p cb co sl sc : Nat} {sa : Option Addr} (h : SrcC w p cb co sl sc sa) (hb : Below w.heap.size w w') : SrcC w' p cb co sl sc sa :=
  h.kept (hb.block p h.lt) (fun hs => hb.block cb (h.code hs))
theorem grown_below {w wr w' : World} {p : Nat} (h : w.grownBy wr (some p)) (k : Below wr.heap.size wr w') : w.grownBy w' (some p) :=
  grown_own h (row := none) ⟨k.os, k.tape, k.output, k.size, fun i hi _ => k.block i hi⟩ (fun g hg => by cases hg)
theorem own_drawn {w w' : World} {B p : Nat} {e : TypeId} {size : Nat} {v : Value} {n : Nat} {xs : List Value} (h : w.ownsRow B e size v n xs) (hg : w.grownBy w' (some p)) (hp : p < B) : w'.ownsRow B e size v n xs :=
  h.kept hg (Or.inr (fun e => by have := (h.lt p e).1; omega))
/-- What a draw leaves, told with the source's own bytes. -/
structure DrawnC (w w' : World) (p cb co sl sc : Nat) (sa : Option Addr) : Prop where
  src : SrcC w' p cb co sl sc sa
  gr : w.grownBy w' (some p)
theorem DrawnC.drawn {w w' : World} {p cb co sl sc : Nat} {sa : Option Addr} (h : DrawnC w w' p cb co sl sc sa) : Drawn w w' p := ⟨⟨cb, co, sl, sc, sa, h.src⟩, h.gr⟩
/-- A row of int64 in new memory, drawn. -/
def SomeRowC (N : Nat) (w : World) (p cb co sl sc : Nat) (sa : Option Addr) (e : Ending) (w' : World) : Prop :=
  ∃ a k c zs, e = .returned (.slice a k c) ∧ w'.ownsRow w.heap.size 2 1 (.slice a k c) k (List.map (Value.int .i64) zs) ∧ zs.length ≤ N ∧ DrawnC w w' p cb co sl sc sa
set_option maxRecDepth 100000 in
theorem one_c (p cb co sl sc : Nat) (sa : Option Addr) (most : Int) (w : World) (hS : SrcC w p cb co sl sc sa) (hm : most ≤ 9223372036854775807) :
    Calls Tryz.prog 25 #[.pointer (some ⟨p, 0, none⟩), .int .i64 most] w fun e w' => ∃ b : Bool, e = .returned (.bool b) ∧ DrawnC w w' p cb co sl sc sa ∧ w'.heap.size = w.heap.size := by
  go_enter Tryz.func25, Tryz.ntmps25
  go_wp2_with fail
  refine (n_c p cb co sl sc sa most w hS hm).mono ?_
  rintro e w1 ⟨r, rfl, r0, r1, hS1, hg, hz⟩
  have HP := Lib.hid (⟨⟨hS1, hg⟩, hz⟩ : DrawnC w w1 p cb co sl sc sa ∧ w1.heap.size = w.heap.size)
  clear r1 hS1 hg hz
  go_wp2_with fail
  go_ret
  exact ⟨_, rfl, HP.out.1, HP.out.2⟩
end Go.Proofs.YtdnbkjiijpeiiaaGreat
/- What the model's draws of places and points answer. -/
namespace Go.Proofs.YtdnbkjiijpeiiaaGreat
open Go.RowKit Go.PlainAid G MGF IRow
set_option linter.unusedVariables false
set_option maxRecDepth 100000 in
set_option maxHeartbeats 1600000 in
theorem xsOf_c (p cb co sl sc : Nat) (sa : Option Addr) (M : Nat) (w : World) (hSC : SrcC w p cb co sl sc sa) (hM : M ≤ 100) :
    Calls Tryz.prog 26 #[.pointer (some ⟨p, 0, none⟩), .int .i64 M] w (SomeRowC 101 w p cb co sl sc sa) := by
  have hp := hSC.lt
  have hcb := hSC.code
  have HSC := Lib.hid (hSC.below ((Below.refl _ w).alloc (Nat.le_refl _) (.cells #[] 2)))
  obtain ⟨i0, hi, hz0, hz1, hz2⟩ := info_parts infoI64
  clear hSC
  go_enter Tryz.func26, Tryz.ntmps26
  go_wp2_with fail
  refine (n_c p cb co sl sc sa 5 _ HSC.out (by omega)).mono ?_
  rintro e w1 ⟨r, rfl, r0, r1, hS1, hg1, hz1'⟩
  have HO1 := Lib.hid (own_drawn (own_empty (w := w) (e := 2) (Nat.le_refl _)) hg1 hp)
  have HG1 : Hid (w.grownBy w1 (some p)) := Lib.hid (grownBy_trans (World.grownBy_alloc w _ _) hg1)
  have hr5 : r ≤ 4 := by omega
  clear hg1 hz1' HSC r1
  go_wp2_with fail
  refine (n_c p cb co sl sc sa ((M : Int) + 1) _ hS1 (by omega)).mono ?_
  rintro e w2 ⟨q, rfl, q0, q1, hS2, hg2, hz2'⟩
  obtain ⟨m, rfl⟩ := Int.eq_ofNat_of_zero_le q0
  have HO2 := Lib.hid (own_drawn HO1.out hg2 hp)
  have HG2 : Hid (w.grownBy w2 (some p)) := Lib.hid (grownBy_trans HG1.out hg2)
  have HS2 := Lib.hid hS2
  have hmM : m ≤ M := by omega
  clear hg2 hz2' hS1 hS2 HO1 HG1 q1
  go_wp2_with fail
  go_loopw [5, 6, 7] (fun v x i wr => ∃ (zs : List Int) (j : Nat) (y : Int), i = .int .i64 j ∧ x = .int .i64 y ∧ 0 ≤ y ∧ y ≤ 5 + 13 * (zs.length : Int) ∧ zs.length + j ≤ M ∧ wr.ownsRow w.heap.size 2 1 v zs.length (zs.map (Value.int .i64)) ∧ SrcC wr p cb co sl sc sa ∧ w.grownBy wr (some p)) (fun _ _ i _ => (intOf i).toNat)
  case atStart => exact ⟨[], m, _, rfl, rfl, by omega, by simp; omega, by simpa using hmM, HO2.out, HS2.out, HG2.out⟩
  case round =>
    obtain ⟨zs, j, y, rfl, rfl, hy0, hy1, hl, hown, hS1, hgr⟩ := hrel
    have hsz := hgr.size
    by_cases hlt : 0 < j
    · have HS := Lib.hid hS1
      have HG := Lib.hid hgr
      have hlo := Lib.hid hown.lt
      clear hS1 hgr
      go_wp2_with (at_builtin; refine append_one_g rfl (.tmp 20) (.tmp 22) 30 rfl 2 i0 (.int .i64 0) 8 Tryz.underlying30 hi hz0 hz1 hz2 rfl w.heap.size _ _ _ rfl hown (.int .i64 y) _ rfl rfl hsz (by unfold maxLen; omega) (by omega) ?_; intro v' w4 hown4 hg4; have hown5 : w4.ownsRow w.heap.size 2 1 v' (zs ++ [y]).length ((zs ++ [y]).map (Value.int .i64)) := (by simpa using hown4); have HG4 := Lib.hid hg4; clear hown4 hown hg4)
      have hS4 : SrcC w4 p cb co sl sc sa := HS.out.grown hp hcb HG4.out (fun k hk => (hlo.out k hk).1)
      have HGG : Hid (w.grownBy w4 (some p)) := Lib.hid (grown_own HG.out HG4.out (fun g hg => (hlo.out g hg).1))
      refine (n_c p cb co sl sc sa 12 _ hS4 (by omega)).mono ?_
      rintro e w5 ⟨q, rfl, q0, q1, hS5, hg5, hz5'⟩
      have HO5 := Lib.hid (own_drawn hown5 hg5 hp)
      have HG5 : Hid (w.grownBy w5 (some p)) := Lib.hid (grownBy_trans HGG.out hg5)
      have HS5 := Lib.hid hS5
      have hq : q ≤ 11 := by omega
      clear hS4 hown5 hg5 hz5' hS5 q1 HGG HG4 HG HS hlo
      have hw1 : IntKind.i64.wrap (y + 1) = y + 1 := by rw [IntWalk.i64_in _ (by omega)]
      have hw2 : IntKind.i64.wrap (y + 1 + q) = y + 1 + q := by rw [IntWalk.i64_in _ (by omega)]
      go_wp2_with fail
      go_roundw
      case rel =>
        exact ⟨zs ++ [y], j - 1, _, by simp; omega, rfl, by omega, by simp; omega, by simp; omega, HO5.out, HS5.out, HG5.out⟩
      case measure => simp [intOf]; omega
    · obtain rfl : j = 0 := by omega
      obtain ⟨a1, c1, rfl⟩ := own_shape hown
      have HO := Lib.hid hown
      have HG := Lib.hid hgr
      clear hown hgr
      go_wp2_with fail
      refine (one_c p cb co sl sc sa 12 _ hS1 (by omega)).mono ?_
      rintro e w5 ⟨b, rfl, hD, hz⟩
      have HO5 := Lib.hid (own_drawn HO.out hD.gr hp)
      have HD5 : Hid (DrawnC w w5 p cb co sl sc sa) := Lib.hid ⟨hD.src, grownBy_trans HG.out hD.gr⟩
      clear hD hz HO HG hS1
      cases b
      · go_wp2_with fail
        go_ret
        exact ⟨_, _, _, zs, rfl, HO5.out, by omega, HD5.out⟩
      · have hp1 : p < w5.heap.size := Nat.lt_of_lt_of_le hp HD5.out.gr.size
        have hS6 := HD5.out.src.below ((Below.refl w5.heap.size w5).alloc (Nat.le_refl _) (.cells #[.int .i64 0, .int .i64 1, .int .i64 255, .int .i64 256] 2))
        have HO6 := Lib.hid (HO5.out.alloc (.cells #[.int .i64 0, .int .i64 1, .int .i64 255, .int .i64 256] 2))
        go_wp2_with fail
        refine (n_c p cb co sl sc sa 4 _ hS6 (by omega)).mono ?_
        rintro e w6 ⟨q, rfl, q0, q1, hS7, hg, hz7⟩
        have hown7 := own_drawn HO6.out hg hp
        have HG : Hid (w.grownBy w6 (some p)) := Lib.hid (grownBy_trans HD5.out.gr (grownBy_trans (World.grownBy_alloc w5 _ _) hg))
        have HS7 := Lib.hid hS7
        have hblk := hg.block w5.heap.size (by simp) (by simp; omega)
        have hcl : ∀ o, w6.cell? ⟨w5.heap.size, o, none⟩ = (w5.alloc _).cell? ⟨w5.heap.size, o, none⟩ := fun o => World.cell?_of_block hblk
        have hz6 : w.heap.size ≤ w6.heap.size := HG.out.size
        have hlo := Lib.hid hown7.lt
        clear hblk hg hz7 hS6 HO6 HO5 HD5 hS7
        have hr : q = 0 ∨ q = 1 ∨ q = 2 ∨ q = 3 := by omega
        clear q0 q1
        rcases hr with rfl | rfl | rfl | rfl
        all_goals
          go_wp2_with (at_builtin; refine append_one_g rfl (.tmp 31) (.tmp 37) 30 rfl 2 i0 (.int .i64 0) 8 Tryz.underlying30 hi hz0 hz1 hz2 rfl w.heap.size _ _ _ rfl hown7 (.int .i64 _) _ rfl rfl hz6 (by unfold maxLen; omega) (by omega) ?_; intro v' w7 hown8 hg8; have HG8 := Lib.hid hg8; obtain ⟨a', c', rfl⟩ := own_shape hown8; have HO8 := Lib.hid hown8; clear hown8 hown7 hg8)
          go_ret
          exact ⟨_, _, _, zs ++ [_], rfl, by simpa using HO8.out, by simp; omega, HS7.out.grown hp hcb HG8.out (fun k hk => (hlo.out k hk).1), grown_own HG.out HG8.out (fun g hg => (hlo.out g hg).1)⟩
/-- A row of points in new memory, drawn. -/
def SomePtsC (N : Nat) (w : World) (p cb co sl sc : Nat) (sa : Option Addr) (e : Ending) (w' : World) : Prop :=
  ∃ a k c ps, e = .returned (.slice a k c) ∧ w'.ownsRow w.heap.size 114 2 (.slice a k c) k (flat ps) ∧ ps.length ≤ N ∧ DrawnC w w' p cb co sl sc sa
end Go.Proofs.YtdnbkjiijpeiiaaGreat
/- What the model's draws of chapter 4 answer, and what the laws compare lists with. -/
namespace Go.Proofs.YtdnbkjiijpeiiaaGreat
open Go.RowKit Go.PlainAid G MGF IRow
set_option linter.unusedVariables false
def TwoRows (w : World) (e : Ending) (w' : World) : Prop :=
  ∃ a k c zs b m d ys, e = .returned (.tuple #[.slice a k c, .slice b m d]) ∧ w'.ownsRow w.heap.size 2 1 (.slice a k c) k (List.map (Value.int .i64) zs) ∧ w'.ownsRow w.heap.size 2 1 (.slice b m d) m (List.map (Value.int .i64) ys) ∧ zs.length ≤ 101 ∧ ys.length ≤ 101 ∧ Below w.heap.size w w'
def OneRow (w : World) (e : Ending) (w' : World) : Prop :=
  ∃ a k c zs, e = .returned (.slice a k c) ∧ w'.ownsRow w.heap.size 2 1 (.slice a k c) k (List.map (Value.int .i64) zs) ∧ zs.length ≤ 101 ∧ Below w.heap.size w w'
def RowInt (w : World) (e : Ending) (w' : World) : Prop :=
  ∃ a k c zs x, e = .returned (.tuple #[.slice a k c, .int .i64 x]) ∧ w'.ownsRow w.heap.size 2 1 (.slice a k c) k (List.map (Value.int .i64) zs) ∧ zs.length ≤ 101 ∧ (Lit.int .i64 x).wf = true ∧ Below w.heap.size w w'
def PtsRow (w : World) (e : Ending) (w' : World) : Prop :=
  ∃ a k c ps, e = .returned (.slice a k c) ∧ w'.ownsRow w.heap.size 114 2 (.slice a k c) k (flat ps) ∧ ps.length ≤ 7 ∧ Below w.heap.size w w'
end Go.Proofs.YtdnbkjiijpeiiaaGreat
