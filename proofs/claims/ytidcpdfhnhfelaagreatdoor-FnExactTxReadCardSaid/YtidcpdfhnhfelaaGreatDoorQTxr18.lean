/- Texts put together: what the law uses of them. -/
import Derived.WalkLawsBesides
import Derived.Deep.RegionHeld3
import Derived.Recover
import Derived.RegionTactic
import Derived.BigRegion
import Derived.Lib.Hide
import Derived.PlainAid
import Derived.Laws.BytesArg
import Derived.Lib.OthersKept
import Derived.WalkSmall
import Derived.StillTailTactics
import Derived.IntWalk
import Derived.OwnWalk
import Derived.KernelRfl
import Derived.Lib.ConvBytes
import Derived.Shelf.Abstract
import Derived.Deep.Cut
import Derived.Test.YtidcpdfhnhfelaaGreatDoorQTxr00
import Derived.Test.YtidcpdfhnhfelaaGreatDoorQTxr01
import Derived.Test.YtidcpdfhnhfelaaGreatDoorQTxr02
import Derived.Test.YtidcpdfhnhfelaaGreatDoorQTxr03
import Derived.Test.YtidcpdfhnhfelaaGreatDoorQTxr04
import Derived.Test.YtidcpdfhnhfelaaGreatDoorQTxr05
import Derived.Test.YtidcpdfhnhfelaaGreatDoorQTxr06
import Derived.Test.YtidcpdfhnhfelaaGreatDoorQTxr07
import Derived.Test.YtidcpdfhnhfelaaGreatDoorQTxr17
/- What is read of an envelope's bytes: the mathematics, and the program's readers. -/
namespace Go.Proofs.YtidcpdfhnhfelaaGreatDoor
open Go.RowKit Go.PlainAid G MGet MGF IRow MNum MJoin
set_option linter.unusedVariables false
/-- A number is read from a place on; where it can not be, the place stays, and that is marked. -/
def sN (u : ByteArray) (q : Nat × Bool) : Int × (Nat × Bool) := if (rdS u q.1 10 0 0).2.2 = 0 then ((rdS u q.1 10 0 0).1, ((rdS u q.1 10 0 0).2.1.toNat, q.2)) else (0, (q.1, true))
def sT (u : ByteArray) (q : Nat × Bool) : ByteArray × (Nat × Bool) := if (txtS u q.1).2.2 = 0 then ((txtS u q.1).1, ((txtS u q.1).2.1.toNat, q.2)) else (⟨#[]⟩, (q.1, true))
theorem sN_bad {u : ByteArray} {q : Nat × Bool} (h : q.2 = true) : (sN u q).2.2 = true := by unfold sN; split <;> simp [h]
theorem sT_bad {u : ByteArray} {q : Nat × Bool} (h : q.2 = true) : (sT u q).2.2 = true := by unfold sT; split <;> simp [h]
theorem sN_no {u : ByteArray} {q : Nat × Bool} (h : (rdS u q.1 10 0 0).2.2 ≠ 0) : sN u q = (0, (q.1, true)) := by unfold sN; rw [if_neg h]
theorem sT_no {u : ByteArray} {q : Nat × Bool} (h : (txtS u q.1).2.2 ≠ 0) : sT u q = (⟨#[]⟩, (q.1, true)) := by unfold sT; rw [if_neg h]
/-- A number that is read: what comes of it, and a place within the bytes. -/
theorem sN_yes {u : ByteArray} {q : Nat × Bool} (h : (rdS u q.1 10 0 0).2.2 = 0) : rdS u q.1 10 0 0 = ((sN u q).1, (((sN u q).2.1 : Nat) : Int), 0) ∧ (sN u q).2.2 = q.2 ∧ (sN u q).2.1 ≤ u.size := by
  have hp := rd_place u q.1 10 0 0 h
  unfold sN
  rw [if_pos h]
  dsimp only
  refine ⟨?_, rfl, by omega⟩
  rw [Int.toNat_of_nonneg (by omega)]
  exact Prod.ext rfl (Prod.ext rfl h)
theorem txt_place {u : ByteArray} {a : Nat} (h : (txtS u a).2.2 = 0) : 0 ≤ (txtS u a).2.1 ∧ (txtS u a).2.1 ≤ (u.size : Int) := by
  unfold txtS at h ⊢
  split at h
  · rename_i h1; exact absurd h h1
  · rename_i h1
    rw [if_neg h1]
    split at h
    · exact absurd h (by decide)
    · rename_i h2
      rw [if_neg h2]
      split at h
      · exact absurd h (by decide)
      · rename_i h3
        rw [if_neg h3]
        have hp := rd_place u a 10 0 0 (by simpa using h1)
        dsimp only
        omega
theorem sT_yes {u : ByteArray} {q : Nat × Bool} (h : (txtS u q.1).2.2 = 0) : txtS u q.1 = ((sT u q).1, (((sT u q).2.1 : Nat) : Int), 0) ∧ (sT u q).2.2 = q.2 ∧ (sT u q).2.1 ≤ u.size := by
  have hp := txt_place h
  unfold sT
  rw [if_pos h]
  dsimp only
  refine ⟨?_, rfl, by omega⟩
  rw [Int.toNat_of_nonneg (by omega)]
  exact Prod.ext rfl (Prod.ext rfl h)
/-- A reader in a block of its own: a text, and a place in it. -/
structure RB (w : World) (b : Nat) (u : ByteArray) (p : Int) : Prop where
  lt : b < w.heap.size
  c0 : w.cell? ⟨b, 0, none⟩ = some (.string u)
  c1 : w.cell? ⟨b, 1, none⟩ = some (.int .i64 p)
  free : w.frozen? ⟨b, 1, none⟩ = false
theorem RB.below {w w' : World} {b : Nat} {u : ByteArray} {p : Int} (k : RB w b u p) (hb : Below w.heap.size w w') : RB w' b u p :=
  ⟨Nat.lt_of_lt_of_le k.lt hb.size, (hb.cell (p := ⟨b, 0, none⟩) k.lt).trans k.c0, (hb.cell (p := ⟨b, 1, none⟩) k.lt).trans k.c1, (hb.frozen (p := ⟨b, 1, none⟩) k.lt).trans k.free⟩
theorem RB.put {w : World} {b : Nat} {u : ByteArray} {p : Int} (k : RB w b u p) (q : Int) : RB (w.setCell ⟨b, 1, none⟩ (.int .i64 q)) b u q := by
  obtain ⟨lt, c0, c1, free⟩ := k
  exact ⟨by simpa using lt, (World.cell?_setCell_other _ ⟨b, 1, none⟩ ⟨b, 0, none⟩ _ (by simp)).trans c0, World.cell?_setCell_same _ _ _ c1, by simpa using free⟩
theorem must_yes (w : World) : Calls Tryz.prog 73 #[.bool true] w fun e w' => e = .returned (.tuple #[]) ∧ w = w' := by
  go_enter Tryz.func73, Tryz.ntmps73
  go_wp2
  go_end0
  exact ⟨rfl, rfl⟩
theorem must_no (w : World) : Calls Tryz.prog 73 #[.bool false] w fun e w' => e = .panicked [{ v := errV 3, recovered := false }] ∧ w = w' := by
  go_enter Tryz.func73, Tryz.ntmps73
  go_wp2
  exact ⟨rfl, rfl, rfl⟩
set_option maxRecDepth 100000 in
set_option maxHeartbeats 1600000 in
theorem num_ok (b : Nat) (u : ByteArray) (a p : Nat) (n : Int) (w : World) (hR : RB w b u (a : Int)) (hu : u.size ≤ 8000) (ha : a ≤ u.size) (h : rdS u a 10 0 0 = (n, (p : Int), 0)) :
    Calls Tryz.prog 72 #[.pointer (some ⟨b, 0, none⟩)] w fun e w' => e = .returned (.int .i64 n) ∧ RB w' b u (p : Int) ∧ w.grownBy w' (some b) := by
  have HRD : Hid (∀ v : World, Calls Tryz.prog 108 #[.string u, .int .i64 (a : Int)] v fun e w' => e = .returned (.tuple #[.int .i64 n, .int .i64 (p : Int), .nilIface]) ∧ Below v.heap.size v w') := Lib.hid (fun v => by
    have hc := readNum_any u a v (by omega) hu
    rw [h, readV_ok] at hc
    exact hc)
  have HR := Lib.hid hR
  have hFn := hR.below (Below.refl _ _).drew
  have hBn : Below w.heap.size w w.drew := (Below.refl _ _).drew
  clear h hR
  go_enter Tryz.func72, Tryz.ntmps72
  go_wp2_with fail
  go_region_held3 (fun v => v.cell? ⟨b, 0, none⟩ = some (.string u) ∧ v.cell? ⟨b, 1, none⟩ = some (.int .i64 (a : Int))) (exact ⟨hFn.c0, hFn.c1⟩)
    (first
      | (go_at_call 108; refine Calls.mono (HRD.out _) ?_; rintro e w1 ⟨rfl, hb⟩; have hFn := hFn.below hb; have hBn := hBn.trans (hb.mono hBn.size)))
  all_goals
    have hc1 := hFn.c1
    have hfz := hFn.free
    have HF := Lib.hid hFn
    have HBn := Lib.hid hBn
    clear hFn hBn
    go_wp2_with fail
    refine (must_yes _).mono ?_
    rintro e w2 ⟨rfl, rfl⟩
    go_wp2_with fail
    go_ret
    exact ⟨rfl, HF.out.put _, grown_trans (fg_below HBn.out) (grown_set _ b 1 _)⟩
set_option maxRecDepth 100000 in
set_option maxHeartbeats 1600000 in
theorem num_bad (b : Nat) (u : ByteArray) (a : Nat) (w : World) (hR : RB w b u (a : Int)) (hu : u.size ≤ 8000) (ha : a ≤ u.size) (h : (rdS u a 10 0 0).2.2 ≠ 0) :
    Calls Tryz.prog 72 #[.pointer (some ⟨b, 0, none⟩)] w fun e w' => e = .panicked [{ v := errV 3, recovered := false }] ∧ Below w.heap.size w w' := by
  obtain ⟨c, hc⟩ : ∃ c, c = (rdS u a 10 0 0).2.2 := ⟨_, rfl⟩
  have HRD : Hid (∀ v : World, Calls Tryz.prog 108 #[.string u, .int .i64 (a : Int)] v fun e w' => e = .returned (.tuple #[.int .i64 0, .int .i64 0, errV c]) ∧ Below v.heap.size v w') := Lib.hid (fun v => by
    have hq := readNum_any u a v (by omega) hu
    rw [rd_zero u a 10 0 0 h, readV_err h, ← hc] at hq
    exact hq)
  have hFn := hR.below (Below.refl _ _).drew
  have hBn : Below w.heap.size w w.drew := (Below.refl _ _).drew
  unfold errV at HRD
  clear h hR hc
  go_enter Tryz.func72, Tryz.ntmps72
  go_wp2_with fail
  go_region_held3 (fun v => v.cell? ⟨b, 0, none⟩ = some (.string u) ∧ v.cell? ⟨b, 1, none⟩ = some (.int .i64 (a : Int))) (exact ⟨hFn.c0, hFn.c1⟩)
    (first
      | (go_at_call 108; refine Calls.mono (HRD.out _) ?_; rintro e w1 ⟨rfl, hb⟩; have hFn := hFn.below hb; have hBn := hBn.trans (hb.mono hBn.size)))
  all_goals
    have HBn := Lib.hid hBn
    clear hFn hBn
    go_wp2_with fail
    refine (must_no _).mono ?_
    rintro e w2 ⟨rfl, rfl⟩
    go_wp2_with fail
    exact ⟨rfl, rfl, HBn.out⟩
set_option maxRecDepth 100000 in
set_option maxHeartbeats 1600000 in
theorem text_ok (b : Nat) (u : ByteArray) (a p : Nat) (t : ByteArray) (w : World) (hR : RB w b u (a : Int)) (hu : u.size ≤ 8000) (ha : a ≤ u.size) (h : txtS u a = (t, (p : Int), 0)) :
    Calls Tryz.prog 112 #[.pointer (some ⟨b, 0, none⟩)] w fun e w' => e = .returned (.string t) ∧ RB w' b u (p : Int) ∧ w.grownBy w' (some b) := by
  have HRD : Hid (∀ v : World, Calls Tryz.prog 68 #[.string u, .int .i64 (a : Int)] v fun e w' => e = .returned (.tuple #[.string t, .int .i64 (p : Int), .nilIface]) ∧ Below v.heap.size v w') := Lib.hid (fun v => by
    have hc := readText_any u a v (by omega) hu
    rw [h, textV_ok] at hc
    exact hc)
  have hFn := hR.below (Below.refl _ _).drew
  have hBn : Below w.heap.size w w.drew := (Below.refl _ _).drew
  clear h hR
  go_enter Tryz.func112, Tryz.ntmps112
  go_wp2_with fail
  go_region_held3 (fun v => v.cell? ⟨b, 0, none⟩ = some (.string u) ∧ v.cell? ⟨b, 1, none⟩ = some (.int .i64 (a : Int))) (exact ⟨hFn.c0, hFn.c1⟩)
    (first
      | (go_at_call 68; refine Calls.mono (HRD.out _) ?_; rintro e w1 ⟨rfl, hb⟩; have hFn := hFn.below hb; have hBn := hBn.trans (hb.mono hBn.size)))
  all_goals
    have hc1 := hFn.c1
    have hfz := hFn.free
    have HF := Lib.hid hFn
    have HBn := Lib.hid hBn
    clear hFn hBn
    go_wp2_with fail
    refine (must_yes _).mono ?_
    rintro e w2 ⟨rfl, rfl⟩
    go_wp2_with fail
    go_ret
    exact ⟨rfl, HF.out.put _, grown_trans (fg_below HBn.out) (grown_set _ b 1 _)⟩
set_option maxRecDepth 100000 in
set_option maxHeartbeats 1600000 in
theorem text_bad (b : Nat) (u : ByteArray) (a : Nat) (w : World) (hR : RB w b u (a : Int)) (hu : u.size ≤ 8000) (ha : a ≤ u.size) (h : (txtS u a).2.2 ≠ 0) :
    Calls Tryz.prog 112 #[.pointer (some ⟨b, 0, none⟩)] w fun e w' => e = .panicked [{ v := errV 3, recovered := false }] ∧ Below w.heap.size w w' := by
  obtain ⟨c, hc⟩ : ∃ c, c = (txtS u a).2.2 := ⟨_, rfl⟩
  have HRD : Hid (∀ v : World, Calls Tryz.prog 68 #[.string u, .int .i64 (a : Int)] v fun e w' => e = .returned (.tuple #[.string ⟨#[]⟩, .int .i64 0, errV c]) ∧ Below v.heap.size v w') := Lib.hid (fun v => by
    have hq := readText_any u a v (by omega) hu
    rw [txt_zero u a h, textV_err h, ← hc] at hq
    exact hq)
  have hFn := hR.below (Below.refl _ _).drew
  have hBn : Below w.heap.size w w.drew := (Below.refl _ _).drew
  unfold errV at HRD
  clear h hR hc
  go_enter Tryz.func112, Tryz.ntmps112
  go_wp2_with fail
  go_region_held3 (fun v => v.cell? ⟨b, 0, none⟩ = some (.string u) ∧ v.cell? ⟨b, 1, none⟩ = some (.int .i64 (a : Int))) (exact ⟨hFn.c0, hFn.c1⟩)
    (first
      | (go_at_call 68; refine Calls.mono (HRD.out _) ?_; rintro e w1 ⟨rfl, hb⟩; have hFn := hFn.below hb; have hBn := hBn.trans (hb.mono hBn.size)))
  all_goals
    have HBn := Lib.hid hBn
    clear hFn hBn
    go_wp2_with fail
    refine (must_no _).mono ?_
    rintro e w2 ⟨rfl, rfl⟩
    go_wp2_with fail
    exact ⟨rfl, rfl, HBn.out⟩
set_option maxHeartbeats 800000 in
theorem unsealed_ok (s t : ByteArray) (w : World) (hs : s.size ≤ maxLen) (hg : ET w) (h : openS s = (t, 0, 0)) :
    Calls Tryz.prog 71 #[.string s] w fun e w' => e = .returned (.string t) ∧ Below w.heap.size w w' := by
  have hc := implUnseal_any s w hs hg
  rw [h] at hc
  have HC := Lib.hid hc
  clear h hc hg
  go_enter Tryz.func71, Tryz.ntmps71
  go_wp2_with fail
  refine HC.out.mono ?_
  rintro e w1 ⟨rfl, hb⟩
  unfold textOutV
  dsimp only
  have HB := Lib.hid (hb.alloc hb.size (.cells #[.string t, .int .i64 0, .int .i64 0] 60))
  clear hb
  go_wp2_with fail
  go_ret
  exact ⟨rfl, HB.out⟩
set_option maxHeartbeats 800000 in
theorem unsealed_bad (s : ByteArray) (w : World) (hs : s.size ≤ maxLen) (hg : ET w) (h : (openS s).2.2 ≠ 0) :
    Calls Tryz.prog 71 #[.string s] w fun e w' => e = .panicked [{ v := errV (openS s).2.2, recovered := false }] ∧ Below w.heap.size w w' := by
  have hc := implUnseal_any s w hs hg
  rw [openS_zero s h] at hc
  obtain ⟨c, hcc⟩ : ∃ c, c = (openS s).2.2 := ⟨_, rfl⟩
  rw [← hcc] at hc h ⊢
  have HC := Lib.hid hc
  have hcb : (c != 0) = true := by simp [h]
  clear h hc hg hcc
  go_enter Tryz.func71, Tryz.ntmps71
  go_wp2_with fail
  refine HC.out.mono ?_
  rintro e w1 ⟨rfl, hb⟩
  unfold textOutV
  dsimp only
  have HB := Lib.hid (hb.alloc hb.size (.cells #[.string ⟨#[]⟩, .int .i64 0, .int .i64 c] 60))
  clear hb
  go_wp2_with fail
  exact ⟨rfl, rfl, HB.out⟩
end Go.Proofs.YtidcpdfhnhfelaaGreatDoor

