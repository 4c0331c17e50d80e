/- Texts put together: what the law uses of them. -/
import Derived.Deep.RegionWith
import Derived.Test.YtidcpdfhnhfelaaGreatDoorQTxr28
import Derived.Test.YtidcpdfhnhfelaaGreatDoorQTxr00
/- What the model's readers of an envelope answer. -/
namespace Go.Proofs.YtidcpdfhnhfelaaGreatDoor
open Go.RowKit Go.PlainAid G MGet MGF IRow MNum MJoin
set_option linter.unusedVariables false
/-- The model's reader in a block of its own. -/
structure SB (w : World) (b : Nat) (u : ByteArray) (p : Int) (k : Bool) : Prop where
  lt : b < w.heap.size
  c0 : w.cell? ⟨b, 0, none⟩ = some (.string u)
  c1 : w.cell? ⟨b, 1, none⟩ = some (.int .i64 p)
  c2 : w.cell? ⟨b, 2, none⟩ = some (.bool k)
  f1 : w.frozen? ⟨b, 1, none⟩ = false
  f2 : w.frozen? ⟨b, 2, none⟩ = false
theorem SB.below {w w' : World} {b : Nat} {u : ByteArray} {p : Int} {k : Bool} (h : SB w b u p k) (hb : Below w.heap.size w w') : SB w' b u p k :=
  ⟨Nat.lt_of_lt_of_le h.lt hb.size, (hb.cell (p := ⟨b, 0, none⟩) h.lt).trans h.c0, (hb.cell (p := ⟨b, 1, none⟩) h.lt).trans h.c1, (hb.cell (p := ⟨b, 2, none⟩) h.lt).trans h.c2, (hb.frozen (p := ⟨b, 1, none⟩) h.lt).trans h.f1, (hb.frozen (p := ⟨b, 2, none⟩) h.lt).trans h.f2⟩
theorem SB.move {w : World} {b : Nat} {u : ByteArray} {p : Int} {k : Bool} (h : SB w b u p k) (q : Int) : SB (w.setCell ⟨b, 1, none⟩ (.int .i64 q)) b u q k :=
  ⟨by simpa using h.lt, (sco (by decide)).trans h.c0, World.cell?_setCell_same _ _ _ h.c1, (sco (by decide)).trans h.c2, by simpa using h.f1, by simpa using h.f2⟩
theorem SB.mark {w : World} {b : Nat} {u : ByteArray} {p : Int} {k : Bool} (h : SB w b u p k) : SB (w.setCell ⟨b, 2, none⟩ (.bool true)) b u p true :=
  ⟨by simpa using h.lt, (sco (by decide)).trans h.c0, (sco (by decide)).trans h.c1, World.cell?_setCell_same _ _ _ h.c2, by simpa using h.f1, by simpa using h.f2⟩
theorem wf_i64_of {n : Int} (h : 0 ≤ n ∧ n ≤ 1000000) : (Lit.int .i64 n).wf = true := by
  simp only [Lit.wf, IntKind.min, IntKind.max, IntKind.signed, IntKind.bits]
  simp
  omega
set_option maxRecDepth 100000 in
set_option maxHeartbeats 3200000 in
theorem srcNum_any (b : Nat) (u : ByteArray) (q : Nat × Bool) (w : World) (hS : SB w b u (q.1 : Int) q.2) (hu : u.size ≤ 8000) (hq : q.1 ≤ u.size) :
    Calls Tryz.prog 64 #[.pointer (some ⟨b, 0, none⟩)] w fun e w' => e = .returned (.int .i64 (sN u q).1) ∧ SB w' b u ((sN u q).2.1 : Int) (sN u q).2.2 ∧ w.grownBy w' (some b) := by
  have hgn : ∀ v : World, Calls Tryz.prog 61 #[.string u, .int .i64 (q.1 : Int)] v fun e w' => e = .returned (numOutV (rdS u q.1 10 0 0)) ∧ Below v.heap.size v w' := fun v => by
    have hc := specGetNum_any u (q.1 : Int) v (wf_i64_of (by omega)) (by unfold maxLen; omega)
    rw [getS_read (by omega)] at hc
    exact hc
  have HS0 := Lib.hid hS
  by_cases hc : (rdS u q.1 10 0 0).2.2 = 0
  · obtain ⟨hy, hf, hp⟩ := sN_yes hc
    rw [hy] at hgn
    rw [hf]
    obtain ⟨a, k⟩ := q
    dsimp only at *
    generalize (sN u (a, k)).1 = n at *
    generalize (sN u (a, k)).2.1 = p at *
    have HGN := Lib.hid hgn
    unfold numOutV at HGN
    dsimp only at HGN
    obtain ⟨hlt, c0, c1, c2, f1, f2⟩ := hS
    have hltd : b < w.drew.heap.size := hlt
    clear hc hy hf hgn
    go_enter Tryz.func64, Tryz.ntmps64
    go_wp2_with fail
    go_region_with (go_at_call 61; refine (HGN.out _).mono ?_; rintro e w1 ⟨rfl, hb1⟩; have HB1 : Hid (Below w.heap.size w w1) := Lib.hid (Below.trans (by repeat' (first | exact Below.refl _ _ | refine Below.drew ?_ | refine Below.alloc ?_ (by first | exact Nat.le_refl _ | (simp; done)) _)) (hb1.mono (by first | exact Nat.le_refl _ | (simp; done)))); obtain ⟨hc1, hf1⟩ := bcell hb1; have hz1 := hb1.size; have hbw : b < w1.heap.size := Nat.lt_of_lt_of_le hlt HB1.out.size; have g1 := (HB1.out.cell (p := ⟨b, 1, none⟩) hlt).trans c1; have g2 := (HB1.out.cell (p := ⟨b, 2, none⟩) hlt).trans c2; have g3 := (HB1.out.frozen (p := ⟨b, 1, none⟩) hlt).trans f1; have g4 := (HB1.out.frozen (p := ⟨b, 2, none⟩) hlt).trans f2)
    all_goals
      clear hb1
      go_wp2_with fail
      go_ret
      first
        | with_reducible exact ⟨rfl, (SB.move (HS0.out.below HB1.out) _).below ((Below.refl _ _).alloc (Nat.le_refl _) _), grown_trans (grown_trans (fg_below HB1.out) (grown_set _ b 1 _)) (fg_below ((Below.refl _ _).alloc (Nat.le_refl _) _))⟩
        | exact ⟨rfl, SB.move (HS0.out.below (by repeat' (first | exact HB1.out | refine Below.setCell ?_ (by first | exact Nat.le_refl _ | exact HB1.out.size | (simp; done) | (simp; omega)) _ | refine Below.alloc ?_ (by first | exact HB1.out.size | exact Nat.le_refl _ | (simp; done) | (simp; omega)) _))) _, grown_trans (fg_below (by repeat' (first | exact HB1.out | refine Below.setCell ?_ (by first | exact Nat.le_refl _ | exact HB1.out.size | (simp; done) | (simp; omega)) _ | refine Below.alloc ?_ (by first | exact HB1.out.size | exact Nat.le_refl _ | (simp; done) | (simp; omega)) _))) (grown_set _ b 1 _)⟩
  · have hy := sN_no (u := u) (q := q) hc
    obtain ⟨c, hcc⟩ : ∃ c, c = (rdS u q.1 10 0 0).2.2 := ⟨_, rfl⟩
    rw [rd_zero u q.1 10 0 0 hc, ← hcc] at hgn
    rw [hy]
    rw [← hcc] at hc
    have hcb : (c != 0) = true := by simp [hc]
    obtain ⟨a, k⟩ := q
    dsimp only at *
    have HGN := Lib.hid hgn
    unfold numOutV at HGN
    dsimp only at HGN
    obtain ⟨hlt, c0, c1, c2, f1, f2⟩ := hS
    have hltd : b < w.drew.heap.size := hlt
    clear hc hy hgn hcc
    go_enter Tryz.func64, Tryz.ntmps64
    go_wp2_with fail
    go_region_with (go_at_call 61; refine (HGN.out _).mono ?_; rintro e w1 ⟨rfl, hb1⟩; have HB1 : Hid (Below w.heap.size w w1) := Lib.hid (Below.trans (by repeat' (first | exact Below.refl _ _ | refine Below.drew ?_ | refine Below.alloc ?_ (by first | exact Nat.le_refl _ | (simp; done)) _)) (hb1.mono (by first | exact Nat.le_refl _ | (simp; done)))); obtain ⟨hc1, hf1⟩ := bcell hb1; have hz1 := hb1.size; have hbw : b < w1.heap.size := Nat.lt_of_lt_of_le hlt HB1.out.size; have g1 := (HB1.out.cell (p := ⟨b, 1, none⟩) hlt).trans c1; have g2 := (HB1.out.cell (p := ⟨b, 2, none⟩) hlt).trans c2; have g3 := (HB1.out.frozen (p := ⟨b, 1, none⟩) hlt).trans f1; have g4 := (HB1.out.frozen (p := ⟨b, 2, none⟩) hlt).trans f2)
    all_goals
      clear hb1
      go_wp2_with fail
      go_ret
      first
        | with_reducible exact ⟨rfl, (SB.mark (HS0.out.below HB1.out)).below ((Below.refl _ _).alloc (Nat.le_refl _) _), grown_trans (grown_trans (fg_below HB1.out) (grown_set _ b 2 _)) (fg_below ((Below.refl _ _).alloc (Nat.le_refl _) _))⟩
        | exact ⟨rfl, SB.mark (HS0.out.below (by repeat' (first | exact HB1.out | refine Below.setCell ?_ (by first | exact Nat.le_refl _ | exact HB1.out.size | (simp; done) | (simp; omega)) _ | refine Below.alloc ?_ (by first | exact HB1.out.size | exact Nat.le_refl _ | (simp; done) | (simp; omega)) _))), grown_trans (fg_below (by repeat' (first | exact HB1.out | refine Below.setCell ?_ (by first | exact Nat.le_refl _ | exact HB1.out.size | (simp; done) | (simp; omega)) _ | refine Below.alloc ?_ (by first | exact HB1.out.size | exact Nat.le_refl _ | (simp; done) | (simp; omega)) _))) (grown_set _ b 2 _)⟩
set_option maxRecDepth 100000 in
set_option maxHeartbeats 3200000 in
theorem srcStr_any (b : Nat) (u : ByteArray) (q : Nat × Bool) (w : World) (hS : SB w b u (q.1 : Int) q.2) (hu : u.size ≤ 8000) (hq : q.1 ≤ u.size) :
    Calls Tryz.prog 102 #[.pointer (some ⟨b, 0, none⟩)] w fun e w' => e = .returned (.string (sT u q).1) ∧ SB w' b u ((sT u q).2.1 : Int) (sT u q).2.2 ∧ w.grownBy w' (some b) := by
  have hgn : ∀ v : World, Calls Tryz.prog 21 #[.string u, .int .i64 (q.1 : Int)] v fun e w' => e = .returned (textOutV (txtS u q.1)) ∧ Below v.heap.size v w' := fun v => by
    have hc := specGetText_any u (q.1 : Int) v (wf_i64_of (by omega)) (by unfold maxLen; omega)
    rw [getT_read (by omega)] at hc
    exact hc
  have HS0 := Lib.hid hS
  by_cases hc : (txtS u q.1).2.2 = 0
  · obtain ⟨hy, hf, hp⟩ := sT_yes hc
    rw [hy] at hgn
    rw [hf]
    obtain ⟨a, k⟩ := q
    dsimp only at *
    generalize (sT u (a, k)).1 = n at *
    generalize (sT u (a, k)).2.1 = p at *
    have HGN := Lib.hid hgn
    unfold textOutV at HGN
    dsimp only at HGN
    obtain ⟨hlt, c0, c1, c2, f1, f2⟩ := hS
    have hltd : b < w.drew.heap.size := hlt
    clear hc hy hf hgn
    go_enter Tryz.func102, Tryz.ntmps102
    go_wp2_with fail
    go_region_with (go_at_call 21; refine (HGN.out _).mono ?_; rintro e w1 ⟨rfl, hb1⟩; have HB1 : Hid (Below w.heap.size w w1) := Lib.hid (Below.trans (by repeat' (first | exact Below.refl _ _ | refine Below.drew ?_ | refine Below.alloc ?_ (by first | exact Nat.le_refl _ | (simp; done)) _)) (hb1.mono (by first | exact Nat.le_refl _ | (simp; done)))); obtain ⟨hc1, hf1⟩ := bcell hb1; have hz1 := hb1.size; have hbw : b < w1.heap.size := Nat.lt_of_lt_of_le hlt HB1.out.size; have g1 := (HB1.out.cell (p := ⟨b, 1, none⟩) hlt).trans c1; have g2 := (HB1.out.cell (p := ⟨b, 2, none⟩) hlt).trans c2; have g3 := (HB1.out.frozen (p := ⟨b, 1, none⟩) hlt).trans f1; have g4 := (HB1.out.frozen (p := ⟨b, 2, none⟩) hlt).trans f2)
    all_goals
      clear hb1
      go_wp2_with fail
      go_ret
      first
        | with_reducible exact ⟨rfl, (SB.move (HS0.out.below HB1.out) _).below ((Below.refl _ _).alloc (Nat.le_refl _) _), grown_trans (grown_trans (fg_below HB1.out) (grown_set _ b 1 _)) (fg_below ((Below.refl _ _).alloc (Nat.le_refl _) _))⟩
        | exact ⟨rfl, SB.move (HS0.out.below (by repeat' (first | exact HB1.out | refine Below.setCell ?_ (by first | exact Nat.le_refl _ | exact HB1.out.size | (simp; done) | (simp; omega)) _ | refine Below.alloc ?_ (by first | exact HB1.out.size | exact Nat.le_refl _ | (simp; done) | (simp; omega)) _))) _, grown_trans (fg_below (by repeat' (first | exact HB1.out | refine Below.setCell ?_ (by first | exact Nat.le_refl _ | exact HB1.out.size | (simp; done) | (simp; omega)) _ | refine Below.alloc ?_ (by first | exact HB1.out.size | exact Nat.le_refl _ | (simp; done) | (simp; omega)) _))) (grown_set _ b 1 _)⟩
  · have hy := sT_no (u := u) (q := q) hc
    obtain ⟨c, hcc⟩ : ∃ c, c = (txtS u q.1).2.2 := ⟨_, rfl⟩
    rw [txt_zero u q.1 hc, ← hcc] at hgn
    rw [hy]
    rw [← hcc] at hc
    have hcb : (c != 0) = true := by simp [hc]
    obtain ⟨a, k⟩ := q
    dsimp only at *
    have HGN := Lib.hid hgn
    unfold textOutV at HGN
    dsimp only at HGN
    obtain ⟨hlt, c0, c1, c2, f1, f2⟩ := hS
    have hltd : b < w.drew.heap.size := hlt
    clear hc hy hgn hcc
    go_enter Tryz.func102, Tryz.ntmps102
    go_wp2_with fail
    go_region_with (go_at_call 21; refine (HGN.out _).mono ?_; rintro e w1 ⟨rfl, hb1⟩; have HB1 : Hid (Below w.heap.size w w1) := Lib.hid (Below.trans (by repeat' (first | exact Below.refl _ _ | refine Below.drew ?_ | refine Below.alloc ?_ (by first | exact Nat.le_refl _ | (simp; done)) _)) (hb1.mono (by first | exact Nat.le_refl _ | (simp; done)))); obtain ⟨hc1, hf1⟩ := bcell hb1; have hz1 := hb1.size; have hbw : b < w1.heap.size := Nat.lt_of_lt_of_le hlt HB1.out.size; have g1 := (HB1.out.cell (p := ⟨b, 1, none⟩) hlt).trans c1; have g2 := (HB1.out.cell (p := ⟨b, 2, none⟩) hlt).trans c2; have g3 := (HB1.out.frozen (p := ⟨b, 1, none⟩) hlt).trans f1; have g4 := (HB1.out.frozen (p := ⟨b, 2, none⟩) hlt).trans f2)
    all_goals
      clear hb1
      go_wp2_with fail
      go_ret
      first
        | with_reducible exact ⟨rfl, (SB.mark (HS0.out.below HB1.out)).below ((Below.refl _ _).alloc (Nat.le_refl _) _), grown_trans (grown_trans (fg_below HB1.out) (grown_set _ b 2 _)) (fg_below ((Below.refl _ _).alloc (Nat.le_refl _) _))⟩
        | exact ⟨rfl, SB.mark (HS0.out.below (by repeat' (first | exact HB1.out | refine Below.setCell ?_ (by first | exact Nat.le_refl _ | exact HB1.out.size | (simp; done) | (simp; omega)) _ | refine Below.alloc ?_ (by first | exact HB1.out.size | exact Nat.le_refl _ | (simp; done) | (simp; omega)) _))), grown_trans (fg_below (by repeat' (first | exact HB1.out | refine Below.setCell ?_ (by first | exact Nat.le_refl _ | exact HB1.out.size | (simp; done) | (simp; omega)) _ | refine Below.alloc ?_ (by first | exact HB1.out.size | exact Nat.le_refl _ | (simp; done) | (simp; omega)) _))) (grown_set _ b 2 _)⟩
end Go.Proofs.YtidcpdfhnhfelaaGreatDoor

