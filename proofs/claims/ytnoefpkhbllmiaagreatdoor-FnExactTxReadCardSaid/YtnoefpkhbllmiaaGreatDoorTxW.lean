/- Texts put together. -/
import Derived.Test.YtnoefpkhbllmiaaGreatDoorEnvD
import Derived.Stop.Asserts
import Derived.Test.YtnoefpkhbllmiaaGreatDoorBookB
import Derived.Test.YtnoefpkhbllmiaaGreatDoorBkPE
import Derived.Test.YtnoefpkhbllmiaaGreatDoorRowDeed
import Derived.Test.YtnoefpkhbllmiaaGreatDoorAppZ
import Derived.Deep.RegionHeld3
import Derived.StillTailTactics
import Derived.Test.YtnoefpkhbllmiaaGreatDoorRowBook
import Derived.Test.YtnoefpkhbllmiaaGreatDoorFnGetText
import Derived.Test.YtnoefpkhbllmiaaGreatDoorEnvF
import Derived.Deep.Cut
import Derived.Test.YtnoefpkhbllmiaaGreatDoorBookA
import Derived.Test.YtnoefpkhbllmiaaGreatDoorFnUnseal2
namespace Go.Proofs.YtnoefpkhbllmiaaGreatDoor
open Go.RowKit Go.PlainAid G MGet MGF IRow MNum MJoin
set_option linter.unusedVariables false
/-- The result's cells, behind what was recovered. -/
def Caught (h : Nat) (c : Int) (w w' : World) : Prop :=
  w'.cell? ⟨h, 0, none⟩ = some (.int .i64 0) ∧ w'.cell? ⟨h, 1, none⟩ = some (.int .i64 0) ∧ w'.cell? ⟨h, 2, none⟩ = some (.int .i64 0) ∧ w'.cell? ⟨h, 3, none⟩ = some (.int .i64 0) ∧ w'.cell? ⟨h, 4, none⟩ = some (.string ⟨#[]⟩) ∧ w'.cell? ⟨h, 5, none⟩ = some (.int .i64 c) ∧ Below h w w'
theorem leaves_ret {P : Program} {fn : Func} {tmps : Array Value} {R : Ending → World → Prop} {w : World} {v : Value} (h : (results fn tmps).run P w = .ok v w) (hr : R (.returned v) w) : Leaves P fn tmps R [] .returning w := ⟨v, h, hr⟩
def envOutV (r : Ev × Int) : Value := .agg #[.int .i64 r.1.g, .int .i64 r.1.n, .int .i64 r.1.m, .int .i64 r.1.x, .string r.1.t, .int .i64 r.2]
theorem openS_is {s : ByteArray} (h : (openS s).2.2 = 0) : openS s = ((openS s).1, 0, 0) := Prod.ext rfl (Prod.ext (openS_at s) h)
theorem openS_fits {s : ByteArray} (h : (openS s).2.2 = 0) : (openS s).1.size ≤ 8000 := by
  unfold openS at h ⊢
  split at h
  · exact absurd h (by decide)
  · rename_i h1
    split at h
    · exact absurd h (by decide)
    · rename_i h2
      rw [if_neg h1, if_neg h2]
      unfold unsS
      split
      · dsimp only
        unfold bodyS
        rw [ByteArray.size_extract]
        omega
      · exact Nat.zero_le _
end Go.Proofs.YtnoefpkhbllmiaaGreatDoor
namespace Go.Proofs.YtnoefpkhbllmiaaGreatDoor
open Go.RowKit Go.PlainAid G MGet MGF IRow MNum MJoin
set_option linter.unusedVariables false
abbrev Plc := Nat × Bool
def rcConf (u : ByteArray) (k : Int) (q : Plc) : Dd × Plc :=
  (⟨k, (sN u q).1, (sN u (sN u q).2).1, (sN u (sN u (sN u q).2).2).1, (sN u (sN u (sN u (sN u q).2).2).2).1, 0, ⟨#[]⟩, ⟨#[]⟩, 0, ⟨#[]⟩⟩, (sN u (sN u (sN u (sN u q).2).2).2).2)
def rcTerm (u : ByteArray) (k : Int) (q : Plc) : Dd × Plc :=
  (⟨k, 0, 0, 0, 0, (sN u q).1, (sT u (sN u q).2).1, ⟨#[]⟩, 0, ⟨#[]⟩⟩, (sT u (sN u q).2).2)
def rcPut (u : ByteArray) (k : Int) (q : Plc) : Dd × Plc :=
  (⟨k, 0, 0, 0, 0, 0, ⟨#[]⟩, (sT u q).1, (sN u (sT u q).2).1, (sT u (sN u (sT u q).2).2).1⟩, (sT u (sN u (sT u q).2).2).2)
def rcDel (u : ByteArray) (k : Int) (q : Plc) : Dd × Plc := (⟨k, 0, 0, 0, 0, 0, ⟨#[]⟩, (sT u q).1, 0, ⟨#[]⟩⟩, (sT u q).2)
def rcNone (k : Int) (q : Plc) : Dd × Plc := (⟨k, 0, 0, 0, 0, 0, ⟨#[]⟩, ⟨#[]⟩, 0, ⟨#[]⟩⟩, q)
/-- What stands behind a deed's kind. -/
def rcRest (u : ByteArray) (k : Int) (q : Plc) : Dd × Plc :=
  if k = 1 then rcConf u k q else if k = 2 then rcTerm u k q else if k = 3 then rcPut u k q else if k = 4 then rcDel u k q else rcNone k q
/-- A deed, read from a place on. -/
def rdDeed (u : ByteArray) (q : Plc) : Dd × Plc := rcRest u (sN u q).1 (sN u q).2
/-- Is it read, and right? -/
def okDeed (u : ByteArray) (q : Plc) : Bool := !(rdDeed u q).2.2 && deedOf (rdDeed u q).1
/-- The place behind so many deeds. -/
def plAt (u : ByteArray) (q : Plc) : Nat → Plc
  | 0 => q
  | n + 1 => (rdDeed u (plAt u q n)).2
def ddAt (u : ByteArray) (q : Plc) (i : Nat) : Dd := (rdDeed u (plAt u q i)).1
def ddsTo (u : ByteArray) (q : Plc) (n : Nat) : List Dd := (List.range n).map (ddAt u q)
def okTo (u : ByteArray) (q : Plc) (n : Nat) : Bool := (List.range n).all (fun i => okDeed u (plAt u q i))
/-- What is in a text of deeds that are done together; none, if it is none of such. -/
def rdTx (u : ByteArray) : List Dd :=
  if 1 ≤ (sN u (0, false)).1 ∧ (sN u (0, false)).1 ≤ 10 ∧ okTo u (sN u (0, false)).2 (sN u (0, false)).1.toNat = true ∧ (plAt u (sN u (0, false)).2 (sN u (0, false)).1.toNat).1 = u.size
  then ddsTo u (sN u (0, false)).2 (sN u (0, false)).1.toNat else []
theorem okTo_succ (u : ByteArray) (q : Plc) (n : Nat) : okTo u q (n + 1) = (okTo u q n && okDeed u (plAt u q n)) := by
  unfold okTo
  rw [List.range_succ, List.all_append]
  simp
theorem ddsTo_succ (u : ByteArray) (q : Plc) (n : Nat) : ddsTo u q (n + 1) = ddsTo u q n ++ [ddAt u q n] := by
  unfold ddsTo
  rw [List.range_succ, List.map_append]
  rfl
theorem ddsTo_length (u : ByteArray) (q : Plc) (n : Nat) : (ddsTo u q n).length = n := by simp [ddsTo]
theorem okTo_of {u : ByteArray} {q : Plc} {n i : Nat} (h : okTo u q n = true) (hi : i < n) : okDeed u (plAt u q i) = true := by
  unfold okTo at h
  rw [List.all_eq_true] at h
  exact h i (List.mem_range.2 hi)
theorem okTo_no {u : ByteArray} {q : Plc} {n i : Nat} (h : okDeed u (plAt u q i) = false) (hi : i < n) : okTo u q n = false := by
  unfold okTo
  rw [List.all_eq_false]
  exact ⟨i, List.mem_range.2 hi, by rw [h]; decide⟩
/-- A read that has failed is marked; a mark stays. -/
theorem sN_mark {u : ByteArray} {q : Plc} (h : (sN u q).2.2 = false) : q.2 = false := by
  cases hq : q.2 with
  | false => rfl
  | true => rw [sN_bad hq] at h; cases h
theorem sT_mark {u : ByteArray} {q : Plc} (h : (sT u q).2.2 = false) : q.2 = false := by
  cases hq : q.2 with
  | false => rfl
  | true => rw [sT_bad hq] at h; cases h
theorem rcRest_mark {u : ByteArray} {k : Int} {q : Plc} (h : (rcRest u k q).2.2 = false) : q.2 = false := by
  unfold rcRest at h
  split at h
  · exact sN_mark (sN_mark (sN_mark (sN_mark h)))
  · split at h
    · exact sN_mark (sT_mark h)
    · split at h
      · exact sT_mark (sN_mark (sT_mark h))
      · split at h
        · exact sT_mark h
        · exact h
theorem rdDeed_mark {u : ByteArray} {q : Plc} (h : (rdDeed u q).2.2 = false) : q.2 = false := sN_mark (rcRest_mark h)
theorem okDeed_iff {u : ByteArray} {q : Plc} : okDeed u q = true ↔ (rdDeed u q).2.2 = false ∧ deedOf (rdDeed u q).1 = true := by
  unfold okDeed
  cases (rdDeed u q).2.2 <;> simp
theorem rdTx_no {u : ByteArray} (h : ¬ (1 ≤ (sN u (0, false)).1 ∧ (sN u (0, false)).1 ≤ 10 ∧ okTo u (sN u (0, false)).2 (sN u (0, false)).1.toNat = true ∧ (plAt u (sN u (0, false)).2 (sN u (0, false)).1.toNat).1 = u.size)) : rdTx u = [] := if_neg h
theorem rdTx_yes {u : ByteArray} (h : 1 ≤ (sN u (0, false)).1 ∧ (sN u (0, false)).1 ≤ 10 ∧ okTo u (sN u (0, false)).2 (sN u (0, false)).1.toNat = true ∧ (plAt u (sN u (0, false)).2 (sN u (0, false)).1.toNat).1 = u.size) : rdTx u = ddsTo u (sN u (0, false)).2 (sN u (0, false)).1.toNat := if_pos h
/-- What is in a part: a text that is sealed. -/
def rdPart (t : ByteArray) : List Dd := if (openS t).2.2 = 0 then rdTx (openS t).1 else []
end Go.Proofs.YtnoefpkhbllmiaaGreatDoor
namespace Go.Proofs.YtnoefpkhbllmiaaGreatDoor
open Go.RowKit Go.PlainAid G MGet MGF IRow MNum MJoin
set_option linter.unusedVariables false
def ddV (d : Dd) : Value := .agg #[.int .i64 d.kd, .int .i64 d.gn, .int .i64 d.nd, .int .i64 d.mn, .int .i64 d.ck, .int .i64 d.no, .string d.lk, .string d.nm, .int .i64 d.tm, .string d.bd]
/-- A right deed, the reader behind it; or a panic. -/
def DeedOr (u : ByteArray) (a b : Nat) (w : World) (e : Ending) (w' : World) : Prop :=
  (okDeed u (a, false) = true ∧ e = .returned (ddV (rdDeed u (a, false)).1) ∧ RB w' b u ((rdDeed u (a, false)).2.1 : Int) ∨ okDeed u (a, false) = false ∧ e = .panicked [{ v := errV 3, recovered := false }]) ∧ w.grownBy w' (some b)
theorem BoxC.kept {w w' : World} {h b : Nat} {cs : List Value} (k : BoxC w h cs) (hg : w.grownBy w' (some b)) (hne : h ≠ b) : BoxC w' h cs := k.grown hg (by intro e; injection e with e; exact hne e)
theorem RB.other {w : World} {b : Nat} {u : ByteArray} {p : Int} (k : RB w b u p) (h i : Nat) (v : Value) (hne : h ≠ b) : RB (w.setCell ⟨h, i, none⟩ v) b u p :=
  ⟨by simpa using k.lt, (World.cell?_setCell_other _ ⟨h, i, none⟩ ⟨b, 0, none⟩ _ (by intro e; injection e with e; exact hne e)).trans k.c0, (World.cell?_setCell_other _ ⟨h, i, none⟩ ⟨b, 1, none⟩ _ (by intro e; injection e with e; exact hne e)).trans k.c1, by simpa using k.free⟩
theorem okDeed_bad {u : ByteArray} {q : Plc} (h : (rdDeed u q).2.2 = true) : okDeed u q = false := by unfold okDeed; rw [h]; rfl
theorem sN_step {u : ByteArray} {p : Nat} (h : (rdS u p 10 0 0).2.2 = 0) : ∃ n p', sN u (p, false) = (n, (p', false)) ∧ rdS u p 10 0 0 = (n, ((p' : Nat) : Int), 0) ∧ p' ≤ u.size := by
  obtain ⟨hy, hf, hp⟩ := sN_yes (u := u) (q := (p, false)) h
  exact ⟨_, _, Prod.ext rfl (Prod.ext rfl hf), hy, hp⟩
theorem sT_step {u : ByteArray} {p : Nat} (hu : u.size ≤ 8000) (h : (txtS u p).2.2 = 0) : ∃ t p', sT u (p, false) = (t, (p', false)) ∧ txtS u p = (t, ((p' : Nat) : Int), 0) ∧ p' ≤ u.size ∧ t.size ≤ maxLen := by
  obtain ⟨hy, hf, hp⟩ := sT_yes (u := u) (q := (p, false)) h
  refine ⟨_, _, Prod.ext rfl (Prod.ext rfl hf), hy, hp, ?_⟩
  have h1 := txt_fits (u := u) (a := p) hu
  rw [hy] at h1
  unfold maxLen
  exact Nat.le_trans h1 (by omega)
theorem deedOf_is (q0 q1 q2 q3 q4 q5 : Int) (q6 q7 : ByteArray) (q8 : Int) (q9 : ByteArray) : deedOf ⟨q0, q1, q2, q3, q4, q5, q6, q7, q8, q9⟩ = deedB q0 q1 q2 q3 q4 q5 q6 q7 q8 q9 := rfl
set_option maxRecDepth 100000 in
set_option maxHeartbeats 6400000 in
theorem deedIn_any (b : Nat) (u : ByteArray) (a : Nat) (w : World) (hR : RB w b u (a : Int)) (hu : u.size ≤ 8000) (ha : a ≤ u.size) :
    Calls Tryz.prog 46 #[.pointer (some ⟨b, 0, none⟩)] w (DeedOr u a b w) := by
  obtain ⟨W, hW⟩ : ∃ W, W = w.alloc (.cells #[.int .i64 0, .int .i64 0, .int .i64 0, .int .i64 0, .int .i64 0, .int .i64 0, .string ⟨#[]⟩, .string ⟨#[]⟩, .int .i64 0, .string ⟨#[]⟩] 71) := ⟨_, rfl⟩
  obtain ⟨h, hh⟩ : ∃ h, h = w.heap.size := ⟨_, rfl⟩
  have HY0 := Lib.hid (show BoxC W h [.int .i64 0, .int .i64 0, .int .i64 0, .int .i64 0, .int .i64 0, .int .i64 0, .string ⟨#[]⟩, .string ⟨#[]⟩, .int .i64 0, .string ⟨#[]⟩] by rw [hW, hh]; exact BoxC.made _ _ _)
  have hb0 : Below w.heap.size w W := by rw [hW]; exact (Below.refl _ _).alloc (Nat.le_refl _) _
  have HR0 := Lib.hid (hR.below hb0)
  have HG0 := Lib.hid (show w.grownBy W (some b) from fg_below hb0)
  have hbh : b < h := by rw [hh]; exact hR.lt
  have hne : h ≠ b := by omega
  have HHW := Lib.hid (show w.heap.size ≤ h by omega)
  clear hR hb0
  go_enter Tryz.func46, Tryz.ntmps46
  go_wp2_with fail
  rw [← hW, ← hh]
  clear hW hh
  by_cases hc : (rdS u a 10 0 0).2.2 = 0
  · obtain ⟨k, p1, he, hy, hp1⟩ := sN_step hc
    have HE := Lib.hid he
    have HY := Lib.hid hy
    clear hc hy he
    refine (num_ok b u a p1 k _ HR0.out hu ha HY.out).mono ?_
    rintro e w1 ⟨rfl, hr, hg⟩
    obtain ⟨V, hV⟩ : ∃ V, V = w1.alloc (.cells #[.int .i64 k, .int .i64 0, .int .i64 0, .int .i64 0, .int .i64 0, .int .i64 0, .string ⟨#[]⟩, .string ⟨#[]⟩, .int .i64 0, .string ⟨#[]⟩] 71) := ⟨_, rfl⟩
    obtain ⟨x, hx⟩ : ∃ x, x = w1.heap.size := ⟨_, rfl⟩
    have hb1 : Below w1.heap.size w1 V := by rw [hV]; exact (Below.refl _ _).alloc (Nat.le_refl _) _
    have HR1 := Lib.hid (hr.below hb1)
    have HY1 := Lib.hid ((HY0.out.kept hg hne).below hb1)
    have HG1 := Lib.hid (grown_trans HG0.out (grown_trans hg (fg_below hb1)))
    have HX1 := Lib.hid (show BoxC V x [.int .i64 k, .int .i64 0, .int .i64 0, .int .i64 0, .int .i64 0, .int .i64 0, .string ⟨#[]⟩, .string ⟨#[]⟩, .int .i64 0, .string ⟨#[]⟩] by rw [hV, hx]; exact BoxC.made _ _ _)
    have hxh : h < x := by rw [hx]; exact (HY0.out.kept hg hne).lt
    have hxb : x ≠ b := by omega
    clear hr hg HY hb1 HY0 HR0 HG0
    by_cases hk1 : k = 1
    · skip
      subst hk1
      have HRC : Hid (∀ q, rcRest u 1 q = rcConf u 1 q) := Lib.hid (fun q => by unfold rcRest; simp)
      go_wp2_with fail
      rw [← hV, ← hx]
      clear hV hx
      by_cases hc : (rdS u p1 10 0 0).2.2 = 0
      · skip
        obtain ⟨n2, p2, he2, hy, hp2⟩ := sN_step hc
        have HE2 := Lib.hid he2
        have HY := Lib.hid hy
        clear hc hy he2
        refine (num_ok b u p1 p2 n2 _ HR1.out hu hp1 HY.out).mono ?_
        rintro e w2 ⟨rfl, hr, hg⟩
        have HR2 := Lib.hid hr
        have HY2 := Lib.hid (HY1.out.kept hg hne)
        have HX2 := Lib.hid (HX1.out.kept hg hxb)
        have HG2 := Lib.hid (grown_trans HG1.out hg)
        clear hr hg HY HY1 HX1
        go_wp2_with fail
        by_cases hc : (rdS u p2 10 0 0).2.2 = 0
        · skip
          obtain ⟨n3, p3, he3, hy, hp3⟩ := sN_step hc
          have HE3 := Lib.hid he3
          have HY := Lib.hid hy
          clear hc hy he3
          refine (num_ok b u p2 p3 n3 _ HR2.out hu hp2 HY.out).mono ?_
          rintro e w3 ⟨rfl, hr, hg⟩
          have HR3 := Lib.hid hr
          have HY3 := Lib.hid (HY2.out.kept hg hne)
          have HX3 := Lib.hid (HX2.out.kept hg hxb)
          have HG3 := Lib.hid (grown_trans HG2.out hg)
          clear hr hg HY HY2 HX2
          go_wp2_with fail
          by_cases hc : (rdS u p3 10 0 0).2.2 = 0
          · skip
            obtain ⟨n4, p4, he4, hy, hp4⟩ := sN_step hc
            have HE4 := Lib.hid he4
            have HY := Lib.hid hy
            clear hc hy he4
            refine (num_ok b u p3 p4 n4 _ HR3.out hu hp3 HY.out).mono ?_
            rintro e w4 ⟨rfl, hr, hg⟩
            have HR4 := Lib.hid hr
            have HY4 := Lib.hid (HY3.out.kept hg hne)
            have HX4 := Lib.hid (HX3.out.kept hg hxb)
            have HG4 := Lib.hid (grown_trans HG3.out hg)
            clear hr hg HY HY3 HX3
            go_wp2_with fail
            by_cases hc : (rdS u p4 10 0 0).2.2 = 0
            · skip
              obtain ⟨n5, p5, he5, hy, hp5⟩ := sN_step hc
              have HE5 := Lib.hid he5
              have HY := Lib.hid hy
              clear hc hy he5
              refine (num_ok b u p4 p5 n5 _ HR4.out hu hp4 HY.out).mono ?_
              rintro e w5 ⟨rfl, hr, hg⟩
              have HR5 := Lib.hid hr
              have HY5 := Lib.hid (HY4.out.kept hg hne)
              have HX5 := Lib.hid (HX4.out.kept hg hxb)
              have HG5 := Lib.hid (grown_trans HG4.out hg)
              clear hr hg HY HY4 HX4
              have x0 := HX5.out.cell 0 _ rfl
              have fx0 := HX5.out.free 0
              have x1 := HX5.out.cell 1 _ rfl
              have fx1 := HX5.out.free 1
              have x2 := HX5.out.cell 2 _ rfl
              have fx2 := HX5.out.free 2
              have x3 := HX5.out.cell 3 _ rfl
              have fx3 := HX5.out.free 3
              have x4 := HX5.out.cell 4 _ rfl
              have fx4 := HX5.out.free 4
              have x5 := HX5.out.cell 5 _ rfl
              have fx5 := HX5.out.free 5
              have x6 := HX5.out.cell 6 _ rfl
              have fx6 := HX5.out.free 6
              have x7 := HX5.out.cell 7 _ rfl
              have fx7 := HX5.out.free 7
              have x8 := HX5.out.cell 8 _ rfl
              have fx8 := HX5.out.free 8
              have x9 := HX5.out.cell 9 _ rfl
              have fx9 := HX5.out.free 9
              obtain ⟨X, hX⟩ : ∃ X, X = (((w5.setCell ⟨x, 1, none⟩ (.int .i64 n2)).setCell ⟨x, 2, none⟩ (.int .i64 n3)).setCell ⟨x, 3, none⟩ (.int .i64 n4)).setCell ⟨x, 4, none⟩ (.int .i64 n5) := ⟨_, rfl⟩
              have HXX := Lib.hid (show BoxC X x [.int .i64 1, .int .i64 n2, .int .i64 n3, .int .i64 n4, .int .i64 n5, .int .i64 0, .string ⟨#[]⟩, .string ⟨#[]⟩, .int .i64 0, .string ⟨#[]⟩] by rw [hX]; exact ((((HX5.out.set (j := 1) (by simp) (.int .i64 n2)).set (j := 2) (by simp) (.int .i64 n3)).set (j := 3) (by simp) (.int .i64 n4)).set (j := 4) (by simp) (.int .i64 n5)))
              have HRX := Lib.hid (show RB X b u (p5 : Int) by rw [hX]; exact ((((HR5.out.other x 1 (.int .i64 n2) hxb).other x 2 (.int .i64 n3) hxb).other x 3 (.int .i64 n4) hxb).other x 4 (.int .i64 n5) hxb))
              have HYX := Lib.hid (show BoxC X h [.int .i64 0, .int .i64 0, .int .i64 0, .int .i64 0, .int .i64 0, .int .i64 0, .string ⟨#[]⟩, .string ⟨#[]⟩, .int .i64 0, .string ⟨#[]⟩] by rw [hX]; exact ((((HY5.out.other ⟨x, 1, none⟩ (.int .i64 n2) (by show x ≠ h; omega)).other ⟨x, 2, none⟩ (.int .i64 n3) (by show x ≠ h; omega)).other ⟨x, 3, none⟩ (.int .i64 n4) (by show x ≠ h; omega)).other ⟨x, 4, none⟩ (.int .i64 n5) (by show x ≠ h; omega)))
              have HGX := Lib.hid (show w.grownBy X (some b) by rw [hX]; exact grown_own (grown_own (grown_own (grown_own (HG5.out) (grown_set _ x 1 _) (fun g hg => by cases hg; have := HHW.out; omega)) (grown_set _ x 2 _) (fun g hg => by cases hg; have := HHW.out; omega)) (grown_set _ x 3 _) (fun g hg => by cases hg; have := HHW.out; omega)) (grown_set _ x 4 _) (fun g hg => by cases hg; have := HHW.out; omega))
              have hlx := HX5.out.lt
              clear HR5 HX5 HY5
              go_wp2_with fail
              rw [← hX]
              clear hX x0 fx0 x1 fx1 x2 fx2 x3 fx3 x4 fx4 x5 fx5 x6 fx6 x7 fx7 x8 fx8 x9 fx9 hlx
              refine (implDeedRight_any 1 n2 n3 n4 n5 0 (⟨#[]⟩) (⟨#[]⟩) 0 (⟨#[]⟩) _ (Nat.zero_le _) (Nat.zero_le _) (Nat.zero_le _)).mono ?_
              rintro e w9 ⟨rfl, hb⟩
              have HX9 := Lib.hid (HXX.out.below hb)
              have HR9 := Lib.hid (HRX.out.below hb)
              have HY9 := Lib.hid (HYX.out.below hb)
              have HG9 := Lib.hid (grown_trans HGX.out (fg_below hb))
              clear hb HXX HRX HYX HGX
              have HEQ : Hid (rdDeed u (a, false) = (⟨1, n2, n3, n4, n5, 0, ⟨#[]⟩, ⟨#[]⟩, 0, ⟨#[]⟩⟩, (p5, false))) := Lib.hid (by simp only [rdDeed, HRC.out, rcConf, HE.out, HE2.out, HE3.out, HE4.out, HE5.out])
              obtain ⟨ob, hob⟩ : ∃ ob, deedB 1 n2 n3 n4 n5 0 (⟨#[]⟩) (⟨#[]⟩) 0 (⟨#[]⟩) = ob := ⟨_, rfl⟩
              rw [hob]
              have HOB := Lib.hid hob
              clear hob
              cases ob
              · go_wp2_with fail
                refine (must_no _).mono ?_
                rintro e w10 ⟨rfl, rfl⟩
                go_wp2_with fail
                exact ⟨rfl, Or.inr ⟨by unfold okDeed; rw [HEQ.out]; exact HOB.out, rfl⟩, HG9.out⟩
              · go_wp2_with fail
                refine (must_yes _).mono ?_
                rintro e w10 ⟨rfl, rfl⟩
                have x0 := HX9.out.cell 0 _ rfl
                have x1 := HX9.out.cell 1 _ rfl
                have x2 := HX9.out.cell 2 _ rfl
                have x3 := HX9.out.cell 3 _ rfl
                have x4 := HX9.out.cell 4 _ rfl
                have x5 := HX9.out.cell 5 _ rfl
                have x6 := HX9.out.cell 6 _ rfl
                have x7 := HX9.out.cell 7 _ rfl
                have x8 := HX9.out.cell 8 _ rfl
                have x9 := HX9.out.cell 9 _ rfl
                have y0 := HY9.out.cell 0 _ rfl
                have fy0 := HY9.out.free 0
                have y1 := HY9.out.cell 1 _ rfl
                have fy1 := HY9.out.free 1
                have y2 := HY9.out.cell 2 _ rfl
                have fy2 := HY9.out.free 2
                have y3 := HY9.out.cell 3 _ rfl
                have fy3 := HY9.out.free 3
                have y4 := HY9.out.cell 4 _ rfl
                have fy4 := HY9.out.free 4
                have y5 := HY9.out.cell 5 _ rfl
                have fy5 := HY9.out.free 5
                have y6 := HY9.out.cell 6 _ rfl
                have fy6 := HY9.out.free 6
                have y7 := HY9.out.cell 7 _ rfl
                have fy7 := HY9.out.free 7
                have y8 := HY9.out.cell 8 _ rfl
                have fy8 := HY9.out.free 8
                have y9 := HY9.out.cell 9 _ rfl
                have fy9 := HY9.out.free 9
                have hly := HY9.out.lt
                go_wp2_with fail
                exact bodyPost_ret (v := .agg #[.int .i64 1, .int .i64 n2, .int .i64 n3, .int .i64 n4, .int .i64 n5, .int .i64 0, .string ⟨#[]⟩, .string ⟨#[]⟩, .int .i64 0, .string ⟨#[]⟩]) (by simp [results, Tryz.results46, go_sem, hly, y0, y1, y2, y3, y4, y5, y6, y7, y8, y9]) rfl ⟨Or.inl ⟨by rw [okDeed_iff, HEQ.out]; exact ⟨rfl, HOB.out⟩, by rw [HEQ.out]; rfl, by rw [HEQ.out]; exact ((((((((((HR9.out.other h 0 (.int .i64 1) hne).other h 1 (.int .i64 n2) hne).other h 2 (.int .i64 n3) hne).other h 3 (.int .i64 n4) hne).other h 4 (.int .i64 n5) hne).other h 5 (.int .i64 0) hne).other h 6 (.string ⟨#[]⟩) hne).other h 7 (.string ⟨#[]⟩) hne).other h 8 (.int .i64 0) hne).other h 9 (.string ⟨#[]⟩) hne)⟩, grown_own (grown_own (grown_own (grown_own (grown_own (grown_own (grown_own (grown_own (grown_own (grown_own (HG9.out) (grown_set _ h 0 (.int .i64 1)) (fun g hg => by cases hg; exact HHW.out)) (grown_set _ h 1 (.int .i64 n2)) (fun g hg => by cases hg; exact HHW.out)) (grown_set _ h 2 (.int .i64 n3)) (fun g hg => by cases hg; exact HHW.out)) (grown_set _ h 3 (.int .i64 n4)) (fun g hg => by cases hg; exact HHW.out)) (grown_set _ h 4 (.int .i64 n5)) (fun g hg => by cases hg; exact HHW.out)) (grown_set _ h 5 (.int .i64 0)) (fun g hg => by cases hg; exact HHW.out)) (grown_set _ h 6 (.string ⟨#[]⟩)) (fun g hg => by cases hg; exact HHW.out)) (grown_set _ h 7 (.string ⟨#[]⟩)) (fun g hg => by cases hg; exact HHW.out)) (grown_set _ h 8 (.int .i64 0)) (fun g hg => by cases hg; exact HHW.out)) (grown_set _ h 9 (.string ⟨#[]⟩)) (fun g hg => by cases hg; exact HHW.out)⟩
            · skip
              have HNO := Lib.hid (sN_no (u := u) (q := (p4, false)) hc)
              refine (num_bad b u p4 _ HR4.out hu hp4 hc).mono ?_
              rintro e wz ⟨rfl, hb⟩
              have HGz := Lib.hid (grown_trans HG4.out (fg_below hb))
              clear hb hc
              go_wp2_with fail
              exact ⟨rfl, Or.inr ⟨okDeed_bad (by simp only [rdDeed, HRC.out, rcConf, HE.out, HE2.out, HE3.out, HE4.out, HNO.out]; try (repeat (first | rfl | refine sN_bad ?_ | refine sT_bad ?_))), rfl⟩, HGz.out⟩
          · skip
            have HNO := Lib.hid (sN_no (u := u) (q := (p3, false)) hc)
            refine (num_bad b u p3 _ HR3.out hu hp3 hc).mono ?_
            rintro e wz ⟨rfl, hb⟩
            have HGz := Lib.hid (grown_trans HG3.out (fg_below hb))
            clear hb hc
            go_wp2_with fail
            exact ⟨rfl, Or.inr ⟨okDeed_bad (by simp only [rdDeed, HRC.out, rcConf, HE.out, HE2.out, HE3.out, HNO.out]; try (repeat (first | rfl | refine sN_bad ?_ | refine sT_bad ?_))), rfl⟩, HGz.out⟩
        · skip
          have HNO := Lib.hid (sN_no (u := u) (q := (p2, false)) hc)
          refine (num_bad b u p2 _ HR2.out hu hp2 hc).mono ?_
          rintro e wz ⟨rfl, hb⟩
          have HGz := Lib.hid (grown_trans HG2.out (fg_below hb))
          clear hb hc
          go_wp2_with fail
          exact ⟨rfl, Or.inr ⟨okDeed_bad (by simp only [rdDeed, HRC.out, rcConf, HE.out, HE2.out, HNO.out]; try (repeat (first | rfl | refine sN_bad ?_ | refine sT_bad ?_))), rfl⟩, HGz.out⟩
      · skip
        have HNO := Lib.hid (sN_no (u := u) (q := (p1, false)) hc)
        refine (num_bad b u p1 _ HR1.out hu hp1 hc).mono ?_
        rintro e wz ⟨rfl, hb⟩
        have HGz := Lib.hid (grown_trans HG1.out (fg_below hb))
        clear hb hc
        go_wp2_with fail
        exact ⟨rfl, Or.inr ⟨okDeed_bad (by simp only [rdDeed, HRC.out, rcConf, HE.out, HNO.out]; try (repeat (first | rfl | refine sN_bad ?_ | refine sT_bad ?_))), rfl⟩, HGz.out⟩
    · skip
      by_cases hk2 : k = 2
      · skip
        subst hk2
        have HRC : Hid (∀ q, rcRest u 2 q = rcTerm u 2 q) := Lib.hid (fun q => by unfold rcRest; simp)
        go_wp2_with fail
        rw [← hV, ← hx]
        clear hV hx
        by_cases hc : (rdS u p1 10 0 0).2.2 = 0
        · skip
          obtain ⟨n2, p2, he2, hy, hp2⟩ := sN_step hc
          have HE2 := Lib.hid he2
          have HY := Lib.hid hy
          clear hc hy he2
          refine (num_ok b u p1 p2 n2 _ HR1.out hu hp1 HY.out).mono ?_
          rintro e w2 ⟨rfl, hr, hg⟩
          have HR2 := Lib.hid hr
          have HY2 := Lib.hid (HY1.out.kept hg hne)
          have HX2 := Lib.hid (HX1.out.kept hg hxb)
          have HG2 := Lib.hid (grown_trans HG1.out hg)
          clear hr hg HY HY1 HX1
          go_wp2_with fail
          by_cases hc : (txtS u p2).2.2 = 0
          · skip
            obtain ⟨t3, p3, he3, hy, hp3, hz3⟩ := sT_step hu hc
            have HZ3 := Lib.hid hz3
            have HE3 := Lib.hid he3
            have HY := Lib.hid hy
            clear hc hy he3 hz3
            refine (text_ok b u p2 p3 t3 _ HR2.out hu hp2 HY.out).mono ?_
            rintro e w3 ⟨rfl, hr, hg⟩
            have HR3 := Lib.hid hr
            have HY3 := Lib.hid (HY2.out.kept hg hne)
            have HX3 := Lib.hid (HX2.out.kept hg hxb)
            have HG3 := Lib.hid (grown_trans HG2.out hg)
            clear hr hg HY HY2 HX2
            have x0 := HX3.out.cell 0 _ rfl
            have fx0 := HX3.out.free 0
            have x1 := HX3.out.cell 1 _ rfl
            have fx1 := HX3.out.free 1
            have x2 := HX3.out.cell 2 _ rfl
            have fx2 := HX3.out.free 2
            have x3 := HX3.out.cell 3 _ rfl
            have fx3 := HX3.out.free 3
            have x4 := HX3.out.cell 4 _ rfl
            have fx4 := HX3.out.free 4
            have x5 := HX3.out.cell 5 _ rfl
            have fx5 := HX3.out.free 5
            have x6 := HX3.out.cell 6 _ rfl
            have fx6 := HX3.out.free 6
            have x7 := HX3.out.cell 7 _ rfl
            have fx7 := HX3.out.free 7
            have x8 := HX3.out.cell 8 _ rfl
            have fx8 := HX3.out.free 8
            have x9 := HX3.out.cell 9 _ rfl
            have fx9 := HX3.out.free 9
            obtain ⟨X, hX⟩ : ∃ X, X = (w3.setCell ⟨x, 5, none⟩ (.int .i64 n2)).setCell ⟨x, 6, none⟩ (.string t3) := ⟨_, rfl⟩
            have HXX := Lib.hid (show BoxC X x [.int .i64 2, .int .i64 0, .int .i64 0, .int .i64 0, .int .i64 0, .int .i64 n2, .string t3, .string ⟨#[]⟩, .int .i64 0, .string ⟨#[]⟩] by rw [hX]; exact ((HX3.out.set (j := 5) (by simp) (.int .i64 n2)).set (j := 6) (by simp) (.string t3)))
            have HRX := Lib.hid (show RB X b u (p3 : Int) by rw [hX]; exact ((HR3.out.other x 5 (.int .i64 n2) hxb).other x 6 (.string t3) hxb))
            have HYX := Lib.hid (show BoxC X h [.int .i64 0, .int .i64 0, .int .i64 0, .int .i64 0, .int .i64 0, .int .i64 0, .string ⟨#[]⟩, .string ⟨#[]⟩, .int .i64 0, .string ⟨#[]⟩] by rw [hX]; exact ((HY3.out.other ⟨x, 5, none⟩ (.int .i64 n2) (by show x ≠ h; omega)).other ⟨x, 6, none⟩ (.string t3) (by show x ≠ h; omega)))
            have HGX := Lib.hid (show w.grownBy X (some b) by rw [hX]; exact grown_own (grown_own (HG3.out) (grown_set _ x 5 _) (fun g hg => by cases hg; have := HHW.out; omega)) (grown_set _ x 6 _) (fun g hg => by cases hg; have := HHW.out; omega))
            have hlx := HX3.out.lt
            clear HR3 HX3 HY3
            go_wp2_with fail
            rw [← hX]
            clear hX x0 fx0 x1 fx1 x2 fx2 x3 fx3 x4 fx4 x5 fx5 x6 fx6 x7 fx7 x8 fx8 x9 fx9 hlx
            refine (implDeedRight_any 2 0 0 0 0 n2 t3 (⟨#[]⟩) 0 (⟨#[]⟩) _ HZ3.out (Nat.zero_le _) (Nat.zero_le _)).mono ?_
            rintro e w9 ⟨rfl, hb⟩
            have HX9 := Lib.hid (HXX.out.below hb)
            have HR9 := Lib.hid (HRX.out.below hb)
            have HY9 := Lib.hid (HYX.out.below hb)
            have HG9 := Lib.hid (grown_trans HGX.out (fg_below hb))
            clear hb HXX HRX HYX HGX
            have HEQ : Hid (rdDeed u (a, false) = (⟨2, 0, 0, 0, 0, n2, t3, ⟨#[]⟩, 0, ⟨#[]⟩⟩, (p3, false))) := Lib.hid (by simp only [rdDeed, HRC.out, rcTerm, HE.out, HE2.out, HE3.out])
            obtain ⟨ob, hob⟩ : ∃ ob, deedB 2 0 0 0 0 n2 t3 (⟨#[]⟩) 0 (⟨#[]⟩) = ob := ⟨_, rfl⟩
            rw [hob]
            have HOB := Lib.hid hob
            clear hob
            cases ob
            · go_wp2_with fail
              refine (must_no _).mono ?_
              rintro e w10 ⟨rfl, rfl⟩
              go_wp2_with fail
              exact ⟨rfl, Or.inr ⟨by unfold okDeed; rw [HEQ.out]; exact HOB.out, rfl⟩, HG9.out⟩
            · go_wp2_with fail
              refine (must_yes _).mono ?_
              rintro e w10 ⟨rfl, rfl⟩
              have x0 := HX9.out.cell 0 _ rfl
              have x1 := HX9.out.cell 1 _ rfl
              have x2 := HX9.out.cell 2 _ rfl
              have x3 := HX9.out.cell 3 _ rfl
              have x4 := HX9.out.cell 4 _ rfl
              have x5 := HX9.out.cell 5 _ rfl
              have x6 := HX9.out.cell 6 _ rfl
              have x7 := HX9.out.cell 7 _ rfl
              have x8 := HX9.out.cell 8 _ rfl
              have x9 := HX9.out.cell 9 _ rfl
              have y0 := HY9.out.cell 0 _ rfl
              have fy0 := HY9.out.free 0
              have y1 := HY9.out.cell 1 _ rfl
              have fy1 := HY9.out.free 1
              have y2 := HY9.out.cell 2 _ rfl
              have fy2 := HY9.out.free 2
              have y3 := HY9.out.cell 3 _ rfl
              have fy3 := HY9.out.free 3
              have y4 := HY9.out.cell 4 _ rfl
              have fy4 := HY9.out.free 4
              have y5 := HY9.out.cell 5 _ rfl
              have fy5 := HY9.out.free 5
              have y6 := HY9.out.cell 6 _ rfl
              have fy6 := HY9.out.free 6
              have y7 := HY9.out.cell 7 _ rfl
              have fy7 := HY9.out.free 7
              have y8 := HY9.out.cell 8 _ rfl
              have fy8 := HY9.out.free 8
              have y9 := HY9.out.cell 9 _ rfl
              have fy9 := HY9.out.free 9
              have hly := HY9.out.lt
              go_wp2_with fail
              exact bodyPost_ret (v := .agg #[.int .i64 2, .int .i64 0, .int .i64 0, .int .i64 0, .int .i64 0, .int .i64 n2, .string t3, .string ⟨#[]⟩, .int .i64 0, .string ⟨#[]⟩]) (by simp [results, Tryz.results46, go_sem, hly, y0, y1, y2, y3, y4, y5, y6, y7, y8, y9]) rfl ⟨Or.inl ⟨by rw [okDeed_iff, HEQ.out]; exact ⟨rfl, HOB.out⟩, by rw [HEQ.out]; rfl, by rw [HEQ.out]; exact ((((((((((HR9.out.other h 0 (.int .i64 2) hne).other h 1 (.int .i64 0) hne).other h 2 (.int .i64 0) hne).other h 3 (.int .i64 0) hne).other h 4 (.int .i64 0) hne).other h 5 (.int .i64 n2) hne).other h 6 (.string t3) hne).other h 7 (.string ⟨#[]⟩) hne).other h 8 (.int .i64 0) hne).other h 9 (.string ⟨#[]⟩) hne)⟩, grown_own (grown_own (grown_own (grown_own (grown_own (grown_own (grown_own (grown_own (grown_own (grown_own (HG9.out) (grown_set _ h 0 (.int .i64 2)) (fun g hg => by cases hg; exact HHW.out)) (grown_set _ h 1 (.int .i64 0)) (fun g hg => by cases hg; exact HHW.out)) (grown_set _ h 2 (.int .i64 0)) (fun g hg => by cases hg; exact HHW.out)) (grown_set _ h 3 (.int .i64 0)) (fun g hg => by cases hg; exact HHW.out)) (grown_set _ h 4 (.int .i64 0)) (fun g hg => by cases hg; exact HHW.out)) (grown_set _ h 5 (.int .i64 n2)) (fun g hg => by cases hg; exact HHW.out)) (grown_set _ h 6 (.string t3)) (fun g hg => by cases hg; exact HHW.out)) (grown_set _ h 7 (.string ⟨#[]⟩)) (fun g hg => by cases hg; exact HHW.out)) (grown_set _ h 8 (.int .i64 0)) (fun g hg => by cases hg; exact HHW.out)) (grown_set _ h 9 (.string ⟨#[]⟩)) (fun g hg => by cases hg; exact HHW.out)⟩
          · skip
            have HNO := Lib.hid (sT_no (u := u) (q := (p2, false)) hc)
            refine (text_bad b u p2 _ HR2.out hu hp2 hc).mono ?_
            rintro e wz ⟨rfl, hb⟩
            have HGz := Lib.hid (grown_trans HG2.out (fg_below hb))
            clear hb hc
            go_wp2_with fail
            exact ⟨rfl, Or.inr ⟨okDeed_bad (by simp only [rdDeed, HRC.out, rcTerm, HE.out, HE2.out, HNO.out]; try (repeat (first | rfl | refine sN_bad ?_ | refine sT_bad ?_))), rfl⟩, HGz.out⟩
        · skip
          have HNO := Lib.hid (sN_no (u := u) (q := (p1, false)) hc)
          refine (num_bad b u p1 _ HR1.out hu hp1 hc).mono ?_
          rintro e wz ⟨rfl, hb⟩
          have HGz := Lib.hid (grown_trans HG1.out (fg_below hb))
          clear hb hc
          go_wp2_with fail
          exact ⟨rfl, Or.inr ⟨okDeed_bad (by simp only [rdDeed, HRC.out, rcTerm, HE.out, HNO.out]; try (repeat (first | rfl | refine sN_bad ?_ | refine sT_bad ?_))), rfl⟩, HGz.out⟩
      · skip
        by_cases hk3 : k = 3
        · skip
          subst hk3
          have HRC : Hid (∀ q, rcRest u 3 q = rcPut u 3 q) := Lib.hid (fun q => by unfold rcRest; simp)
          go_wp2_with fail
          rw [← hV, ← hx]
          clear hV hx
          by_cases hc : (txtS u p1).2.2 = 0
          · skip
            obtain ⟨t2, p2, he2, hy, hp2, hz2⟩ := sT_step hu hc
            have HZ2 := Lib.hid hz2
            have HE2 := Lib.hid he2
            have HY := Lib.hid hy
            clear hc hy he2 hz2
            refine (text_ok b u p1 p2 t2 _ HR1.out hu hp1 HY.out).mono ?_
            rintro e w2 ⟨rfl, hr, hg⟩
            have HR2 := Lib.hid hr
            have HY2 := Lib.hid (HY1.out.kept hg hne)
            have HX2 := Lib.hid (HX1.out.kept hg hxb)
            have HG2 := Lib.hid (grown_trans HG1.out hg)
            clear hr hg HY HY1 HX1
            go_wp2_with fail
            by_cases hc : (rdS u p2 10 0 0).2.2 = 0
            · skip
              obtain ⟨n3, p3, he3, hy, hp3⟩ := sN_step hc
              have HE3 := Lib.hid he3
              have HY := Lib.hid hy
              clear hc hy he3
              refine (num_ok b u p2 p3 n3 _ HR2.out hu hp2 HY.out).mono ?_
              rintro e w3 ⟨rfl, hr, hg⟩
              have HR3 := Lib.hid hr
              have HY3 := Lib.hid (HY2.out.kept hg hne)
              have HX3 := Lib.hid (HX2.out.kept hg hxb)
              have HG3 := Lib.hid (grown_trans HG2.out hg)
              clear hr hg HY HY2 HX2
              go_wp2_with fail
              by_cases hc : (txtS u p3).2.2 = 0
              · skip
                obtain ⟨t4, p4, he4, hy, hp4, hz4⟩ := sT_step hu hc
                have HZ4 := Lib.hid hz4
                have HE4 := Lib.hid he4
                have HY := Lib.hid hy
                clear hc hy he4 hz4
                refine (text_ok b u p3 p4 t4 _ HR3.out hu hp3 HY.out).mono ?_
                rintro e w4 ⟨rfl, hr, hg⟩
                have HR4 := Lib.hid hr
                have HY4 := Lib.hid (HY3.out.kept hg hne)
                have HX4 := Lib.hid (HX3.out.kept hg hxb)
                have HG4 := Lib.hid (grown_trans HG3.out hg)
                clear hr hg HY HY3 HX3
                have x0 := HX4.out.cell 0 _ rfl
                have fx0 := HX4.out.free 0
                have x1 := HX4.out.cell 1 _ rfl
                have fx1 := HX4.out.free 1
                have x2 := HX4.out.cell 2 _ rfl
                have fx2 := HX4.out.free 2
                have x3 := HX4.out.cell 3 _ rfl
                have fx3 := HX4.out.free 3
                have x4 := HX4.out.cell 4 _ rfl
                have fx4 := HX4.out.free 4
                have x5 := HX4.out.cell 5 _ rfl
                have fx5 := HX4.out.free 5
                have x6 := HX4.out.cell 6 _ rfl
                have fx6 := HX4.out.free 6
                have x7 := HX4.out.cell 7 _ rfl
                have fx7 := HX4.out.free 7
                have x8 := HX4.out.cell 8 _ rfl
                have fx8 := HX4.out.free 8
                have x9 := HX4.out.cell 9 _ rfl
                have fx9 := HX4.out.free 9
                obtain ⟨X, hX⟩ : ∃ X, X = ((w4.setCell ⟨x, 7, none⟩ (.string t2)).setCell ⟨x, 8, none⟩ (.int .i64 n3)).setCell ⟨x, 9, none⟩ (.string t4) := ⟨_, rfl⟩
                have HXX := Lib.hid (show BoxC X x [.int .i64 3, .int .i64 0, .int .i64 0, .int .i64 0, .int .i64 0, .int .i64 0, .string ⟨#[]⟩, .string t2, .int .i64 n3, .string t4] by rw [hX]; exact (((HX4.out.set (j := 7) (by simp) (.string t2)).set (j := 8) (by simp) (.int .i64 n3)).set (j := 9) (by simp) (.string t4)))
                have HRX := Lib.hid (show RB X b u (p4 : Int) by rw [hX]; exact (((HR4.out.other x 7 (.string t2) hxb).other x 8 (.int .i64 n3) hxb).other x 9 (.string t4) hxb))
                have HYX := Lib.hid (show BoxC X h [.int .i64 0, .int .i64 0, .int .i64 0, .int .i64 0, .int .i64 0, .int .i64 0, .string ⟨#[]⟩, .string ⟨#[]⟩, .int .i64 0, .string ⟨#[]⟩] by rw [hX]; exact (((HY4.out.other ⟨x, 7, none⟩ (.string t2) (by show x ≠ h; omega)).other ⟨x, 8, none⟩ (.int .i64 n3) (by show x ≠ h; omega)).other ⟨x, 9, none⟩ (.string t4) (by show x ≠ h; omega)))
                have HGX := Lib.hid (show w.grownBy X (some b) by rw [hX]; exact grown_own (grown_own (grown_own (HG4.out) (grown_set _ x 7 _) (fun g hg => by cases hg; have := HHW.out; omega)) (grown_set _ x 8 _) (fun g hg => by cases hg; have := HHW.out; omega)) (grown_set _ x 9 _) (fun g hg => by cases hg; have := HHW.out; omega))
                have hlx := HX4.out.lt
                clear HR4 HX4 HY4
                go_wp2_with fail
                rw [← hX]
                clear hX x0 fx0 x1 fx1 x2 fx2 x3 fx3 x4 fx4 x5 fx5 x6 fx6 x7 fx7 x8 fx8 x9 fx9 hlx
                refine (implDeedRight_any 3 0 0 0 0 0 (⟨#[]⟩) t2 n3 t4 _ (Nat.zero_le _) HZ2.out HZ4.out).mono ?_
                rintro e w9 ⟨rfl, hb⟩
                have HX9 := Lib.hid (HXX.out.below hb)
                have HR9 := Lib.hid (HRX.out.below hb)
                have HY9 := Lib.hid (HYX.out.below hb)
                have HG9 := Lib.hid (grown_trans HGX.out (fg_below hb))
                clear hb HXX HRX HYX HGX
                have HEQ : Hid (rdDeed u (a, false) = (⟨3, 0, 0, 0, 0, 0, ⟨#[]⟩, t2, n3, t4⟩, (p4, false))) := Lib.hid (by simp only [rdDeed, HRC.out, rcPut, HE.out, HE2.out, HE3.out, HE4.out])
                obtain ⟨ob, hob⟩ : ∃ ob, deedB 3 0 0 0 0 0 (⟨#[]⟩) t2 n3 t4 = ob := ⟨_, rfl⟩
                rw [hob]
                have HOB := Lib.hid hob
                clear hob
                cases ob
                · go_wp2_with fail
                  refine (must_no _).mono ?_
                  rintro e w10 ⟨rfl, rfl⟩
                  go_wp2_with fail
                  exact ⟨rfl, Or.inr ⟨by unfold okDeed; rw [HEQ.out]; exact HOB.out, rfl⟩, HG9.out⟩
                · go_wp2_with fail
                  refine (must_yes _).mono ?_
                  rintro e w10 ⟨rfl, rfl⟩
                  have x0 := HX9.out.cell 0 _ rfl
                  have x1 := HX9.out.cell 1 _ rfl
                  have x2 := HX9.out.cell 2 _ rfl
                  have x3 := HX9.out.cell 3 _ rfl
                  have x4 := HX9.out.cell 4 _ rfl
                  have x5 := HX9.out.cell 5 _ rfl
                  have x6 := HX9.out.cell 6 _ rfl
                  have x7 := HX9.out.cell 7 _ rfl
                  have x8 := HX9.out.cell 8 _ rfl
                  have x9 := HX9.out.cell 9 _ rfl
                  have y0 := HY9.out.cell 0 _ rfl
                  have fy0 := HY9.out.free 0
                  have y1 := HY9.out.cell 1 _ rfl
                  have fy1 := HY9.out.free 1
                  have y2 := HY9.out.cell 2 _ rfl
                  have fy2 := HY9.out.free 2
                  have y3 := HY9.out.cell 3 _ rfl
                  have fy3 := HY9.out.free 3
                  have y4 := HY9.out.cell 4 _ rfl
                  have fy4 := HY9.out.free 4
                  have y5 := HY9.out.cell 5 _ rfl
                  have fy5 := HY9.out.free 5
                  have y6 := HY9.out.cell 6 _ rfl
                  have fy6 := HY9.out.free 6
                  have y7 := HY9.out.cell 7 _ rfl
                  have fy7 := HY9.out.free 7
                  have y8 := HY9.out.cell 8 _ rfl
                  have fy8 := HY9.out.free 8
                  have y9 := HY9.out.cell 9 _ rfl
                  have fy9 := HY9.out.free 9
                  have hly := HY9.out.lt
                  go_wp2_with fail
                  exact bodyPost_ret (v := .agg #[.int .i64 3, .int .i64 0, .int .i64 0, .int .i64 0, .int .i64 0, .int .i64 0, .string ⟨#[]⟩, .string t2, .int .i64 n3, .string t4]) (by simp [results, Tryz.results46, go_sem, hly, y0, y1, y2, y3, y4, y5, y6, y7, y8, y9]) rfl ⟨Or.inl ⟨by rw [okDeed_iff, HEQ.out]; exact ⟨rfl, HOB.out⟩, by rw [HEQ.out]; rfl, by rw [HEQ.out]; exact ((((((((((HR9.out.other h 0 (.int .i64 3) hne).other h 1 (.int .i64 0) hne).other h 2 (.int .i64 0) hne).other h 3 (.int .i64 0) hne).other h 4 (.int .i64 0) hne).other h 5 (.int .i64 0) hne).other h 6 (.string ⟨#[]⟩) hne).other h 7 (.string t2) hne).other h 8 (.int .i64 n3) hne).other h 9 (.string t4) hne)⟩, grown_own (grown_own (grown_own (grown_own (grown_own (grown_own (grown_own (grown_own (grown_own (grown_own (HG9.out) (grown_set _ h 0 (.int .i64 3)) (fun g hg => by cases hg; exact HHW.out)) (grown_set _ h 1 (.int .i64 0)) (fun g hg => by cases hg; exact HHW.out)) (grown_set _ h 2 (.int .i64 0)) (fun g hg => by cases hg; exact HHW.out)) (grown_set _ h 3 (.int .i64 0)) (fun g hg => by cases hg; exact HHW.out)) (grown_set _ h 4 (.int .i64 0)) (fun g hg => by cases hg; exact HHW.out)) (grown_set _ h 5 (.int .i64 0)) (fun g hg => by cases hg; exact HHW.out)) (grown_set _ h 6 (.string ⟨#[]⟩)) (fun g hg => by cases hg; exact HHW.out)) (grown_set _ h 7 (.string t2)) (fun g hg => by cases hg; exact HHW.out)) (grown_set _ h 8 (.int .i64 n3)) (fun g hg => by cases hg; exact HHW.out)) (grown_set _ h 9 (.string t4)) (fun g hg => by cases hg; exact HHW.out)⟩
              · skip
                have HNO := Lib.hid (sT_no (u := u) (q := (p3, false)) hc)
                refine (text_bad b u p3 _ HR3.out hu hp3 hc).mono ?_
                rintro e wz ⟨rfl, hb⟩
                have HGz := Lib.hid (grown_trans HG3.out (fg_below hb))
                clear hb hc
                go_wp2_with fail
                exact ⟨rfl, Or.inr ⟨okDeed_bad (by simp only [rdDeed, HRC.out, rcPut, HE.out, HE2.out, HE3.out, HNO.out]; try (repeat (first | rfl | refine sN_bad ?_ | refine sT_bad ?_))), rfl⟩, HGz.out⟩
            · skip
              have HNO := Lib.hid (sN_no (u := u) (q := (p2, false)) hc)
              refine (num_bad b u p2 _ HR2.out hu hp2 hc).mono ?_
              rintro e wz ⟨rfl, hb⟩
              have HGz := Lib.hid (grown_trans HG2.out (fg_below hb))
              clear hb hc
              go_wp2_with fail
              exact ⟨rfl, Or.inr ⟨okDeed_bad (by simp only [rdDeed, HRC.out, rcPut, HE.out, HE2.out, HNO.out]; try (repeat (first | rfl | refine sN_bad ?_ | refine sT_bad ?_))), rfl⟩, HGz.out⟩
          · skip
            have HNO := Lib.hid (sT_no (u := u) (q := (p1, false)) hc)
            refine (text_bad b u p1 _ HR1.out hu hp1 hc).mono ?_
            rintro e wz ⟨rfl, hb⟩
            have HGz := Lib.hid (grown_trans HG1.out (fg_below hb))
            clear hb hc
            go_wp2_with fail
            exact ⟨rfl, Or.inr ⟨okDeed_bad (by simp only [rdDeed, HRC.out, rcPut, HE.out, HNO.out]; try (repeat (first | rfl | refine sN_bad ?_ | refine sT_bad ?_))), rfl⟩, HGz.out⟩
        · skip
          by_cases hk4 : k = 4
          · skip
            subst hk4
            have HRC : Hid (∀ q, rcRest u 4 q = rcDel u 4 q) := Lib.hid (fun q => by unfold rcRest; simp)
            go_wp2_with fail
            rw [← hV, ← hx]
            clear hV hx
            by_cases hc : (txtS u p1).2.2 = 0
            · skip
              obtain ⟨t2, p2, he2, hy, hp2, hz2⟩ := sT_step hu hc
              have HZ2 := Lib.hid hz2
              have HE2 := Lib.hid he2
              have HY := Lib.hid hy
              clear hc hy he2 hz2
              refine (text_ok b u p1 p2 t2 _ HR1.out hu hp1 HY.out).mono ?_
              rintro e w2 ⟨rfl, hr, hg⟩
              have HR2 := Lib.hid hr
              have HY2 := Lib.hid (HY1.out.kept hg hne)
              have HX2 := Lib.hid (HX1.out.kept hg hxb)
              have HG2 := Lib.hid (grown_trans HG1.out hg)
              clear hr hg HY HY1 HX1
              have x0 := HX2.out.cell 0 _ rfl
              have fx0 := HX2.out.free 0
              have x1 := HX2.out.cell 1 _ rfl
              have fx1 := HX2.out.free 1
              have x2 := HX2.out.cell 2 _ rfl
              have fx2 := HX2.out.free 2
              have x3 := HX2.out.cell 3 _ rfl
              have fx3 := HX2.out.free 3
              have x4 := HX2.out.cell 4 _ rfl
              have fx4 := HX2.out.free 4
              have x5 := HX2.out.cell 5 _ rfl
              have fx5 := HX2.out.free 5
              have x6 := HX2.out.cell 6 _ rfl
              have fx6 := HX2.out.free 6
              have x7 := HX2.out.cell 7 _ rfl
              have fx7 := HX2.out.free 7
              have x8 := HX2.out.cell 8 _ rfl
              have fx8 := HX2.out.free 8
              have x9 := HX2.out.cell 9 _ rfl
              have fx9 := HX2.out.free 9
              obtain ⟨X, hX⟩ : ∃ X, X = w2.setCell ⟨x, 7, none⟩ (.string t2) := ⟨_, rfl⟩
              have HXX := Lib.hid (show BoxC X x [.int .i64 4, .int .i64 0, .int .i64 0, .int .i64 0, .int .i64 0, .int .i64 0, .string ⟨#[]⟩, .string t2, .int .i64 0, .string ⟨#[]⟩] by rw [hX]; exact (HX2.out.set (j := 7) (by simp) (.string t2)))
              have HRX := Lib.hid (show RB X b u (p2 : Int) by rw [hX]; exact (HR2.out.other x 7 (.string t2) hxb))
              have HYX := Lib.hid (show BoxC X h [.int .i64 0, .int .i64 0, .int .i64 0, .int .i64 0, .int .i64 0, .int .i64 0, .string ⟨#[]⟩, .string ⟨#[]⟩, .int .i64 0, .string ⟨#[]⟩] by rw [hX]; exact (HY2.out.other ⟨x, 7, none⟩ (.string t2) (by show x ≠ h; omega)))
              have HGX := Lib.hid (show w.grownBy X (some b) by rw [hX]; exact grown_own (HG2.out) (grown_set _ x 7 _) (fun g hg => by cases hg; have := HHW.out; omega))
              have hlx := HX2.out.lt
              clear HR2 HX2 HY2
              go_wp2_with fail
              rw [← hX]
              clear hX x0 fx0 x1 fx1 x2 fx2 x3 fx3 x4 fx4 x5 fx5 x6 fx6 x7 fx7 x8 fx8 x9 fx9 hlx
              refine (implDeedRight_any 4 0 0 0 0 0 (⟨#[]⟩) t2 0 (⟨#[]⟩) _ (Nat.zero_le _) HZ2.out (Nat.zero_le _)).mono ?_
              rintro e w9 ⟨rfl, hb⟩
              have HX9 := Lib.hid (HXX.out.below hb)
              have HR9 := Lib.hid (HRX.out.below hb)
              have HY9 := Lib.hid (HYX.out.below hb)
              have HG9 := Lib.hid (grown_trans HGX.out (fg_below hb))
              clear hb HXX HRX HYX HGX
              have HEQ : Hid (rdDeed u (a, false) = (⟨4, 0, 0, 0, 0, 0, ⟨#[]⟩, t2, 0, ⟨#[]⟩⟩, (p2, false))) := Lib.hid (by simp only [rdDeed, HRC.out, rcDel, HE.out, HE2.out])
              obtain ⟨ob, hob⟩ : ∃ ob, deedB 4 0 0 0 0 0 (⟨#[]⟩) t2 0 (⟨#[]⟩) = ob := ⟨_, rfl⟩
              rw [hob]
              have HOB := Lib.hid hob
              clear hob
              cases ob
              · go_wp2_with fail
                refine (must_no _).mono ?_
                rintro e w10 ⟨rfl, rfl⟩
                go_wp2_with fail
                exact ⟨rfl, Or.inr ⟨by unfold okDeed; rw [HEQ.out]; exact HOB.out, rfl⟩, HG9.out⟩
              · go_wp2_with fail
                refine (must_yes _).mono ?_
                rintro e w10 ⟨rfl, rfl⟩
                have x0 := HX9.out.cell 0 _ rfl
                have x1 := HX9.out.cell 1 _ rfl
                have x2 := HX9.out.cell 2 _ rfl
                have x3 := HX9.out.cell 3 _ rfl
                have x4 := HX9.out.cell 4 _ rfl
                have x5 := HX9.out.cell 5 _ rfl
                have x6 := HX9.out.cell 6 _ rfl
                have x7 := HX9.out.cell 7 _ rfl
                have x8 := HX9.out.cell 8 _ rfl
                have x9 := HX9.out.cell 9 _ rfl
                have y0 := HY9.out.cell 0 _ rfl
                have fy0 := HY9.out.free 0
                have y1 := HY9.out.cell 1 _ rfl
                have fy1 := HY9.out.free 1
                have y2 := HY9.out.cell 2 _ rfl
                have fy2 := HY9.out.free 2
                have y3 := HY9.out.cell 3 _ rfl
                have fy3 := HY9.out.free 3
                have y4 := HY9.out.cell 4 _ rfl
                have fy4 := HY9.out.free 4
                have y5 := HY9.out.cell 5 _ rfl
                have fy5 := HY9.out.free 5
                have y6 := HY9.out.cell 6 _ rfl
                have fy6 := HY9.out.free 6
                have y7 := HY9.out.cell 7 _ rfl
                have fy7 := HY9.out.free 7
                have y8 := HY9.out.cell 8 _ rfl
                have fy8 := HY9.out.free 8
                have y9 := HY9.out.cell 9 _ rfl
                have fy9 := HY9.out.free 9
                have hly := HY9.out.lt
                go_wp2_with fail
                exact bodyPost_ret (v := .agg #[.int .i64 4, .int .i64 0, .int .i64 0, .int .i64 0, .int .i64 0, .int .i64 0, .string ⟨#[]⟩, .string t2, .int .i64 0, .string ⟨#[]⟩]) (by simp [results, Tryz.results46, go_sem, hly, y0, y1, y2, y3, y4, y5, y6, y7, y8, y9]) rfl ⟨Or.inl ⟨by rw [okDeed_iff, HEQ.out]; exact ⟨rfl, HOB.out⟩, by rw [HEQ.out]; rfl, by rw [HEQ.out]; exact ((((((((((HR9.out.other h 0 (.int .i64 4) hne).other h 1 (.int .i64 0) hne).other h 2 (.int .i64 0) hne).other h 3 (.int .i64 0) hne).other h 4 (.int .i64 0) hne).other h 5 (.int .i64 0) hne).other h 6 (.string ⟨#[]⟩) hne).other h 7 (.string t2) hne).other h 8 (.int .i64 0) hne).other h 9 (.string ⟨#[]⟩) hne)⟩, grown_own (grown_own (grown_own (grown_own (grown_own (grown_own (grown_own (grown_own (grown_own (grown_own (HG9.out) (grown_set _ h 0 (.int .i64 4)) (fun g hg => by cases hg; exact HHW.out)) (grown_set _ h 1 (.int .i64 0)) (fun g hg => by cases hg; exact HHW.out)) (grown_set _ h 2 (.int .i64 0)) (fun g hg => by cases hg; exact HHW.out)) (grown_set _ h 3 (.int .i64 0)) (fun g hg => by cases hg; exact HHW.out)) (grown_set _ h 4 (.int .i64 0)) (fun g hg => by cases hg; exact HHW.out)) (grown_set _ h 5 (.int .i64 0)) (fun g hg => by cases hg; exact HHW.out)) (grown_set _ h 6 (.string ⟨#[]⟩)) (fun g hg => by cases hg; exact HHW.out)) (grown_set _ h 7 (.string t2)) (fun g hg => by cases hg; exact HHW.out)) (grown_set _ h 8 (.int .i64 0)) (fun g hg => by cases hg; exact HHW.out)) (grown_set _ h 9 (.string ⟨#[]⟩)) (fun g hg => by cases hg; exact HHW.out)⟩
            · skip
              have HNO := Lib.hid (sT_no (u := u) (q := (p1, false)) hc)
              refine (text_bad b u p1 _ HR1.out hu hp1 hc).mono ?_
              rintro e wz ⟨rfl, hb⟩
              have HGz := Lib.hid (grown_trans HG1.out (fg_below hb))
              clear hb hc
              go_wp2_with fail
              exact ⟨rfl, Or.inr ⟨okDeed_bad (by simp only [rdDeed, HRC.out, rcDel, HE.out, HNO.out]; try (repeat (first | rfl | refine sN_bad ?_ | refine sT_bad ?_))), rfl⟩, HGz.out⟩
          · skip
            have ka : (k == 1) = false := by simp [hk1]
            have kb : (k == 2) = false := by simp [hk2]
            have kc : (k == 3) = false := by simp [hk3]
            have kd : (k == 4) = false := by simp [hk4]
            have HRC : Hid (∀ q, rcRest u k q = rcNone k q) := Lib.hid (fun q => by unfold rcRest; simp [hk1, hk2, hk3, hk4])
            go_wp2_with fail
            rw [← hV, ← hx]
            clear hV hx
            have HXX := HX1
            have HRX := HR1
            have HYX := HY1
            have HGX := HG1
            refine (implDeedRight_any k 0 0 0 0 0 (⟨#[]⟩) (⟨#[]⟩) 0 (⟨#[]⟩) _ (Nat.zero_le _) (Nat.zero_le _) (Nat.zero_le _)).mono ?_
            rintro e w9 ⟨rfl, hb⟩
            have HX9 := Lib.hid (HXX.out.below hb)
            have HR9 := Lib.hid (HRX.out.below hb)
            have HY9 := Lib.hid (HYX.out.below hb)
            have HG9 := Lib.hid (grown_trans HGX.out (fg_below hb))
            clear hb HXX HRX HYX HGX
            have HEQ : Hid (rdDeed u (a, false) = (⟨k, 0, 0, 0, 0, 0, ⟨#[]⟩, ⟨#[]⟩, 0, ⟨#[]⟩⟩, (p1, false))) := Lib.hid (by simp only [rdDeed, HRC.out, rcNone, HE.out])
            obtain ⟨ob, hob⟩ : ∃ ob, deedB k 0 0 0 0 0 (⟨#[]⟩) (⟨#[]⟩) 0 (⟨#[]⟩) = ob := ⟨_, rfl⟩
            rw [hob]
            have HOB := Lib.hid hob
            clear hob
            cases ob
            · go_wp2_with fail
              refine (must_no _).mono ?_
              rintro e w10 ⟨rfl, rfl⟩
              go_wp2_with fail
              exact ⟨rfl, Or.inr ⟨by unfold okDeed; rw [HEQ.out]; exact HOB.out, rfl⟩, HG9.out⟩
            · go_wp2_with fail
              refine (must_yes _).mono ?_
              rintro e w10 ⟨rfl, rfl⟩
              have x0 := HX9.out.cell 0 _ rfl
              have x1 := HX9.out.cell 1 _ rfl
              have x2 := HX9.out.cell 2 _ rfl
              have x3 := HX9.out.cell 3 _ rfl
              have x4 := HX9.out.cell 4 _ rfl
              have x5 := HX9.out.cell 5 _ rfl
              have x6 := HX9.out.cell 6 _ rfl
              have x7 := HX9.out.cell 7 _ rfl
              have x8 := HX9.out.cell 8 _ rfl
              have x9 := HX9.out.cell 9 _ rfl
              have y0 := HY9.out.cell 0 _ rfl
              have fy0 := HY9.out.free 0
              have y1 := HY9.out.cell 1 _ rfl
              have fy1 := HY9.out.free 1
              have y2 := HY9.out.cell 2 _ rfl
              have fy2 := HY9.out.free 2
              have y3 := HY9.out.cell 3 _ rfl
              have fy3 := HY9.out.free 3
              have y4 := HY9.out.cell 4 _ rfl
              have fy4 := HY9.out.free 4
              have y5 := HY9.out.cell 5 _ rfl
              have fy5 := HY9.out.free 5
              have y6 := HY9.out.cell 6 _ rfl
              have fy6 := HY9.out.free 6
              have y7 := HY9.out.cell 7 _ rfl
              have fy7 := HY9.out.free 7
              have y8 := HY9.out.cell 8 _ rfl
              have fy8 := HY9.out.free 8
              have y9 := HY9.out.cell 9 _ rfl
              have fy9 := HY9.out.free 9
              have hly := HY9.out.lt
              go_wp2_with fail
              exact bodyPost_ret (v := .agg #[.int .i64 k, .int .i64 0, .int .i64 0, .int .i64 0, .int .i64 0, .int .i64 0, .string ⟨#[]⟩, .string ⟨#[]⟩, .int .i64 0, .string ⟨#[]⟩]) (by simp [results, Tryz.results46, go_sem, hly, y0, y1, y2, y3, y4, y5, y6, y7, y8, y9]) rfl ⟨Or.inl ⟨by rw [okDeed_iff, HEQ.out]; exact ⟨rfl, HOB.out⟩, by rw [HEQ.out]; rfl, by rw [HEQ.out]; exact ((((((((((HR9.out.other h 0 (.int .i64 k) hne).other h 1 (.int .i64 0) hne).other h 2 (.int .i64 0) hne).other h 3 (.int .i64 0) hne).other h 4 (.int .i64 0) hne).other h 5 (.int .i64 0) hne).other h 6 (.string ⟨#[]⟩) hne).other h 7 (.string ⟨#[]⟩) hne).other h 8 (.int .i64 0) hne).other h 9 (.string ⟨#[]⟩) hne)⟩, grown_own (grown_own (grown_own (grown_own (grown_own (grown_own (grown_own (grown_own (grown_own (grown_own (HG9.out) (grown_set _ h 0 (.int .i64 k)) (fun g hg => by cases hg; exact HHW.out)) (grown_set _ h 1 (.int .i64 0)) (fun g hg => by cases hg; exact HHW.out)) (grown_set _ h 2 (.int .i64 0)) (fun g hg => by cases hg; exact HHW.out)) (grown_set _ h 3 (.int .i64 0)) (fun g hg => by cases hg; exact HHW.out)) (grown_set _ h 4 (.int .i64 0)) (fun g hg => by cases hg; exact HHW.out)) (grown_set _ h 5 (.int .i64 0)) (fun g hg => by cases hg; exact HHW.out)) (grown_set _ h 6 (.string ⟨#[]⟩)) (fun g hg => by cases hg; exact HHW.out)) (grown_set _ h 7 (.string ⟨#[]⟩)) (fun g hg => by cases hg; exact HHW.out)) (grown_set _ h 8 (.int .i64 0)) (fun g hg => by cases hg; exact HHW.out)) (grown_set _ h 9 (.string ⟨#[]⟩)) (fun g hg => by cases hg; exact HHW.out)⟩
  · skip
    have HNO := Lib.hid (sN_no (u := u) (q := (a, false)) hc)
    refine (num_bad b u a _ HR0.out hu ha hc).mono ?_
    rintro e wz ⟨rfl, hb⟩
    have HGz := Lib.hid (grown_trans HG0.out (fg_below hb))
    clear hb hc
    go_wp2_with fail
    exact ⟨rfl, Or.inr ⟨okDeed_bad (by simp [rdDeed, HNO.out, rcRest, rcNone]), rfl⟩, HGz.out⟩
end Go.Proofs.YtnoefpkhbllmiaaGreatDoor
namespace Go.Proofs.YtnoefpkhbllmiaaGreatDoor
open Go.RowKit Go.PlainAid G MGet MGF IRow MNum MJoin
set_option linter.unusedVariables false
set_option maxRecDepth 100000 in
theorem catchQ_panicking (h : Nat) (c : Int) (v0 : Value) (w : World) (h0 : w.cell? ⟨h, 0, none⟩ = some v0) (hf : w.frozen? ⟨h, 0, none⟩ = false) :
    CallsD Tryz.prog 42 #[.pointer (some ⟨h, 0, none⟩)] (.panicking [{ v := errV c, recovered := false }]) w fun e u' w' => e = .returned (.tuple #[]) ∧ u' = .panicking [{ v := errV c, recovered := true }] ∧ w'.cell? ⟨h, 0, none⟩ = some (.slice none 0 0) ∧ Below h w w' := by
  have hg : ∀ u : World, (eqGuard BinOp.neq 20 (.tmp 1) (.const .nilIface) (errV c) .nilIface).run Tryz.prog u = .ok () u := fun u => by kernel_rfl
  have hb : ∀ u : World, (binOp BinOp.neq 20 (errV c) .nilIface).run Tryz.prog u = .ok (.bool true) u := fun u => by kernel_rfl
  have hlt : h < w.heap.size := by
    rcases Nat.lt_or_ge h w.heap.size with h2 | h2
    · exact h2
    · simp [World.cell?, Array.getElem?_eq_none h2] at h0
  refine callsD_of_wpS Tryz.func42 rfl fun c₀ cs hu => ?_
  apply wpS_seq
  apply wpS_region
  simp [wpOpsS, go_sem, recoverD, hu, Tryz.ntmps42, Exit.thenS, hg, hb]
  change Code.wpS _ _ _ { tmps := #[.pointer (some ⟨h, 0, none⟩), errV c, .bool true], defers := [] } _ _
  refine wpS_of_wp ?_
  go_wp2_with fail
  exact ⟨rfl, _, rfl, .tuple #[], by simp [results, Tryz.results42, go_sem], rfl, rfl, World.cell?_setCell_same _ _ _ h0, (Below.refl _ _).setCell (p := ⟨h, 0, none⟩) (Nat.le_refl _) _⟩
set_option maxRecDepth 100000 in
theorem catchQ_idle (h : Nat) (w : World) :
    CallsD Tryz.prog 42 #[.pointer (some ⟨h, 0, none⟩)] .returning w fun e u' w' => e = .returned (.tuple #[]) ∧ u' = .returning ∧ w' = w := by
  refine callsD_of_wpS Tryz.func42 rfl fun c₀ cs hu => ?_
  apply wpS_seq
  apply wpS_region
  simp [wpOpsS, go_sem, recoverD, hu, Tryz.ntmps42, Exit.thenS]
  change Code.wpS _ _ _ { tmps := #[.pointer (some ⟨h, 0, none⟩), .nilIface, .bool false], defers := [] } _ _
  refine wpS_of_wp ?_
  go_wp2_with fail
  refine ⟨rfl, .returning, ?_, .tuple #[], by simp [results, Tryz.results42, go_sem], rfl, rfl, rfl⟩
  cases c₀
  simp_all
theorem sN_le {u : ByteArray} {q : Plc} (h : q.1 ≤ u.size) : (sN u q).2.1 ≤ u.size := by
  by_cases hc : (rdS u q.1 10 0 0).2.2 = 0
  · exact (sN_yes hc).2.2
  · rw [sN_no hc]; exact h
theorem sT_le {u : ByteArray} {q : Plc} (h : q.1 ≤ u.size) : (sT u q).2.1 ≤ u.size := by
  by_cases hc : (txtS u q.1).2.2 = 0
  · exact (sT_yes hc).2.2
  · rw [sT_no hc]; exact h
theorem rdDeed_le {u : ByteArray} {q : Plc} (h : q.1 ≤ u.size) : (rdDeed u q).2.1 ≤ u.size := by
  unfold rdDeed rcRest
  have h1 := sN_le h
  split
  · exact sN_le (sN_le (sN_le (sN_le h1)))
  · split
    · exact sT_le (sN_le h1)
    · split
      · exact sT_le (sN_le (sT_le h1))
      · split
        · exact sT_le h1
        · exact h1
theorem RB.drew {w : World} {b : Nat} {u : ByteArray} {p : Int} (k : RB w b u p) : RB w.drew b u p := ⟨k.lt, k.c0, k.c1, k.free⟩
section
variable {P : Program} {ops : Array Oper} {md : Region.Mode} {Q : Exit → Act → World → Prop}
theorem any_two {i j k : Nat} {listed : Array Bool} {a : Act} {w : World} (hr : Region.ready md ops listed = [i, j]) (h1 : wpOp P ops Q i (fun a' w' => wpAny P md ops Q k (listed.setIfInBounds i true) a' w') a w) (h2 : wpOp P ops Q j (fun a' w' => wpAny P md ops Q k (listed.setIfInBounds j true) a' w') a w) : wpAny P md ops Q (k + 1) listed a w := by
  refine ⟨fun h0 => (by rw [hr] at h0; cases h0), fun m hm => ?_⟩
  rw [hr] at hm
  rcases List.mem_cons.1 hm with rfl | hm
  · exact h1
  · obtain rfl : m = j := by simpa using hm
    exact h2
theorem any_one {i k : Nat} {listed : Array Bool} {a : Act} {w : World} (hr : Region.ready md ops listed = [i]) (h1 : wpOp P ops Q i (fun a' w' => wpAny P md ops Q k (listed.setIfInBounds i true) a' w') a w) : wpAny P md ops Q (k + 1) listed a w := by
  refine ⟨fun h0 => (by rw [hr] at h0; cases h0), fun m hm => ?_⟩
  rw [hr] at hm
  obtain rfl : m = i := by simpa using hm
  exact h1
theorem op_value {i : Nat} {o : Oper} {K : Act → World → Prop} {a : Act} {w : World} {v : Value} (ho : ops[i]? = some o) (hg : o.guard = none) (he : (execOp a.eval o).run P w = .ok (.value v) w) (h : K (a.put o.dst v) w) : wpOp P ops Q i K a w :=
  TillZ.opZ_wp ⟨o, ho, hg, by rw [he]; exact h⟩
theorem region_any {id : Nat} {a : Act} {w : World} (hm : P.follows .mixedOrders = true) (h : wpAny P .any ops Q ops.size (Array.replicate ops.size false) a w.drew) : (Code.region id ops true).wp P Q a w := wp_region_any hm h
/-- A call that panics. -/
theorem op_panic {i : Nat} {o : Oper} {K : Act → World → Prop} {a : Act} {w : World} {f : FuncId} {args : Array Value} (ho : ops[i]? = some o) (hg : o.guard = none) (he : (execOp a.eval o).run P w = .ok (.enter f args) w)
    (h : Calls P f args w fun e w'' => ∃ ch, e = .panicked ch ∧ Q (.panic ch) a w'') : wpOp P ops Q i K a w := by
  unfold wpOp
  rw [ho]
  dsimp only
  rw [if_pos (by simp [Region.wanted, hg])]
  refine .inl ?_
  unfold Oper.wp
  rw [he]
  exact Calls.mono h (fun e w'' he => by obtain ⟨ch, rfl, hq⟩ := he; exact hq)
end
/-- Deeds in new memory. -/
def NewDds (l : List Dd) (w : World) (e : Ending) (w' : World) : Prop :=
  ∃ a n c, e = .returned (.slice a n c) ∧ w'.ownsRow w.heap.size 71 ddE.k (.slice a n c) n (ddE.flat l) ∧ Below w.heap.size w w'

set_option maxRecDepth 100000 in
set_option maxHeartbeats 6400000 in
theorem deedsIn_any (s : ByteArray) (w : World) (hs : s.size ≤ maxLen) (hg : ET w) :
    Calls Tryz.prog 19 #[.string s] w (NewDds (rdPart s) w) := by
  have hmf : ∀ (fn : Fn) (first cap : Array Value) (u : World), (Instr.makeFunc fn first cap).run Tryz.prog u = .ok (.func fn first cap) u := fun _ _ _ _ => rfl
  obtain ⟨W, hW⟩ : ∃ W, W = w.alloc (.cells #[.slice none 0 0] 40) := ⟨_, rfl⟩
  obtain ⟨h, hh⟩ : ∃ h, h = w.heap.size := ⟨_, rfl⟩
  have HL0 := Lib.hid (show BoxC W h [.slice none 0 0] by rw [hW, hh]; exact BoxC.made _ _ _)
  have HB0 : Hid (Below h w W) := Lib.hid (by rw [hW, hh]; exact (Below.refl _ _).alloc (Nat.le_refl _) _)
  have HG0 : Hid (ET W) := Lib.hid (by rw [hW]; exact hg.alloc _)
  have HHE := Lib.hid hh
  clear hg
  by_cases hc : (openS s).2.2 = 0
  · have HI := Lib.hid (openS_is hc)
    have hf8 := openS_fits hc
    have HRP : Hid (rdPart s = rdTx (openS s).1) := Lib.hid (by unfold rdPart; rw [if_pos hc])
    generalize (openS s).1 = t at *
    clear hc
    go_enter_defers Tryz.func19, Tryz.ntmps19
    go_wp2_with fail
    rw [← hW, ← hh]
    clear hW hh
    refine (unsealed_ok s t _ hs HG0.out HI.out).mono ?_
    rintro e w1 ⟨rfl, hb⟩
    have HL1 := Lib.hid (HL0.out.below hb)
    have HB1 := Lib.hid (HB0.out.trans (hb.mono (Nat.le_of_lt HL0.out.lt)))
    obtain ⟨V, hV⟩ : ∃ V, V = w1.alloc (.cells #[.string t, .int .i64 0] 83) := ⟨_, rfl⟩
    obtain ⟨b, hb2⟩ : ∃ b, b = w1.heap.size := ⟨_, rfl⟩
    have hb1 : Below w1.heap.size w1 V := by rw [hV]; exact (Below.refl _ _).alloc (Nat.le_refl _) _
    have hhw : h < w1.heap.size := HL1.out.lt
    have HBV := Lib.hid (HB1.out.trans (hb1.mono (Nat.le_of_lt hhw)))
    have HLV := Lib.hid (HL1.out.below hb1)
    have HRV := Lib.hid (show RB V b t ((0 : Nat) : Int) by rw [hV, hb2]; exact ⟨by simp, by simp, by simp, by simp⟩)
    have hhb : h < b := by omega
    have hne : h ≠ b := by omega
    clear hb hb1 HL1 HB1 hhw
    go_wp2_with fail
    rw [← hV, ← hb2]
    clear hV hb2
    by_cases hc : (rdS t 0 10 0 0).2.2 = 0
    · obtain ⟨n, p1, he, hy, hp1⟩ := sN_step hc
      have HE := Lib.hid he
      have HY := Lib.hid hy
      clear hc hy he
      refine (num_ok b t 0 p1 n _ HRV.out hf8 (Nat.zero_le _) HY.out).mono ?_
      rintro e w2 ⟨rfl, hr, hg⟩
      have HR2 := Lib.hid hr
      have HL2 := Lib.hid (HLV.out.kept hg hne)
      have HB2 := Lib.hid (below_kept HBV.out hg (Nat.le_of_lt HLV.out.lt) (Nat.le_of_lt hhb))
      clear hr hg HY HLV HBV HRV
      by_cases hn : 1 ≤ n ∧ n ≤ 10
      · obtain ⟨hn1, hn2⟩ := hn
        go_wp2_with fail
        refine (must_yes _).mono ?_
        rintro e w3 ⟨rfl, rfl⟩
        go_wp2_with fail
        have hh2 : h < w2.heap.size := HL2.out.lt
        have hb2 : b < w2.heap.size := HR2.out.lt
        obtain ⟨q0, hq0⟩ : ∃ q0 : Plc, q0 = (p1, false) := ⟨_, rfl⟩
        have HQ0 := Lib.hid hq0
        go_loopw [20] (fun i wr => ∃ (j : Nat) (a : Option Addr) (c : Nat), i = .int .i64 j ∧ (j : Int) ≤ n ∧ Hid (okTo t q0 j = true) ∧ Hid (RB wr b t ((plAt t q0 j).1 : Int)) ∧ Hid ((plAt t q0 j).2 = false) ∧ Hid ((plAt t q0 j).1 ≤ t.size) ∧ Hid (BoxC wr h [.slice a j c]) ∧ Hid (wr.ownsRow w2.heap.size 71 ddE.k (.slice a j c) j (ddE.flat (ddsTo t q0 j))) ∧ Hid (Below h w wr) ∧ w2.heap.size ≤ wr.heap.size) (fun i _ => n.toNat - (intOf i).toNat)
        case atStart => exact ⟨0, none, 0, rfl, by omega, rfl, by rw [hq0]; exact HR2, by rw [hq0]; rfl, by rw [hq0]; exact hp1, HL2, World.ownsRow_nil _ _ _ _, HB2, Nat.le_refl _⟩
        case round =>
          obtain ⟨j, a, c, rfl, hj, HOK, HRj, HPF, HPL, HLj, HOj, HBj, hsz⟩ := hrel
          by_cases hlt : (j : Int) < n
          · obtain ⟨pj, hpj⟩ : ∃ pj, plAt t q0 j = (pj, false) := ⟨_, Prod.ext rfl HPF.out⟩
            have HPJ := Lib.hid hpj
            rw [hpj] at HRj HPL
            dsimp only at HRj HPL
            clear hpj HPF
            have hmx : Tryz.prog.follows .mixedOrders = true := by kernel_rfl
            by_cases hd : okDeed t (pj, false) = true
            · go_wp2_with fail
              obtain ⟨ti, hi, hz, hsy, hy⟩ := info_parts infoDeed
              refine TillZ.region (t := 5) hmx (fun u => BoxC u h [.slice a j c]) ?_
              have HR0 := Lib.hid HRj.out.drew
              have HL0 := Lib.hid HLj.out.drew
              have HO0 := Lib.hid (own_below HOj.out (Below.refl _ _).drew)
              have HB0 := Lib.hid HBj.out.drew
              have hsz0 : w2.heap.size ≤ wr.drew.heap.size := hsz
              have hS0 := HL0.out
              clear HRj HLj HOj HBj hsz
              generalize wr.drew = u0 at *
              refine TillZ.take (i := 0) (v := .slice a j c) rfl rfl rfl (by kernel_rfl) (by kernel_rfl) (by kernel_rfl) (by kernel_rfl) hS0 (fun u hu => by have z0 := hu.cell 0 _ rfl; go_simp) ?_
              simp only [Act.put, List.getElem_toArray, List.getElem_cons_zero, List.getElem_cons_succ, List.setIfInBounds_toArray, List.set_cons_zero, List.set_cons_succ]
              refine TillZ.take (i := 1) (v := .pointer (some ⟨b, 0, none⟩)) rfl rfl rfl (by kernel_rfl) (by kernel_rfl) (by kernel_rfl) (by kernel_rfl) hS0 (fun u hu => by go_simp) ?_
              simp only [Act.put, List.getElem_toArray, List.getElem_cons_zero, List.getElem_cons_succ, List.setIfInBounds_toArray, List.set_cons_zero, List.set_cons_succ]
              refine TillZ.call (i := 2) (f := 46) (args := #[.pointer (some ⟨b, 0, none⟩)]) (by kernel_rfl) rfl rfl (by kernel_rfl) (by go_simp) ?_
              refine Calls.mono (deedIn_any b t pj u0 HR0.out hf8 HPL.out) ?_
              rintro e u1 ⟨hx, hg⟩
              rcases hx.symm with ⟨hno, _⟩ | ⟨_, rfl, hr⟩
              · exact absurd hno (by rw [hd]; decide)
              have HR1 := Lib.hid hr
              have HL1 := Lib.hid (HL0.out.kept hg hne)
              have HB1 := Lib.hid (below_kept HB0.out hg (Nat.le_of_lt HL0.out.lt) (Nat.le_of_lt hhb))
              have HO1 := Lib.hid (HO0.out.kept hg (Or.inr (fun e => by have := (HO0.out.lt b e).1; omega)))
              have hsz1 : w2.heap.size ≤ u1.heap.size := Nat.le_trans hsz0 hg.size
              clear hr hg hS0 HL0 HB0 HO0 HR0 hsz0
              refine ⟨_, rfl, HL1.out, ?_⟩
              obtain ⟨D, hD⟩ : ∃ D, D = (rdDeed t (pj, false)).1 := ⟨_, rfl⟩
              rw [← hD]
              have HDD := Lib.hid hD
              clear hD
              unfold ddV
              simp only [Act.put, List.getElem_toArray, List.getElem_cons_zero, List.getElem_cons_succ, List.setIfInBounds_toArray, List.set_cons_zero, List.set_cons_succ]
              have HX2 : Hid (SR ddE ddD (u1.alloc (.cells #[.int .i64 D.kd, .int .i64 D.gn, .int .i64 D.nd, .int .i64 D.mn, .int .i64 D.ck, .int .i64 D.no, .string D.lk, .string D.nm, .int .i64 D.tm, .string D.bd] 71)) (some ⟨u1.heap.size, 0, none⟩) 1 1 [D]) := Lib.hid (SR.own (by decide) (World.ownsRow_lit u1 #[.int .i64 D.kd, .int .i64 D.gn, .int .i64 D.nd, .int .i64 D.mn, .int .i64 D.ck, .int .i64 D.no, .string D.lk, .string D.nm, .int .i64 D.tm, .string D.bd] 1 (Nat.le_refl _) (by decide) rfl))
              have hal : Below u1.heap.size u1 (u1.alloc (.cells #[.int .i64 D.kd, .int .i64 D.gn, .int .i64 D.nd, .int .i64 D.mn, .int .i64 D.ck, .int .i64 D.no, .string D.lk, .string D.nm, .int .i64 D.tm, .string D.bd] 71)) := (Below.refl _ _).alloc (Nat.le_refl _) _
              have HL2' := Lib.hid (HL1.out.below hal)
              have HR2' := Lib.hid (HR1.out.below hal)
              have HB2' := Lib.hid (HB1.out.trans (hal.mono (Nat.le_of_lt HL1.out.lt)))
              have HO2' := Lib.hid (own_below HO1.out hal)
              have hsz2 : w2.heap.size ≤ (u1.alloc (.cells #[.int .i64 D.kd, .int .i64 D.gn, .int .i64 D.nd, .int .i64 D.mn, .int .i64 D.ck, .int .i64 D.no, .string D.lk, .string D.nm, .int .i64 D.tm, .string D.bd] 71)).heap.size := Nat.le_trans hsz1 hal.size
              refine TillZ.one (i := 3) (by kernel_rfl) ?_
              refine TillZ.opz (i := 3) (v := .slice (some ⟨u1.heap.size, 0, none⟩) 1 1) (w' := u1.alloc (.cells #[.int .i64 D.kd, .int .i64 D.gn, .int .i64 D.nd, .int .i64 D.mn, .int .i64 D.ck, .int .i64 D.no, .string D.lk, .string D.nm, .int .i64 D.tm, .string D.bd] 71)) rfl rfl rfl (by go_simp) HL2'.out ?_
              simp only [Act.put, List.getElem_toArray, List.getElem_cons_zero, List.getElem_cons_succ, List.setIfInBounds_toArray, List.set_cons_zero, List.set_cons_succ]
              clear hal HL1 HR1 HB1 HO1 hsz1
              generalize u1.alloc (.cells #[.int .i64 D.kd, .int .i64 D.gn, .int .i64 D.nd, .int .i64 D.mn, .int .i64 D.ck, .int .i64 D.no, .string D.lk, .string D.nm, .int .i64 D.tm, .string D.bd] 71) = u2 at *
              refine TillZ.one (i := 4) (by kernel_rfl) ?_
              refine append_opz ddE ddD (i := 4) (.tmp 22) (.tmp 25) 40 rfl rfl rfl rfl 71 ti _ _ Tryz.underlying40 hi hz hsy hy rfl (by decide) (by decide) w2.heap.size (.slice a j c) j (ddsTo t q0 j) rfl HO2'.out _ 1 1 [D] rfl HX2.out hsz2 (by omega) (by omega) (fun v3 u3 O3 G3 => ?_)
              have HL3 := Lib.hid (HL2'.out.grown G3 (fun e => by have := (HO2'.out.lt h e.symm).1; omega))
              have HR3 := Lib.hid (show RB u3 b t _ from ⟨Nat.lt_of_lt_of_le HR2'.out.lt G3.size, (World.cell?_of_block (a := ⟨b, 0, none⟩) (G3.block b HR2'.out.lt (fun e => by have := (HO2'.out.lt b e.symm).1; omega))).trans HR2'.out.c0, (World.cell?_of_block (a := ⟨b, 1, none⟩) (G3.block b HR2'.out.lt (fun e => by have := (HO2'.out.lt b e.symm).1; omega))).trans HR2'.out.c1, (World.frozen?_of_block (a := ⟨b, 1, none⟩) (G3.block b HR2'.out.lt (fun e => by have := (HO2'.out.lt b e.symm).1; omega))).trans HR2'.out.free⟩)
              have HB3 := Lib.hid (HB2'.out.grown G3 (Nat.le_of_lt HL2'.out.lt) (fun k hk => by have := (HO2'.out.lt k hk).1; omega))
              have hsz3 : w2.heap.size ≤ u3.heap.size := Nat.le_trans hsz2 G3.size
              obtain ⟨a', c', rfl⟩ := own_shape O3
              have HO3 := Lib.hid O3
              refine ⟨HL3.out, ?_⟩
              simp only [Act.put, List.getElem_toArray, List.getElem_cons_zero, List.getElem_cons_succ, List.setIfInBounds_toArray, List.set_cons_zero, List.set_cons_succ]
              clear O3 G3 HL2' HR2' HB2' HO2' hsz2 HX2
              have z0 := HL3.out.cell 0 _ rfl
              have f0 := HL3.out.free 0
              have zlt := HL3.out.lt
              refine TillZ.hand_skip (w' := u3.setCell ⟨h, 0, none⟩ (.slice a' (j + 1) c')) (by kernel_rfl) rfl rfl (by go_simp) ?_
              simp only [Act.put, List.getElem_toArray, List.getElem_cons_zero, List.getElem_cons_succ, List.setIfInBounds_toArray, List.set_cons_zero, List.set_cons_succ]
              refine TillZ.any_done (by kernel_rfl) ?_ _
              clear z0 f0 zlt
              go_wp2_with fail
              go_roundw
              case rel => exact ⟨j + 1, a', c', by go_num, by omega, by unfold Hid; rw [okTo_succ, HOK.out, HPJ.out, hd]; rfl, by unfold Hid; show RB _ b t (((rdDeed t (plAt t q0 j)).2.1 : Nat) : Int); rw [HPJ.out]; exact HR3.out.other h 0 _ hne, by unfold Hid; show (rdDeed t (plAt t q0 j)).2.2 = false; rw [HPJ.out]; exact (okDeed_iff.1 hd).1, by unfold Hid; show (rdDeed t (plAt t q0 j)).2.1 ≤ _; rw [HPJ.out]; exact rdDeed_le HPL.out, HL3.out.set (j := 0) (by simp) _, by unfold Hid; rw [ddsTo_succ]; unfold ddAt; rw [HPJ.out, ← HDD.out]; exact own_other HO3.out (b := h) (fun g hg => by have := (HO3.out.lt g hg).1; omega) _ _ rfl, HB3.out.setCell (p := ⟨h, 0, none⟩) (Nat.le_refl _) _, by simpa using hsz3⟩
              case measure => simp [intOf]; omega
            · have hd2 : okDeed t (pj, false) = false := by cases hx : okDeed t (pj, false) <;> simp_all
              have HBAD : Hid (∀ u, RB u b t (pj : Int) → Calls Tryz.prog 46 #[.pointer (some ⟨b, 0, none⟩)] u fun e w' => e = .panicked [{ v := errV 3, recovered := false }] ∧ u.grownBy w' (some b)) := Lib.hid (fun u hu => (deedIn_any b t pj u hu hf8 HPL.out).mono (fun e w' hh => by
                obtain ⟨hx, hg⟩ := hh
                rcases hx with ⟨hno, _⟩ | ⟨_, he⟩
                · rw [hd2] at hno; cases hno
                · exact ⟨he, hg⟩))
              have HRT : Hid (rdTx t = []) := Lib.hid (rdTx_no (by rw [HE.out]; dsimp only; rw [← HQ0.out]; rintro ⟨_, _, hk, _⟩; rw [okTo_no (n := n.toNat) (i := j) (by rw [HPJ.out]; exact hd2) (by omega)] at hk; cases hk))
              have hcl := HLj.out.cell 0 _ rfl
              have HR0 := Lib.hid HRj.out.drew
              have HL0 := Lib.hid HLj.out.drew
              have HB0 := Lib.hid HBj.out.drew
              go_wp2_with fail
              have hFn : wr.drew.cell? ⟨h, 0, none⟩ = some (.slice a j c) := hcl
              refine region_any hmx ?_
              clear HRj HLj HBj HOj hcl hsz
              generalize wr.drew = u0 at *
              refine any_two (i := 0) (j := 1) (by kernel_rfl) ?_ ?_
              · refine op_value (v := .slice a j c) rfl rfl (by go_simp) ?_
                simp only [Act.put, List.getElem_toArray, List.getElem_cons_zero, List.getElem_cons_succ, List.setIfInBounds_toArray, List.set_cons_zero, List.set_cons_succ]
                refine any_one (i := 1) (by kernel_rfl) ?_
                refine op_value (v := .pointer (some ⟨b, 0, none⟩)) rfl rfl (by go_simp) ?_
                simp only [Act.put, List.getElem_toArray, List.getElem_cons_zero, List.getElem_cons_succ, List.setIfInBounds_toArray, List.set_cons_zero, List.set_cons_succ]
                refine any_one (i := 2) (by kernel_rfl) ?_
                refine op_panic (f := 46) (args := #[.pointer (some ⟨b, 0, none⟩)]) rfl rfl (by go_simp) ?_
                refine Calls.mono (HBAD.out _ HR0.out) ?_
                rintro e u1 ⟨rfl, hg⟩
                have HL1 := Lib.hid (HL0.out.kept hg hne)
                have HB1 := Lib.hid (below_kept HB0.out hg (Nat.le_of_lt HL0.out.lt) (Nat.le_of_lt hhb))
                clear hg
                refine ⟨_, rfl, ?_⟩
                go_wp2_with fail
                refine leaves_cons (f := 42) (args := #[.pointer (some ⟨h, 0, none⟩)]) (by simp) (by simp [go_sem]) ?_
                refine (catchQ_panicking h 3 _ u1 (HL1.out.cell 0 _ rfl) (HL1.out.free 0)).mono ?_
                rintro e u' w9 ⟨rfl, rfl, r0, hb9⟩
                have hbl := HB1.out.trans hb9
                rw [HHE.out] at hbl
                exact leaves_ret (v := .slice none 0 0) (by simp [results, Tryz.results19, go_sem, r0]) ⟨none, 0, 0, rfl, by rw [HRP.out, HRT.out]; exact World.ownsRow_nil _ _ _ _, hbl⟩
              · refine op_value (v := .pointer (some ⟨b, 0, none⟩)) rfl rfl (by go_simp) ?_
                simp only [Act.put, List.getElem_toArray, List.getElem_cons_zero, List.getElem_cons_succ, List.setIfInBounds_toArray, List.set_cons_zero, List.set_cons_succ]
                refine any_two (i := 0) (j := 2) (by kernel_rfl) ?_ ?_
                · refine op_value (v := .slice a j c) rfl rfl (by go_simp) ?_
                  simp only [Act.put, List.getElem_toArray, List.getElem_cons_zero, List.getElem_cons_succ, List.setIfInBounds_toArray, List.set_cons_zero, List.set_cons_succ]
                  refine any_one (i := 2) (by kernel_rfl) ?_
                  refine op_panic (f := 46) (args := #[.pointer (some ⟨b, 0, none⟩)]) rfl rfl (by go_simp) ?_
                  refine Calls.mono (HBAD.out _ HR0.out) ?_
                  rintro e u1 ⟨rfl, hg⟩
                  have HL1 := Lib.hid (HL0.out.kept hg hne)
                  have HB1 := Lib.hid (below_kept HB0.out hg (Nat.le_of_lt HL0.out.lt) (Nat.le_of_lt hhb))
                  clear hg
                  refine ⟨_, rfl, ?_⟩
                  go_wp2_with fail
                  refine leaves_cons (f := 42) (args := #[.pointer (some ⟨h, 0, none⟩)]) (by simp) (by simp [go_sem]) ?_
                  refine (catchQ_panicking h 3 _ u1 (HL1.out.cell 0 _ rfl) (HL1.out.free 0)).mono ?_
                  rintro e u' w9 ⟨rfl, rfl, r0, hb9⟩
                  have hbl := HB1.out.trans hb9
                  rw [HHE.out] at hbl
                  exact leaves_ret (v := .slice none 0 0) (by simp [results, Tryz.results19, go_sem, r0]) ⟨none, 0, 0, rfl, by rw [HRP.out, HRT.out]; exact World.ownsRow_nil _ _ _ _, hbl⟩
                · skip
                  refine op_panic (f := 46) (args := #[.pointer (some ⟨b, 0, none⟩)]) rfl rfl (by go_simp) ?_
                  refine Calls.mono (HBAD.out _ HR0.out) ?_
                  rintro e u1 ⟨rfl, hg⟩
                  have HL1 := Lib.hid (HL0.out.kept hg hne)
                  have HB1 := Lib.hid (below_kept HB0.out hg (Nat.le_of_lt HL0.out.lt) (Nat.le_of_lt hhb))
                  clear hg
                  refine ⟨_, rfl, ?_⟩
                  go_wp2_with fail
                  refine leaves_cons (f := 42) (args := #[.pointer (some ⟨h, 0, none⟩)]) (by simp) (by simp [go_sem]) ?_
                  refine (catchQ_panicking h 3 _ u1 (HL1.out.cell 0 _ rfl) (HL1.out.free 0)).mono ?_
                  rintro e u' w9 ⟨rfl, rfl, r0, hb9⟩
                  have hbl := HB1.out.trans hb9
                  rw [HHE.out] at hbl
                  exact leaves_ret (v := .slice none 0 0) (by simp [results, Tryz.results19, go_sem, r0]) ⟨none, 0, 0, rfl, by rw [HRP.out, HRT.out]; exact World.ownsRow_nil _ _ _ _, hbl⟩
          · have hjn : n = (j : Int) := by omega
            have hc0 := HRj.out.c0
            have hc1 := HRj.out.c1
            have HTN : Hid (n.toNat = j) := Lib.hid (by omega)
            by_cases hps : (plAt t q0 j).1 = t.size
            · have hpe : (((plAt t q0 j).1 : Int) == (t.size : Int)) = true := by rw [hps]; exact beq_self_eq_true _
              have HRT : Hid (rdTx t = ddsTo t q0 j) := Lib.hid (by
                rw [rdTx_yes (by rw [HE.out]; dsimp only; rw [← HQ0.out, HTN.out]; exact ⟨hn1, hn2, HOK.out, hps⟩), HE.out]
                dsimp only
                rw [← HQ0.out, HTN.out])
              clear hps
              generalize (plAt t q0 j).1 = pj at *
              go_wp2_with fail
              go_still_tail 10, (by kernel_rfl)
              change wpList _ _ _ _ _ wr.drew
              have HLd := Lib.hid HLj.out.drew
              have HOd := Lib.hid (own_below HOj.out (Below.refl _ _).drew)
              have HBd := Lib.hid HBj.out.drew
              clear HRj HLj HOj HBj hc0 hc1 hpe
              generalize wr.drew = u0 at *
              go_wp2_with fail
              refine (must_yes _).mono ?_
              rintro e u1 ⟨rfl, rfl⟩
              have z0 := HLd.out.cell 0 _ rfl
              have f0 := HLd.out.free 0
              have zlt := HLd.out.lt
              go_wp2_with fail
              refine leaves_cons (f := 42) (args := #[.pointer (some ⟨h, 0, none⟩)]) (by simp) (by simp [go_sem]) ?_
              refine (catchQ_idle h _).mono ?_
              rintro e u' w9 ⟨rfl, rfl, rfl⟩
              refine leaves_ret (v := .slice a j c) (by simp [results, Tryz.results19, go_sem, zlt, z0]) ?_
              refine ⟨a, j, c, rfl, ?_, ?_⟩
              · rw [HRP.out, HRT.out]
                exact own_mono (own_other HOd.out (b := h) (fun g hg => by have := (HOd.out.lt g hg).1; omega) _ _ rfl) (by rw [← HHE.out] at *; omega)
              · have hbl := HBd.out.setCell (p := ⟨h, 0, none⟩) (Nat.le_refl _) (.slice a j c)
                rw [HHE.out] at hbl ⊢
                exact hbl
            · have hpe : (((plAt t q0 j).1 : Int) == (t.size : Int)) = false := by rw [beq_eq_false_iff_ne]; omega
              have HRT : Hid (rdTx t = []) := Lib.hid (rdTx_no (by rw [HE.out]; dsimp only; rw [← HQ0.out, HTN.out]; rintro ⟨_, _, _, hk⟩; exact hps hk))
              clear hps
              generalize (plAt t q0 j).1 = pj at *
              go_wp2_with fail
              go_still_tail 10, (by kernel_rfl)
              change wpList _ _ _ _ _ wr.drew
              have HLd := Lib.hid HLj.out.drew
              have HBd := Lib.hid HBj.out.drew
              clear HRj HLj HOj HBj hc0 hc1 hpe
              generalize wr.drew = u0 at *
              go_wp2_with fail
              refine (must_no _).mono ?_
              rintro e u1 ⟨rfl, rfl⟩
              go_wp2_with fail
              refine leaves_cons (f := 42) (args := #[.pointer (some ⟨h, 0, none⟩)]) (by simp) (by simp [go_sem]) ?_
              refine (catchQ_panicking h 3 _ u0 (HLd.out.cell 0 _ rfl) (HLd.out.free 0)).mono ?_
              rintro e u' w9 ⟨rfl, rfl, r0, hb9⟩
              have hbl := HBd.out.trans hb9
              rw [HHE.out] at hbl
              exact leaves_ret (v := .slice none 0 0) (by simp [results, Tryz.results19, go_sem, r0]) ⟨none, 0, 0, rfl, by rw [HRP.out, HRT.out]; exact World.ownsRow_nil _ _ _ _, hbl⟩
      · have HRT : Hid (rdTx t = []) := Lib.hid (rdTx_no (by rw [HE.out]; dsimp only; rintro ⟨h1, h2, _⟩; exact hn ⟨h1, h2⟩))
        by_cases hn1 : 1 ≤ n
        · have hn2 : ¬ n ≤ 10 := fun h => hn ⟨hn1, h⟩
          clear hn
          go_wp2_with fail
          rw [show decide (n ≤ 10) = false from decide_eq_false (by omega)]
          refine (must_no _).mono ?_
          rintro e u1 ⟨rfl, rfl⟩
          go_wp2_with fail
          refine leaves_cons (f := 42) (args := #[.pointer (some ⟨h, 0, none⟩)]) (by simp) (by simp [go_sem]) ?_
          refine (catchQ_panicking h 3 _ w2 (HL2.out.cell 0 _ rfl) (HL2.out.free 0)).mono ?_
          rintro e u' w9 ⟨rfl, rfl, r0, hb9⟩
          have hbl := HB2.out.trans hb9
          rw [HHE.out] at hbl
          exact leaves_ret (v := .slice none 0 0) (by simp [results, Tryz.results19, go_sem, r0]) ⟨none, 0, 0, rfl, by rw [HRP.out, HRT.out]; exact World.ownsRow_nil _ _ _ _, hbl⟩
        · clear hn
          go_wp2_with fail
          refine (must_no _).mono ?_
          rintro e u1 ⟨rfl, rfl⟩
          go_wp2_with fail
          refine leaves_cons (f := 42) (args := #[.pointer (some ⟨h, 0, none⟩)]) (by simp) (by simp [go_sem]) ?_
          refine (catchQ_panicking h 3 _ w2 (HL2.out.cell 0 _ rfl) (HL2.out.free 0)).mono ?_
          rintro e u' w9 ⟨rfl, rfl, r0, hb9⟩
          have hbl := HB2.out.trans hb9
          rw [HHE.out] at hbl
          exact leaves_ret (v := .slice none 0 0) (by simp [results, Tryz.results19, go_sem, r0]) ⟨none, 0, 0, rfl, by rw [HRP.out, HRT.out]; exact World.ownsRow_nil _ _ _ _, hbl⟩
    · have HNO := Lib.hid (sN_no (u := t) (q := (0, false)) hc)
      have HRT : Hid (rdTx t = []) := Lib.hid (rdTx_no (by rw [HNO.out]; dsimp only; rintro ⟨h1, _⟩; exact absurd h1 (by decide)))
      refine (num_bad b t 0 _ HRV.out hf8 (Nat.zero_le _) hc).mono ?_
      rintro e w2 ⟨rfl, hb⟩
      have HL2 := Lib.hid (HLV.out.below hb)
      have HB2 := Lib.hid (HBV.out.trans (hb.mono (Nat.le_of_lt HLV.out.lt)))
      clear hb hc
      go_wp2_with fail
      refine leaves_cons (f := 42) (args := #[.pointer (some ⟨h, 0, none⟩)]) (by simp) (by simp [go_sem]) ?_
      refine (catchQ_panicking h 3 _ w2 (HL2.out.cell 0 _ rfl) (HL2.out.free 0)).mono ?_
      rintro e u' w9 ⟨rfl, rfl, r0, hb9⟩
      have hbl := HB2.out.trans hb9
      rw [HHE.out] at hbl
      exact leaves_ret (v := .slice none 0 0) (by simp [results, Tryz.results19, go_sem, r0]) ⟨none, 0, 0, rfl, by rw [HRP.out, HRT.out]; exact World.ownsRow_nil _ _ _ _, hbl⟩
  · have HRP : Hid (rdPart s = []) := Lib.hid (by unfold rdPart; rw [if_neg hc])
    obtain ⟨c, hcc⟩ : ∃ c, c = (openS s).2.2 := ⟨_, rfl⟩
    have HCC := Lib.hid hcc
    clear hcc
    go_enter_defers Tryz.func19, Tryz.ntmps19
    go_wp2_with fail
    rw [← hW, ← hh]
    clear hW hh
    refine (unsealed_bad s _ hs HG0.out hc).mono ?_
    rintro e w1 ⟨rfl, hb⟩
    have HL1 := Lib.hid (HL0.out.below hb)
    have HB1 := Lib.hid (HB0.out.trans (hb.mono (Nat.le_of_lt HL0.out.lt)))
    rw [← HCC.out]
    clear hb hc
    go_wp2_with fail
    refine leaves_cons (f := 42) (args := #[.pointer (some ⟨h, 0, none⟩)]) (by simp) (by simp [go_sem]) ?_
    refine (catchQ_panicking h c _ w1 (HL1.out.cell 0 _ rfl) (HL1.out.free 0)).mono ?_
    rintro e u' w9 ⟨rfl, rfl, r0, hb9⟩
    have hbl := HB1.out.trans hb9
    rw [HHE.out] at hbl
    exact leaves_ret (v := .slice none 0 0) (by simp [results, Tryz.results19, go_sem, r0]) ⟨none, 0, 0, rfl, by rw [HRP.out]; exact World.ownsRow_nil _ _ _ _, hbl⟩
end Go.Proofs.YtnoefpkhbllmiaaGreatDoor
namespace Go.Proofs.YtnoefpkhbllmiaaGreatDoor
open Go.RowKit Go.PlainAid G MGet MGF IRow MNum MJoin
set_option linter.unusedVariables false
/-- What is read from a place on, in so many steps. -/
def txF (s : ByteArray) : Nat → Nat → List (List Dd)
  | 0, _ => []
  | f + 1, p => if (getT s (p : Int)).2.2 = 0 then (if rdPart (getT s (p : Int)).1 = [] then [] else rdPart (getT s (p : Int)).1 :: txF s f (getT s (p : Int)).2.1.toNat) else []
def txRd (s : ByteArray) : List (List Dd) := txF s (s.size + 1) 0
theorem txF_no {s : ByteArray} {f p : Nat} (h : ¬ (getT s (p : Int)).2.2 = 0) : txF s f p = [] := by
  cases f with
  | zero => rfl
  | succ f => unfold txF; rw [if_neg h]
theorem txF_end {s : ByteArray} {f p : Nat} (h : rdPart (getT s (p : Int)).1 = []) : txF s f p = [] := by
  cases f with
  | zero => rfl
  | succ f =>
    unfold txF
    split <;> first | rfl | rw [if_pos h]
theorem txF_go {s t : ByteArray} {f p p' : Nat} (h : getT s (p : Int) = (t, (p' : Int), 0)) (hr : ¬ rdPart t = []) : txF s (f + 1) p = rdPart t :: txF s f p' := by
  conv => lhs; unfold txF
  rw [h]
  rw [if_pos rfl, if_neg hr]
  rfl
theorem txt_far {u : ByteArray} {a : Nat} (h : (txtS u a).2.2 = 0) : (a : Int) < (txtS u a).2.1 ∧ (txtS u a).2.1 ≤ (u.size : Int) := by
  unfold txtS at h ⊢
  split at h
  · rename_i h1; exact absurd h h1
  · rename_i h1
    rw [if_neg h1]
    split at h
    · exact absurd h (by decide)
    · rename_i h2
      rw [if_neg h2]
      split at h
      · exact absurd h (by decide)
      · rename_i h3
        rw [if_neg h3]
        have hp := rd_place u a 10 0 0 (by simpa using h1)
        dsimp only
        omega
theorem getT_step {s : ByteArray} {p : Nat} (h : (getT s (p : Int)).2.2 = 0) : ∃ t p', getT s (p : Int) = (t, ((p' : Nat) : Int), 0) ∧ p < p' ∧ p' ≤ s.size ∧ t.size ≤ maxLen ∧ s.size ≤ 8000 := by
  by_cases hl : 8000 < s.size
  · rw [getT_size hl] at h; exact absurd h (by decide)
  · rw [getT_read hl] at h ⊢
    obtain ⟨t, p', _, hy, hp, ht⟩ := sT_step (by omega) h
    have hf := txt_far h
    rw [hy] at hf
    dsimp only at hf
    exact ⟨t, p', hy, by omega, hp, ht, by omega⟩
theorem getT_zero {s : ByteArray} {p : Nat} (h : ¬ (getT s (p : Int)).2.2 = 0) : getT s (p : Int) = (⟨#[]⟩, 0, (getT s (p : Int)).2.2) := by
  by_cases hl : 8000 < s.size
  · rw [getT_size hl]
  · rw [getT_read hl] at h ⊢
    exact txt_zero s p h
/-- A row: where it lies, and its deeds. -/
structure Rw where
  a : Option Addr
  n : Nat
  c : Nat
  l : List Dd
abbrev Rw.v (r : Rw) : Value := .slice r.a r.n r.c
def rwD : Rw := ⟨none, 0, 0, []⟩
def rwE : Enc Rw := ⟨1, fun r => [.slice r.a r.n r.c], fun _ => rfl, fun _ v hv => by simp at hv; subst hv; rfl⟩
theorem infoDeeds : (Tryz.prog.info? 40).map (fun i => (i.zero, i.size, i.bytes)) = some (some (Value.slice none 0 0), 1, 24) := by kernel_rfl
/-- Rows of deeds in new memory, each in a block of its own. -/
structure SS (w : World) (B : Nat) (v : Value) (rs : List Rw) : Prop where
  out : w.ownsRow B 40 rwE.k v rs.length (rwE.flat rs)
  row : ∀ i, i < rs.length → w.ownsRow B 71 ddE.k (rs.getD i rwD).v (rs.getD i rwD).n (ddE.flat (rs.getD i rwD).l)
  dis : ∀ i j, i < j → j < rs.length → Disj (rs.getD i rwD).v (rs.getD j rwD).v
theorem SS.nil (w : World) (B : Nat) : SS w B (.slice none 0 0) [] := ⟨World.ownsRow_nil _ _ _ _, fun i hi => absurd hi (Nat.not_lt_zero _), fun i j _ hj => absurd hj (Nat.not_lt_zero _)⟩
theorem SS.below {w w' : World} {B : Nat} {v : Value} {rs : List Rw} (h : SS w B v rs) (hb : Below w.heap.size w w') : SS w' B v rs :=
  ⟨own_below h.out hb, fun i hi => own_below (h.row i hi) hb, h.dis⟩
/-- One row more: the outer row in a world that has grown at its own block alone. -/
theorem SS.push {w w' : World} {B : Nat} {v v' : Value} {rs : List Rw} {r : Rw} (h : SS w B v rs) (hr : w.ownsRow B 71 ddE.k r.v r.n (ddE.flat r.l)) (hd : ∀ i, i < rs.length → Disj (rs.getD i rwD).v r.v)
    (ho : w'.ownsRow B 40 rwE.k v' (rs.length + 1) (rwE.flat (rs ++ [r]))) (hg : w.grownBy w' v.ownBlock) : SS w' B v' (rs ++ [r]) := by
  have hl : (rs ++ [r]).length = rs.length + 1 := by simp
  have e1 : ∀ i, i < rs.length → (rs ++ [r]).getD i rwD = rs.getD i rwD := fun i hi => by simp [List.getD, List.getElem?_append_left hi]
  have e2 : (rs ++ [r]).getD rs.length rwD = r := by simp [List.getD]
  refine ⟨by rw [hl]; exact ho, fun i hi => ?_, fun i j hij hj => ?_⟩
  · rcases Nat.lt_or_ge i rs.length with h1 | h1
    · rw [e1 i h1]
      exact own_grown (h.row i h1) hg (own_types (h.row i h1) h.out (by decide))
    · obtain rfl : i = rs.length := by omega
      rw [e2]
      exact own_grown hr hg (own_types hr h.out (by decide))
  · rcases Nat.lt_or_ge j rs.length with h1 | h1
    · rw [e1 j h1, e1 i (by omega)]
      exact h.dis i j hij h1
    · obtain rfl : j = rs.length := by omega
      rw [e2, e1 i hij]
      exact hd i hij
/-- All that is read, in new memory. -/
def NewSS (ls : List (List Dd)) (w : World) (e : Ending) (w' : World) : Prop :=
  ∃ a n c rs, e = .returned (.slice a n c) ∧ n = rs.length ∧ SS w' w.heap.size (.slice a n c) rs ∧ rs.map Rw.l = ls ∧ Below w.heap.size w w'
end Go.Proofs.YtnoefpkhbllmiaaGreatDoor
namespace Go.Proofs.YtnoefpkhbllmiaaGreatDoor
open Go.RowKit Go.PlainAid G MGet MGF IRow MNum MJoin
set_option linter.unusedVariables false
theorem wf_p {n : Int} (h : 0 ≤ n ∧ n ≤ 9223372036854775807) : (Lit.int .i64 n).wf = true := by
  have h1 := h.1
  have h2 := h.2
  simp only [Lit.wf, IntKind.min, IntKind.max, IntKind.signed, IntKind.bits]
  simp
  omega
set_option maxRecDepth 100000 in
set_option maxHeartbeats 3200000 in
theorem implTxRead_any (s : ByteArray) (w : World) (hs : s.size ≤ maxLen) (hg : ET w) :
    Calls Tryz.prog 6 #[.string s] w (NewSS (txRd s) w) := by
  have HS := Lib.hid hs
  obtain ⟨ti, hi, hz, hsy, hy⟩ := info_parts infoDeeds
  go_enter Tryz.func6, Tryz.ntmps6
  go_wp2_with fail
  go_loopw [3, 4] (fun v i wr => ∃ (p f : Nat) (a : Option Addr) (c : Nat) (rs : List Rw), v = .slice a rs.length c ∧ i = .int .i64 p ∧ p ≤ s.size ∧ s.size + 1 ≤ f + p ∧ rs.length ≤ p ∧ Hid (SS wr w.heap.size (.slice a rs.length c) rs) ∧ Hid (txRd s = rs.map Rw.l ++ txF s f p) ∧ Hid (Below w.heap.size w wr) ∧ Hid (ET wr)) (fun _ i _ => s.size + 1 - (intOf i).toNat)
  case atStart => exact ⟨0, s.size + 1, none, 0, [], rfl, rfl, Nat.zero_le _, Nat.le_refl _, Nat.le_refl _, SS.nil _ _, rfl, Below.refl _ _, hg⟩
  case round =>
    obtain ⟨p, f, a, c, rs, rfl, rfl, hp, hf, hn, HSS, HTX, HB, HE⟩ := hrel
    by_cases hc : (getT s (p : Int)).2.2 = 0
    · obtain ⟨t, p', hgt, hpp, hps, ht, hs8⟩ := getT_step hc
      have HGT := Lib.hid hgt
      clear hc hgt
      go_wp2_with fail
      refine (implGetText_any s (p : Int) wr (wf_p (by unfold maxLen at hs; omega)) HS.out HE.out).mono ?_
      rintro e w1 ⟨rfl, hb⟩
      rw [HGT.out]
      unfold textOutV
      dsimp only
      have HB1 := Lib.hid hb
      clear hb
      obtain ⟨V, hV⟩ : ∃ V, V = w1.alloc (.cells #[.string t, .int .i64 p', .int .i64 0] 37) := ⟨_, rfl⟩
      obtain ⟨b, hb0⟩ : ∃ b, b = w1.heap.size := ⟨_, rfl⟩
      have hV1 : Below w1.heap.size w1 V := by rw [hV]; exact (Below.refl _ _).alloc (Nat.le_refl _) _
      have HXV := Lib.hid (show BoxC V b [.string t, .int .i64 p', .int .i64 0] by rw [hV, hb0]; exact BoxC.made _ _ _)
      have HbV : Below wr.heap.size wr V := HB1.out.trans (hV1.mono HB1.out.size)
      have HSV := Lib.hid (HSS.out.below HbV)
      have HBV := Lib.hid (HB.out.trans (HbV.mono HB.out.size))
      have HEV := Lib.hid (HE.out.below HbV)
      have HLT : Hid (∀ q, (Value.slice a rs.length c).ownBlock = some q → q < b) := Lib.hid (fun q hq => by have := (HSS.out.out.lt q hq).2; have := HB1.out.size; omega)
      have HWB : Hid (w.heap.size ≤ b) := Lib.hid (by have := HB1.out.size; have := HB.out.size; omega)
      clear HbV hV1 HSS HB HE HB1
      obtain ⟨f, rfl⟩ : ∃ f', f = f' + 1 := ⟨f - 1, by omega⟩
      go_wp2_with fail
      rw [← hV, ← hb0]
      clear hV hb0
      refine (deedsIn_any t V ht HEV.out).mono ?_
      rintro e w2 ⟨ra, rn, rc, rfl, ho, hb⟩
      have HRL : Hid ((rdPart t).length = rn) := Lib.hid (DdR.olen ho)
      have HX2 := Lib.hid (HXV.out.below (hb.mono (Nat.le_refl _)))
      have HS2 := Lib.hid (HSV.out.below hb)
      have HB2 := Lib.hid (HBV.out.trans (hb.mono HBV.out.size))
      have HE2 := Lib.hid (HEV.out.below hb)
      have HR2 := Lib.hid (own_mono ho HBV.out.size)
      have HD2 : Hid (∀ i, i < rs.length → Disj (rs.getD i rwD).v (.slice ra rn rc)) := Lib.hid (fun i hi => own_disj (HSV.out.row i hi) ho)
      clear ho hb HXV HSV HBV HEV
      by_cases hr : rdPart t = []
      · have hrn : rn = 0 := by have := HRL.out; rw [hr] at this; exact this.symm
        have HTE : Hid (txF s (f + 1) p = []) := Lib.hid (txF_end (by rw [HGT.out]; exact hr))
        subst hrn
        clear hr
        go_wp2_with fail
        exact bodyPost_ret (v := .slice a rs.length c) (by simp [results, Tryz.results6, go_sem]) rfl ⟨a, _, c, rs, rfl, rfl, HS2.out, by rw [HTX.out, HTE.out, List.append_nil], HB2.out⟩
      · have hrn : ((rn : Int) == 0) = false := by
          rw [beq_eq_false_iff_ne]
          intro h0
          exact hr (List.eq_nil_of_length_eq_zero (by rw [HRL.out]; omega))
        have HTG := Lib.hid (txF_go (f := f) HGT.out hr)
        generalize rdPart t = ds at *
        clear hr
        obtain ⟨r, hrr⟩ : ∃ r : Rw, r = ⟨ra, rn, rc, ds⟩ := ⟨_, rfl⟩
        have HRR := Lib.hid hrr
        have HAB : Hid (Below w2.heap.size w2 (w2.alloc (.cells #[.slice ra rn rc] 40))) := Lib.hid ((Below.refl _ _).alloc (Nat.le_refl _) _)
        have HXL : Hid (SR rwE rwD (w2.alloc (.cells #[.slice ra rn rc] 40)) (some ⟨w2.heap.size, 0, none⟩) 1 1 [r]) := Lib.hid (by rw [hrr]; exact SR.own (by decide) (World.ownsRow_lit w2 #[.slice ra rn rc] 1 (Nat.le_refl _) (by decide) rfl))
        have HS3 := Lib.hid (HS2.out.below HAB.out)
        have HX3 := Lib.hid (HX2.out.below HAB.out)
        have HE3 := Lib.hid (HE2.out.below HAB.out)
        have HR3 := Lib.hid (own_below HR2.out HAB.out)
        have HB3 := Lib.hid (HB2.out.trans (HAB.out.mono HB2.out.size))
        clear hrr HS2 HX2 HE2 HR2 HB2
        have HPU : Hid (∀ (v3 : Value) (u3 : World), u3.ownsRow w.heap.size 40 rwE.k v3 (rs.length + 1) (rwE.flat (rs ++ [r])) → (w2.alloc (.cells #[.slice ra rn rc] 40)).grownBy u3 (Value.slice a rs.length c).ownBlock → SS u3 w.heap.size v3 (rs ++ [r])) := Lib.hid (fun v3 u3 O3 G3 => HS3.out.push (r := r) (by rw [HRR.out]; exact HR3.out) (by rw [HRR.out]; exact HD2.out) O3 G3)
        have hn1 : rs.length ≤ 1048576 := by omega
        have hk0 : 0 < rwE.k := by decide
        have h24 : (24 : Nat) ≤ 1024 := by decide
        have hm1 : 1 ≤ 1048576 := by decide
        go_wp2_with (at_builtin; refine append_wl rwE rwD rfl _ _ 22 rfl 40 ti _ 24 Tryz.underlying22 hi hz hsy hy rfl hk0 h24 w.heap.size _ rs.length rs rfl HS3.out.out _ 1 1 [r] rfl HXL.out HB3.out.size hn1 hm1 ?_; intro v3 u3 O3 G3; have HS4 := Lib.hid (HPU.out v3 u3 O3 G3); have HX4 := Lib.hid (HX3.out.grown G3 (fun e => Nat.lt_irrefl _ (HLT.out _ e.symm))); have HB4 := Lib.hid (HB3.out.grown G3 HB3.out.size (fun q hq => (HS3.out.out.lt q hq).1)); obtain ⟨a5, c5, rfl⟩ := own_shape O3; clear O3 G3; have x1 := HX4.out.cell 1 _ rfl)
        refine ⟨⟨p', f, a5, c5, rs ++ [r], by rw [List.length_append]; rfl, rfl, hps, by omega, by rw [List.length_append]; show rs.length + 1 ≤ p'; omega, ?_, ?_, HB4.out, ?_⟩, ?_⟩
        · unfold Hid
          rw [List.length_append]
          exact HS4.out
        · unfold Hid
          rw [HTX.out, HTG.out, List.map_append, List.append_assoc, HRR.out]
          rfl
        · exact hg.below HB4.out
        · simp [intOf]
          omega
    · have hgt := getT_zero hc
      have HTE : Hid (txF s f p = []) := Lib.hid (txF_no hc)
      obtain ⟨k, hk⟩ : ∃ k, k = (getT s (p : Int)).2.2 := ⟨_, rfl⟩
      rw [← hk] at hgt hc
      have HGT := Lib.hid hgt
      have hcb : (k != 0) = true := by simp [hc]
      clear hc hgt hk
      go_wp2_with fail
      refine (implGetText_any s (p : Int) wr (wf_p (by unfold maxLen at hs; omega)) HS.out HE.out).mono ?_
      rintro e w1 ⟨rfl, hb⟩
      rw [HGT.out]
      unfold textOutV
      dsimp only
      have HB1 := Lib.hid hb
      clear hb
      go_wp2_with fail
      have HbX : Below wr.heap.size wr (w1.alloc (.cells #[.string ⟨#[]⟩, .int .i64 0, .int .i64 k] 37)) := HB1.out.alloc HB1.out.size _
      exact bodyPost_ret (v := .slice a rs.length c) (by simp [results, Tryz.results6, go_sem]) rfl ⟨a, _, c, rs, rfl, rfl, HSS.out.below HbX, by rw [HTX.out, HTE.out, List.append_nil], HB.out.trans (HbX.mono HB.out.size)⟩
end Go.Proofs.YtnoefpkhbllmiaaGreatDoor
namespace Go.Proofs.YtnoefpkhbllmiaaGreatDoor
open Go.RowKit Go.PlainAid G MGet MGF IRow MNum MJoin
set_option linter.unusedVariables false
theorem SB.other {w : World} {b : Nat} {u : ByteArray} {p : Int} {z : Bool} (k : SB w b u p z) (h i : Nat) (v : Value) (hne : h ≠ b) : SB (w.setCell ⟨h, i, none⟩ v) b u p z :=
  ⟨by simpa using k.lt, (World.cell?_setCell_other _ ⟨h, i, none⟩ ⟨b, 0, none⟩ _ (by intro e; injection e with e; exact hne e)).trans k.c0, (World.cell?_setCell_other _ ⟨h, i, none⟩ ⟨b, 1, none⟩ _ (by intro e; injection e with e; exact hne e)).trans k.c1, (World.cell?_setCell_other _ ⟨h, i, none⟩ ⟨b, 2, none⟩ _ (by intro e; injection e with e; exact hne e)).trans k.c2, by simpa using k.f1, by simpa using k.f2⟩
set_option maxRecDepth 100000 in
set_option maxHeartbeats 6400000 in
theorem srcDeed_any (b : Nat) (u : ByteArray) (q : Plc) (w : World) (hR : SB w b u (q.1 : Int) q.2) (hu : u.size ≤ 8000) (ha : q.1 ≤ u.size) :
    Calls Tryz.prog 37 #[.pointer (some ⟨b, 0, none⟩)] w fun e w' => e = .returned (ddV (rdDeed u q).1) ∧ SB w' b u ((rdDeed u q).2.1 : Int) (rdDeed u q).2.2 ∧ w.grownBy w' (some b) := by
  obtain ⟨W, hW⟩ : ∃ W, W = w.alloc (.cells #[.int .i64 0, .int .i64 0, .int .i64 0, .int .i64 0, .int .i64 0, .int .i64 0, .string ⟨#[]⟩, .string ⟨#[]⟩, .int .i64 0, .string ⟨#[]⟩] 71) := ⟨_, rfl⟩
  obtain ⟨h, hh⟩ : ∃ h, h = w.heap.size := ⟨_, rfl⟩
  have HY0 := Lib.hid (show BoxC W h [.int .i64 0, .int .i64 0, .int .i64 0, .int .i64 0, .int .i64 0, .int .i64 0, .string ⟨#[]⟩, .string ⟨#[]⟩, .int .i64 0, .string ⟨#[]⟩] by rw [hW, hh]; exact BoxC.made _ _ _)
  have hb0 : Below w.heap.size w W := by rw [hW]; exact (Below.refl _ _).alloc (Nat.le_refl _) _
  have HR0 := Lib.hid (hR.below hb0)
  have HG0 := Lib.hid (show w.grownBy W (some b) from fg_below hb0)
  have hbh : b < h := by rw [hh]; exact hR.lt
  have hne : h ≠ b := by omega
  have HHW := Lib.hid (show w.heap.size ≤ h by omega)
  clear hR hb0
  go_enter Tryz.func37, Tryz.ntmps37
  go_wp2_with fail
  rw [← hW, ← hh]
  clear hW hh
  obtain ⟨k, q1, he⟩ : ∃ k q1, sN u q = (k, q1) := ⟨_, _, rfl⟩
  have HE := Lib.hid he
  have hq1 : q1.1 ≤ u.size := by have := sN_le (u := u) (q := q) ha; rw [he] at this; exact this
  clear he
  refine (srcNum_any b u q _ HR0.out hu ha).mono ?_
  rintro e w1 ⟨rfl, hr, hg⟩
  rw [HE.out] at hr ⊢
  dsimp only at hr ⊢
  obtain ⟨V, hV⟩ : ∃ V, V = w1.alloc (.cells #[.int .i64 k, .int .i64 0, .int .i64 0, .int .i64 0, .int .i64 0, .int .i64 0, .string ⟨#[]⟩, .string ⟨#[]⟩, .int .i64 0, .string ⟨#[]⟩] 71) := ⟨_, rfl⟩
  obtain ⟨x, hx⟩ : ∃ x, x = w1.heap.size := ⟨_, rfl⟩
  have hb1 : Below w1.heap.size w1 V := by rw [hV]; exact (Below.refl _ _).alloc (Nat.le_refl _) _
  have HR1 := Lib.hid (hr.below hb1)
  have HY1 := Lib.hid ((HY0.out.kept hg hne).below hb1)
  have HG1 := Lib.hid (grown_trans HG0.out (grown_trans hg (fg_below hb1)))
  have HX1 := Lib.hid (show BoxC V x [.int .i64 k, .int .i64 0, .int .i64 0, .int .i64 0, .int .i64 0, .int .i64 0, .string ⟨#[]⟩, .string ⟨#[]⟩, .int .i64 0, .string ⟨#[]⟩] by rw [hV, hx]; exact BoxC.made _ _ _)
  have hxh : h < x := by rw [hx]; exact (HY0.out.kept hg hne).lt
  have hxb : x ≠ b := by omega
  clear hr hg hb1 HY0 HR0 HG0
  by_cases hk1 : k = 1
  · skip
    subst hk1
    have HRC : Hid (∀ q, rcRest u 1 q = rcConf u 1 q) := Lib.hid (fun q => by unfold rcRest; simp)
    go_wp2_with fail
    rw [← hV, ← hx]
    clear hV hx
    obtain ⟨n2, q2, he2⟩ : ∃ n2 q2, sN u q1 = (n2, q2) := ⟨_, _, rfl⟩
    have HE2 := Lib.hid he2
    have hq2 : q2.1 ≤ u.size := by have := sN_le (u := u) (q := q1) hq1; rw [he2] at this; exact this
    clear he2
    refine (srcNum_any b u q1 _ HR1.out hu hq1).mono ?_
    rintro e w2 ⟨rfl, hr, hg⟩
    rw [HE2.out] at hr ⊢
    dsimp only at hr ⊢
    have HR2 := Lib.hid hr
    have HY2 := Lib.hid (HY1.out.kept hg hne)
    have HX2 := Lib.hid (HX1.out.kept hg hxb)
    have HG2 := Lib.hid (grown_trans HG1.out hg)
    clear hr hg HY1 HX1
    go_wp2_with fail
    obtain ⟨n3, q3, he3⟩ : ∃ n3 q3, sN u q2 = (n3, q3) := ⟨_, _, rfl⟩
    have HE3 := Lib.hid he3
    have hq3 : q3.1 ≤ u.size := by have := sN_le (u := u) (q := q2) hq2; rw [he3] at this; exact this
    clear he3
    refine (srcNum_any b u q2 _ HR2.out hu hq2).mono ?_
    rintro e w3 ⟨rfl, hr, hg⟩
    rw [HE3.out] at hr ⊢
    dsimp only at hr ⊢
    have HR3 := Lib.hid hr
    have HY3 := Lib.hid (HY2.out.kept hg hne)
    have HX3 := Lib.hid (HX2.out.kept hg hxb)
    have HG3 := Lib.hid (grown_trans HG2.out hg)
    clear hr hg HY2 HX2
    go_wp2_with fail
    obtain ⟨n4, q4, he4⟩ : ∃ n4 q4, sN u q3 = (n4, q4) := ⟨_, _, rfl⟩
    have HE4 := Lib.hid he4
    have hq4 : q4.1 ≤ u.size := by have := sN_le (u := u) (q := q3) hq3; rw [he4] at this; exact this
    clear he4
    refine (srcNum_any b u q3 _ HR3.out hu hq3).mono ?_
    rintro e w4 ⟨rfl, hr, hg⟩
    rw [HE4.out] at hr ⊢
    dsimp only at hr ⊢
    have HR4 := Lib.hid hr
    have HY4 := Lib.hid (HY3.out.kept hg hne)
    have HX4 := Lib.hid (HX3.out.kept hg hxb)
    have HG4 := Lib.hid (grown_trans HG3.out hg)
    clear hr hg HY3 HX3
    go_wp2_with fail
    obtain ⟨n5, q5, he5⟩ : ∃ n5 q5, sN u q4 = (n5, q5) := ⟨_, _, rfl⟩
    have HE5 := Lib.hid he5
    have hq5 : q5.1 ≤ u.size := by have := sN_le (u := u) (q := q4) hq4; rw [he5] at this; exact this
    clear he5
    refine (srcNum_any b u q4 _ HR4.out hu hq4).mono ?_
    rintro e w5 ⟨rfl, hr, hg⟩
    rw [HE5.out] at hr ⊢
    dsimp only at hr ⊢
    have HR5 := Lib.hid hr
    have HY5 := Lib.hid (HY4.out.kept hg hne)
    have HX5 := Lib.hid (HX4.out.kept hg hxb)
    have HG5 := Lib.hid (grown_trans HG4.out hg)
    clear hr hg HY4 HX4
    have x0 := HX5.out.cell 0 _ rfl
    have fx0 := HX5.out.free 0
    have x1 := HX5.out.cell 1 _ rfl
    have fx1 := HX5.out.free 1
    have x2 := HX5.out.cell 2 _ rfl
    have fx2 := HX5.out.free 2
    have x3 := HX5.out.cell 3 _ rfl
    have fx3 := HX5.out.free 3
    have x4 := HX5.out.cell 4 _ rfl
    have fx4 := HX5.out.free 4
    have x5 := HX5.out.cell 5 _ rfl
    have fx5 := HX5.out.free 5
    have x6 := HX5.out.cell 6 _ rfl
    have fx6 := HX5.out.free 6
    have x7 := HX5.out.cell 7 _ rfl
    have fx7 := HX5.out.free 7
    have x8 := HX5.out.cell 8 _ rfl
    have fx8 := HX5.out.free 8
    have x9 := HX5.out.cell 9 _ rfl
    have fx9 := HX5.out.free 9
    obtain ⟨X, hX⟩ : ∃ X, X = (((w5.setCell ⟨x, 1, none⟩ (.int .i64 n2)).setCell ⟨x, 2, none⟩ (.int .i64 n3)).setCell ⟨x, 3, none⟩ (.int .i64 n4)).setCell ⟨x, 4, none⟩ (.int .i64 n5) := ⟨_, rfl⟩
    have HXX := Lib.hid (show BoxC X x [.int .i64 1, .int .i64 n2, .int .i64 n3, .int .i64 n4, .int .i64 n5, .int .i64 0, .string ⟨#[]⟩, .string ⟨#[]⟩, .int .i64 0, .string ⟨#[]⟩] by rw [hX]; exact ((((HX5.out.set (j := 1) (by simp) (.int .i64 n2)).set (j := 2) (by simp) (.int .i64 n3)).set (j := 3) (by simp) (.int .i64 n4)).set (j := 4) (by simp) (.int .i64 n5)))
    have HRX := Lib.hid (show SB X b u (q5.1 : Int) q5.2 by rw [hX]; exact ((((HR5.out.other x 1 (.int .i64 n2) hxb).other x 2 (.int .i64 n3) hxb).other x 3 (.int .i64 n4) hxb).other x 4 (.int .i64 n5) hxb))
    have HYX := Lib.hid (show BoxC X h [.int .i64 0, .int .i64 0, .int .i64 0, .int .i64 0, .int .i64 0, .int .i64 0, .string ⟨#[]⟩, .string ⟨#[]⟩, .int .i64 0, .string ⟨#[]⟩] by rw [hX]; exact ((((HY5.out.other ⟨x, 1, none⟩ (.int .i64 n2) (by show x ≠ h; omega)).other ⟨x, 2, none⟩ (.int .i64 n3) (by show x ≠ h; omega)).other ⟨x, 3, none⟩ (.int .i64 n4) (by show x ≠ h; omega)).other ⟨x, 4, none⟩ (.int .i64 n5) (by show x ≠ h; omega)))
    have HGX := Lib.hid (show w.grownBy X (some b) by rw [hX]; exact grown_own (grown_own (grown_own (grown_own (HG5.out) (grown_set _ x 1 _) (fun g hg => by cases hg; have := HHW.out; omega)) (grown_set _ x 2 _) (fun g hg => by cases hg; have := HHW.out; omega)) (grown_set _ x 3 _) (fun g hg => by cases hg; have := HHW.out; omega)) (grown_set _ x 4 _) (fun g hg => by cases hg; have := HHW.out; omega))
    have hlx := HX5.out.lt
    clear HR5 HX5 HY5
    go_upto_region 11 with fail
    rw [← hX]
    clear hX x0 fx0 x1 fx1 x2 fx2 x3 fx3 x4 fx4 x5 fx5 x6 fx6 x7 fx7 x8 fx8 x9 fx9 hlx
    have HEQ : Hid (rdDeed u q = (⟨1, n2, n3, n4, n5, 0, ⟨#[]⟩, ⟨#[]⟩, 0, ⟨#[]⟩⟩, q5)) := Lib.hid (by simp only [rdDeed, HRC.out, rcConf, HE.out, HE2.out, HE3.out, HE4.out, HE5.out])
    have x0 := HXX.out.cell 0 _ rfl
    have x1 := HXX.out.cell 1 _ rfl
    have x2 := HXX.out.cell 2 _ rfl
    have x3 := HXX.out.cell 3 _ rfl
    have x4 := HXX.out.cell 4 _ rfl
    have x5 := HXX.out.cell 5 _ rfl
    have x6 := HXX.out.cell 6 _ rfl
    have x7 := HXX.out.cell 7 _ rfl
    have x8 := HXX.out.cell 8 _ rfl
    have x9 := HXX.out.cell 9 _ rfl
    have y0 := HYX.out.cell 0 _ rfl
    have fy0 := HYX.out.free 0
    have y1 := HYX.out.cell 1 _ rfl
    have fy1 := HYX.out.free 1
    have y2 := HYX.out.cell 2 _ rfl
    have fy2 := HYX.out.free 2
    have y3 := HYX.out.cell 3 _ rfl
    have fy3 := HYX.out.free 3
    have y4 := HYX.out.cell 4 _ rfl
    have fy4 := HYX.out.free 4
    have y5 := HYX.out.cell 5 _ rfl
    have fy5 := HYX.out.free 5
    have y6 := HYX.out.cell 6 _ rfl
    have fy6 := HYX.out.free 6
    have y7 := HYX.out.cell 7 _ rfl
    have fy7 := HYX.out.free 7
    have y8 := HYX.out.cell 8 _ rfl
    have fy8 := HYX.out.free 8
    have y9 := HYX.out.cell 9 _ rfl
    have fy9 := HYX.out.free 9
    have hly := HYX.out.lt
    go_wp2_with fail
    exact bodyPost_ret (v := .agg #[.int .i64 1, .int .i64 n2, .int .i64 n3, .int .i64 n4, .int .i64 n5, .int .i64 0, .string ⟨#[]⟩, .string ⟨#[]⟩, .int .i64 0, .string ⟨#[]⟩]) (by simp [results, Tryz.results37, go_sem, hly, y0, y1, y2, y3, y4, y5, y6, y7, y8, y9]) rfl ⟨by rw [HEQ.out]; rfl, by rw [HEQ.out]; exact ((((((((((HRX.out.other h 0 (.int .i64 1) hne).other h 1 (.int .i64 n2) hne).other h 2 (.int .i64 n3) hne).other h 3 (.int .i64 n4) hne).other h 4 (.int .i64 n5) hne).other h 5 (.int .i64 0) hne).other h 6 (.string ⟨#[]⟩) hne).other h 7 (.string ⟨#[]⟩) hne).other h 8 (.int .i64 0) hne).other h 9 (.string ⟨#[]⟩) hne), grown_own (grown_own (grown_own (grown_own (grown_own (grown_own (grown_own (grown_own (grown_own (grown_own (HGX.out) (grown_set _ h 0 (.int .i64 1)) (fun g hg => by cases hg; exact HHW.out)) (grown_set _ h 1 (.int .i64 n2)) (fun g hg => by cases hg; exact HHW.out)) (grown_set _ h 2 (.int .i64 n3)) (fun g hg => by cases hg; exact HHW.out)) (grown_set _ h 3 (.int .i64 n4)) (fun g hg => by cases hg; exact HHW.out)) (grown_set _ h 4 (.int .i64 n5)) (fun g hg => by cases hg; exact HHW.out)) (grown_set _ h 5 (.int .i64 0)) (fun g hg => by cases hg; exact HHW.out)) (grown_set _ h 6 (.string ⟨#[]⟩)) (fun g hg => by cases hg; exact HHW.out)) (grown_set _ h 7 (.string ⟨#[]⟩)) (fun g hg => by cases hg; exact HHW.out)) (grown_set _ h 8 (.int .i64 0)) (fun g hg => by cases hg; exact HHW.out)) (grown_set _ h 9 (.string ⟨#[]⟩)) (fun g hg => by cases hg; exact HHW.out)⟩
  · skip
    by_cases hk2 : k = 2
    · skip
      subst hk2
      have HRC : Hid (∀ q, rcRest u 2 q = rcTerm u 2 q) := Lib.hid (fun q => by unfold rcRest; simp)
      go_wp2_with fail
      rw [← hV, ← hx]
      clear hV hx
      obtain ⟨n2, q2, he2⟩ : ∃ n2 q2, sN u q1 = (n2, q2) := ⟨_, _, rfl⟩
      have HE2 := Lib.hid he2
      have hq2 : q2.1 ≤ u.size := by have := sN_le (u := u) (q := q1) hq1; rw [he2] at this; exact this
      clear he2
      refine (srcNum_any b u q1 _ HR1.out hu hq1).mono ?_
      rintro e w2 ⟨rfl, hr, hg⟩
      rw [HE2.out] at hr ⊢
      dsimp only at hr ⊢
      have HR2 := Lib.hid hr
      have HY2 := Lib.hid (HY1.out.kept hg hne)
      have HX2 := Lib.hid (HX1.out.kept hg hxb)
      have HG2 := Lib.hid (grown_trans HG1.out hg)
      clear hr hg HY1 HX1
      go_wp2_with fail
      obtain ⟨t3, q3, he3⟩ : ∃ t3 q3, sT u q2 = (t3, q3) := ⟨_, _, rfl⟩
      have HE3 := Lib.hid he3
      have hq3 : q3.1 ≤ u.size := by have := sT_le (u := u) (q := q2) hq2; rw [he3] at this; exact this
      clear he3
      refine (srcStr_any b u q2 _ HR2.out hu hq2).mono ?_
      rintro e w3 ⟨rfl, hr, hg⟩
      rw [HE3.out] at hr ⊢
      dsimp only at hr ⊢
      have HR3 := Lib.hid hr
      have HY3 := Lib.hid (HY2.out.kept hg hne)
      have HX3 := Lib.hid (HX2.out.kept hg hxb)
      have HG3 := Lib.hid (grown_trans HG2.out hg)
      clear hr hg HY2 HX2
      have x0 := HX3.out.cell 0 _ rfl
      have fx0 := HX3.out.free 0
      have x1 := HX3.out.cell 1 _ rfl
      have fx1 := HX3.out.free 1
      have x2 := HX3.out.cell 2 _ rfl
      have fx2 := HX3.out.free 2
      have x3 := HX3.out.cell 3 _ rfl
      have fx3 := HX3.out.free 3
      have x4 := HX3.out.cell 4 _ rfl
      have fx4 := HX3.out.free 4
      have x5 := HX3.out.cell 5 _ rfl
      have fx5 := HX3.out.free 5
      have x6 := HX3.out.cell 6 _ rfl
      have fx6 := HX3.out.free 6
      have x7 := HX3.out.cell 7 _ rfl
      have fx7 := HX3.out.free 7
      have x8 := HX3.out.cell 8 _ rfl
      have fx8 := HX3.out.free 8
      have x9 := HX3.out.cell 9 _ rfl
      have fx9 := HX3.out.free 9
      obtain ⟨X, hX⟩ : ∃ X, X = (w3.setCell ⟨x, 5, none⟩ (.int .i64 n2)).setCell ⟨x, 6, none⟩ (.string t3) := ⟨_, rfl⟩
      have HXX := Lib.hid (show BoxC X x [.int .i64 2, .int .i64 0, .int .i64 0, .int .i64 0, .int .i64 0, .int .i64 n2, .string t3, .string ⟨#[]⟩, .int .i64 0, .string ⟨#[]⟩] by rw [hX]; exact ((HX3.out.set (j := 5) (by simp) (.int .i64 n2)).set (j := 6) (by simp) (.string t3)))
      have HRX := Lib.hid (show SB X b u (q3.1 : Int) q3.2 by rw [hX]; exact ((HR3.out.other x 5 (.int .i64 n2) hxb).other x 6 (.string t3) hxb))
      have HYX := Lib.hid (show BoxC X h [.int .i64 0, .int .i64 0, .int .i64 0, .int .i64 0, .int .i64 0, .int .i64 0, .string ⟨#[]⟩, .string ⟨#[]⟩, .int .i64 0, .string ⟨#[]⟩] by rw [hX]; exact ((HY3.out.other ⟨x, 5, none⟩ (.int .i64 n2) (by show x ≠ h; omega)).other ⟨x, 6, none⟩ (.string t3) (by show x ≠ h; omega)))
      have HGX := Lib.hid (show w.grownBy X (some b) by rw [hX]; exact grown_own (grown_own (HG3.out) (grown_set _ x 5 _) (fun g hg => by cases hg; have := HHW.out; omega)) (grown_set _ x 6 _) (fun g hg => by cases hg; have := HHW.out; omega))
      have hlx := HX3.out.lt
      clear HR3 HX3 HY3
      go_upto_region 11 with fail
      rw [← hX]
      clear hX x0 fx0 x1 fx1 x2 fx2 x3 fx3 x4 fx4 x5 fx5 x6 fx6 x7 fx7 x8 fx8 x9 fx9 hlx
      have HEQ : Hid (rdDeed u q = (⟨2, 0, 0, 0, 0, n2, t3, ⟨#[]⟩, 0, ⟨#[]⟩⟩, q3)) := Lib.hid (by simp only [rdDeed, HRC.out, rcTerm, HE.out, HE2.out, HE3.out])
      have x0 := HXX.out.cell 0 _ rfl
      have x1 := HXX.out.cell 1 _ rfl
      have x2 := HXX.out.cell 2 _ rfl
      have x3 := HXX.out.cell 3 _ rfl
      have x4 := HXX.out.cell 4 _ rfl
      have x5 := HXX.out.cell 5 _ rfl
      have x6 := HXX.out.cell 6 _ rfl
      have x7 := HXX.out.cell 7 _ rfl
      have x8 := HXX.out.cell 8 _ rfl
      have x9 := HXX.out.cell 9 _ rfl
      have y0 := HYX.out.cell 0 _ rfl
      have fy0 := HYX.out.free 0
      have y1 := HYX.out.cell 1 _ rfl
      have fy1 := HYX.out.free 1
      have y2 := HYX.out.cell 2 _ rfl
      have fy2 := HYX.out.free 2
      have y3 := HYX.out.cell 3 _ rfl
      have fy3 := HYX.out.free 3
      have y4 := HYX.out.cell 4 _ rfl
      have fy4 := HYX.out.free 4
      have y5 := HYX.out.cell 5 _ rfl
      have fy5 := HYX.out.free 5
      have y6 := HYX.out.cell 6 _ rfl
      have fy6 := HYX.out.free 6
      have y7 := HYX.out.cell 7 _ rfl
      have fy7 := HYX.out.free 7
      have y8 := HYX.out.cell 8 _ rfl
      have fy8 := HYX.out.free 8
      have y9 := HYX.out.cell 9 _ rfl
      have fy9 := HYX.out.free 9
      have hly := HYX.out.lt
      go_wp2_with fail
      exact bodyPost_ret (v := .agg #[.int .i64 2, .int .i64 0, .int .i64 0, .int .i64 0, .int .i64 0, .int .i64 n2, .string t3, .string ⟨#[]⟩, .int .i64 0, .string ⟨#[]⟩]) (by simp [results, Tryz.results37, go_sem, hly, y0, y1, y2, y3, y4, y5, y6, y7, y8, y9]) rfl ⟨by rw [HEQ.out]; rfl, by rw [HEQ.out]; exact ((((((((((HRX.out.other h 0 (.int .i64 2) hne).other h 1 (.int .i64 0) hne).other h 2 (.int .i64 0) hne).other h 3 (.int .i64 0) hne).other h 4 (.int .i64 0) hne).other h 5 (.int .i64 n2) hne).other h 6 (.string t3) hne).other h 7 (.string ⟨#[]⟩) hne).other h 8 (.int .i64 0) hne).other h 9 (.string ⟨#[]⟩) hne), grown_own (grown_own (grown_own (grown_own (grown_own (grown_own (grown_own (grown_own (grown_own (grown_own (HGX.out) (grown_set _ h 0 (.int .i64 2)) (fun g hg => by cases hg; exact HHW.out)) (grown_set _ h 1 (.int .i64 0)) (fun g hg => by cases hg; exact HHW.out)) (grown_set _ h 2 (.int .i64 0)) (fun g hg => by cases hg; exact HHW.out)) (grown_set _ h 3 (.int .i64 0)) (fun g hg => by cases hg; exact HHW.out)) (grown_set _ h 4 (.int .i64 0)) (fun g hg => by cases hg; exact HHW.out)) (grown_set _ h 5 (.int .i64 n2)) (fun g hg => by cases hg; exact HHW.out)) (grown_set _ h 6 (.string t3)) (fun g hg => by cases hg; exact HHW.out)) (grown_set _ h 7 (.string ⟨#[]⟩)) (fun g hg => by cases hg; exact HHW.out)) (grown_set _ h 8 (.int .i64 0)) (fun g hg => by cases hg; exact HHW.out)) (grown_set _ h 9 (.string ⟨#[]⟩)) (fun g hg => by cases hg; exact HHW.out)⟩
    · skip
      by_cases hk3 : k = 3
      · skip
        subst hk3
        have HRC : Hid (∀ q, rcRest u 3 q = rcPut u 3 q) := Lib.hid (fun q => by unfold rcRest; simp)
        go_wp2_with fail
        rw [← hV, ← hx]
        clear hV hx
        obtain ⟨t2, q2, he2⟩ : ∃ t2 q2, sT u q1 = (t2, q2) := ⟨_, _, rfl⟩
        have HE2 := Lib.hid he2
        have hq2 : q2.1 ≤ u.size := by have := sT_le (u := u) (q := q1) hq1; rw [he2] at this; exact this
        clear he2
        refine (srcStr_any b u q1 _ HR1.out hu hq1).mono ?_
        rintro e w2 ⟨rfl, hr, hg⟩
        rw [HE2.out] at hr ⊢
        dsimp only at hr ⊢
        have HR2 := Lib.hid hr
        have HY2 := Lib.hid (HY1.out.kept hg hne)
        have HX2 := Lib.hid (HX1.out.kept hg hxb)
        have HG2 := Lib.hid (grown_trans HG1.out hg)
        clear hr hg HY1 HX1
        go_wp2_with fail
        obtain ⟨n3, q3, he3⟩ : ∃ n3 q3, sN u q2 = (n3, q3) := ⟨_, _, rfl⟩
        have HE3 := Lib.hid he3
        have hq3 : q3.1 ≤ u.size := by have := sN_le (u := u) (q := q2) hq2; rw [he3] at this; exact this
        clear he3
        refine (srcNum_any b u q2 _ HR2.out hu hq2).mono ?_
        rintro e w3 ⟨rfl, hr, hg⟩
        rw [HE3.out] at hr ⊢
        dsimp only at hr ⊢
        have HR3 := Lib.hid hr
        have HY3 := Lib.hid (HY2.out.kept hg hne)
        have HX3 := Lib.hid (HX2.out.kept hg hxb)
        have HG3 := Lib.hid (grown_trans HG2.out hg)
        clear hr hg HY2 HX2
        go_wp2_with fail
        obtain ⟨t4, q4, he4⟩ : ∃ t4 q4, sT u q3 = (t4, q4) := ⟨_, _, rfl⟩
        have HE4 := Lib.hid he4
        have hq4 : q4.1 ≤ u.size := by have := sT_le (u := u) (q := q3) hq3; rw [he4] at this; exact this
        clear he4
        refine (srcStr_any b u q3 _ HR3.out hu hq3).mono ?_
        rintro e w4 ⟨rfl, hr, hg⟩
        rw [HE4.out] at hr ⊢
        dsimp only at hr ⊢
        have HR4 := Lib.hid hr
        have HY4 := Lib.hid (HY3.out.kept hg hne)
        have HX4 := Lib.hid (HX3.out.kept hg hxb)
        have HG4 := Lib.hid (grown_trans HG3.out hg)
        clear hr hg HY3 HX3
        have x0 := HX4.out.cell 0 _ rfl
        have fx0 := HX4.out.free 0
        have x1 := HX4.out.cell 1 _ rfl
        have fx1 := HX4.out.free 1
        have x2 := HX4.out.cell 2 _ rfl
        have fx2 := HX4.out.free 2
        have x3 := HX4.out.cell 3 _ rfl
        have fx3 := HX4.out.free 3
        have x4 := HX4.out.cell 4 _ rfl
        have fx4 := HX4.out.free 4
        have x5 := HX4.out.cell 5 _ rfl
        have fx5 := HX4.out.free 5
        have x6 := HX4.out.cell 6 _ rfl
        have fx6 := HX4.out.free 6
        have x7 := HX4.out.cell 7 _ rfl
        have fx7 := HX4.out.free 7
        have x8 := HX4.out.cell 8 _ rfl
        have fx8 := HX4.out.free 8
        have x9 := HX4.out.cell 9 _ rfl
        have fx9 := HX4.out.free 9
        obtain ⟨X, hX⟩ : ∃ X, X = ((w4.setCell ⟨x, 7, none⟩ (.string t2)).setCell ⟨x, 8, none⟩ (.int .i64 n3)).setCell ⟨x, 9, none⟩ (.string t4) := ⟨_, rfl⟩
        have HXX := Lib.hid (show BoxC X x [.int .i64 3, .int .i64 0, .int .i64 0, .int .i64 0, .int .i64 0, .int .i64 0, .string ⟨#[]⟩, .string t2, .int .i64 n3, .string t4] by rw [hX]; exact (((HX4.out.set (j := 7) (by simp) (.string t2)).set (j := 8) (by simp) (.int .i64 n3)).set (j := 9) (by simp) (.string t4)))
        have HRX := Lib.hid (show SB X b u (q4.1 : Int) q4.2 by rw [hX]; exact (((HR4.out.other x 7 (.string t2) hxb).other x 8 (.int .i64 n3) hxb).other x 9 (.string t4) hxb))
        have HYX := Lib.hid (show BoxC X h [.int .i64 0, .int .i64 0, .int .i64 0, .int .i64 0, .int .i64 0, .int .i64 0, .string ⟨#[]⟩, .string ⟨#[]⟩, .int .i64 0, .string ⟨#[]⟩] by rw [hX]; exact (((HY4.out.other ⟨x, 7, none⟩ (.string t2) (by show x ≠ h; omega)).other ⟨x, 8, none⟩ (.int .i64 n3) (by show x ≠ h; omega)).other ⟨x, 9, none⟩ (.string t4) (by show x ≠ h; omega)))
        have HGX := Lib.hid (show w.grownBy X (some b) by rw [hX]; exact grown_own (grown_own (grown_own (HG4.out) (grown_set _ x 7 _) (fun g hg => by cases hg; have := HHW.out; omega)) (grown_set _ x 8 _) (fun g hg => by cases hg; have := HHW.out; omega)) (grown_set _ x 9 _) (fun g hg => by cases hg; have := HHW.out; omega))
        have hlx := HX4.out.lt
        clear HR4 HX4 HY4
        go_upto_region 11 with fail
        rw [← hX]
        clear hX x0 fx0 x1 fx1 x2 fx2 x3 fx3 x4 fx4 x5 fx5 x6 fx6 x7 fx7 x8 fx8 x9 fx9 hlx
        have HEQ : Hid (rdDeed u q = (⟨3, 0, 0, 0, 0, 0, ⟨#[]⟩, t2, n3, t4⟩, q4)) := Lib.hid (by simp only [rdDeed, HRC.out, rcPut, HE.out, HE2.out, HE3.out, HE4.out])
        have x0 := HXX.out.cell 0 _ rfl
        have x1 := HXX.out.cell 1 _ rfl
        have x2 := HXX.out.cell 2 _ rfl
        have x3 := HXX.out.cell 3 _ rfl
        have x4 := HXX.out.cell 4 _ rfl
        have x5 := HXX.out.cell 5 _ rfl
        have x6 := HXX.out.cell 6 _ rfl
        have x7 := HXX.out.cell 7 _ rfl
        have x8 := HXX.out.cell 8 _ rfl
        have x9 := HXX.out.cell 9 _ rfl
        have y0 := HYX.out.cell 0 _ rfl
        have fy0 := HYX.out.free 0
        have y1 := HYX.out.cell 1 _ rfl
        have fy1 := HYX.out.free 1
        have y2 := HYX.out.cell 2 _ rfl
        have fy2 := HYX.out.free 2
        have y3 := HYX.out.cell 3 _ rfl
        have fy3 := HYX.out.free 3
        have y4 := HYX.out.cell 4 _ rfl
        have fy4 := HYX.out.free 4
        have y5 := HYX.out.cell 5 _ rfl
        have fy5 := HYX.out.free 5
        have y6 := HYX.out.cell 6 _ rfl
        have fy6 := HYX.out.free 6
        have y7 := HYX.out.cell 7 _ rfl
        have fy7 := HYX.out.free 7
        have y8 := HYX.out.cell 8 _ rfl
        have fy8 := HYX.out.free 8
        have y9 := HYX.out.cell 9 _ rfl
        have fy9 := HYX.out.free 9
        have hly := HYX.out.lt
        go_wp2_with fail
        exact bodyPost_ret (v := .agg #[.int .i64 3, .int .i64 0, .int .i64 0, .int .i64 0, .int .i64 0, .int .i64 0, .string ⟨#[]⟩, .string t2, .int .i64 n3, .string t4]) (by simp [results, Tryz.results37, go_sem, hly, y0, y1, y2, y3, y4, y5, y6, y7, y8, y9]) rfl ⟨by rw [HEQ.out]; rfl, by rw [HEQ.out]; exact ((((((((((HRX.out.other h 0 (.int .i64 3) hne).other h 1 (.int .i64 0) hne).other h 2 (.int .i64 0) hne).other h 3 (.int .i64 0) hne).other h 4 (.int .i64 0) hne).other h 5 (.int .i64 0) hne).other h 6 (.string ⟨#[]⟩) hne).other h 7 (.string t2) hne).other h 8 (.int .i64 n3) hne).other h 9 (.string t4) hne), grown_own (grown_own (grown_own (grown_own (grown_own (grown_own (grown_own (grown_own (grown_own (grown_own (HGX.out) (grown_set _ h 0 (.int .i64 3)) (fun g hg => by cases hg; exact HHW.out)) (grown_set _ h 1 (.int .i64 0)) (fun g hg => by cases hg; exact HHW.out)) (grown_set _ h 2 (.int .i64 0)) (fun g hg => by cases hg; exact HHW.out)) (grown_set _ h 3 (.int .i64 0)) (fun g hg => by cases hg; exact HHW.out)) (grown_set _ h 4 (.int .i64 0)) (fun g hg => by cases hg; exact HHW.out)) (grown_set _ h 5 (.int .i64 0)) (fun g hg => by cases hg; exact HHW.out)) (grown_set _ h 6 (.string ⟨#[]⟩)) (fun g hg => by cases hg; exact HHW.out)) (grown_set _ h 7 (.string t2)) (fun g hg => by cases hg; exact HHW.out)) (grown_set _ h 8 (.int .i64 n3)) (fun g hg => by cases hg; exact HHW.out)) (grown_set _ h 9 (.string t4)) (fun g hg => by cases hg; exact HHW.out)⟩
      · skip
        by_cases hk4 : k = 4
        · skip
          subst hk4
          have HRC : Hid (∀ q, rcRest u 4 q = rcDel u 4 q) := Lib.hid (fun q => by unfold rcRest; simp)
          go_wp2_with fail
          rw [← hV, ← hx]
          clear hV hx
          obtain ⟨t2, q2, he2⟩ : ∃ t2 q2, sT u q1 = (t2, q2) := ⟨_, _, rfl⟩
          have HE2 := Lib.hid he2
          have hq2 : q2.1 ≤ u.size := by have := sT_le (u := u) (q := q1) hq1; rw [he2] at this; exact this
          clear he2
          refine (srcStr_any b u q1 _ HR1.out hu hq1).mono ?_
          rintro e w2 ⟨rfl, hr, hg⟩
          rw [HE2.out] at hr ⊢
          dsimp only at hr ⊢
          have HR2 := Lib.hid hr
          have HY2 := Lib.hid (HY1.out.kept hg hne)
          have HX2 := Lib.hid (HX1.out.kept hg hxb)
          have HG2 := Lib.hid (grown_trans HG1.out hg)
          clear hr hg HY1 HX1
          have x0 := HX2.out.cell 0 _ rfl
          have fx0 := HX2.out.free 0
          have x1 := HX2.out.cell 1 _ rfl
          have fx1 := HX2.out.free 1
          have x2 := HX2.out.cell 2 _ rfl
          have fx2 := HX2.out.free 2
          have x3 := HX2.out.cell 3 _ rfl
          have fx3 := HX2.out.free 3
          have x4 := HX2.out.cell 4 _ rfl
          have fx4 := HX2.out.free 4
          have x5 := HX2.out.cell 5 _ rfl
          have fx5 := HX2.out.free 5
          have x6 := HX2.out.cell 6 _ rfl
          have fx6 := HX2.out.free 6
          have x7 := HX2.out.cell 7 _ rfl
          have fx7 := HX2.out.free 7
          have x8 := HX2.out.cell 8 _ rfl
          have fx8 := HX2.out.free 8
          have x9 := HX2.out.cell 9 _ rfl
          have fx9 := HX2.out.free 9
          obtain ⟨X, hX⟩ : ∃ X, X = ((w2.setCell ⟨x, 7, none⟩ (.string t2)).setCell ⟨x, 8, none⟩ (.int .i64 0)).setCell ⟨x, 9, none⟩ (.string ⟨#[]⟩) := ⟨_, rfl⟩
          have HXX := Lib.hid (show BoxC X x [.int .i64 4, .int .i64 0, .int .i64 0, .int .i64 0, .int .i64 0, .int .i64 0, .string ⟨#[]⟩, .string t2, .int .i64 0, .string ⟨#[]⟩] by rw [hX]; exact (((HX2.out.set (j := 7) (by simp) (.string t2)).set (j := 8) (by simp) (.int .i64 0)).set (j := 9) (by simp) (.string ⟨#[]⟩)))
          have HRX := Lib.hid (show SB X b u (q2.1 : Int) q2.2 by rw [hX]; exact (((HR2.out.other x 7 (.string t2) hxb).other x 8 (.int .i64 0) hxb).other x 9 (.string ⟨#[]⟩) hxb))
          have HYX := Lib.hid (show BoxC X h [.int .i64 0, .int .i64 0, .int .i64 0, .int .i64 0, .int .i64 0, .int .i64 0, .string ⟨#[]⟩, .string ⟨#[]⟩, .int .i64 0, .string ⟨#[]⟩] by rw [hX]; exact (((HY2.out.other ⟨x, 7, none⟩ (.string t2) (by show x ≠ h; omega)).other ⟨x, 8, none⟩ (.int .i64 0) (by show x ≠ h; omega)).other ⟨x, 9, none⟩ (.string ⟨#[]⟩) (by show x ≠ h; omega)))
          have HGX := Lib.hid (show w.grownBy X (some b) by rw [hX]; exact grown_own (grown_own (grown_own (HG2.out) (grown_set _ x 7 _) (fun g hg => by cases hg; have := HHW.out; omega)) (grown_set _ x 8 _) (fun g hg => by cases hg; have := HHW.out; omega)) (grown_set _ x 9 _) (fun g hg => by cases hg; have := HHW.out; omega))
          have hlx := HX2.out.lt
          clear HR2 HX2 HY2
          go_upto_region 11 with fail
          rw [← hX]
          clear hX x0 fx0 x1 fx1 x2 fx2 x3 fx3 x4 fx4 x5 fx5 x6 fx6 x7 fx7 x8 fx8 x9 fx9 hlx
          have HEQ : Hid (rdDeed u q = (⟨4, 0, 0, 0, 0, 0, ⟨#[]⟩, t2, 0, ⟨#[]⟩⟩, q2)) := Lib.hid (by simp only [rdDeed, HRC.out, rcDel, HE.out, HE2.out])
          have x0 := HXX.out.cell 0 _ rfl
          have x1 := HXX.out.cell 1 _ rfl
          have x2 := HXX.out.cell 2 _ rfl
          have x3 := HXX.out.cell 3 _ rfl
          have x4 := HXX.out.cell 4 _ rfl
          have x5 := HXX.out.cell 5 _ rfl
          have x6 := HXX.out.cell 6 _ rfl
          have x7 := HXX.out.cell 7 _ rfl
          have x8 := HXX.out.cell 8 _ rfl
          have x9 := HXX.out.cell 9 _ rfl
          have y0 := HYX.out.cell 0 _ rfl
          have fy0 := HYX.out.free 0
          have y1 := HYX.out.cell 1 _ rfl
          have fy1 := HYX.out.free 1
          have y2 := HYX.out.cell 2 _ rfl
          have fy2 := HYX.out.free 2
          have y3 := HYX.out.cell 3 _ rfl
          have fy3 := HYX.out.free 3
          have y4 := HYX.out.cell 4 _ rfl
          have fy4 := HYX.out.free 4
          have y5 := HYX.out.cell 5 _ rfl
          have fy5 := HYX.out.free 5
          have y6 := HYX.out.cell 6 _ rfl
          have fy6 := HYX.out.free 6
          have y7 := HYX.out.cell 7 _ rfl
          have fy7 := HYX.out.free 7
          have y8 := HYX.out.cell 8 _ rfl
          have fy8 := HYX.out.free 8
          have y9 := HYX.out.cell 9 _ rfl
          have fy9 := HYX.out.free 9
          have hly := HYX.out.lt
          go_wp2_with fail
          exact bodyPost_ret (v := .agg #[.int .i64 4, .int .i64 0, .int .i64 0, .int .i64 0, .int .i64 0, .int .i64 0, .string ⟨#[]⟩, .string t2, .int .i64 0, .string ⟨#[]⟩]) (by simp [results, Tryz.results37, go_sem, hly, y0, y1, y2, y3, y4, y5, y6, y7, y8, y9]) rfl ⟨by rw [HEQ.out]; rfl, by rw [HEQ.out]; exact ((((((((((HRX.out.other h 0 (.int .i64 4) hne).other h 1 (.int .i64 0) hne).other h 2 (.int .i64 0) hne).other h 3 (.int .i64 0) hne).other h 4 (.int .i64 0) hne).other h 5 (.int .i64 0) hne).other h 6 (.string ⟨#[]⟩) hne).other h 7 (.string t2) hne).other h 8 (.int .i64 0) hne).other h 9 (.string ⟨#[]⟩) hne), grown_own (grown_own (grown_own (grown_own (grown_own (grown_own (grown_own (grown_own (grown_own (grown_own (HGX.out) (grown_set _ h 0 (.int .i64 4)) (fun g hg => by cases hg; exact HHW.out)) (grown_set _ h 1 (.int .i64 0)) (fun g hg => by cases hg; exact HHW.out)) (grown_set _ h 2 (.int .i64 0)) (fun g hg => by cases hg; exact HHW.out)) (grown_set _ h 3 (.int .i64 0)) (fun g hg => by cases hg; exact HHW.out)) (grown_set _ h 4 (.int .i64 0)) (fun g hg => by cases hg; exact HHW.out)) (grown_set _ h 5 (.int .i64 0)) (fun g hg => by cases hg; exact HHW.out)) (grown_set _ h 6 (.string ⟨#[]⟩)) (fun g hg => by cases hg; exact HHW.out)) (grown_set _ h 7 (.string t2)) (fun g hg => by cases hg; exact HHW.out)) (grown_set _ h 8 (.int .i64 0)) (fun g hg => by cases hg; exact HHW.out)) (grown_set _ h 9 (.string ⟨#[]⟩)) (fun g hg => by cases hg; exact HHW.out)⟩
        · skip
          have ka : (k == 1) = false := by simp [hk1]
          have kb : (k == 2) = false := by simp [hk2]
          have kc : (k == 3) = false := by simp [hk3]
          have kd : (k == 4) = false := by simp [hk4]
          have HRC : Hid (∀ q, rcRest u k q = rcNone k q) := Lib.hid (fun q => by unfold rcRest; simp [hk1, hk2, hk3, hk4])
          go_upto_region 11 with fail
          rw [← hV, ← hx]
          clear hV hx
          have HXX := HX1
          have HRX := HR1
          have HYX := HY1
          have HGX := HG1
          have HEQ : Hid (rdDeed u q = (⟨k, 0, 0, 0, 0, 0, ⟨#[]⟩, ⟨#[]⟩, 0, ⟨#[]⟩⟩, q1)) := Lib.hid (by simp only [rdDeed, HRC.out, rcNone, HE.out])
          have x0 := HXX.out.cell 0 _ rfl
          have x1 := HXX.out.cell 1 _ rfl
          have x2 := HXX.out.cell 2 _ rfl
          have x3 := HXX.out.cell 3 _ rfl
          have x4 := HXX.out.cell 4 _ rfl
          have x5 := HXX.out.cell 5 _ rfl
          have x6 := HXX.out.cell 6 _ rfl
          have x7 := HXX.out.cell 7 _ rfl
          have x8 := HXX.out.cell 8 _ rfl
          have x9 := HXX.out.cell 9 _ rfl
          have y0 := HYX.out.cell 0 _ rfl
          have fy0 := HYX.out.free 0
          have y1 := HYX.out.cell 1 _ rfl
          have fy1 := HYX.out.free 1
          have y2 := HYX.out.cell 2 _ rfl
          have fy2 := HYX.out.free 2
          have y3 := HYX.out.cell 3 _ rfl
          have fy3 := HYX.out.free 3
          have y4 := HYX.out.cell 4 _ rfl
          have fy4 := HYX.out.free 4
          have y5 := HYX.out.cell 5 _ rfl
          have fy5 := HYX.out.free 5
          have y6 := HYX.out.cell 6 _ rfl
          have fy6 := HYX.out.free 6
          have y7 := HYX.out.cell 7 _ rfl
          have fy7 := HYX.out.free 7
          have y8 := HYX.out.cell 8 _ rfl
          have fy8 := HYX.out.free 8
          have y9 := HYX.out.cell 9 _ rfl
          have fy9 := HYX.out.free 9
          have hly := HYX.out.lt
          go_wp2_with fail
          exact bodyPost_ret (v := .agg #[.int .i64 k, .int .i64 0, .int .i64 0, .int .i64 0, .int .i64 0, .int .i64 0, .string ⟨#[]⟩, .string ⟨#[]⟩, .int .i64 0, .string ⟨#[]⟩]) (by simp [results, Tryz.results37, go_sem, hly, y0, y1, y2, y3, y4, y5, y6, y7, y8, y9]) rfl ⟨by rw [HEQ.out]; rfl, by rw [HEQ.out]; exact ((((((((((HRX.out.other h 0 (.int .i64 k) hne).other h 1 (.int .i64 0) hne).other h 2 (.int .i64 0) hne).other h 3 (.int .i64 0) hne).other h 4 (.int .i64 0) hne).other h 5 (.int .i64 0) hne).other h 6 (.string ⟨#[]⟩) hne).other h 7 (.string ⟨#[]⟩) hne).other h 8 (.int .i64 0) hne).other h 9 (.string ⟨#[]⟩) hne), grown_own (grown_own (grown_own (grown_own (grown_own (grown_own (grown_own (grown_own (grown_own (grown_own (HGX.out) (grown_set _ h 0 (.int .i64 k)) (fun g hg => by cases hg; exact HHW.out)) (grown_set _ h 1 (.int .i64 0)) (fun g hg => by cases hg; exact HHW.out)) (grown_set _ h 2 (.int .i64 0)) (fun g hg => by cases hg; exact HHW.out)) (grown_set _ h 3 (.int .i64 0)) (fun g hg => by cases hg; exact HHW.out)) (grown_set _ h 4 (.int .i64 0)) (fun g hg => by cases hg; exact HHW.out)) (grown_set _ h 5 (.int .i64 0)) (fun g hg => by cases hg; exact HHW.out)) (grown_set _ h 6 (.string ⟨#[]⟩)) (fun g hg => by cases hg; exact HHW.out)) (grown_set _ h 7 (.string ⟨#[]⟩)) (fun g hg => by cases hg; exact HHW.out)) (grown_set _ h 8 (.int .i64 0)) (fun g hg => by cases hg; exact HHW.out)) (grown_set _ h 9 (.string ⟨#[]⟩)) (fun g hg => by cases hg; exact HHW.out)⟩
end Go.Proofs.YtnoefpkhbllmiaaGreatDoor
namespace Go.Proofs.YtnoefpkhbllmiaaGreatDoor
open Go.RowKit Go.PlainAid G MGet MGF IRow MNum MJoin
set_option linter.unusedVariables false
theorem sT_fits {u : ByteArray} {q : Plc} (hu : u.size ≤ 8000) : (sT u q).1.size ≤ maxLen := by
  unfold sT
  split
  · exact Nat.le_trans (txt_fits (u := u) (a := q.1) hu) (by unfold maxLen; omega)
  · exact Nat.zero_le _
theorem rdDeed_fits {u : ByteArray} {q : Plc} (hu : u.size ≤ 8000) : (rdDeed u q).1.lk.size ≤ maxLen ∧ (rdDeed u q).1.nm.size ≤ maxLen ∧ (rdDeed u q).1.bd.size ≤ maxLen := by
  have h0 : (⟨#[]⟩ : ByteArray).size ≤ maxLen := Nat.zero_le _
  unfold rdDeed rcRest rcConf rcTerm rcPut rcDel rcNone
  repeat' split
  all_goals exact ⟨by first | exact h0 | exact sT_fits hu, by first | exact h0 | exact sT_fits hu, by first | exact h0 | exact sT_fits hu⟩
theorem SB.grown {w w' : World} {b : Nat} {u : ByteArray} {p : Int} {k : Bool} {row : Option Nat} (h : SB w b u p k) (hg : w.grownBy w' row) (hr : some b ≠ row) : SB w' b u p k := by
  have h1 := hg.block b h.lt hr
  exact ⟨Nat.lt_of_lt_of_le h.lt hg.size, (World.cell?_of_block (a := ⟨b, 0, none⟩) h1).trans h.c0, (World.cell?_of_block (a := ⟨b, 1, none⟩) h1).trans h.c1, (World.cell?_of_block (a := ⟨b, 2, none⟩) h1).trans h.c2, (World.frozen?_of_block (a := ⟨b, 1, none⟩) h1).trans h.f1, (World.frozen?_of_block (a := ⟨b, 2, none⟩) h1).trans h.f2⟩
def TxOr (u : ByteArray) (w : World) (e : Ending) (w' : World) : Prop :=
  ∃ a n c, e = .returned (.tuple #[.slice a n c, .bool (decide (rdTx u ≠ []))]) ∧ (rdTx u ≠ [] → w'.ownsRow w.heap.size 71 ddE.k (.slice a n c) n (ddE.flat (rdTx u))) ∧ Below w.heap.size w w'
set_option maxRecDepth 100000 in
set_option maxHeartbeats 6400000 in
theorem specTx_any (u : ByteArray) (w : World) (hu : u.size ≤ 8000) :
    Calls Tryz.prog 17 #[.string u] w (TxOr u w) := by
  obtain ⟨W, hW⟩ : ∃ W, W = w.alloc (.cells #[.string u, .int .i64 0, .bool false] 63) := ⟨_, rfl⟩
  obtain ⟨b, hb0⟩ : ∃ b, b = w.heap.size := ⟨_, rfl⟩
  have HR0 := Lib.hid (show SB W b u (((0 : Nat) : Int)) false by rw [hW, hb0]; exact ⟨by simp, by simp, by simp, by simp, by simp, by simp⟩)
  have HB0 : Hid (Below w.heap.size w W) := Lib.hid (by rw [hW]; exact (Below.refl _ _).alloc (Nat.le_refl _) _)
  have hbb : w.heap.size ≤ b := by omega
  have HWS := Lib.hid (show w.heap.size ≤ W.heap.size from HB0.out.size)
  go_enter Tryz.func17, Tryz.ntmps17
  go_wp2_with fail
  rw [← hW, ← hb0]
  clear hW hb0
  obtain ⟨n, q1, he⟩ : ∃ n q1, sN u ((0, false) : Plc) = (n, q1) := ⟨_, _, rfl⟩
  have HE := Lib.hid he
  have hq1 : q1.1 ≤ u.size := by have := sN_le (u := u) (q := (0, false)) (Nat.zero_le _); rw [he] at this; exact this
  clear he
  refine (srcNum_any b u (0, false) _ HR0.out hu (Nat.zero_le _)).mono ?_
  rintro e w1 ⟨rfl, hr, hg⟩
  rw [HE.out] at hr ⊢
  dsimp only at hr ⊢
  have HR1 := Lib.hid hr
  have HB1 := Lib.hid (below_kept HB0.out hg HWS.out hbb)
  clear hr hg HR0 HB0 HWS
  go_wp2_with fail
  refine (l02IsOk_any _ _ _ _).mono ?_
  rintro e w2 ⟨rfl, rfl⟩
  by_cases hn : 1 ≤ n ∧ n ≤ 10
  · rw [decide_eq_true hn]
    obtain ⟨hn1, hn2⟩ := hn
    have hq1m : q1.2 = false := by
      by_cases hc : (rdS u 0 10 0 0).2.2 = 0
      · obtain ⟨n', p', he', _, _⟩ := sN_step hc
        have := HE.out.symm.trans he'
        injection this with _ h2
        rw [h2]
      · have := HE.out.symm.trans (sN_no (u := u) (q := (0, false)) hc)
        injection this with h2 _
        omega
    obtain ⟨V, hV⟩ : ∃ V, V = w1.alloc (.cells #[] 71) := ⟨_, rfl⟩
    obtain ⟨B, hB⟩ : ∃ B, B = w1.heap.size := ⟨_, rfl⟩
    have hbV : Below w1.heap.size w1 V := by rw [hV]; exact (Below.refl _ _).alloc (Nat.le_refl _) _
    have HO1 := Lib.hid (show V.ownsRow B 71 ddE.k (.slice (some ⟨B, 0, none⟩) 0 0) 0 (ddE.flat []) by rw [hV, hB]; exact own_made0 ddE w1 71 (Nat.le_refl _))
    have hbB : b < B := by rw [hB]; exact HR1.out.lt
    have HRV := Lib.hid (HR1.out.below hbV)
    have HBV := Lib.hid (HB1.out.trans (hbV.mono HB1.out.size))
    have hBV : B ≤ V.heap.size := by rw [hB]; exact hbV.size
    have HRm := Lib.hid (show SB V b u (q1.1 : Int) false by rw [← hq1m]; exact HRV.out)
    clear hbV HR1 HB1 HRV
    obtain ⟨ti, hi, hz, hsy, hy⟩ := info_parts infoDeed
    go_wp2_with fail
    rw [← hV, ← hB]
    clear hV hB
    go_loopw [6, 7] (fun v i wr => ∃ (j : Nat) (a : Option Addr) (c : Nat), v = .slice a j c ∧ i = .int .i64 j ∧ (j : Int) ≤ n ∧ Hid (okTo u q1 j = true) ∧ Hid (SB wr b u ((plAt u q1 j).1 : Int) false) ∧ Hid ((plAt u q1 j).2 = false) ∧ Hid ((plAt u q1 j).1 ≤ u.size) ∧ Hid (wr.ownsRow B 71 ddE.k (.slice a j c) j (ddE.flat (ddsTo u q1 j))) ∧ Hid (Below w.heap.size w wr) ∧ B ≤ wr.heap.size) (fun _ i _ => n.toNat - (intOf i).toNat)
    case atStart => exact ⟨0, some ⟨B, 0, none⟩, 0, rfl, rfl, by omega, rfl, HRm.out, hq1m, hq1, HO1.out, HBV.out, hBV⟩
    case round =>
      obtain ⟨j, a, c, rfl, rfl, hj, HOK, HRj, HPF, HPL, HOj, HBj, hsz⟩ := hrel
      clear HRm HO1 HBV
      by_cases hlt : (j : Int) < n
      · obtain ⟨pj, hpj⟩ : ∃ pj, plAt u q1 j = (pj, false) := ⟨_, Prod.ext rfl HPF.out⟩
        have HPJ := Lib.hid hpj
        rw [hpj] at HRj HPL
        dsimp only at HRj HPL
        clear hpj HPF
        go_wp2_with fail
        refine (srcDeed_any b u (pj, false) _ HRj.out hu HPL.out).mono ?_
        rintro e w3 ⟨rfl, hr, hg⟩
        have HFT := Lib.hid (rdDeed_fits (u := u) (q := (pj, false)) hu)
        have HLE := Lib.hid (rdDeed_le (u := u) (q := (pj, false)) HPL.out)
        obtain ⟨D, r1, m, hrd⟩ : ∃ D r1 m, rdDeed u (pj, false) = (D, (r1, m)) := ⟨_, _, _, rfl⟩
        rw [hrd] at hr HFT HLE ⊢
        dsimp only at hr HFT HLE ⊢
        have HRD := Lib.hid hrd
        unfold ddV
        obtain ⟨X, hX⟩ : ∃ X, X = w3.alloc (.cells #[.int .i64 D.kd, .int .i64 D.gn, .int .i64 D.nd, .int .i64 D.mn, .int .i64 D.ck, .int .i64 D.no, .string D.lk, .string D.nm, .int .i64 D.tm, .string D.bd] 71) := ⟨_, rfl⟩
        obtain ⟨x, hx⟩ : ∃ x, x = w3.heap.size := ⟨_, rfl⟩
        have hbX : Below w3.heap.size w3 X := by rw [hX]; exact (Below.refl _ _).alloc (Nat.le_refl _) _
        have HXX := Lib.hid (show BoxC X x [.int .i64 D.kd, .int .i64 D.gn, .int .i64 D.nd, .int .i64 D.mn, .int .i64 D.ck, .int .i64 D.no, .string D.lk, .string D.nm, .int .i64 D.tm, .string D.bd] by rw [hX, hx]; exact BoxC.made _ _ _)
        have HRX := Lib.hid (hr.below hbX)
        have HO3 := HOj.out.kept hg (Or.inr (fun e => by have := (HOj.out.lt b e).1; omega))
        have HOX := Lib.hid (own_below HO3 hbX)
        have HB3 := below_kept HBj.out hg HBj.out.size hbb
        have HBX := Lib.hid (HB3.trans (hbX.mono HB3.size))
        have hszX : B ≤ X.heap.size := Nat.le_trans (Nat.le_trans hsz hg.size) hbX.size
        clear hr hg hrd hbX HO3 HB3 HRj HOj HBj hsz
        have g0 := HRX.out.c0
        have g1 := HRX.out.c1
        have g2 := HRX.out.c2
        have x0 := HXX.out.cell 0 _ rfl
        have x1 := HXX.out.cell 1 _ rfl
        have x2 := HXX.out.cell 2 _ rfl
        have x3 := HXX.out.cell 3 _ rfl
        have x4 := HXX.out.cell 4 _ rfl
        have x5 := HXX.out.cell 5 _ rfl
        have x6 := HXX.out.cell 6 _ rfl
        have x7 := HXX.out.cell 7 _ rfl
        have x8 := HXX.out.cell 8 _ rfl
        have x9 := HXX.out.cell 9 _ rfl
        go_upto_region 10 with fail
        rw [← hX, ← hx]
        clear hX hx
        cases m
        · go_wp2_with fail
          refine (specDeedRight_any D.kd D.gn D.nd D.mn D.ck D.no D.lk D.nm D.tm D.bd _ HFT.out.1 HFT.out.2.1 HFT.out.2.2).mono ?_
          rintro e w4 ⟨rfl, hb⟩
          have HX4 := Lib.hid (HXX.out.below hb)
          have HR4 := Lib.hid (HRX.out.below hb)
          have HO4 := Lib.hid (own_below HOX.out hb)
          have HB4 := Lib.hid (HBX.out.trans (hb.mono HBX.out.size))
          have hsz4 : B ≤ w4.heap.size := Nat.le_trans hszX hb.size
          clear hb HXX HRX HOX HBX hszX g0 g1 g2 x0 x1 x2 x3 x4 x5 x6 x7 x8 x9
          obtain ⟨ob, hob⟩ : ∃ ob, deedB D.kd D.gn D.nd D.mn D.ck D.no D.lk D.nm D.tm D.bd = ob := ⟨_, rfl⟩
          have HOB := Lib.hid (show okDeed u (pj, false) = ob by unfold okDeed; rw [HRD.out]; exact hob)
          rw [hob]
          clear hob
          cases ob
          · have HRT : Hid (rdTx u = []) := Lib.hid (rdTx_no (by rw [HE.out]; dsimp only; rintro ⟨_, _, hk, _⟩; rw [okTo_no (n := n.toNat) (i := j) (by rw [HPJ.out]; exact HOB.out) (by omega)] at hk; cases hk))
            go_wp2_with fail
            go_ret2
            exact ⟨none, 0, 0, by rw [HRT.out]; rfl, fun h => absurd HRT.out h, HB4.out⟩
          · skip
            have HAB : Hid (Below w4.heap.size w4 (w4.alloc (.cells #[.int .i64 D.kd, .int .i64 D.gn, .int .i64 D.nd, .int .i64 D.mn, .int .i64 D.ck, .int .i64 D.no, .string D.lk, .string D.nm, .int .i64 D.tm, .string D.bd] 71))) := Lib.hid ((Below.refl _ _).alloc (Nat.le_refl _) _)
            have HXL : Hid (SR ddE ddD (w4.alloc (.cells #[.int .i64 D.kd, .int .i64 D.gn, .int .i64 D.nd, .int .i64 D.mn, .int .i64 D.ck, .int .i64 D.no, .string D.lk, .string D.nm, .int .i64 D.tm, .string D.bd] 71)) (some ⟨w4.heap.size, 0, none⟩) 1 1 [D]) := Lib.hid (SR.own (by decide) (World.ownsRow_lit w4 #[.int .i64 D.kd, .int .i64 D.gn, .int .i64 D.nd, .int .i64 D.mn, .int .i64 D.ck, .int .i64 D.no, .string D.lk, .string D.nm, .int .i64 D.tm, .string D.bd] 1 (Nat.le_refl _) (by decide) rfl))
            have HR5 := Lib.hid (HR4.out.below HAB.out)
            have HO5 := Lib.hid (own_below HO4.out HAB.out)
            have HB5 := Lib.hid (HB4.out.trans (HAB.out.mono HB4.out.size))
            have hsz5 : B ≤ (w4.alloc (.cells #[.int .i64 D.kd, .int .i64 D.gn, .int .i64 D.nd, .int .i64 D.mn, .int .i64 D.ck, .int .i64 D.no, .string D.lk, .string D.nm, .int .i64 D.tm, .string D.bd] 71)).heap.size := Nat.le_trans hsz4 HAB.out.size
            have hj1 : j ≤ 1048576 := by omega
            have hk0 : 0 < ddE.k := by decide
            have h24 : (104 : Nat) ≤ 1024 := by decide
            have hm1 : 1 ≤ 1048576 := by decide
            have HNB : Hid (∀ q, (Value.slice a j c).ownBlock = some q → B ≤ q) := Lib.hid (fun q hq => (HO4.out.lt q hq).1)
            have x0 := HX4.out.cell 0 _ rfl
            have x1 := HX4.out.cell 1 _ rfl
            have x2 := HX4.out.cell 2 _ rfl
            have x3 := HX4.out.cell 3 _ rfl
            have x4 := HX4.out.cell 4 _ rfl
            have x5 := HX4.out.cell 5 _ rfl
            have x6 := HX4.out.cell 6 _ rfl
            have x7 := HX4.out.cell 7 _ rfl
            have x8 := HX4.out.cell 8 _ rfl
            have x9 := HX4.out.cell 9 _ rfl
            clear HR4 HO4 HB4
            go_wp2_with (at_builtin; refine append_wl ddE ddD rfl _ _ 40 rfl 71 ti _ 104 Tryz.underlying40 hi hz hsy hy rfl hk0 h24 B _ j (ddsTo u q1 j) rfl HO5.out _ 1 1 [D] rfl HXL.out hsz5 hj1 hm1 ?_; intro v3 u3 O3 G3; have HO6 := Lib.hid O3; have HR6 := Lib.hid (HR5.out.grown G3 (fun e => by have := HNB.out _ e.symm; omega)); have HB6 := Lib.hid (HB5.out.grown G3 HB5.out.size (fun q hq => by have := HNB.out q hq; omega)); have hsz6 : B ≤ u3.heap.size := Nat.le_trans hsz5 G3.size; obtain ⟨a5, c5, rfl⟩ := own_shape O3; clear O3 G3)
            refine ⟨⟨j + 1, a5, c5, rfl, by go_num, by omega, by unfold Hid; rw [okTo_succ, HOK.out, HPJ.out, HOB.out]; rfl, ?_, ?_, ?_, ?_, HB6.out, hsz6⟩, by simp [intOf]; omega⟩
            · unfold Hid
              show SB _ b u (((rdDeed u (plAt u q1 j)).2.1 : Nat) : Int) false
              rw [HPJ.out, HRD.out]
              exact HR6.out
            · unfold Hid
              show (rdDeed u (plAt u q1 j)).2.2 = false
              rw [HPJ.out, HRD.out]
            · unfold Hid
              show (rdDeed u (plAt u q1 j)).2.1 ≤ _
              rw [HPJ.out, HRD.out]
              exact HLE.out
            · unfold Hid
              rw [ddsTo_succ]
              unfold ddAt
              rw [HPJ.out, HRD.out]
              exact HO6.out
        · have HRT : Hid (rdTx u = []) := Lib.hid (rdTx_no (by rw [HE.out]; dsimp only; rintro ⟨_, _, hk, _⟩; rw [okTo_no (n := n.toNat) (i := j) (by rw [HPJ.out]; exact okDeed_bad (by rw [HRD.out])) (by omega)] at hk; cases hk))
          go_wp2_with fail
          go_ret2
          exact ⟨none, 0, 0, by rw [HRT.out]; rfl, fun h => absurd HRT.out h, HBX.out⟩
      · have hjn : n = (j : Int) := by omega
        have HTN : Hid (n.toNat = j) := Lib.hid (by omega)
        have g0 := HRj.out.c0
        have g1 := HRj.out.c1
        have g2 := HRj.out.c2
        go_wp2_with fail
        go_region
        have HOd := Lib.hid (own_below HOj.out (Below.refl _ _).drew)
        have HBd := Lib.hid HBj.out.drew
        go_wp2_with fail
        go_ret2
        by_cases hps : (plAt u q1 j).1 = u.size
        · have HRT : Hid (rdTx u = ddsTo u q1 j) := Lib.hid (by
            rw [rdTx_yes (by rw [HE.out]; dsimp only; rw [HTN.out]; exact ⟨hn1, hn2, HOK.out, hps⟩), HE.out]
            dsimp only
            rw [HTN.out])
          have hne : ddsTo u q1 j ≠ [] := fun h0 => by have := ddsTo_length u q1 j; rw [h0] at this; simp at this; omega
          have hpe : (((plAt u q1 j).1 : Int) == (u.size : Int)) = true := by rw [hps]; exact beq_self_eq_true _
          refine ⟨a, j, c, ?_, fun _ => ?_, HBd.out⟩
          · rw [HRT.out, decide_eq_true hne, ← hpe]
            rfl
          · rw [HRT.out]
            exact own_mono HOd.out (by omega)
        · have HRT : Hid (rdTx u = []) := Lib.hid (rdTx_no (by rw [HE.out]; dsimp only; rw [HTN.out]; rintro ⟨_, _, _, hk⟩; exact hps hk))
          have hpe : (((plAt u q1 j).1 : Int) == (u.size : Int)) = false := by rw [beq_eq_false_iff_ne]; omega
          refine ⟨a, j, c, ?_, fun h => absurd HRT.out h, HBd.out⟩
          rw [HRT.out]
          show Ending.returned (.tuple #[.slice a j c, .bool (((plAt u q1 j).1 : Int) == (u.size : Int))]) = _
          rw [hpe]
          rfl
  · rw [decide_eq_false hn]
    have HRT : Hid (rdTx u = []) := Lib.hid (rdTx_no (by rw [HE.out]; dsimp only; rintro ⟨h1, h2, _⟩; exact hn ⟨h1, h2⟩))
    clear hn
    go_wp2_with fail
    go_ret2
    exact ⟨none, 0, 0, by rw [HRT.out]; rfl, fun h => absurd HRT.out h, HB1.out⟩
end Go.Proofs.YtnoefpkhbllmiaaGreatDoor
namespace Go.Proofs.YtnoefpkhbllmiaaGreatDoor
open Go.RowKit Go.PlainAid G MGet MGF IRow MNum MJoin
set_option linter.unusedVariables false
set_option maxRecDepth 100000 in
set_option maxHeartbeats 6400000 in
theorem specTxRead_any (s : ByteArray) (w : World) (hs : s.size ≤ maxLen) :
    Calls Tryz.prog 5 #[.string s] w (NewSS (txRd s) w) := by
  have HS := Lib.hid hs
  obtain ⟨ti, hi, hz, hsy, hy⟩ := info_parts infoDeeds
  obtain ⟨W, hW⟩ : ∃ W, W = w.alloc (.cells #[] 40) := ⟨_, rfl⟩
  have HB0 := Lib.hid (show Below w.heap.size w W by rw [hW]; exact (Below.refl _ _).alloc (Nat.le_refl _) _)
  have HS0 := Lib.hid (show SS W w.heap.size (.slice (some ⟨w.heap.size, 0, none⟩) 0 0) [] by
    rw [hW]
    exact ⟨own_made0 rwE w 40 (Nat.le_refl _), fun i hi => absurd hi (Nat.not_lt_zero _), fun i j _ hj => absurd hj (Nat.not_lt_zero _)⟩)
  go_enter Tryz.func5, Tryz.ntmps5
  go_wp2_with fail
  rw [← hW]
  clear hW
  go_loopw [3, 4] (fun v i wr => ∃ (p f : Nat) (a : Option Addr) (c : Nat) (rs : List Rw), v = .slice a rs.length c ∧ i = .int .i64 p ∧ p ≤ s.size ∧ s.size + 1 ≤ f + p ∧ rs.length ≤ p ∧ Hid (SS wr w.heap.size (.slice a rs.length c) rs) ∧ Hid (txRd s = rs.map Rw.l ++ txF s f p) ∧ Hid (Below w.heap.size w wr)) (fun _ i _ => s.size + 1 - (intOf i).toNat)
  case atStart => exact ⟨0, s.size + 1, _, _, [], rfl, rfl, Nat.zero_le _, Nat.le_refl _, Nat.le_refl _, HS0.out, rfl, HB0.out⟩
  case round =>
    obtain ⟨p, f, a, c, rs, rfl, rfl, hp, hf, hn, HSS, HTX, HB⟩ := hrel
    clear HS0 HB0
    by_cases hl : s.size ≤ 8000
    · have hll : (s.size : Int) ≤ 8000 := by omega
      by_cases hc : (getT s (p : Int)).2.2 = 0
      · obtain ⟨t, p', hgt, hpp, hps, ht, hs8⟩ := getT_step hc
        have HGT := Lib.hid hgt
        clear hc hgt
        go_wp2_with fail
        refine (specGetText_any s (p : Int) wr (wf_p (by unfold maxLen at hs; omega)) HS.out).mono ?_
        rintro e w1 ⟨rfl, hb⟩
        rw [HGT.out]
        unfold textOutV
        dsimp only
        have HB1 := Lib.hid hb
        clear hb
        obtain ⟨V, hV⟩ : ∃ V, V = w1.alloc (.cells #[.string t, .int .i64 p', .int .i64 0] 37) := ⟨_, rfl⟩
        obtain ⟨b, hb0⟩ : ∃ b, b = w1.heap.size := ⟨_, rfl⟩
        have hV1 : Below w1.heap.size w1 V := by rw [hV]; exact (Below.refl _ _).alloc (Nat.le_refl _) _
        have HXV := Lib.hid (show BoxC V b [.string t, .int .i64 p', .int .i64 0] by rw [hV, hb0]; exact BoxC.made _ _ _)
        have HbV : Below wr.heap.size wr V := HB1.out.trans (hV1.mono HB1.out.size)
        have HSV := Lib.hid (HSS.out.below HbV)
        have HBV := Lib.hid (HB.out.trans (HbV.mono HB.out.size))
        have HLT : Hid (∀ q, (Value.slice a rs.length c).ownBlock = some q → q < b) := Lib.hid (fun q hq => by have := (HSS.out.out.lt q hq).2; have := HB1.out.size; omega)
        clear HbV hV1 HSS HB HB1
        obtain ⟨f, rfl⟩ : ∃ f', f = f' + 1 := ⟨f - 1, by omega⟩
        go_wp2_with fail
        rw [← hV, ← hb0]
        clear hV hb0
        refine (specUnseal_any t V ht).mono ?_
        rintro e w2 ⟨rfl, hb⟩
        have HX2 := Lib.hid (HXV.out.below hb)
        have HS2 := Lib.hid (HSV.out.below hb)
        have HB2 := Lib.hid (HBV.out.trans (hb.mono HBV.out.size))
        clear hb HXV HSV HBV
        by_cases ho : (openS t).2.2 = 0
        · have HOI := Lib.hid (openS_is ho)
          have hf8 := openS_fits ho
          have HRP : Hid (rdPart t = rdTx (openS t).1) := Lib.hid (by unfold rdPart; rw [if_pos ho])
          rw [HOI.out]
          generalize (openS t).1 = t2 at *
          unfold textOutV
          dsimp only
          clear ho
          obtain ⟨Y, hY⟩ : ∃ Y, Y = w2.alloc (.cells #[.string t2, .int .i64 0, .int .i64 0] 37) := ⟨_, rfl⟩
          obtain ⟨y, hy0⟩ : ∃ y, y = w2.heap.size := ⟨_, rfl⟩
          have hY1 : Below w2.heap.size w2 Y := by rw [hY]; exact (Below.refl _ _).alloc (Nat.le_refl _) _
          have HYY := Lib.hid (show BoxC Y y [.string t2, .int .i64 0, .int .i64 0] by rw [hY, hy0]; exact BoxC.made _ _ _)
          have HX3 := Lib.hid (HX2.out.below hY1)
          have HS3 := Lib.hid (HS2.out.below hY1)
          have HB3 := Lib.hid (HB2.out.trans (hY1.mono HB2.out.size))
          clear hY1 HX2 HS2 HB2
          go_wp2_with fail
          rw [← hY, ← hy0]
          clear hY hy0
          refine (specTx_any t2 Y hf8).mono ?_
          rintro e w3 ⟨ra, rn, rc, rfl, hown, hb⟩
          have HOW := Lib.hid hown
          have HD4 : Hid (rdTx t2 ≠ [] → ∀ i, i < rs.length → Disj (rs.getD i rwD).v (.slice ra rn rc)) := Lib.hid (fun h i hi => own_disj (HS3.out.row i hi) (hown h))
          have HR4 : Hid (rdTx t2 ≠ [] → w3.ownsRow w.heap.size 71 ddE.k (.slice ra rn rc) rn (ddE.flat (rdTx t2))) := Lib.hid (fun h => own_mono (hown h) HB3.out.size)
          have HX4 := Lib.hid (HX3.out.below hb)
          have HY4 := Lib.hid (HYY.out.below hb)
          have HS4 := Lib.hid (HS3.out.below hb)
          have HB4 := Lib.hid (HB3.out.trans (hb.mono HB3.out.size))
          clear hb hown HOW HX3 HYY HS3 HB3
          have y2 := HY4.out.cell 2 _ rfl
          by_cases hr : rdTx t2 = []
          · have HTE : Hid (txF s (f + 1) p = []) := Lib.hid (txF_end (by rw [HGT.out, HRP.out]; exact hr))
            rw [show decide (rdTx t2 ≠ []) = false by rw [hr]; rfl]
            clear hr
            go_wp2_with fail
            exact bodyPost_ret (v := .slice a rs.length c) (by simp [results, Tryz.results5, go_sem]) rfl ⟨a, _, c, rs, rfl, rfl, HS4.out, by rw [HTX.out, HTE.out, List.append_nil], HB4.out⟩
          · rw [show decide (rdTx t2 ≠ []) = true from decide_eq_true hr]
            have HTG := Lib.hid (txF_go (f := f) HGT.out (by rw [HRP.out]; exact hr))
            rw [HRP.out] at HTG
            have HR5 := Lib.hid (HR4.out hr)
            have HD5 := Lib.hid (HD4.out hr)
            generalize rdTx t2 = ds at *
            clear hr HR4 HD4
            obtain ⟨r, hrr⟩ : ∃ r : Rw, r = ⟨ra, rn, rc, ds⟩ := ⟨_, rfl⟩
            have HRR := Lib.hid hrr
            have HAB : Hid (Below w3.heap.size w3 (w3.alloc (.cells #[.slice ra rn rc] 40))) := Lib.hid ((Below.refl _ _).alloc (Nat.le_refl _) _)
            have HXL : Hid (SR rwE rwD (w3.alloc (.cells #[.slice ra rn rc] 40)) (some ⟨w3.heap.size, 0, none⟩) 1 1 [r]) := Lib.hid (by rw [hrr]; exact SR.own (by decide) (World.ownsRow_lit w3 #[.slice ra rn rc] 1 (Nat.le_refl _) (by decide) rfl))
            have HS5 := Lib.hid (HS4.out.below HAB.out)
            have HR6 := Lib.hid (own_below HR5.out HAB.out)
            have HB5 := Lib.hid (HB4.out.trans (HAB.out.mono HB4.out.size))
            clear hrr HS4 HB4 HR5
            have x1 := HX4.out.cell 1 _ rfl
            have HPU : Hid (∀ (v3 : Value) (u3 : World), u3.ownsRow w.heap.size 40 rwE.k v3 (rs.length + 1) (rwE.flat (rs ++ [r])) → (w3.alloc (.cells #[.slice ra rn rc] 40)).grownBy u3 (Value.slice a rs.length c).ownBlock → SS u3 w.heap.size v3 (rs ++ [r])) := Lib.hid (fun v3 u3 O3 G3 => HS5.out.push (r := r) (by rw [HRR.out]; exact HR6.out) (by rw [HRR.out]; exact HD5.out) O3 G3)
            have hn1 : rs.length ≤ 1048576 := by omega
            have hk0 : 0 < rwE.k := by decide
            have h24 : (24 : Nat) ≤ 1024 := by decide
            have hm1 : 1 ≤ 1048576 := by decide
            go_wp2_with (at_builtin; refine append_wl rwE rwD rfl _ _ 22 rfl 40 ti _ 24 Tryz.underlying22 hi hz hsy hy rfl hk0 h24 w.heap.size _ rs.length rs rfl HS5.out.out _ 1 1 [r] rfl HXL.out HB5.out.size hn1 hm1 ?_; intro v3 u3 O3 G3; have HS6 := Lib.hid (HPU.out v3 u3 O3 G3); have HB6 := Lib.hid (HB5.out.grown G3 HB5.out.size (fun q hq => (HS5.out.out.lt q hq).1)); obtain ⟨a5, c5, rfl⟩ := own_shape O3; clear O3 G3)
            refine ⟨⟨p', f, a5, c5, rs ++ [r], by rw [List.length_append]; rfl, rfl, hps, by omega, by rw [List.length_append]; show rs.length + 1 ≤ p'; omega, ?_, ?_, HB6.out⟩, ?_⟩
            · unfold Hid
              rw [List.length_append]
              exact HS6.out
            · unfold Hid
              rw [HTX.out, HTG.out, List.map_append, List.append_assoc, HRR.out]
              rfl
            · simp [intOf]
              omega
        · have hoz := openS_zero t ho
          obtain ⟨k, hk⟩ : ∃ k, k = (openS t).2.2 := ⟨_, rfl⟩
          have HTE : Hid (txF s (f + 1) p = []) := Lib.hid (txF_end (by rw [HGT.out]; show rdPart t = []; unfold rdPart; rw [if_neg ho]))
          rw [← hk] at hoz ho
          rw [hoz]
          have hkb : (k != 0) = true := by simp [ho]
          unfold textOutV
          dsimp only
          clear ho hk hoz
          obtain ⟨Y, hY⟩ : ∃ Y, Y = w2.alloc (.cells #[.string ⟨#[]⟩, .int .i64 0, .int .i64 k] 37) := ⟨_, rfl⟩
          obtain ⟨y, hy0⟩ : ∃ y, y = w2.heap.size := ⟨_, rfl⟩
          have hY1 : Below w2.heap.size w2 Y := by rw [hY]; exact (Below.refl _ _).alloc (Nat.le_refl _) _
          have HYY := Lib.hid (show BoxC Y y [.string ⟨#[]⟩, .int .i64 0, .int .i64 k] by rw [hY, hy0]; exact BoxC.made _ _ _)
          have HS3 := Lib.hid (HS2.out.below hY1)
          have HB3 := Lib.hid (HB2.out.trans (hY1.mono HB2.out.size))
          clear hY1 HS2 HB2
          go_wp2_with fail
          rw [← hY, ← hy0]
          clear hY hy0
          refine (specTx_any ⟨#[]⟩ Y (Nat.zero_le _)).mono ?_
          rintro e w3 ⟨ra, rn, rc, rfl, _, hb⟩
          have HY4 := Lib.hid (HYY.out.below hb)
          have HS4 := Lib.hid (HS3.out.below hb)
          have HB4 := Lib.hid (HB3.out.trans (hb.mono HB3.out.size))
          clear hb HYY HS3 HB3
          have y2 := HY4.out.cell 2 _ rfl
          generalize decide (rdTx ⟨#[]⟩ ≠ []) = ok at *
          go_wp2_with fail
          exact bodyPost_ret (v := .slice a rs.length c) (by simp [results, Tryz.results5, go_sem]) rfl ⟨a, _, c, rs, rfl, rfl, HS4.out, by rw [HTX.out, HTE.out, List.append_nil], HB4.out⟩
      · have hgt := getT_zero hc
        have HTE : Hid (txF s f p = []) := Lib.hid (txF_no hc)
        obtain ⟨k, hk⟩ : ∃ k, k = (getT s (p : Int)).2.2 := ⟨_, rfl⟩
        rw [← hk] at hgt hc
        have HGT := Lib.hid hgt
        have hcb : (k != 0) = true := by simp [hc]
        clear hc hgt hk
        go_wp2_with fail
        refine (specGetText_any s (p : Int) wr (wf_p (by unfold maxLen at hs; omega)) HS.out).mono ?_
        rintro e w1 ⟨rfl, hb⟩
        rw [HGT.out]
        unfold textOutV
        dsimp only
        have HB1 := Lib.hid hb
        clear hb
        go_wp2_with fail
        have HbX : Below wr.heap.size wr (w1.alloc (.cells #[.string ⟨#[]⟩, .int .i64 0, .int .i64 k] 37)) := HB1.out.alloc HB1.out.size _
        exact bodyPost_ret (v := .slice a rs.length c) (by simp [results, Tryz.results5, go_sem]) rfl ⟨a, _, c, rs, rfl, rfl, HSS.out.below HbX, by rw [HTX.out, HTE.out, List.append_nil], HB.out.trans (HbX.mono HB.out.size)⟩
    · have hll : ¬ (s.size : Int) ≤ 8000 := by omega
      have HTE : Hid (txF s f p = []) := Lib.hid (txF_no (by rw [getT_size (by omega)]; decide))
      go_wp2_with fail
      exact bodyPost_ret (v := .slice a rs.length c) (by simp [results, Tryz.results5, go_sem]) rfl ⟨a, _, c, rs, rfl, rfl, HSS.out, by rw [HTX.out, HTE.out, List.append_nil], HB.out⟩
end Go.Proofs.YtnoefpkhbllmiaaGreatDoor
namespace Go.Proofs.YtnoefpkhbllmiaaGreatDoor
open Go.RowKit Go.PlainAid G MGet MGF IRow MNum MJoin
set_option linter.unusedVariables false
/-- Rows of deeds in new memory: where they lie, and what is in them. -/
structure SSL (w : World) (B : Nat) (v : Value) (rs : List Rw) (L : Nat → List Dd) : Prop where
  out : w.ownsRow B 40 rwE.k v rs.length (rwE.flat rs)
  row : ∀ i, i < rs.length → w.ownsRow B 71 ddE.k (rs.getD i rwD).v (rs.getD i rwD).n (ddE.flat (L i))
  dis : ∀ i j, i < j → j < rs.length → Disj (rs.getD i rwD).v (rs.getD j rwD).v
theorem SS.rows {w : World} {B : Nat} {v : Value} {rs : List Rw} (h : SS w B v rs) : SSL w B v rs (fun i => (rs.getD i rwD).l) := ⟨h.out, h.row, h.dis⟩
theorem SSL.below {w w' : World} {B : Nat} {v : Value} {rs : List Rw} {L : Nat → List Dd} (h : SSL w B v rs L) (hb : Below w.heap.size w w') : SSL w' B v rs L :=
  ⟨own_below h.out hb, fun i hi => own_below (h.row i hi) hb, h.dis⟩
theorem disj_symm {v u : Value} (h : Disj v u) : Disj u v := fun g hg he => h g he hg
/-- The row at a place, by its cell. -/
theorem SSL.at {w : World} {B c : Nat} {a : Option Addr} {rs : List Rw} {L : Nat → List Dd} (h : SSL w B (.slice a rs.length c) rs L) {i : Nat} (hi : i < rs.length) : ∃ g o, a = some ⟨g, o, none⟩ ∧ g < w.heap.size ∧ w.cell? ⟨g, o + i, none⟩ = some (.slice (rs.getD i rwD).a (rs.getD i rwD).n (rs.getD i rwD).c) ∧ DdR w (rs.getD i rwD).a (rs.getD i rwD).n (rs.getD i rwD).c (L i) := by
  obtain ⟨g, o, ha, hg, hc⟩ := (SR.own (E := rwE) (d := rwD) (by decide) h.out).cells (by omega)
  exact ⟨g, o, ha, hg, by simpa [rwE] using hc i hi 0 _ rfl, DdR.own (h.row i hi)⟩
/-- One row of them is written anew. -/
theorem SSL.set {w w' : World} {B : Nat} {v : Value} {rs : List Rw} {L : Nat → List Dd} (h : SSL w B v rs L) {j : Nat} (hj : j < rs.length) (l : List Dd) (ho : w'.ownsRow B 71 ddE.k (rs.getD j rwD).v (rs.getD j rwD).n (ddE.flat l)) (hg : w.grownBy w' (rs.getD j rwD).v.ownBlock) : SSL w' B v rs (fun i => if i = j then l else L i) := by
  refine ⟨own_grown h.out hg (own_types h.out (h.row j hj) (by decide)), fun i hi => ?_, h.dis⟩
  by_cases e : i = j
  · subst e
    simpa using ho
  · simp only [if_neg e]
    refine own_grown (h.row i hi) hg ?_
    rcases Nat.lt_or_gt_of_ne e with h1 | h1
    · exact h.dis i j h1 hj
    · exact disj_symm (h.dis j i h1 hi)
theorem SSL.to {w : World} {B : Nat} {v : Value} {rs : List Rw} {L L' : Nat → List Dd} (h : SSL w B v rs L) (he : ∀ i, i < rs.length → L' i = L i) : SSL w B v rs L' := ⟨h.out, fun i hi => by rw [he i hi]; exact h.row i hi, h.dis⟩
/-- The mark ahead of a row. -/
def koff (rs : List Rw) (k0 : Nat) : Nat → Nat
  | 0 => k0
  | j + 1 => koff rs k0 j + 10 * (rs.getD j rwD).n
theorem koff_le (rs : List Rw) (k0 : Nat) (h : ∀ i, i < rs.length → (rs.getD i rwD).n ≤ 10) : ∀ j, j ≤ rs.length → koff rs k0 j ≤ k0 + 100 * j
  | 0, _ => Nat.le_refl _
  | j + 1, hj => by
    have h1 := koff_le rs k0 h j (by omega)
    have h2 := h j (by omega)
    show koff rs k0 j + 10 * (rs.getD j rwD).n ≤ _
    omega
theorem koff_ge (rs : List Rw) (k0 : Nat) : ∀ j, k0 ≤ koff rs k0 j
  | 0 => Nat.le_refl _
  | j + 1 => Nat.le_trans (koff_ge rs k0 j) (Nat.le_add_right _ _)
def marksL (rs : List Rw) (k0 j : Nat) (L : Nat → List Dd) (i : Nat) : List Dd := if i < j then marksDd (koff rs k0 i) (rs.getD i rwD).n else L i
set_option maxRecDepth 100000 in
set_option maxHeartbeats 1600000 in
theorem eqDeedSS_same (a b : Option Addr) (n c c2 B B2 : Nat) (rs qs : List Rw) (L M : Nat → List Dd) (w : World) (hr : rs.length = n) (hq : qs.length = n) (h : SSL w B (.slice a n c) rs L) (k : SSL w B2 (.slice b n c2) qs M) (he : ∀ i, i < n → L i = M i) (hn : n ≤ 1048576) (hm : ∀ i, i < n → (rs.getD i rwD).n ≤ 10) :
    Calls Tryz.prog 7 #[.slice a n c, .slice b n c2] w fun e w' => e = .returned (.bool true) ∧ Below w.heap.size w w' := by
  have HH := Lib.hid h
  have HK := Lib.hid k
  have HE := Lib.hid he
  have HM := Lib.hid hm
  have HRL := Lib.hid hr
  have HQL := Lib.hid hq
  clear h k he hm hr hq
  go_enter Tryz.func7, Tryz.ntmps7
  go_wp2_with fail
  go_loopw [5] (fun i wr => ∃ j : Nat, j ≤ n ∧ i = .int .i64 j ∧ Hid (Below w.heap.size w wr)) (fun i _ => n - (intOf i).toNat)
  case atStart => exact ⟨0, Nat.zero_le _, rfl, Below.refl _ _⟩
  case round =>
    obtain ⟨j, hj, rfl, HBj⟩ := hrel
    by_cases hlt : j < n
    · obtain ⟨g, o, rfl, hg, a0, hd⟩ := SSL.at (by have := HH.out.below HBj.out; rw [← HRL.out] at this; exact this) (i := j) (by rw [HRL.out]; exact hlt)
      obtain ⟨g', o', rfl, hg', b0, hd'⟩ := SSL.at (by have := HK.out.below HBj.out; rw [← HQL.out] at this; exact this) (i := j) (by rw [HQL.out]; exact hlt)
      have hnj := HM.out j hlt
      rw [← HE.out j hlt] at hd'
      have e1 : (rs.getD j rwD).n = (qs.getD j rwD).n := hd.len.symm.trans hd'.len
      rw [← e1] at hd' b0
      have HD := Lib.hid hd
      have HD' := Lib.hid hd'
      clear hd hd' e1
      generalize (rs.getD j rwD).a = ra at *
      generalize (rs.getD j rwD).n = rn at *
      generalize (rs.getD j rwD).c = rc at *
      generalize (qs.getD j rwD).a = qa at *
      generalize (qs.getD j rwD).c = qc at *
      have HB := Lib.hid HBj.out.drew
      have HDd : Hid (DdR wr.drew ra rn rc (L j)) := Lib.hid (HD.out.below (Below.refl _ _).drew)
      have HDd' : Hid (DdR wr.drew qa rn qc (L j)) := Lib.hid (HD'.out.below (Below.refl _ _).drew)
      clear HD HD' HBj
      go_wp2_with fail
      go_still_tail 8, (by kernel_rfl)
      change wpList _ _ _ _ _ wr.drew
      clear a0 b0 hg hg'
      generalize wr.drew = we at *
      go_wp2_with fail
      refine (eqDeedS_same ra qa rn rc qc (L j) _ HDd.out HDd'.out (by omega)).mono ?_
      rintro e w5 ⟨rfl, hb⟩
      have HB5 := Lib.hid (HB.out.trans (hb.mono HB.out.size))
      clear hb
      go_wp2_with fail
      go_roundw
      case rel => exact ⟨j + 1, by omega, by go_num, HB5.out⟩
      case measure => simp [intOf] <;> omega
    · obtain rfl : j = n := by omega
      go_wp2_with fail
      go_ret
      exact ⟨rfl, HBj.out⟩
set_option maxRecDepth 100000 in
set_option maxHeartbeats 1600000 in
theorem markDeedSS_any (a : Option Addr) (n c B : Nat) (rs : List Rw) (L : Nat → List Dd) (k0 : Nat) (w : World) (hr : rs.length = n) (h : SSL w B (.slice a n c) rs L) (hB : B ≤ w.heap.size) (hn : n ≤ 1048576) (hm : ∀ i, i < n → (rs.getD i rwD).n ≤ 10) (hk0 : 0 < k0) (hk1 : k0 ≤ 1000000) :
    Calls Tryz.prog 8 #[.slice a n c, .int .i64 (k0 : Int)] w fun e w' => e = .returned (.int .i64 (koff rs k0 n : Int)) ∧ SSL w' B (.slice a n c) rs (marksL rs k0 n L) ∧ Below B w w' := by
  have HH := Lib.hid h
  have HM := Lib.hid hm
  have HRL := Lib.hid hr
  have HKO : Hid (∀ i, i ≤ n → koff rs k0 i ≤ k0 + 100 * i ∧ k0 ≤ koff rs k0 i) := Lib.hid (fun i hi => ⟨koff_le rs k0 (by rw [hr]; exact hm) i (by omega), koff_ge rs k0 i⟩)
  clear h hm hr
  go_enter Tryz.func8, Tryz.ntmps8
  go_wp2_with fail
  go_loopw [1, 5] (fun k i wr => ∃ j : Nat, j ≤ n ∧ i = .int .i64 j ∧ k = .int .i64 (koff rs k0 j : Int) ∧ Hid (SSL wr B (.slice a n c) rs (marksL rs k0 j L)) ∧ Hid (Below B w wr)) (fun _ i _ => n - (intOf i).toNat)
  case atStart => exact ⟨0, Nat.zero_le _, rfl, rfl, HH.out.to (fun i _ => by unfold marksL; rw [if_neg (by omega)]), Below.refl _ _⟩
  case round =>
    obtain ⟨j, hj, rfl, rfl, HSj, HBj⟩ := hrel
    by_cases hlt : j < n
    · obtain ⟨g, o, rfl, hg, a0, _⟩ := SSL.at (by have := HSj.out; rw [← HRL.out] at this; exact this) (i := j) (by rw [HRL.out]; exact hlt)
      have hko := HKO.out j hj
      have hrow := HSj.out.row j (by rw [HRL.out]; exact hlt)
      have HRW := Lib.hid hrow
      have hnj := HM.out j hlt
      have HSB : Hid (B ≤ wr.heap.size) := Lib.hid (Nat.le_trans hB HBj.out.size)
      have HLT : Hid (∀ q, (rs.getD j rwD).v.ownBlock = some q → B ≤ q) := Lib.hid (fun q hq => (hrow.lt q hq).1)
      clear hrow
      have HSET : Hid (∀ w', w'.ownsRow B 71 ddE.k (rs.getD j rwD).v (rs.getD j rwD).n (ddE.flat (marksDd (koff rs k0 j) (rs.getD j rwD).n)) → wr.grownBy w' (rs.getD j rwD).v.ownBlock → SSL w' B (.slice (some ⟨g, o, none⟩) n c) rs (marksL rs k0 (j + 1) L)) := Lib.hid (fun w' ho hg => (HSj.out.set (by rw [HRL.out]; exact hlt) _ ho hg).to (fun i hi => by
        unfold marksL
        by_cases e : i = j
        · subst e; rw [if_pos (by omega), if_pos rfl]
        · by_cases e2 : i < j
          · rw [if_pos (by omega), if_neg e, if_pos e2]
          · rw [if_neg (by omega), if_neg e, if_neg e2]))
      go_wp2_with fail
      refine (markDeedS_any (rs.getD j rwD).a B (rs.getD j rwD).n (rs.getD j rwD).c _ (koff rs k0 j) wr HRW.out (by omega) (by omega) (by omega)).mono ?_
      rintro e w1 ⟨rfl, ho, hgb⟩
      have HS1 := Lib.hid (HSET.out w1 ho hgb)
      have HB1 := Lib.hid (HBj.out.grown hgb HSB.out HLT.out)
      clear ho hgb
      go_wp2_with fail
      go_roundw
      case rel => exact ⟨j + 1, by omega, by go_num, by show _ = Value.int .i64 ((koff rs k0 j + 10 * (rs.getD j rwD).n : Nat) : Int); go_num, HS1.out, HB1.out⟩
      case measure => simp [intOf] <;> omega
    · obtain rfl : j = n := by omega
      go_wp2_with fail
      go_ret
      exact ⟨rfl, HSj.out, HBj.out⟩
set_option maxRecDepth 100000 in
set_option maxHeartbeats 1600000 in
theorem heldDeedSS_any (a : Option Addr) (n c B : Nat) (rs : List Rw) (L : Nat → List Dd) (k0 : Nat) (w : World) (hr : rs.length = n) (h : SSL w B (.slice a n c) rs (marksL rs k0 n L)) (hn : n ≤ 1048576) (hm : ∀ i, i < n → (rs.getD i rwD).n ≤ 10) (hk0 : 0 < k0) (hk1 : k0 ≤ 1000000) :
    Calls Tryz.prog 9 #[.slice a n c, .int .i64 (k0 : Int)] w fun e w' => e = .returned (.int .i64 (koff rs k0 n : Int)) ∧ Below w.heap.size w w' := by
  have HH := Lib.hid h
  have HM := Lib.hid hm
  have HRL := Lib.hid hr
  have HKO : Hid (∀ i, i ≤ n → koff rs k0 i ≤ k0 + 100 * i ∧ k0 ≤ koff rs k0 i) := Lib.hid (fun i hi => ⟨koff_le rs k0 (by rw [hr]; exact hm) i (by omega), koff_ge rs k0 i⟩)
  clear h hm hr
  go_enter Tryz.func9, Tryz.ntmps9
  go_wp2_with fail
  go_loopw [1, 5] (fun k i wr => ∃ j : Nat, j ≤ n ∧ i = .int .i64 j ∧ k = .int .i64 (koff rs k0 j : Int) ∧ Hid (Below w.heap.size w wr)) (fun _ i _ => n - (intOf i).toNat)
  case atStart => exact ⟨0, Nat.zero_le _, rfl, rfl, Below.refl _ _⟩
  case round =>
    obtain ⟨j, hj, rfl, rfl, HBj⟩ := hrel
    by_cases hlt : j < n
    · obtain ⟨g, o, rfl, hg, a0, hd⟩ := SSL.at (by have := HH.out.below HBj.out; rw [← HRL.out] at this; exact this) (i := j) (by rw [HRL.out]; exact hlt)
      have hko := HKO.out j hj
      have hnj := HM.out j hlt
      have HDM : Hid (DdR wr (rs.getD j rwD).a (rs.getD j rwD).n (rs.getD j rwD).c (marksDd (koff rs k0 j) (rs.getD j rwD).n)) := Lib.hid (by unfold marksL at hd; rw [HRL.out, if_pos hlt] at hd; exact hd)
      clear hd
      go_wp2_with fail
      refine (heldDeedS_any (rs.getD j rwD).a (rs.getD j rwD).n (rs.getD j rwD).c (koff rs k0 j) wr HDM.out (by omega) (by omega) (by omega)).mono ?_
      rintro e w1 ⟨rfl, hb⟩
      have HB1 := Lib.hid (HBj.out.trans (hb.mono HBj.out.size))
      have hnz : ¬ ((koff rs k0 j : Int) + 10 * ((rs.getD j rwD).n : Int)) < 0 := by omega
      clear hb
      go_wp2_with fail
      go_roundw
      case rel => exact ⟨j + 1, by omega, by go_num, by show _ = Value.int .i64 ((koff rs k0 j + 10 * (rs.getD j rwD).n : Nat) : Int); go_num, HB1.out⟩
      case measure => simp [intOf] <;> omega
    · obtain rfl : j = n := by omega
      go_wp2_with fail
      go_ret
      exact ⟨rfl, HBj.out⟩
end Go.Proofs.YtnoefpkhbllmiaaGreatDoor
namespace Go.Proofs.YtnoefpkhbllmiaaGreatDoor
open Go.RowKit Go.PlainAid G MGet MGF IRow MNum MJoin
set_option linter.unusedVariables false
theorem rdTx_len (u : ByteArray) : (rdTx u).length ≤ 10 := by
  unfold rdTx
  split
  · rename_i h
    rw [ddsTo_length]
    omega
  · exact Nat.zero_le _
theorem rdPart_len (t : ByteArray) : (rdPart t).length ≤ 10 := by
  unfold rdPart
  split
  · exact rdTx_len _
  · exact Nat.zero_le _
theorem txF_ten (s : ByteArray) : ∀ (f p i : Nat), ((txF s f p).getD i []).length ≤ 10
  | 0, _, i => by simp [txF, List.getD]
  | f + 1, p, i => by
    unfold txF
    split
    · split
      · simp [List.getD]
      · cases i with
        | zero => exact rdPart_len _
        | succ i => exact txF_ten s f _ i
    · simp [List.getD]
theorem txF_len (s : ByteArray) : ∀ (f p : Nat), (txF s f p).length ≤ f
  | 0, _ => Nat.le_refl _
  | f + 1, p => by
    unfold txF
    split
    · split
      · exact Nat.zero_le _
      · exact Nat.succ_le_succ (txF_len s f _)
    · exact Nat.zero_le _
theorem txRd_len (s : ByteArray) : (txRd s).length ≤ 8001 := by
  by_cases h : 8000 < s.size
  · have : txRd s = [] := txF_no (by rw [getT_size h]; decide)
    rw [this]
    exact Nat.zero_le _
  · exact Nat.le_trans (txF_len s _ _) (by omega)
theorem SS.info {w : World} {B : Nat} {v : Value} {rs : List Rw} {s : ByteArray} (h : SS w B v rs) (hm : rs.map Rw.l = txRd s) : rs.length = (txRd s).length ∧ SSL w B v rs (fun i => (txRd s).getD i []) ∧ ∀ i, i < (txRd s).length → (rs.getD i rwD).n ≤ 10 := by
  have hl : rs.length = (txRd s).length := by rw [← hm, List.length_map]
  have he : ∀ i, i < rs.length → (txRd s).getD i [] = (rs.getD i rwD).l := fun i hi => by
    rw [← hm]
    simp [List.getD, List.getElem?_map, List.getElem?_eq_getElem hi]
  refine ⟨hl, h.rows.to he, fun i hi => ?_⟩
  have h1 := DdR.olen (h.row i (by omega))
  rw [← h1, ← he i (by omega)]
  exact txF_ten s _ _ i
end Go.Proofs.YtnoefpkhbllmiaaGreatDoor
