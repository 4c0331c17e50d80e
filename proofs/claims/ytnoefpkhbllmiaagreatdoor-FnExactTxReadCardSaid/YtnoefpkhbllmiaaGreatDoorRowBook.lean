/- What the laws' own functions on books answer. -/
import Derived.Test.YtnoefpkhbllmiaaGreatDoorRowDeed1
namespace Go.Proofs.YtnoefpkhbllmiaaGreatDoor
open Go.RowKit Go.PlainAid G MGF IRow
set_option linter.unusedVariables false
/-- A book. -/
structure Bk where
  c0 : Int
  c1 : Int
  c2 : Int
  c3 : Int
  ts : List Tm
  is : List Im
/-- A book that can be read: its numbers, and its two rows. -/
structure BkR (w : World) (a1 : Option Addr) (n1 a3 : Nat) (a2 : Option Addr) (n2 a4 : Nat) (ts : List Tm) (is : List Im) : Prop where
  t : TmR w a1 n1 a3 ts
  i : ImR w a2 n2 a4 is
theorem BkR.below {w w' : World} {a1 a2 : Option Addr} {n1 a3 n2 a4 : Nat} {ts : List Tm} {is : List Im} (h : BkR w a1 n1 a3 a2 n2 a4 ts is) (hb : Below w.heap.size w w') : BkR w' a1 n1 a3 a2 n2 a4 ts is := ⟨SR.below h.t hb, SR.below h.i hb⟩
/-- A book of the call's own. -/
structure BkO (w : World) (base : Nat) (a1 : Option Addr) (n1 a3 : Nat) (a2 : Option Addr) (n2 a4 : Nat) (ts : List Tm) (is : List Im) : Prop where
  t : w.ownsRow base 67 tmE.k (.slice a1 n1 a3) n1 (tmE.flat ts)
  i : w.ownsRow base 69 imE.k (.slice a2 n2 a4) n2 (imE.flat is)
theorem BkO.below {w w' : World} {base : Nat} {a1 a2 : Option Addr} {n1 a3 n2 a4 : Nat} {ts : List Tm} {is : List Im} (h : BkO w base a1 n1 a3 a2 n2 a4 ts is) (hb : Below w.heap.size w w') : BkO w' base a1 n1 a3 a2 n2 a4 ts is := ⟨own_below h.t hb, own_below h.i hb⟩
theorem BkO.read {w : World} {base : Nat} {a1 a2 : Option Addr} {n1 a3 n2 a4 : Nat} {ts : List Tm} {is : List Im} (h : BkO w base a1 n1 a3 a2 n2 a4 ts is) : BkR w a1 n1 a3 a2 n2 a4 ts is := ⟨TmR.own h.t, ImR.own h.i⟩
theorem BkO.mono {w : World} {base base' : Nat} {a1 a2 : Option Addr} {n1 a3 n2 a4 : Nat} {ts : List Tm} {is : List Im} (h : BkO w base a1 n1 a3 a2 n2 a4 ts is) (hb : base' ≤ base) : BkO w base' a1 n1 a3 a2 n2 a4 ts is := ⟨own_mono h.t hb, own_mono h.i hb⟩
/-- Two rows of different types lie in different blocks. -/
theorem own_types {w : World} {base base' : Nat} {e e' : TypeId} {size size' : Nat} {v u : Value} {n m : Nat} {xs ys : List Value} (h : w.ownsRow base e size v n xs) (k : w.ownsRow base' e' size' u m ys) (he : e ≠ e') : Disj v u := by
  intro g hg hu
  rcases h.2 with ⟨rfl, _⟩ | ⟨g1, c1, cur1, rfl, _, hh1, _⟩
  · simp [Value.ownBlock] at hg
  · rcases k.2 with ⟨rfl, _⟩ | ⟨g2, c2, cur2, rfl, _, hh2, _⟩
    · simp [Value.ownBlock] at hu
    · simp only [Value.ownBlock, Option.some.injEq] at hg hu
      subst hg
      subst hu
      rw [hh1] at hh2
      simp only [Option.some.injEq, Obj.cells.injEq] at hh2
      exact he hh2.2.1
/-- A book in new memory. -/
def NewBook (c0 c1 c2 c3 : Int) (ts : List Tm) (is : List Im) (w : World) (e : Ending) (w' : World) : Prop :=
  ∃ a1 n1 a3 a2 n2 a4, e = .returned (.agg #[.int .i64 c0, .int .i64 c1, .int .i64 c2, .int .i64 c3, .slice a1 n1 a3, .slice a2 n2 a4]) ∧ BkO w' w.heap.size a1 n1 a3 a2 n2 a4 ts is ∧ Below w.heap.size w w'
set_option maxRecDepth 100000 in
set_option maxHeartbeats 1600000 in
theorem eqBook_same (c0 c1 c2 c3 : Int) (a1 a2 b1 b2 : Option Addr) (n1 n2 a3 a4 b3 b4 : Nat) (ts : List Tm) (is : List Im) (w : World) (h : BkR w a1 n1 a3 a2 n2 a4 ts is) (k : BkR w b1 n1 b3 b2 n2 b4 ts is) (hn1 : n1 ≤ 1048576) (hn2 : n2 ≤ 1048576) :
    Calls Tryz.prog 12 #[.agg #[.int .i64 c0, .int .i64 c1, .int .i64 c2, .int .i64 c3, .slice a1 n1 a3, .slice a2 n2 a4], .agg #[.int .i64 c0, .int .i64 c1, .int .i64 c2, .int .i64 c3, .slice b1 n1 b3, .slice b2 n2 b4]] w fun e w' => e = .returned (.bool true) ∧ Below w.heap.size w w' := by
  obtain ⟨W, hW⟩ : ∃ W, W = (w.alloc (.cells #[.int .i64 c0, .int .i64 c1, .int .i64 c2, .int .i64 c3, .slice a1 n1 a3, .slice a2 n2 a4] 32)).alloc (.cells #[.int .i64 c0, .int .i64 c1, .int .i64 c2, .int .i64 c3, .slice b1 n1 b3, .slice b2 n2 b4] 32) := ⟨_, rfl⟩
  have hb0 : Below w.heap.size w W := by rw [hW]; repeat' (first | exact Below.refl _ _ | refine Below.alloc ?_ (by first | exact Nat.le_refl _ | (simp; done) | (simp; omega)) _)
  have hA : BoxC W (w.heap.size) [.int .i64 c0, .int .i64 c1, .int .i64 c2, .int .i64 c3, .slice a1 n1 a3, .slice a2 n2 a4] := by rw [hW]; exact ((BoxC.made w #[.int .i64 c0, .int .i64 c1, .int .i64 c2, .int .i64 c3, .slice a1 n1 a3, .slice a2 n2 a4] 32).alloc (.cells #[.int .i64 c0, .int .i64 c1, .int .i64 c2, .int .i64 c3, .slice b1 n1 b3, .slice b2 n2 b4] 32))
  have hB : BoxC W (w.heap.size + 1) [.int .i64 c0, .int .i64 c1, .int .i64 c2, .int .i64 c3, .slice b1 n1 b3, .slice b2 n2 b4] := by rw [hW]; have := (BoxC.made (w.alloc (.cells #[.int .i64 c0, .int .i64 c1, .int .i64 c2, .int .i64 c3, .slice a1 n1 a3, .slice a2 n2 a4] 32)) #[.int .i64 c0, .int .i64 c1, .int .i64 c2, .int .i64 c3, .slice b1 n1 b3, .slice b2 n2 b4] 32); rwa [World.size_alloc] at this
  have hR := h.below hb0
  have kR := k.below hb0
  clear h k
  go_enter Tryz.func12, Tryz.ntmps12
  go_wp2_with fail
  rw [← hW]
  clear hW
  refine (eqConf_same c0 c1 c2 c3 _).mono ?_
  rintro e w1 ⟨rfl, hb⟩
  have hA1 := hA.below hb
  have hB1 := hB.below hb
  have hR1 := hR.below hb
  have kR1 := kR.below hb
  have hb1 := hb0.trans (hb.mono hb0.size)
  clear hb hA hB hR kR hb0
  have a4x := hA1.cell 4 _ rfl
  have b4x := hB1.cell 4 _ rfl
  have HA := Lib.hid hA1
  have HB := Lib.hid hB1
  have HR := Lib.hid hR1
  have KR := Lib.hid kR1
  have HW := Lib.hid hb1
  clear hA1 hB1 hR1 kR1 hb1
  go_wp2_with fail
  have hA := HA.out
  have hB := HB.out
  have hR := HR.out
  have kR := KR.out
  have hb0 := HW.out
  clear HA HB HR KR HW a4x b4x
  refine (eqTermS_same a1 b1 n1 a3 b3 ts _ hR.t kR.t hn1).mono ?_
  rintro e w1 ⟨rfl, hb⟩
  have hA1 := hA.below hb
  have hB1 := hB.below hb
  have hR1 := hR.below hb
  have kR1 := kR.below hb
  have hb1 := hb0.trans (hb.mono hb0.size)
  clear hb hA hB hR kR hb0
  have a5x := hA1.cell 5 _ rfl
  have b5x := hB1.cell 5 _ rfl
  have HA := Lib.hid hA1
  have HB := Lib.hid hB1
  have HR := Lib.hid hR1
  have KR := Lib.hid kR1
  have HW := Lib.hid hb1
  clear hA1 hB1 hR1 kR1 hb1
  go_wp2_with fail
  have hA := HA.out
  have hB := HB.out
  have hR := HR.out
  have kR := KR.out
  have hb0 := HW.out
  clear HA HB HR KR HW a5x b5x
  refine (eqItemS_same a2 b2 n2 a4 b4 is _ hR.i kR.i hn2).mono ?_
  rintro e w1 ⟨rfl, hb⟩
  have hA1 := hA.below hb
  have hB1 := hB.below hb
  have hR1 := hR.below hb
  have kR1 := kR.below hb
  have hb1 := hb0.trans (hb.mono hb0.size)
  clear hb hA hB hR kR hb0
  have HA := Lib.hid hA1
  have HB := Lib.hid hB1
  have HR := Lib.hid hR1
  have KR := Lib.hid kR1
  have HW := Lib.hid hb1
  clear hA1 hB1 hR1 kR1 hb1
  go_wp2_with fail
  go_ret
  exact ⟨rfl, HW.out⟩
/-- What is left of a size; or too much. -/
def LeftBook (n1 n2 : Nat) (ts : List Tm) (is : List Im) (left : Int) (w : World) (e : Ending) (w' : World) : Prop :=
  ∃ r : Int, e = .returned (.int .i64 r) ∧ ((r = -1) ∨ (0 ≤ r ∧ r ≤ left ∧ (n1 ≤ 1048576 ∧ n2 ≤ 1048576) ∧ (∀ t, t < n1 → (ts.getD t tmD).lk.size ≤ 1048576) ∧ ∀ t, t < n2 → (is.getD t imD).nm.size ≤ 1048576 ∧ (is.getD t imD).bd.size ≤ 1048576)) ∧ Below w.heap.size w w'
/-- What marking a book leaves: its rows alone are turned. -/
theorem BkO.len {w : World} {base : Nat} {a1 a2 : Option Addr} {n1 a3 n2 a4 : Nat} {ts : List Tm} {is : List Im} (h : BkO w base a1 n1 a3 a2 n2 a4 ts is) : ts.length = n1 ∧ is.length = n2 := ⟨TmR.olen h.t, ImR.olen h.i⟩
set_option maxRecDepth 100000 in
set_option maxHeartbeats 1600000 in
theorem markBook_any (c0 c1 c2 c3 : Int) (a1 a2 : Option Addr) (base n1 n2 a3 a4 : Nat) (ts : List Tm) (is : List Im) (k0 : Nat) (w : World) (h : BkO w base a1 n1 a3 a2 n2 a4 ts is) (hn1 : n1 ≤ 1048576) (hn2 : n2 ≤ 1048576) (hk0 : 0 < k0) (hk1 : k0 ≤ 549755813888) :
    Calls Tryz.prog 13 #[.agg #[.int .i64 c0, .int .i64 c1, .int .i64 c2, .int .i64 c3, .slice a1 n1 a3, .slice a2 n2 a4], .int .i64 (k0 : Int)] w fun e w' => e = .returned (.int .i64 ((k0 : Int) + 2 * (n1 : Int) + 3 * (n2 : Int))) ∧ BkO w' base a1 n1 a3 a2 n2 a4 (marksTm k0 n1) (marksIm (k0 + 2 * n1) n2) ∧ ∃ w1, w.grownBy w1 (Value.slice a1 n1 a3).ownBlock ∧ w1.grownBy w' (Value.slice a2 n2 a4).ownBlock := by
  obtain ⟨W, hW⟩ : ∃ W, W = w.alloc (.cells #[.int .i64 c0, .int .i64 c1, .int .i64 c2, .int .i64 c3, .slice a1 n1 a3, .slice a2 n2 a4] 32) := ⟨_, rfl⟩
  have hb0 : Below w.heap.size w W := by rw [hW]; repeat' (first | exact Below.refl _ _ | refine Below.alloc ?_ (by first | exact Nat.le_refl _ | (simp; done) | (simp; omega)) _)
  have hA : BoxC W (w.heap.size) [.int .i64 c0, .int .i64 c1, .int .i64 c2, .int .i64 c3, .slice a1 n1 a3, .slice a2 n2 a4] := by rw [hW]; exact (BoxC.made w #[.int .i64 c0, .int .i64 c1, .int .i64 c2, .int .i64 c3, .slice a1 n1 a3, .slice a2 n2 a4] 32)
  have hT := own_below h.t (show Below w.heap.size w W from hb0)
  have hI := own_below h.i (show Below w.heap.size w W from hb0)
  have hd := own_types hT hI (by decide)
  have hgW : w.grownBy W (Value.slice a1 n1 a3).ownBlock := ⟨hb0.os, hb0.tape, hb0.output, hb0.size, fun k hk _ => hb0.block k hk⟩
  have hAn : ∀ q, (Value.slice a1 n1 a3).ownBlock = some q → q < w.heap.size := fun q hq => (h.t.lt q hq).2
  clear h
  go_enter Tryz.func13, Tryz.ntmps13
  go_wp2_with fail
  rw [← hW]
  clear hW
  refine (markTermS_any a1 base n1 a3 ts k0 _ hT hn1 hk0 (by omega)).mono ?_
  rintro e w1 ⟨rfl, ho, hg⟩
  have a5x := (hA.grown hg (fun e => by have := hAn _ e.symm; omega)).cell 5 _ rfl
  have hI1 := own_grown hI hg hd.symm
  have HO := Lib.hid ho
  have HG := Lib.hid (grown_trans hgW hg)
  have HD := Lib.hid hd
  clear hT hI hd hgW hA hb0 ho hg
  go_wp2_with fail
  have hmk := markItemS_any a2 base n2 a4 is (k0 + 2 * n1) w1 hI1 hn2 (by omega) (by omega)
  rw [show ((k0 + 2 * n1 : Nat) : Int) = (k0 : Int) + 2 * (n1 : Int) by omega] at hmk
  refine hmk.mono ?_
  rintro e w2 ⟨rfl, ho2, hg2⟩
  have HO2 := Lib.hid ho2
  have HT2 := Lib.hid (own_grown HO.out hg2 HD.out)
  have HG2 := Lib.hid hg2
  clear hI1 hmk ho2 hg2 a5x
  go_wp2_with fail
  go_ret
  exact ⟨rfl, ⟨HT2.out, HO2.out⟩, w1, HG.out, HG2.out⟩
set_option maxRecDepth 100000 in
set_option maxHeartbeats 1600000 in
theorem heldBook_any (c0 c1 c2 c3 : Int) (a1 a2 : Option Addr) (n1 n2 a3 a4 : Nat) (k0 : Nat) (w : World) (h : BkR w a1 n1 a3 a2 n2 a4 (marksTm k0 n1) (marksIm (k0 + 2 * n1) n2)) (hn1 : n1 ≤ 1048576) (hn2 : n2 ≤ 1048576) (hk0 : 0 < k0) (hk1 : k0 ≤ 549755813888) :
    Calls Tryz.prog 14 #[.agg #[.int .i64 c0, .int .i64 c1, .int .i64 c2, .int .i64 c3, .slice a1 n1 a3, .slice a2 n2 a4], .int .i64 (k0 : Int)] w fun e w' => e = .returned (.int .i64 ((k0 : Int) + 2 * (n1 : Int) + 3 * (n2 : Int))) ∧ Below w.heap.size w w' := by
  obtain ⟨W, hW⟩ : ∃ W, W = w.alloc (.cells #[.int .i64 c0, .int .i64 c1, .int .i64 c2, .int .i64 c3, .slice a1 n1 a3, .slice a2 n2 a4] 32) := ⟨_, rfl⟩
  have hb0 : Below w.heap.size w W := by rw [hW]; repeat' (first | exact Below.refl _ _ | refine Below.alloc ?_ (by first | exact Nat.le_refl _ | (simp; done) | (simp; omega)) _)
  have hR := h.below (show Below w.heap.size w W from hb0)
  clear h
  have hA : BoxC W (w.heap.size) [.int .i64 c0, .int .i64 c1, .int .i64 c2, .int .i64 c3, .slice a1 n1 a3, .slice a2 n2 a4] := by rw [hW]; exact (BoxC.made w #[.int .i64 c0, .int .i64 c1, .int .i64 c2, .int .i64 c3, .slice a1 n1 a3, .slice a2 n2 a4] 32)
  go_enter Tryz.func14, Tryz.ntmps14
  go_wp2_with fail
  rw [← hW]
  clear hW
  refine (heldTermS_any a1 n1 a3 k0 _ hR.t hn1 hk0 (by omega)).mono ?_
  rintro e w1 ⟨rfl, hb⟩
  have a5x := (hA.below hb).cell 5 _ rfl
  have hI1 := SR.below hR.i hb
  have HW := Lib.hid (hb0.trans (hb.mono hb0.size))
  have hnn : ¬ (k0 : Int) + 2 * (n1 : Int) < 0 := by omega
  clear hR hA hb0 hb
  go_wp2_with fail
  have hmk := heldItemS_any a2 n2 a4 (k0 + 2 * n1) w1 hI1 hn2 (by omega) (by omega)
  rw [show ((k0 + 2 * n1 : Nat) : Int) = (k0 : Int) + 2 * (n1 : Int) by omega] at hmk
  refine hmk.mono ?_
  rintro e w2 ⟨rfl, hb⟩
  have HW2 := Lib.hid (HW.out.trans (hb.mono HW.out.size))
  have hnn2 : ¬ (k0 : Int) + 2 * (n1 : Int) + 3 * (n2 : Int) < 0 := by omega
  clear hI1 hmk hb a5x
  go_wp2_with fail
  go_ret
  exact ⟨rfl, HW2.out⟩
end Go.Proofs.YtnoefpkhbllmiaaGreatDoor
