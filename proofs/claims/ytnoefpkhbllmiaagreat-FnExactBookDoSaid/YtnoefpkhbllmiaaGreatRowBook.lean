/- What the laws' own functions on books answer. -/
import Derived.Test.YtnoefpkhbllmiaaGreatRowDeed1
namespace Go.Proofs.YtnoefpkhbllmiaaGreat
open Go.RowKit Go.PlainAid G MGF IRow
set_option linter.unusedVariables false
/-- A book. -/
structure Bk where
  c0 : Int
  c1 : Int
  c2 : Int
  c3 : Int
  ts : List Tm
  is : List Im
/-- A book that can be read: its numbers, and its two rows. -/
structure BkR (w : World) (a1 : Option Addr) (n1 a3 : Nat) (a2 : Option Addr) (n2 a4 : Nat) (ts : List Tm) (is : List Im) : Prop where
  t : TmR w a1 n1 a3 ts
  i : ImR w a2 n2 a4 is
theorem BkR.below {w w' : World} {a1 a2 : Option Addr} {n1 a3 n2 a4 : Nat} {ts : List Tm} {is : List Im} (h : BkR w a1 n1 a3 a2 n2 a4 ts is) (hb : Below w.heap.size w w') : BkR w' a1 n1 a3 a2 n2 a4 ts is := ⟨SR.below h.t hb, SR.below h.i hb⟩
/-- A book of the call's own. -/
structure BkO (w : World) (base : Nat) (a1 : Option Addr) (n1 a3 : Nat) (a2 : Option Addr) (n2 a4 : Nat) (ts : List Tm) (is : List Im) : Prop where
  t : w.ownsRow base 45 tmE.k (.slice a1 n1 a3) n1 (tmE.flat ts)
  i : w.ownsRow base 46 imE.k (.slice a2 n2 a4) n2 (imE.flat is)
theorem BkO.below {w w' : World} {base : Nat} {a1 a2 : Option Addr} {n1 a3 n2 a4 : Nat} {ts : List Tm} {is : List Im} (h : BkO w base a1 n1 a3 a2 n2 a4 ts is) (hb : Below w.heap.size w w') : BkO w' base a1 n1 a3 a2 n2 a4 ts is := ⟨own_below h.t hb, own_below h.i hb⟩
theorem BkO.read {w : World} {base : Nat} {a1 a2 : Option Addr} {n1 a3 n2 a4 : Nat} {ts : List Tm} {is : List Im} (h : BkO w base a1 n1 a3 a2 n2 a4 ts is) : BkR w a1 n1 a3 a2 n2 a4 ts is := ⟨TmR.own h.t, ImR.own h.i⟩
theorem BkO.mono {w : World} {base base' : Nat} {a1 a2 : Option Addr} {n1 a3 n2 a4 : Nat} {ts : List Tm} {is : List Im} (h : BkO w base a1 n1 a3 a2 n2 a4 ts is) (hb : base' ≤ base) : BkO w base' a1 n1 a3 a2 n2 a4 ts is := ⟨own_mono h.t hb, own_mono h.i hb⟩
/-- Two rows of different types lie in different blocks. -/
theorem own_types {w : World} {base base' : Nat} {e e' : TypeId} {size size' : Nat} {v u : Value} {n m : Nat} {xs ys : List Value} (h : w.ownsRow base e size v n xs) (k : w.ownsRow base' e' size' u m ys) (he : e ≠ e') : Disj v u := by
  intro g hg hu
  rcases h.2 with ⟨rfl, _⟩ | ⟨g1, c1, cur1, rfl, _, hh1, _⟩
  · simp [Value.ownBlock] at hg
  · rcases k.2 with ⟨rfl, _⟩ | ⟨g2, c2, cur2, rfl, _, hh2, _⟩
    · simp [Value.ownBlock] at hu
    · simp only [Value.ownBlock, Option.some.injEq] at hg hu
      subst hg
      subst hu
      rw [hh1] at hh2
      simp only [Option.some.injEq, Obj.cells.injEq] at hh2
      exact he hh2.2.1
/-- A book in new memory. -/
def NewBook (c0 c1 c2 c3 : Int) (ts : List Tm) (is : List Im) (w : World) (e : Ending) (w' : World) : Prop :=
  ∃ a1 n1 a3 a2 n2 a4, e = .returned (.agg #[.int .i64 c0, .int .i64 c1, .int .i64 c2, .int .i64 c3, .slice a1 n1 a3, .slice a2 n2 a4]) ∧ BkO w' w.heap.size a1 n1 a3 a2 n2 a4 ts is ∧ Below w.heap.size w w'
set_option maxRecDepth 100000 in
set_option maxHeartbeats 1600000 in
theorem eqBook_same (c0 c1 c2 c3 : Int) (a1 a2 b1 b2 : Option Addr) (n1 n2 a3 a4 b3 b4 : Nat) (ts : List Tm) (is : List Im) (w : World) (h : BkR w a1 n1 a3 a2 n2 a4 ts is) (k : BkR w b1 n1 b3 b2 n2 b4 ts is) (hn1 : n1 ≤ 1048576) (hn2 : n2 ≤ 1048576) :
    Calls Tryz.prog 11 #[.agg #[.int .i64 c0, .int .i64 c1, .int .i64 c2, .int .i64 c3, .slice a1 n1 a3, .slice a2 n2 a4], .agg #[.int .i64 c0, .int .i64 c1, .int .i64 c2, .int .i64 c3, .slice b1 n1 b3, .slice b2 n2 b4]] w fun e w' => e = .returned (.bool true) ∧ Below w.heap.size w w' := by
  obtain ⟨W, hW⟩ : ∃ W, W = (w.alloc (.cells #[.int .i64 c0, .int .i64 c1, .int .i64 c2, .int .i64 c3, .slice a1 n1 a3, .slice a2 n2 a4] 40)).alloc (.cells #[.int .i64 c0, .int .i64 c1, .int .i64 c2, .int .i64 c3, .slice b1 n1 b3, .slice b2 n2 b4] 40) := ⟨_, rfl⟩
  have hb0 : Below w.heap.size w W := by rw [hW]; repeat' (first | exact Below.refl _ _ | refine Below.alloc ?_ (by first | exact Nat.le_refl _ | (simp; done) | (simp; omega)) _)
  have hA : BoxC W (w.heap.size) [.int .i64 c0, .int .i64 c1, .int .i64 c2, .int .i64 c3, .slice a1 n1 a3, .slice a2 n2 a4] := by rw [hW]; exact ((BoxC.made w #[.int .i64 c0, .int .i64 c1, .int .i64 c2, .int .i64 c3, .slice a1 n1 a3, .slice a2 n2 a4] 40).alloc (.cells #[.int .i64 c0, .int .i64 c1, .int .i64 c2, .int .i64 c3, .slice b1 n1 b3, .slice b2 n2 b4] 40))
  have hB : BoxC W (w.heap.size + 1) [.int .i64 c0, .int .i64 c1, .int .i64 c2, .int .i64 c3, .slice b1 n1 b3, .slice b2 n2 b4] := by rw [hW]; have := (BoxC.made (w.alloc (.cells #[.int .i64 c0, .int .i64 c1, .int .i64 c2, .int .i64 c3, .slice a1 n1 a3, .slice a2 n2 a4] 40)) #[.int .i64 c0, .int .i64 c1, .int .i64 c2, .int .i64 c3, .slice b1 n1 b3, .slice b2 n2 b4] 40); rwa [World.size_alloc] at this
  have hR := h.below hb0
  have kR := k.below hb0
  clear h k
  go_enter Tryz.func11, Tryz.ntmps11
  go_wp2_with fail
  rw [← hW]
  clear hW
  refine (eqConf_same c0 c1 c2 c3 _).mono ?_
  rintro e w1 ⟨rfl, hb⟩
  have hA1 := hA.below hb
  have hB1 := hB.below hb
  have hR1 := hR.below hb
  have kR1 := kR.below hb
  have hb1 := hb0.trans (hb.mono hb0.size)
  clear hb hA hB hR kR hb0
  have a4x := hA1.cell 4 _ rfl
  have b4x := hB1.cell 4 _ rfl
  have HA := Lib.hid hA1
  have HB := Lib.hid hB1
  have HR := Lib.hid hR1
  have KR := Lib.hid kR1
  have HW := Lib.hid hb1
  clear hA1 hB1 hR1 kR1 hb1
  go_wp2_with fail
  have hA := HA.out
  have hB := HB.out
  have hR := HR.out
  have kR := KR.out
  have hb0 := HW.out
  clear HA HB HR KR HW a4x b4x
  refine (eqTermS_same a1 b1 n1 a3 b3 ts _ hR.t kR.t hn1).mono ?_
  rintro e w1 ⟨rfl, hb⟩
  have hA1 := hA.below hb
  have hB1 := hB.below hb
  have hR1 := hR.below hb
  have kR1 := kR.below hb
  have hb1 := hb0.trans (hb.mono hb0.size)
  clear hb hA hB hR kR hb0
  have a5x := hA1.cell 5 _ rfl
  have b5x := hB1.cell 5 _ rfl
  have HA := Lib.hid hA1
  have HB := Lib.hid hB1
  have HR := Lib.hid hR1
  have KR := Lib.hid kR1
  have HW := Lib.hid hb1
  clear hA1 hB1 hR1 kR1 hb1
  go_wp2_with fail
  have hA := HA.out
  have hB := HB.out
  have hR := HR.out
  have kR := KR.out
  have hb0 := HW.out
  clear HA HB HR KR HW a5x b5x
  refine (eqItemS_same a2 b2 n2 a4 b4 is _ hR.i kR.i hn2).mono ?_
  rintro e w1 ⟨rfl, hb⟩
  have hA1 := hA.below hb
  have hB1 := hB.below hb
  have hR1 := hR.below hb
  have kR1 := kR.below hb
  have hb1 := hb0.trans (hb.mono hb0.size)
  clear hb hA hB hR kR hb0
  have HA := Lib.hid hA1
  have HB := Lib.hid hB1
  have HR := Lib.hid hR1
  have KR := Lib.hid kR1
  have HW := Lib.hid hb1
  clear hA1 hB1 hR1 kR1 hb1
  go_wp2_with fail
  go_ret
  exact ⟨rfl, HW.out⟩
set_option maxRecDepth 100000 in
set_option maxHeartbeats 1600000 in
theorem eqBookOut_same (c0 c1 c2 c3 : Int) (a1 a2 b1 b2 : Option Addr) (n1 n2 a3 a4 b3 b4 : Nat) (ts : List Tm) (is : List Im) (d : Int) (w : World) (h : BkR w a1 n1 a3 a2 n2 a4 ts is) (k : BkR w b1 n1 b3 b2 n2 b4 ts is) (hn1 : n1 ≤ 1048576) (hn2 : n2 ≤ 1048576) :
    Calls Tryz.prog 10 #[.agg #[.int .i64 c0, .int .i64 c1, .int .i64 c2, .int .i64 c3, .slice a1 n1 a3, .slice a2 n2 a4, .int .i64 d], .agg #[.int .i64 c0, .int .i64 c1, .int .i64 c2, .int .i64 c3, .slice b1 n1 b3, .slice b2 n2 b4, .int .i64 d]] w fun e w' => e = .returned (.bool true) ∧ Below w.heap.size w w' := by
  obtain ⟨W, hW⟩ : ∃ W, W = (w.alloc (.cells #[.int .i64 c0, .int .i64 c1, .int .i64 c2, .int .i64 c3, .slice a1 n1 a3, .slice a2 n2 a4, .int .i64 d] 42)).alloc (.cells #[.int .i64 c0, .int .i64 c1, .int .i64 c2, .int .i64 c3, .slice b1 n1 b3, .slice b2 n2 b4, .int .i64 d] 42) := ⟨_, rfl⟩
  have hb0 : Below w.heap.size w W := by rw [hW]; repeat' (first | exact Below.refl _ _ | refine Below.alloc ?_ (by first | exact Nat.le_refl _ | (simp; done) | (simp; omega)) _)
  have hA : BoxC W (w.heap.size) [.int .i64 c0, .int .i64 c1, .int .i64 c2, .int .i64 c3, .slice a1 n1 a3, .slice a2 n2 a4, .int .i64 d] := by rw [hW]; exact ((BoxC.made w #[.int .i64 c0, .int .i64 c1, .int .i64 c2, .int .i64 c3, .slice a1 n1 a3, .slice a2 n2 a4, .int .i64 d] 42).alloc (.cells #[.int .i64 c0, .int .i64 c1, .int .i64 c2, .int .i64 c3, .slice b1 n1 b3, .slice b2 n2 b4, .int .i64 d] 42))
  have hB : BoxC W (w.heap.size + 1) [.int .i64 c0, .int .i64 c1, .int .i64 c2, .int .i64 c3, .slice b1 n1 b3, .slice b2 n2 b4, .int .i64 d] := by rw [hW]; have := (BoxC.made (w.alloc (.cells #[.int .i64 c0, .int .i64 c1, .int .i64 c2, .int .i64 c3, .slice a1 n1 a3, .slice a2 n2 a4, .int .i64 d] 42)) #[.int .i64 c0, .int .i64 c1, .int .i64 c2, .int .i64 c3, .slice b1 n1 b3, .slice b2 n2 b4, .int .i64 d] 42); rwa [World.size_alloc] at this
  have hR := h.below hb0
  have kR := k.below hb0
  clear h k
  go_enter Tryz.func10, Tryz.ntmps10
  go_wp2_with fail
  rw [← hW]
  clear hW
  refine (eqBook_same c0 c1 c2 c3 a1 a2 b1 b2 n1 n2 a3 a4 b3 b4 ts is _ hR kR hn1 hn2).mono ?_
  rintro e w1 ⟨rfl, hb⟩
  have a6x := (hA.below hb).cell 6 _ rfl
  have b6x := (hB.below hb).cell 6 _ rfl
  have HW := Lib.hid (hb0.trans (hb.mono hb0.size))
  clear hb hA hB hR kR hb0
  go_wp2_with fail
  go_ret
  exact ⟨rfl, HW.out⟩
/-- What is left of a size; or too much. -/
def LeftBook (n1 n2 : Nat) (ts : List Tm) (is : List Im) (left : Int) (w : World) (e : Ending) (w' : World) : Prop :=
  ∃ r : Int, e = .returned (.int .i64 r) ∧ ((r = -1) ∨ (0 ≤ r ∧ r ≤ left ∧ (n1 ≤ 1048576 ∧ n2 ≤ 1048576) ∧ (∀ t, t < n1 → (ts.getD t tmD).lk.size ≤ 1048576) ∧ ∀ t, t < n2 → (is.getD t imD).nm.size ≤ 1048576 ∧ (is.getD t imD).bd.size ≤ 1048576)) ∧ Below w.heap.size w w'
set_option maxRecDepth 100000 in
set_option maxHeartbeats 1600000 in
theorem szBook_any (c0 c1 c2 c3 : Int) (a1 a2 : Option Addr) (n1 n2 a3 a4 : Nat) (ts : List Tm) (is : List Im) (left : Int) (w : World) (h : BkR w a1 n1 a3 a2 n2 a4 ts is) (hn1 : n1 ≤ 9223372036854775807) (hn2 : n2 ≤ 9223372036854775807) (hs1 : ∀ t, t < n1 → (ts.getD t tmD).lk.size ≤ maxLen) (hs2 : ∀ t, t < n2 → (is.getD t imD).nm.size ≤ maxLen ∧ (is.getD t imD).bd.size ≤ maxLen) (hl0 : 0 ≤ left) (hl1 : left ≤ 1048576) :
    Calls Tryz.prog 4 #[.agg #[.int .i64 c0, .int .i64 c1, .int .i64 c2, .int .i64 c3, .slice a1 n1 a3, .slice a2 n2 a4], .int .i64 left] w (LeftBook n1 n2 ts is left w) := by
  obtain ⟨W, hW⟩ : ∃ W, W = w.alloc (.cells #[.int .i64 c0, .int .i64 c1, .int .i64 c2, .int .i64 c3, .slice a1 n1 a3, .slice a2 n2 a4] 27) := ⟨_, rfl⟩
  have hb0 : Below w.heap.size w W := by rw [hW]; repeat' (first | exact Below.refl _ _ | refine Below.alloc ?_ (by first | exact Nat.le_refl _ | (simp; done) | (simp; omega)) _)
  have hA : BoxC W (w.heap.size) [.int .i64 c0, .int .i64 c1, .int .i64 c2, .int .i64 c3, .slice a1 n1 a3, .slice a2 n2 a4] := by rw [hW]; exact (BoxC.made w #[.int .i64 c0, .int .i64 c1, .int .i64 c2, .int .i64 c3, .slice a1 n1 a3, .slice a2 n2 a4] 27)
  have hR := h.below hb0
  clear h
  have HS1 := Lib.hid hs1
  have HS2 := Lib.hid hs2
  clear hs1 hs2
  go_enter Tryz.func4, Tryz.ntmps4
  go_wp2_with fail
  rw [← hW]
  clear hW
  refine (szTermS_any a1 n1 a3 ts left _ hR.t hn1 HS1.out hl0 hl1).mono ?_
  rintro e w1 ⟨r, rfl, hr, hb⟩
  have a5x := (hA.below hb).cell 5 _ rfl
  have HR := Lib.hid (hR.below hb)
  have HW := Lib.hid (hb0.trans (hb.mono hb0.size))
  clear hb hA hR hb0
  rcases hr with rfl | ⟨r0, r1, s1, s2⟩
  · go_wp2_with fail
    go_ret
    exact ⟨-1, rfl, .inl rfl, HW.out⟩
  · have hnn : ¬ r < 0 := by omega
    have HS3 := Lib.hid s2
    clear s2
    go_wp2_with fail
    refine (szItemS_any a2 n2 a4 is r _ HR.out.i hn2 HS2.out r0 (by omega)).mono ?_
    rintro e w2 ⟨r2, rfl, hr, hb⟩
    have HW2 := Lib.hid (HW.out.trans (hb.mono HW.out.size))
    clear hb a5x
    rcases hr with rfl | ⟨t0, t1, t2, t3⟩
    · go_wp2_with fail
      go_ret
      exact ⟨-1, rfl, .inl rfl, HW2.out⟩
    · have hn2 : ¬ r2 < 0 := by omega
      have HS4 := Lib.hid t3
      clear t3
      go_wp2_with fail
      go_ret
      exact ⟨r2, rfl, .inr ⟨t0, by omega, ⟨s1, t2⟩, HS3.out, HS4.out⟩, HW2.out⟩
set_option maxRecDepth 100000 in
set_option maxHeartbeats 3200000 in
theorem toBook_any (c0 c1 c2 c3 : Int) (a1 a2 : Option Addr) (n1 n2 a3 a4 : Nat) (ts : List Tm) (is : List Im) (w : World) (h : BkR w a1 n1 a3 a2 n2 a4 ts is) (hn1 : n1 ≤ 1048576) (hn2 : n2 ≤ 1048576) :
    Calls Tryz.prog 7 #[.agg #[.int .i64 c0, .int .i64 c1, .int .i64 c2, .int .i64 c3, .slice a1 n1 a3, .slice a2 n2 a4]] w fun e w' => ∃ b1 b3 b2 b4, e = .returned (.agg #[.int .i64 c0, .int .i64 c1, .int .i64 c2, .int .i64 c3, .slice b1 n1 b3, .slice b2 n2 b4]) ∧ BkO w' w.heap.size b1 n1 b3 b2 n2 b4 ts is ∧ Below w.heap.size w w' := by
  obtain ⟨W, hW⟩ : ∃ W, W = ((w.alloc (.cells #[.int .i64 c0, .int .i64 c1, .int .i64 c2, .int .i64 c3, .slice a1 n1 a3, .slice a2 n2 a4] 27)).alloc (.cells #[.int .i64 0, .int .i64 0, .int .i64 0, .int .i64 0, .slice none 0 0, .slice none 0 0] 40)).alloc (.cells #[.int .i64 0, .int .i64 0, .int .i64 0, .int .i64 0, .slice none 0 0, .slice none 0 0] 40) := ⟨_, rfl⟩
  have hb0 : Below w.heap.size w W := by rw [hW]; repeat' (first | exact Below.refl _ _ | refine Below.alloc ?_ (by first | exact Nat.le_refl _ | (simp; done) | (simp; omega)) _)
  have hA : BoxC W (w.heap.size) [.int .i64 c0, .int .i64 c1, .int .i64 c2, .int .i64 c3, .slice a1 n1 a3, .slice a2 n2 a4] := by rw [hW]; exact (((BoxC.made w #[.int .i64 c0, .int .i64 c1, .int .i64 c2, .int .i64 c3, .slice a1 n1 a3, .slice a2 n2 a4] 27).alloc (.cells #[.int .i64 0, .int .i64 0, .int .i64 0, .int .i64 0, .slice none 0 0, .slice none 0 0] 40)).alloc (.cells #[.int .i64 0, .int .i64 0, .int .i64 0, .int .i64 0, .slice none 0 0, .slice none 0 0] 40))
  have hC : BoxC W (w.heap.size + 1) [.int .i64 0, .int .i64 0, .int .i64 0, .int .i64 0, .slice none 0 0, .slice none 0 0] := by rw [hW]; have := ((BoxC.made (w.alloc (.cells #[.int .i64 c0, .int .i64 c1, .int .i64 c2, .int .i64 c3, .slice a1 n1 a3, .slice a2 n2 a4] 27)) #[.int .i64 0, .int .i64 0, .int .i64 0, .int .i64 0, .slice none 0 0, .slice none 0 0] 40).alloc (.cells #[.int .i64 0, .int .i64 0, .int .i64 0, .int .i64 0, .slice none 0 0, .slice none 0 0] 40)); rwa [World.size_alloc] at this
  have hB : BoxC W (w.heap.size + 1 + 1) [.int .i64 0, .int .i64 0, .int .i64 0, .int .i64 0, .slice none 0 0, .slice none 0 0] := by rw [hW]; have := (BoxC.made ((w.alloc (.cells #[.int .i64 c0, .int .i64 c1, .int .i64 c2, .int .i64 c3, .slice a1 n1 a3, .slice a2 n2 a4] 27)).alloc (.cells #[.int .i64 0, .int .i64 0, .int .i64 0, .int .i64 0, .slice none 0 0, .slice none 0 0] 40)) #[.int .i64 0, .int .i64 0, .int .i64 0, .int .i64 0, .slice none 0 0, .slice none 0 0] 40); rwa [World.size_alloc, World.size_alloc] at this
  go_enter Tryz.func7, Tryz.ntmps7
  go_wp2_with fail
  rw [← hW]
  clear hW
  have HR := Lib.hid h
  clear h
  refine (toConf_any c0 c1 c2 c3 _).mono ?_
  rintro e w1 ⟨rfl, hb⟩
  have hA1 := hA.below hb
  have hB1 := hB.below hb
  have hC1 := hC.below hb
  have hb1 := hb0.trans (hb.mono hb0.size)
  clear hb hA hB hC hb0
  have a4x := hA1.cell 4 _ rfl
  have b0x := hB1.cell 0 _ rfl
  have f0x := hB1.free 0
  have b1x := hB1.cell 1 _ rfl
  have f1x := hB1.free 1
  have b2x := hB1.cell 2 _ rfl
  have f2x := hB1.free 2
  have b3x := hB1.cell 3 _ rfl
  have f3x := hB1.free 3
  obtain ⟨V, hV⟩ : ∃ V, V = (((w1.setCell ⟨w.heap.size + 1 + 1, 0, none⟩ (.int .i64 c0)).setCell ⟨w.heap.size + 1 + 1, 1, none⟩ (.int .i64 c1)).setCell ⟨w.heap.size + 1 + 1, 2, none⟩ (.int .i64 c2)).setCell ⟨w.heap.size + 1 + 1, 3, none⟩ (.int .i64 c3) := ⟨_, rfl⟩
  have HA : Hid (BoxC V w.heap.size [.int .i64 c0, .int .i64 c1, .int .i64 c2, .int .i64 c3, .slice a1 n1 a3, .slice a2 n2 a4]) := Lib.hid (by rw [hV]; exact ((((hA1.other ⟨w.heap.size + 1 + 1, 0, none⟩ (.int .i64 c0) (by simp <;> omega)).other ⟨w.heap.size + 1 + 1, 1, none⟩ (.int .i64 c1) (by simp <;> omega)).other ⟨w.heap.size + 1 + 1, 2, none⟩ (.int .i64 c2) (by simp <;> omega)).other ⟨w.heap.size + 1 + 1, 3, none⟩ (.int .i64 c3) (by simp <;> omega)))
  have HC : Hid (BoxC V (w.heap.size + 1) [.int .i64 0, .int .i64 0, .int .i64 0, .int .i64 0, .slice none 0 0, .slice none 0 0]) := Lib.hid (by rw [hV]; exact ((((hC1.other ⟨w.heap.size + 1 + 1, 0, none⟩ (.int .i64 c0) (by simp <;> omega)).other ⟨w.heap.size + 1 + 1, 1, none⟩ (.int .i64 c1) (by simp <;> omega)).other ⟨w.heap.size + 1 + 1, 2, none⟩ (.int .i64 c2) (by simp <;> omega)).other ⟨w.heap.size + 1 + 1, 3, none⟩ (.int .i64 c3) (by simp <;> omega)))
  have HB : Hid (BoxC V (w.heap.size + 1 + 1) [.int .i64 c0, .int .i64 c1, .int .i64 c2, .int .i64 c3, .slice none 0 0, .slice none 0 0]) := Lib.hid (by rw [hV]; exact ((((hB1.set (j := 0) (by simp) (.int .i64 c0)).set (j := 1) (by simp) (.int .i64 c1)).set (j := 2) (by simp) (.int .i64 c2)).set (j := 3) (by simp) (.int .i64 c3)))
  have HW : Hid (Below w.heap.size w V) := Lib.hid (by rw [hV]; exact ((((hb1.setCell (p := ⟨w.heap.size + 1 + 1, 0, none⟩) (by dsimp only; omega) (.int .i64 c0)).setCell (p := ⟨w.heap.size + 1 + 1, 1, none⟩) (by dsimp only; omega) (.int .i64 c1)).setCell (p := ⟨w.heap.size + 1 + 1, 2, none⟩) (by dsimp only; omega) (.int .i64 c2)).setCell (p := ⟨w.heap.size + 1 + 1, 3, none⟩) (by dsimp only; omega) (.int .i64 c3)))
  clear hA1 hB1 hC1 hb1
  go_wp2_with fail
  rw [← hV]
  clear hV a4x b0x f0x b1x f1x b2x f2x b3x f3x
  have hVs : w.heap.size + 1 + 1 < V.heap.size := HB.out.lt
  refine (toTermS_any a1 n1 a3 ts _ (HR.out.below HW.out).t hn1).mono ?_
  rintro e w2 ⟨b1, b3, rfl, ho, hb⟩
  have HN : Hid (∀ q, (Value.slice b1 n1 b3).ownBlock = some q → w.heap.size + 1 + 1 < q) := Lib.hid (fun q hq => by have := (ho.lt q hq).1; omega)
  have hA1 := HA.out.below hb
  have hB1 := HB.out.below hb
  have hC1 := HC.out.below hb
  have hb1 := HW.out.trans (hb.mono HW.out.size)
  clear hb HA HB HC HW
  have a5x := hA1.cell 5 _ rfl
  have b4x := hB1.cell 4 _ rfl
  have f4x := hB1.free 4
  obtain ⟨X, hX⟩ : ∃ X, X = w2.setCell ⟨w.heap.size + 1 + 1, 4, none⟩ (.slice b1 n1 b3) := ⟨_, rfl⟩
  have HC : Hid (BoxC X (w.heap.size + 1) [.int .i64 0, .int .i64 0, .int .i64 0, .int .i64 0, .slice none 0 0, .slice none 0 0]) := Lib.hid (by rw [hX]; exact (hC1.other ⟨w.heap.size + 1 + 1, 4, none⟩ (.slice b1 n1 b3) (by simp <;> omega)))
  have HB : Hid (BoxC X (w.heap.size + 1 + 1) [.int .i64 c0, .int .i64 c1, .int .i64 c2, .int .i64 c3, .slice b1 n1 b3, .slice none 0 0]) := Lib.hid (by rw [hX]; exact (hB1.set (j := 4) (by simp) (.slice b1 n1 b3)))
  have HW : Hid (Below w.heap.size w X) := Lib.hid (by rw [hX]; exact (hb1.setCell (p := ⟨w.heap.size + 1 + 1, 4, none⟩) (by dsimp only; omega) (.slice b1 n1 b3)))
  have HT : Hid (X.ownsRow w.heap.size 45 tmE.k (.slice b1 n1 b3) n1 (tmE.flat ts)) := Lib.hid (by rw [hX]; exact (own_other (own_mono ho (by omega)) (b := w.heap.size + 1 + 1) (fun q hq => by have := HN.out q hq; omega) ⟨w.heap.size + 1 + 1, 4, none⟩ (.slice b1 n1 b3) rfl))
  clear hA1 hB1 hC1 hb1 ho
  go_wp2_with fail
  rw [← hX]
  clear hX a5x b4x f4x hVs V
  have hVs : w.heap.size + 1 + 1 < X.heap.size := HB.out.lt
  refine (toItemS_any a2 n2 a4 is _ (HR.out.below HW.out).i hn2).mono ?_
  rintro e w3 ⟨b2, b4, rfl, ho, hb⟩
  have HN2 : Hid (∀ q, (Value.slice b2 n2 b4).ownBlock = some q → w.heap.size + 1 + 1 < q) := Lib.hid (fun q hq => by have := (ho.lt q hq).1; omega)
  have hB1 := HB.out.below hb
  have hC1 := HC.out.below hb
  have hb1 := HW.out.trans (hb.mono HW.out.size)
  have hT1 := own_below HT.out hb
  clear hb HB HC HW HT
  have b0x := hB1.cell 0 _ rfl
  have d0x := hC1.cell 0 _ rfl
  have e0x := hC1.free 0
  have b1x := hB1.cell 1 _ rfl
  have d1x := hC1.cell 1 _ rfl
  have e1x := hC1.free 1
  have b2x := hB1.cell 2 _ rfl
  have d2x := hC1.cell 2 _ rfl
  have e2x := hC1.free 2
  have b3x := hB1.cell 3 _ rfl
  have d3x := hC1.cell 3 _ rfl
  have e3x := hC1.free 3
  have b4x := hB1.cell 4 _ rfl
  have d4x := hC1.cell 4 _ rfl
  have e4x := hC1.free 4
  have b5x := hB1.cell 5 _ rfl
  have d5x := hC1.cell 5 _ rfl
  have e5x := hC1.free 5
  have f5x := hB1.free 5
  obtain ⟨Y, hY⟩ : ∃ Y, Y = ((((((w3.setCell ⟨w.heap.size + 1 + 1, 5, none⟩ (.slice b2 n2 b4)).setCell ⟨w.heap.size + 1, 0, none⟩ (.int .i64 c0)).setCell ⟨w.heap.size + 1, 1, none⟩ (.int .i64 c1)).setCell ⟨w.heap.size + 1, 2, none⟩ (.int .i64 c2)).setCell ⟨w.heap.size + 1, 3, none⟩ (.int .i64 c3)).setCell ⟨w.heap.size + 1, 4, none⟩ (.slice b1 n1 b3)).setCell ⟨w.heap.size + 1, 5, none⟩ (.slice b2 n2 b4) := ⟨_, rfl⟩
  have hC5 : BoxC Y (w.heap.size + 1) [.int .i64 c0, .int .i64 c1, .int .i64 c2, .int .i64 c3, .slice b1 n1 b3, .slice b2 n2 b4] := by rw [hY]; exact (((((((hC1.other ⟨w.heap.size + 1 + 1, 5, none⟩ (.slice b2 n2 b4) (by simp <;> omega)).set (j := 0) (by simp) (.int .i64 c0)).set (j := 1) (by simp) (.int .i64 c1)).set (j := 2) (by simp) (.int .i64 c2)).set (j := 3) (by simp) (.int .i64 c3)).set (j := 4) (by simp) (.slice b1 n1 b3)).set (j := 5) (by simp) (.slice b2 n2 b4))
  have HW : Hid (Below w.heap.size w Y) := Lib.hid (by rw [hY]; exact (((((((hb1.setCell (p := ⟨w.heap.size + 1 + 1, 5, none⟩) (by dsimp only; omega) (.slice b2 n2 b4)).setCell (p := ⟨w.heap.size + 1, 0, none⟩) (by dsimp only; omega) (.int .i64 c0)).setCell (p := ⟨w.heap.size + 1, 1, none⟩) (by dsimp only; omega) (.int .i64 c1)).setCell (p := ⟨w.heap.size + 1, 2, none⟩) (by dsimp only; omega) (.int .i64 c2)).setCell (p := ⟨w.heap.size + 1, 3, none⟩) (by dsimp only; omega) (.int .i64 c3)).setCell (p := ⟨w.heap.size + 1, 4, none⟩) (by dsimp only; omega) (.slice b1 n1 b3)).setCell (p := ⟨w.heap.size + 1, 5, none⟩) (by dsimp only; omega) (.slice b2 n2 b4)))
  have HT : Hid (Y.ownsRow w.heap.size 45 tmE.k (.slice b1 n1 b3) n1 (tmE.flat ts)) := Lib.hid (by rw [hY]; exact (own_other (own_other (own_other (own_other (own_other (own_other (own_other hT1 (b := w.heap.size + 1 + 1) (fun q hq => by have := HN.out q hq; omega) ⟨w.heap.size + 1 + 1, 5, none⟩ (.slice b2 n2 b4) rfl) (b := w.heap.size + 1) (fun q hq => by have := HN.out q hq; omega) ⟨w.heap.size + 1, 0, none⟩ (.int .i64 c0) rfl) (b := w.heap.size + 1) (fun q hq => by have := HN.out q hq; omega) ⟨w.heap.size + 1, 1, none⟩ (.int .i64 c1) rfl) (b := w.heap.size + 1) (fun q hq => by have := HN.out q hq; omega) ⟨w.heap.size + 1, 2, none⟩ (.int .i64 c2) rfl) (b := w.heap.size + 1) (fun q hq => by have := HN.out q hq; omega) ⟨w.heap.size + 1, 3, none⟩ (.int .i64 c3) rfl) (b := w.heap.size + 1) (fun q hq => by have := HN.out q hq; omega) ⟨w.heap.size + 1, 4, none⟩ (.slice b1 n1 b3) rfl) (b := w.heap.size + 1) (fun q hq => by have := HN.out q hq; omega) ⟨w.heap.size + 1, 5, none⟩ (.slice b2 n2 b4) rfl))
  have HI : Hid (Y.ownsRow w.heap.size 46 imE.k (.slice b2 n2 b4) n2 (imE.flat is)) := Lib.hid (by rw [hY]; exact (own_other (own_other (own_other (own_other (own_other (own_other (own_other (own_mono ho (by omega)) (b := w.heap.size + 1 + 1) (fun q hq => by have := HN2.out q hq; omega) ⟨w.heap.size + 1 + 1, 5, none⟩ (.slice b2 n2 b4) rfl) (b := w.heap.size + 1) (fun q hq => by have := HN2.out q hq; omega) ⟨w.heap.size + 1, 0, none⟩ (.int .i64 c0) rfl) (b := w.heap.size + 1) (fun q hq => by have := HN2.out q hq; omega) ⟨w.heap.size + 1, 1, none⟩ (.int .i64 c1) rfl) (b := w.heap.size + 1) (fun q hq => by have := HN2.out q hq; omega) ⟨w.heap.size + 1, 2, none⟩ (.int .i64 c2) rfl) (b := w.heap.size + 1) (fun q hq => by have := HN2.out q hq; omega) ⟨w.heap.size + 1, 3, none⟩ (.int .i64 c3) rfl) (b := w.heap.size + 1) (fun q hq => by have := HN2.out q hq; omega) ⟨w.heap.size + 1, 4, none⟩ (.slice b1 n1 b3) rfl) (b := w.heap.size + 1) (fun q hq => by have := HN2.out q hq; omega) ⟨w.heap.size + 1, 5, none⟩ (.slice b2 n2 b4) rfl))
  have g0 := hC5.cell 0 _ rfl
  have g1 := hC5.cell 1 _ rfl
  have g2 := hC5.cell 2 _ rfl
  have g3 := hC5.cell 3 _ rfl
  have g4 := hC5.cell 4 _ rfl
  have g5 := hC5.cell 5 _ rfl
  have HG := Lib.hid (And.intro g0 (And.intro g1 (And.intro g2 (And.intro g3 (And.intro g4 g5)))))
  clear hB1 hC1 hb1 hT1 ho hC5 g0 g1 g2 g3 g4 g5
  go_wp2_with fail
  rw [← hY]
  obtain ⟨g0, g1, g2, g3, g4, g5⟩ := HG.out
  clear hY b0x d0x e0x b1x d1x e1x b2x d2x e2x b3x d3x e3x b4x d4x e4x b5x d5x e5x f5x
  exact bodyPost_ret (v := .agg #[.int .i64 c0, .int .i64 c1, .int .i64 c2, .int .i64 c3, .slice b1 n1 b3, .slice b2 n2 b4]) (by simp [results, Tryz.results7, go_sem, g0, g1, g2, g3, g4, g5]) rfl ⟨b1, b3, b2, b4, rfl, ⟨HT.out, HI.out⟩, HW.out⟩
/-- What marking a book leaves: its rows alone are turned. -/
theorem BkO.len {w : World} {base : Nat} {a1 a2 : Option Addr} {n1 a3 n2 a4 : Nat} {ts : List Tm} {is : List Im} (h : BkO w base a1 n1 a3 a2 n2 a4 ts is) : ts.length = n1 ∧ is.length = n2 := ⟨TmR.olen h.t, ImR.olen h.i⟩
set_option maxRecDepth 100000 in
set_option maxHeartbeats 1600000 in
theorem markBook_any (c0 c1 c2 c3 : Int) (a1 a2 : Option Addr) (base n1 n2 a3 a4 : Nat) (ts : List Tm) (is : List Im) (k0 : Nat) (w : World) (h : BkO w base a1 n1 a3 a2 n2 a4 ts is) (hn1 : n1 ≤ 1048576) (hn2 : n2 ≤ 1048576) (hk0 : 0 < k0) (hk1 : k0 ≤ 549755813888) :
    Calls Tryz.prog 12 #[.agg #[.int .i64 c0, .int .i64 c1, .int .i64 c2, .int .i64 c3, .slice a1 n1 a3, .slice a2 n2 a4], .int .i64 (k0 : Int)] w fun e w' => e = .returned (.int .i64 ((k0 : Int) + 2 * (n1 : Int) + 3 * (n2 : Int))) ∧ BkO w' base a1 n1 a3 a2 n2 a4 (marksTm k0 n1) (marksIm (k0 + 2 * n1) n2) ∧ ∃ w1, w.grownBy w1 (Value.slice a1 n1 a3).ownBlock ∧ w1.grownBy w' (Value.slice a2 n2 a4).ownBlock := by
  obtain ⟨W, hW⟩ : ∃ W, W = w.alloc (.cells #[.int .i64 c0, .int .i64 c1, .int .i64 c2, .int .i64 c3, .slice a1 n1 a3, .slice a2 n2 a4] 40) := ⟨_, rfl⟩
  have hb0 : Below w.heap.size w W := by rw [hW]; repeat' (first | exact Below.refl _ _ | refine Below.alloc ?_ (by first | exact Nat.le_refl _ | (simp; done) | (simp; omega)) _)
  have hA : BoxC W (w.heap.size) [.int .i64 c0, .int .i64 c1, .int .i64 c2, .int .i64 c3, .slice a1 n1 a3, .slice a2 n2 a4] := by rw [hW]; exact (BoxC.made w #[.int .i64 c0, .int .i64 c1, .int .i64 c2, .int .i64 c3, .slice a1 n1 a3, .slice a2 n2 a4] 40)
  have hT := own_below h.t (show Below w.heap.size w W from hb0)
  have hI := own_below h.i (show Below w.heap.size w W from hb0)
  have hd := own_types hT hI (by decide)
  have hgW : w.grownBy W (Value.slice a1 n1 a3).ownBlock := ⟨hb0.os, hb0.tape, hb0.output, hb0.size, fun k hk _ => hb0.block k hk⟩
  have hAn : ∀ q, (Value.slice a1 n1 a3).ownBlock = some q → q < w.heap.size := fun q hq => (h.t.lt q hq).2
  clear h
  go_enter Tryz.func12, Tryz.ntmps12
  go_wp2_with fail
  rw [← hW]
  clear hW
  refine (markTermS_any a1 base n1 a3 ts k0 _ hT hn1 hk0 (by omega)).mono ?_
  rintro e w1 ⟨rfl, ho, hg⟩
  have a5x := (hA.grown hg (fun e => by have := hAn _ e.symm; omega)).cell 5 _ rfl
  have hI1 := own_grown hI hg hd.symm
  have HO := Lib.hid ho
  have HG := Lib.hid (grown_trans hgW hg)
  have HD := Lib.hid hd
  clear hT hI hd hgW hA hb0 ho hg
  go_wp2_with fail
  have hmk := markItemS_any a2 base n2 a4 is (k0 + 2 * n1) w1 hI1 hn2 (by omega) (by omega)
  rw [show ((k0 + 2 * n1 : Nat) : Int) = (k0 : Int) + 2 * (n1 : Int) by omega] at hmk
  refine hmk.mono ?_
  rintro e w2 ⟨rfl, ho2, hg2⟩
  have HO2 := Lib.hid ho2
  have HT2 := Lib.hid (own_grown HO.out hg2 HD.out)
  have HG2 := Lib.hid hg2
  clear hI1 hmk ho2 hg2 a5x
  go_wp2_with fail
  go_ret
  exact ⟨rfl, ⟨HT2.out, HO2.out⟩, w1, HG.out, HG2.out⟩
set_option maxRecDepth 100000 in
set_option maxHeartbeats 1600000 in
theorem heldBook_any (c0 c1 c2 c3 : Int) (a1 a2 : Option Addr) (n1 n2 a3 a4 : Nat) (k0 : Nat) (w : World) (h : BkR w a1 n1 a3 a2 n2 a4 (marksTm k0 n1) (marksIm (k0 + 2 * n1) n2)) (hn1 : n1 ≤ 1048576) (hn2 : n2 ≤ 1048576) (hk0 : 0 < k0) (hk1 : k0 ≤ 549755813888) :
    Calls Tryz.prog 36 #[.agg #[.int .i64 c0, .int .i64 c1, .int .i64 c2, .int .i64 c3, .slice a1 n1 a3, .slice a2 n2 a4], .int .i64 (k0 : Int)] w fun e w' => e = .returned (.int .i64 ((k0 : Int) + 2 * (n1 : Int) + 3 * (n2 : Int))) ∧ Below w.heap.size w w' := by
  obtain ⟨W, hW⟩ : ∃ W, W = w.alloc (.cells #[.int .i64 c0, .int .i64 c1, .int .i64 c2, .int .i64 c3, .slice a1 n1 a3, .slice a2 n2 a4] 40) := ⟨_, rfl⟩
  have hb0 : Below w.heap.size w W := by rw [hW]; repeat' (first | exact Below.refl _ _ | refine Below.alloc ?_ (by first | exact Nat.le_refl _ | (simp; done) | (simp; omega)) _)
  have hR := h.below (show Below w.heap.size w W from hb0)
  clear h
  have hA : BoxC W (w.heap.size) [.int .i64 c0, .int .i64 c1, .int .i64 c2, .int .i64 c3, .slice a1 n1 a3, .slice a2 n2 a4] := by rw [hW]; exact (BoxC.made w #[.int .i64 c0, .int .i64 c1, .int .i64 c2, .int .i64 c3, .slice a1 n1 a3, .slice a2 n2 a4] 40)
  go_enter Tryz.func36, Tryz.ntmps36
  go_wp2_with fail
  rw [← hW]
  clear hW
  refine (heldTermS_any a1 n1 a3 k0 _ hR.t hn1 hk0 (by omega)).mono ?_
  rintro e w1 ⟨rfl, hb⟩
  have a5x := (hA.below hb).cell 5 _ rfl
  have hI1 := SR.below hR.i hb
  have HW := Lib.hid (hb0.trans (hb.mono hb0.size))
  have hnn : ¬ (k0 : Int) + 2 * (n1 : Int) < 0 := by omega
  clear hR hA hb0 hb
  go_wp2_with fail
  have hmk := heldItemS_any a2 n2 a4 (k0 + 2 * n1) w1 hI1 hn2 (by omega) (by omega)
  rw [show ((k0 + 2 * n1 : Nat) : Int) = (k0 : Int) + 2 * (n1 : Int) by omega] at hmk
  refine hmk.mono ?_
  rintro e w2 ⟨rfl, hb⟩
  have HW2 := Lib.hid (HW.out.trans (hb.mono HW.out.size))
  have hnn2 : ¬ (k0 : Int) + 2 * (n1 : Int) + 3 * (n2 : Int) < 0 := by omega
  clear hI1 hmk hb a5x
  go_wp2_with fail
  go_ret
  exact ⟨rfl, HW2.out⟩
set_option maxRecDepth 100000 in
set_option maxHeartbeats 1600000 in
theorem markBookOut_any (c0 c1 c2 c3 : Int) (a1 a2 : Option Addr) (base n1 n2 a3 a4 : Nat) (ts : List Tm) (is : List Im) (d : Int) (k0 : Nat) (w : World) (h : BkO w base a1 n1 a3 a2 n2 a4 ts is) (hn1 : n1 ≤ 1048576) (hn2 : n2 ≤ 1048576) (hk0 : 0 < k0) (hk1 : k0 ≤ 549755813888) :
    Calls Tryz.prog 13 #[.agg #[.int .i64 c0, .int .i64 c1, .int .i64 c2, .int .i64 c3, .slice a1 n1 a3, .slice a2 n2 a4, .int .i64 d], .int .i64 (k0 : Int)] w fun e w' => e = .returned (.int .i64 ((k0 : Int) + 2 * (n1 : Int) + 3 * (n2 : Int))) ∧ BkO w' base a1 n1 a3 a2 n2 a4 (marksTm k0 n1) (marksIm (k0 + 2 * n1) n2) ∧ ∃ w1, w.grownBy w1 (Value.slice a1 n1 a3).ownBlock ∧ w1.grownBy w' (Value.slice a2 n2 a4).ownBlock := by
  obtain ⟨W, hW⟩ : ∃ W, W = w.alloc (.cells #[.int .i64 c0, .int .i64 c1, .int .i64 c2, .int .i64 c3, .slice a1 n1 a3, .slice a2 n2 a4, .int .i64 d] 42) := ⟨_, rfl⟩
  have hb0 : Below w.heap.size w W := by rw [hW]; repeat' (first | exact Below.refl _ _ | refine Below.alloc ?_ (by first | exact Nat.le_refl _ | (simp; done) | (simp; omega)) _)
  have hO := h.below (show Below w.heap.size w W from hb0)
  have hgW : w.grownBy W (Value.slice a1 n1 a3).ownBlock := ⟨hb0.os, hb0.tape, hb0.output, hb0.size, fun k hk _ => hb0.block k hk⟩
  clear h
  go_enter Tryz.func13, Tryz.ntmps13
  go_wp2_with fail
  rw [← hW]
  clear hW
  refine (markBook_any c0 c1 c2 c3 a1 a2 base n1 n2 a3 a4 ts is k0 _ hO hn1 hn2 hk0 hk1).mono ?_
  rintro e w2 ⟨rfl, ho, w1, hg1, hg2⟩
  have HO := Lib.hid ho
  have HG1 := Lib.hid (grown_trans hgW hg1)
  have HG2 := Lib.hid hg2
  clear hO hgW hb0 ho hg1 hg2
  go_wp2_with fail
  go_ret
  exact ⟨rfl, HO.out, w1, HG1.out, HG2.out⟩
set_option maxRecDepth 100000 in
set_option maxHeartbeats 1600000 in
theorem heldBookOut_any (c0 c1 c2 c3 : Int) (a1 a2 : Option Addr) (n1 n2 a3 a4 : Nat) (d : Int) (k0 : Nat) (w : World) (h : BkR w a1 n1 a3 a2 n2 a4 (marksTm k0 n1) (marksIm (k0 + 2 * n1) n2)) (hn1 : n1 ≤ 1048576) (hn2 : n2 ≤ 1048576) (hk0 : 0 < k0) (hk1 : k0 ≤ 549755813888) :
    Calls Tryz.prog 14 #[.agg #[.int .i64 c0, .int .i64 c1, .int .i64 c2, .int .i64 c3, .slice a1 n1 a3, .slice a2 n2 a4, .int .i64 d], .int .i64 (k0 : Int)] w fun e w' => e = .returned (.int .i64 ((k0 : Int) + 2 * (n1 : Int) + 3 * (n2 : Int))) ∧ Below w.heap.size w w' := by
  obtain ⟨W, hW⟩ : ∃ W, W = w.alloc (.cells #[.int .i64 c0, .int .i64 c1, .int .i64 c2, .int .i64 c3, .slice a1 n1 a3, .slice a2 n2 a4, .int .i64 d] 42) := ⟨_, rfl⟩
  have hb0 : Below w.heap.size w W := by rw [hW]; repeat' (first | exact Below.refl _ _ | refine Below.alloc ?_ (by first | exact Nat.le_refl _ | (simp; done) | (simp; omega)) _)
  have hR := h.below (show Below w.heap.size w W from hb0)
  clear h
  go_enter Tryz.func14, Tryz.ntmps14
  go_wp2_with fail
  rw [← hW]
  clear hW
  refine (heldBook_any c0 c1 c2 c3 a1 a2 n1 n2 a3 a4 k0 _ hR hn1 hn2 hk0 hk1).mono ?_
  rintro e w1 ⟨rfl, hb⟩
  have HW := Lib.hid (hb0.trans (hb.mono hb0.size))
  have hnn : ¬ (k0 : Int) + 2 * (n1 : Int) + 3 * (n2 : Int) < 0 := by omega
  clear hR hb0 hb
  go_wp2_with fail
  go_ret
  exact ⟨rfl, HW.out⟩
end Go.Proofs.YtnoefpkhbllmiaaGreat
