/- Texts put together: what the law uses of them. -/
import Derived.Test.YtidcpdfhnhfelaaGreatDoorQRpl09
import Derived.Test.YtidcpdfhnhfelaaGreatDoorQRpl11
import Derived.Test.YtidcpdfhnhfelaaGreatDoorQRpl00
/- What the laws' own functions on books answer. -/
namespace Go.Proofs.YtidcpdfhnhfelaaGreatDoor
open Go.RowKit Go.PlainAid G MGF IRow
set_option linter.unusedVariables false
/-- A book. -/
structure Bk where
  c0 : Int
  c1 : Int
  c2 : Int
  c3 : Int
  ts : List Tm
  is : List Im
/-- A book that can be read: its numbers, and its two rows. -/
structure BkR (w : World) (a1 : Option Addr) (n1 a3 : Nat) (a2 : Option Addr) (n2 a4 : Nat) (ts : List Tm) (is : List Im) : Prop where
  t : TmR w a1 n1 a3 ts
  i : ImR w a2 n2 a4 is
theorem BkR.below {w w' : World} {a1 a2 : Option Addr} {n1 a3 n2 a4 : Nat} {ts : List Tm} {is : List Im} (h : BkR w a1 n1 a3 a2 n2 a4 ts is) (hb : Below w.heap.size w w') : BkR w' a1 n1 a3 a2 n2 a4 ts is := ⟨SR.below h.t hb, SR.below h.i hb⟩
/-- A book of the call's own. -/
structure BkO (w : World) (base : Nat) (a1 : Option Addr) (n1 a3 : Nat) (a2 : Option Addr) (n2 a4 : Nat) (ts : List Tm) (is : List Im) : Prop where
  t : w.ownsRow base 106 tmE.k (.slice a1 n1 a3) n1 (tmE.flat ts)
  i : w.ownsRow base 108 imE.k (.slice a2 n2 a4) n2 (imE.flat is)
theorem BkO.below {w w' : World} {base : Nat} {a1 a2 : Option Addr} {n1 a3 n2 a4 : Nat} {ts : List Tm} {is : List Im} (h : BkO w base a1 n1 a3 a2 n2 a4 ts is) (hb : Below w.heap.size w w') : BkO w' base a1 n1 a3 a2 n2 a4 ts is := ⟨own_below h.t hb, own_below h.i hb⟩
theorem BkO.read {w : World} {base : Nat} {a1 a2 : Option Addr} {n1 a3 n2 a4 : Nat} {ts : List Tm} {is : List Im} (h : BkO w base a1 n1 a3 a2 n2 a4 ts is) : BkR w a1 n1 a3 a2 n2 a4 ts is := ⟨TmR.own h.t, ImR.own h.i⟩
theorem BkO.mono {w : World} {base base' : Nat} {a1 a2 : Option Addr} {n1 a3 n2 a4 : Nat} {ts : List Tm} {is : List Im} (h : BkO w base a1 n1 a3 a2 n2 a4 ts is) (hb : base' ≤ base) : BkO w base' a1 n1 a3 a2 n2 a4 ts is := ⟨own_mono h.t hb, own_mono h.i hb⟩
/-- Two rows of different types lie in different blocks. -/
theorem own_types {w : World} {base base' : Nat} {e e' : TypeId} {size size' : Nat} {v u : Value} {n m : Nat} {xs ys : List Value} (h : w.ownsRow base e size v n xs) (k : w.ownsRow base' e' size' u m ys) (he : e ≠ e') : Disj v u := by
  intro g hg hu
  rcases h.2 with ⟨rfl, _⟩ | ⟨g1, c1, cur1, rfl, _, hh1, _⟩
  · simp [Value.ownBlock] at hg
  · rcases k.2 with ⟨rfl, _⟩ | ⟨g2, c2, cur2, rfl, _, hh2, _⟩
    · simp [Value.ownBlock] at hu
    · simp only [Value.ownBlock, Option.some.injEq] at hg hu
      subst hg
      subst hu
      rw [hh1] at hh2
      simp only [Option.some.injEq, Obj.cells.injEq] at hh2
      exact he hh2.2.1
/-- A book in new memory. -/
def NewBook (c0 c1 c2 c3 : Int) (ts : List Tm) (is : List Im) (w : World) (e : Ending) (w' : World) : Prop :=
  ∃ a1 n1 a3 a2 n2 a4, e = .returned (.agg #[.int .i64 c0, .int .i64 c1, .int .i64 c2, .int .i64 c3, .slice a1 n1 a3, .slice a2 n2 a4]) ∧ BkO w' w.heap.size a1 n1 a3 a2 n2 a4 ts is ∧ Below w.heap.size w w'
set_option maxRecDepth 100000 in
set_option maxHeartbeats 1600000 in
theorem eqBook_same (c0 c1 c2 c3 : Int) (a1 a2 b1 b2 : Option Addr) (n1 n2 a3 a4 b3 b4 : Nat) (ts : List Tm) (is : List Im) (w : World) (h : BkR w a1 n1 a3 a2 n2 a4 ts is) (k : BkR w b1 n1 b3 b2 n2 b4 ts is) (hn1 : n1 ≤ 1048576) (hn2 : n2 ≤ 1048576) :
    Calls Tryz.prog 13 #[.agg #[.int .i64 c0, .int .i64 c1, .int .i64 c2, .int .i64 c3, .slice a1 n1 a3, .slice a2 n2 a4], .agg #[.int .i64 c0, .int .i64 c1, .int .i64 c2, .int .i64 c3, .slice b1 n1 b3, .slice b2 n2 b4]] w fun e w' => e = .returned (.bool true) ∧ Below w.heap.size w w' := by
  obtain ⟨W, hW⟩ : ∃ W, W = (w.alloc (.cells #[.int .i64 c0, .int .i64 c1, .int .i64 c2, .int .i64 c3, .slice a1 n1 a3, .slice a2 n2 a4] 32)).alloc (.cells #[.int .i64 c0, .int .i64 c1, .int .i64 c2, .int .i64 c3, .slice b1 n1 b3, .slice b2 n2 b4] 32) := ⟨_, rfl⟩
  have hb0 : Below w.heap.size w W := by rw [hW]; repeat' (first | exact Below.refl _ _ | refine Below.alloc ?_ (by first | exact Nat.le_refl _ | (simp; done) | (simp; omega)) _)
  have hA : BoxC W (w.heap.size) [.int .i64 c0, .int .i64 c1, .int .i64 c2, .int .i64 c3, .slice a1 n1 a3, .slice a2 n2 a4] := by rw [hW]; exact ((BoxC.made w #[.int .i64 c0, .int .i64 c1, .int .i64 c2, .int .i64 c3, .slice a1 n1 a3, .slice a2 n2 a4] 32).alloc (.cells #[.int .i64 c0, .int .i64 c1, .int .i64 c2, .int .i64 c3, .slice b1 n1 b3, .slice b2 n2 b4] 32))
  have hB : BoxC W (w.heap.size + 1) [.int .i64 c0, .int .i64 c1, .int .i64 c2, .int .i64 c3, .slice b1 n1 b3, .slice b2 n2 b4] := by rw [hW]; have := (BoxC.made (w.alloc (.cells #[.int .i64 c0, .int .i64 c1, .int .i64 c2, .int .i64 c3, .slice a1 n1 a3, .slice a2 n2 a4] 32)) #[.int .i64 c0, .int .i64 c1, .int .i64 c2, .int .i64 c3, .slice b1 n1 b3, .slice b2 n2 b4] 32); rwa [World.size_alloc] at this
  have hR := h.below hb0
  have kR := k.below hb0
  clear h k
  go_enter Tryz.func13, Tryz.ntmps13
  go_wp2_with fail
  rw [← hW]
  clear hW
  refine (eqConf_same c0 c1 c2 c3 _).mono ?_
  rintro e w1 ⟨rfl, hb⟩
  have hA1 := hA.below hb
  have hB1 := hB.below hb
  have hR1 := hR.below hb
  have kR1 := kR.below hb
  have hb1 := hb0.trans (hb.mono hb0.size)
  clear hb hA hB hR kR hb0
  have a4x := hA1.cell 4 _ rfl
  have b4x := hB1.cell 4 _ rfl
  have HA := Lib.hid hA1
  have HB := Lib.hid hB1
  have HR := Lib.hid hR1
  have KR := Lib.hid kR1
  have HW := Lib.hid hb1
  clear hA1 hB1 hR1 kR1 hb1
  go_wp2_with fail
  have hA := HA.out
  have hB := HB.out
  have hR := HR.out
  have kR := KR.out
  have hb0 := HW.out
  clear HA HB HR KR HW a4x b4x
  refine (eqTermS_same a1 b1 n1 a3 b3 ts _ hR.t kR.t hn1).mono ?_
  rintro e w1 ⟨rfl, hb⟩
  have hA1 := hA.below hb
  have hB1 := hB.below hb
  have hR1 := hR.below hb
  have kR1 := kR.below hb
  have hb1 := hb0.trans (hb.mono hb0.size)
  clear hb hA hB hR kR hb0
  have a5x := hA1.cell 5 _ rfl
  have b5x := hB1.cell 5 _ rfl
  have HA := Lib.hid hA1
  have HB := Lib.hid hB1
  have HR := Lib.hid hR1
  have KR := Lib.hid kR1
  have HW := Lib.hid hb1
  clear hA1 hB1 hR1 kR1 hb1
  go_wp2_with fail
  have hA := HA.out
  have hB := HB.out
  have hR := HR.out
  have kR := KR.out
  have hb0 := HW.out
  clear HA HB HR KR HW a5x b5x
  refine (eqItemS_same a2 b2 n2 a4 b4 is _ hR.i kR.i hn2).mono ?_
  rintro e w1 ⟨rfl, hb⟩
  have hA1 := hA.below hb
  have hB1 := hB.below hb
  have hR1 := hR.below hb
  have kR1 := kR.below hb
  have hb1 := hb0.trans (hb.mono hb0.size)
  clear hb hA hB hR kR hb0
  have HA := Lib.hid hA1
  have HB := Lib.hid hB1
  have HR := Lib.hid hR1
  have KR := Lib.hid kR1
  have HW := Lib.hid hb1
  clear hA1 hB1 hR1 kR1 hb1
  go_wp2_with fail
  go_ret
  exact ⟨rfl, HW.out⟩
/-- What marking a book leaves: its rows alone are turned. -/
theorem BkO.len {w : World} {base : Nat} {a1 a2 : Option Addr} {n1 a3 n2 a4 : Nat} {ts : List Tm} {is : List Im} (h : BkO w base a1 n1 a3 a2 n2 a4 ts is) : ts.length = n1 ∧ is.length = n2 := ⟨TmR.olen h.t, ImR.olen h.i⟩
set_option maxRecDepth 100000 in
set_option maxHeartbeats 1600000 in
theorem markBook_any (c0 c1 c2 c3 : Int) (a1 a2 : Option Addr) (base n1 n2 a3 a4 : Nat) (ts : List Tm) (is : List Im) (k0 : Nat) (w : World) (h : BkO w base a1 n1 a3 a2 n2 a4 ts is) (hn1 : n1 ≤ 1048576) (hn2 : n2 ≤ 1048576) (hk0 : 0 < k0) (hk1 : k0 ≤ 549755813888) :
    Calls Tryz.prog 14 #[.agg #[.int .i64 c0, .int .i64 c1, .int .i64 c2, .int .i64 c3, .slice a1 n1 a3, .slice a2 n2 a4], .int .i64 (k0 : Int)] w fun e w' => e = .returned (.int .i64 ((k0 : Int) + 2 * (n1 : Int) + 3 * (n2 : Int))) ∧ BkO w' base a1 n1 a3 a2 n2 a4 (marksTm k0 n1) (marksIm (k0 + 2 * n1) n2) ∧ ∃ w1, w.grownBy w1 (Value.slice a1 n1 a3).ownBlock ∧ w1.grownBy w' (Value.slice a2 n2 a4).ownBlock := by
  obtain ⟨W, hW⟩ : ∃ W, W = w.alloc (.cells #[.int .i64 c0, .int .i64 c1, .int .i64 c2, .int .i64 c3, .slice a1 n1 a3, .slice a2 n2 a4] 32) := ⟨_, rfl⟩
  have hb0 : Below w.heap.size w W := by rw [hW]; repeat' (first | exact Below.refl _ _ | refine Below.alloc ?_ (by first | exact Nat.le_refl _ | (simp; done) | (simp; omega)) _)
  have hA : BoxC W (w.heap.size) [.int .i64 c0, .int .i64 c1, .int .i64 c2, .int .i64 c3, .slice a1 n1 a3, .slice a2 n2 a4] := by rw [hW]; exact (BoxC.made w #[.int .i64 c0, .int .i64 c1, .int .i64 c2, .int .i64 c3, .slice a1 n1 a3, .slice a2 n2 a4] 32)
  have hT := own_below h.t (show Below w.heap.size w W from hb0)
  have hI := own_below h.i (show Below w.heap.size w W from hb0)
  have hd := own_types hT hI (by decide)
  have hgW : w.grownBy W (Value.slice a1 n1 a3).ownBlock := ⟨hb0.os, hb0.tape, hb0.output, hb0.size, fun k hk _ => hb0.block k hk⟩
  have hAn : ∀ q, (Value.slice a1 n1 a3).ownBlock = some q → q < w.heap.size := fun q hq => (h.t.lt q hq).2
  clear h
  go_enter Tryz.func14, Tryz.ntmps14
  go_wp2_with fail
  rw [← hW]
  clear hW
  refine (markTermS_any a1 base n1 a3 ts k0 _ hT hn1 hk0 (by omega)).mono ?_
  rintro e w1 ⟨rfl, ho, hg⟩
  have a5x := (hA.grown hg (fun e => by have := hAn _ e.symm; omega)).cell 5 _ rfl
  have hI1 := own_grown hI hg hd.symm
  have HO := Lib.hid ho
  have HG := Lib.hid (grown_trans hgW hg)
  have HD := Lib.hid hd
  clear hT hI hd hgW hA hb0 ho hg
  go_wp2_with fail
  have hmk := markItemS_any a2 base n2 a4 is (k0 + 2 * n1) w1 hI1 hn2 (by omega) (by omega)
  rw [show ((k0 + 2 * n1 : Nat) : Int) = (k0 : Int) + 2 * (n1 : Int) by omega] at hmk
  refine hmk.mono ?_
  rintro e w2 ⟨rfl, ho2, hg2⟩
  have HO2 := Lib.hid ho2
  have HT2 := Lib.hid (own_grown HO.out hg2 HD.out)
  have HG2 := Lib.hid hg2
  clear hI1 hmk ho2 hg2 a5x
  go_wp2_with fail
  go_ret
  exact ⟨rfl, ⟨HT2.out, HO2.out⟩, w1, HG.out, HG2.out⟩
set_option maxRecDepth 100000 in
set_option maxHeartbeats 1600000 in
theorem heldBook_any (c0 c1 c2 c3 : Int) (a1 a2 : Option Addr) (n1 n2 a3 a4 : Nat) (k0 : Nat) (w : World) (h : BkR w a1 n1 a3 a2 n2 a4 (marksTm k0 n1) (marksIm (k0 + 2 * n1) n2)) (hn1 : n1 ≤ 1048576) (hn2 : n2 ≤ 1048576) (hk0 : 0 < k0) (hk1 : k0 ≤ 549755813888) :
    Calls Tryz.prog 15 #[.agg #[.int .i64 c0, .int .i64 c1, .int .i64 c2, .int .i64 c3, .slice a1 n1 a3, .slice a2 n2 a4], .int .i64 (k0 : Int)] w fun e w' => e = .returned (.int .i64 ((k0 : Int) + 2 * (n1 : Int) + 3 * (n2 : Int))) ∧ Below w.heap.size w w' := by
  obtain ⟨W, hW⟩ : ∃ W, W = w.alloc (.cells #[.int .i64 c0, .int .i64 c1, .int .i64 c2, .int .i64 c3, .slice a1 n1 a3, .slice a2 n2 a4] 32) := ⟨_, rfl⟩
  have hb0 : Below w.heap.size w W := by rw [hW]; repeat' (first | exact Below.refl _ _ | refine Below.alloc ?_ (by first | exact Nat.le_refl _ | (simp; done) | (simp; omega)) _)
  have hR := h.below (show Below w.heap.size w W from hb0)
  clear h
  have hA : BoxC W (w.heap.size) [.int .i64 c0, .int .i64 c1, .int .i64 c2, .int .i64 c3, .slice a1 n1 a3, .slice a2 n2 a4] := by rw [hW]; exact (BoxC.made w #[.int .i64 c0, .int .i64 c1, .int .i64 c2, .int .i64 c3, .slice a1 n1 a3, .slice a2 n2 a4] 32)
  go_enter Tryz.func15, Tryz.ntmps15
  go_wp2_with fail
  rw [← hW]
  clear hW
  refine (heldTermS_any a1 n1 a3 k0 _ hR.t hn1 hk0 (by omega)).mono ?_
  rintro e w1 ⟨rfl, hb⟩
  have a5x := (hA.below hb).cell 5 _ rfl
  have hI1 := SR.below hR.i hb
  have HW := Lib.hid (hb0.trans (hb.mono hb0.size))
  have hnn : ¬ (k0 : Int) + 2 * (n1 : Int) < 0 := by omega
  clear hR hA hb0 hb
  go_wp2_with fail
  have hmk := heldItemS_any a2 n2 a4 (k0 + 2 * n1) w1 hI1 hn2 (by omega) (by omega)
  rw [show ((k0 + 2 * n1 : Nat) : Int) = (k0 : Int) + 2 * (n1 : Int) by omega] at hmk
  refine hmk.mono ?_
  rintro e w2 ⟨rfl, hb⟩
  have HW2 := Lib.hid (HW.out.trans (hb.mono HW.out.size))
  have hnn2 : ¬ (k0 : Int) + 2 * (n1 : Int) + 3 * (n2 : Int) < 0 := by omega
  clear hI1 hmk hb a5x
  go_wp2_with fail
  go_ret
  exact ⟨rfl, HW2.out⟩
end Go.Proofs.YtidcpdfhnhfelaaGreatDoor

/- What is right in a book and in a deed; what the model's functions on them answer. -/
namespace Go.Proofs.YtidcpdfhnhfelaaGreatDoor
open Go.RowKit Go.PlainAid G
set_option linter.unusedVariables false
/-- The bytes a to z alone, up to a place. -/
def azTo (t : ByteArray) (k : Nat) : Bool := (List.range k).all fun i => decide (97 ≤ bt t i ∧ bt t i ≤ 122)
theorem azTo_zero (t : ByteArray) : azTo t 0 = true := rfl
theorem azTo_succ {t : ByteArray} {k : Nat} (h : azTo t k = true) (h1 : 97 ≤ bt t k) (h2 : bt t k ≤ 122) : azTo t (k + 1) = true := by
  unfold azTo at h ⊢
  rw [List.range_succ, List.all_append, h]
  simp [h1, h2]
theorem azTo_no {t : ByteArray} {k n : Nat} (hk : k < n) (h : ¬ (97 ≤ bt t k ∧ bt t k ≤ 122)) : azTo t n = false := by
  unfold azTo
  rw [List.all_eq_false]
  exact ⟨k, List.mem_range.2 hk, by simp only [decide_eq_true_eq]; exact h⟩
def wordB (t : ByteArray) : Bool := decide (1 ≤ t.size ∧ t.size ≤ 8) && azTo t t.size
theorem wordB_no {t : ByteArray} {k : Nat} (hk : k < t.size) (h : ¬ (97 ≤ bt t k ∧ bt t k ≤ 122)) : wordB t = false := by unfold wordB; rw [azTo_no hk h, Bool.and_false]
theorem wordB_size {t : ByteArray} (h : wordB t = true) : 1 ≤ t.size ∧ t.size ≤ 8 := by unfold wordB at h; rw [Bool.and_eq_true, decide_eq_true_eq] at h; exact h.1
theorem wordB_at {t : ByteArray} (h : azTo t t.size = true) : wordB t = decide (1 ≤ t.size ∧ t.size ≤ 8) := by unfold wordB; rw [h, Bool.and_true]
def nums3B (g n m : Int) : Bool := decide (1 ≤ g ∧ g ≤ 999) && decide (1 ≤ n ∧ n ≤ 10) && decide (n ≤ m ∧ m ≤ 20)
def confB (g n m c : Int) : Bool := nums3B g n m && decide (0 ≤ c ∧ c ≤ 4294967295)
def termB (no : Int) (lk : ByteArray) : Bool := decide (1 ≤ no ∧ no ≤ 5) && secR lk
def itemB (nm : ByteArray) (tm : Int) (bd : ByteArray) : Bool := wordB nm && decide (1 ≤ tm ∧ tm ≤ 5) && decide (1 ≤ bd.size ∧ bd.size ≤ 20)
theorem confB_iff {g n m c : Int} : confB g n m c = true ↔ (1 ≤ g ∧ g ≤ 999) ∧ (1 ≤ n ∧ n ≤ 10) ∧ (n ≤ m ∧ m ≤ 20) ∧ (0 ≤ c ∧ c ≤ 4294967295) := by
  unfold confB nums3B
  simp only [Bool.and_eq_true, decide_eq_true_eq, and_assoc]
theorem termB_iff {no : Int} {lk : ByteArray} : termB no lk = true ↔ (1 ≤ no ∧ no ≤ 5) ∧ (1 ≤ lk.size ∧ lk.size ≤ 16) := by
  unfold termB
  rw [Bool.and_eq_true, decide_eq_true_eq, secR_iff]
theorem itemB_iff {nm : ByteArray} {tm : Int} {bd : ByteArray} : itemB nm tm bd = true ↔ wordB nm = true ∧ (1 ≤ tm ∧ tm ≤ 5) ∧ (1 ≤ bd.size ∧ bd.size ≤ 20) := by
  unfold itemB
  simp only [Bool.and_eq_true, decide_eq_true_eq, and_assoc]
/-- A text ahead of another. -/
def ltS (a b : ByteArray) : Bool := Op.bytesLess a.toList b.toList
theorem specWord_any (t : ByteArray) (w : World) (ht : t.size ≤ maxLen) :
    Calls Tryz.prog 106 #[.string t] w fun e w' => e = .returned (.bool (wordB t)) ∧ w = w' := by
  unfold maxLen at ht
  go_enter Tryz.func106, Tryz.ntmps106
  go_wp2_with fail
  go_loop [3] (fun i => ∃ k : Nat, k ≤ t.size ∧ i = .int .i64 k ∧ Hid (azTo t k = true)) (fun i => t.size - (intOf i).toNat)
  case atStart => exact ⟨0, Nat.zero_le _, rfl, Lib.hid (azTo_zero t)⟩
  case round =>
    obtain ⟨k, hk, rfl, HA⟩ := hrel
    by_cases hlt : k < t.size
    · have hb : ((t[k]'hlt).toNat : Int) = bt t k := by unfold bt; rw [dif_pos hlt]
      have HB := Lib.hid hb
      have hin : (k : Int) < (t.size : Int) := by omega
      by_cases h1 : 97 ≤ bt t k
      · by_cases h2 : bt t k ≤ 122
        · have HS := Lib.hid (azTo_succ HA.out h1 h2)
          have g1 : ¬ ((t[k]'hlt).toNat : Int) < 97 := by rw [hb]; omega
          have g2 : ¬ (122 : Int) < ((t[k]'hlt).toNat : Int) := by rw [hb]; omega
          clear hb h1 h2
          go_wp2_with fail
          go_round
          case rel => exact ⟨k + 1, by omega, by go_num, HS⟩
          case measure => simp [intOf]; omega
        · have HF := Lib.hid (wordB_no hlt (fun h => h2 h.2)).symm
          have g1 : ¬ ((t[k]'hlt).toNat : Int) < 97 := by rw [hb]; omega
          have g2 : (122 : Int) < ((t[k]'hlt).toNat : Int) := by rw [hb]; omega
          clear hb h1 h2
          go_wp2_with fail
          go_ret
          exact ⟨ret_bool HF.out, rfl⟩
      · have HF := Lib.hid (wordB_no hlt (fun h => h1 h.1)).symm
        have g1 : ((t[k]'hlt).toNat : Int) < 97 := by rw [hb]; omega
        clear hb h1
        go_wp2_with fail
        go_ret
        exact ⟨ret_bool HF.out, rfl⟩
    · obtain rfl : k = t.size := by omega
      have HW := Lib.hid (wordB_at HA.out)
      by_cases h1 : 1 ≤ t.size
      · by_cases h2 : t.size ≤ 8
        · have HF : Hid (true = wordB t) := Lib.hid (by rw [HW.out]; exact (decide_eq_true ⟨h1, h2⟩).symm)
          go_wp2_with fail
          go_ret
          exact ⟨ret_bool (by rw [← HF.out]; simp; omega), rfl⟩
        · have HF : Hid (false = wordB t) := Lib.hid (by rw [HW.out]; exact (decide_eq_false (by omega)).symm)
          go_wp2_with fail
          go_ret
          exact ⟨ret_bool (by rw [← HF.out]; simp; omega), rfl⟩
      · have HF : Hid (false = wordB t) := Lib.hid (by rw [HW.out]; exact (decide_eq_false (by omega)).symm)
        go_wp2_with fail
        go_ret
        exact ⟨ret_bool (by rw [← HF.out]; try (simp; omega)), rfl⟩
set_option maxRecDepth 100000 in
theorem l05NumsOk_any (g n m : Int) (w : World)  :
    Calls Tryz.prog 88 #[.int .i64 g, .int .i64 n, .int .i64 m] w fun e w' => e = .returned (.bool (nums3B g n m)) ∧ w = w' := by
  cases hg : decide (1 ≤ g ∧ g ≤ 999)
  · skip
    have HF : Hid (false = nums3B g n m) := Lib.hid (by unfold nums3B; simp only [hg, Bool.false_and, Bool.and_false, Bool.true_and, Bool.and_true, Bool.and_self])
    go_enter Tryz.func88, Tryz.ntmps88
    go_wp2_with ((go_at_call 43; refine (l02IsOk_any _ _ _ _).mono ?_; rintro e w1 ⟨rfl, rfl⟩; first | rw [hg] | rw [hn] | rw [hm]))
    go_ret
    exact ⟨ret_bool (by first | exact HF.out | (rw [← HF.out]; simp_all)), rfl⟩
  · skip
    cases hn : decide (1 ≤ n ∧ n ≤ 10)
    · skip
      have HF : Hid (false = nums3B g n m) := Lib.hid (by unfold nums3B; simp only [hg, hn, Bool.false_and, Bool.and_false, Bool.true_and, Bool.and_true, Bool.and_self])
      go_enter Tryz.func88, Tryz.ntmps88
      go_wp2_with ((go_at_call 43; refine (l02IsOk_any _ _ _ _).mono ?_; rintro e w1 ⟨rfl, rfl⟩; first | rw [hg] | rw [hn] | rw [hm]))
      go_ret
      exact ⟨ret_bool (by first | exact HF.out | (rw [← HF.out]; simp_all)), rfl⟩
    · skip
      cases hm : decide (n ≤ m ∧ m ≤ 20)
      · skip
        have HF : Hid (false = nums3B g n m) := Lib.hid (by unfold nums3B; simp only [hg, hn, hm, Bool.false_and, Bool.and_false, Bool.true_and, Bool.and_true, Bool.and_self])
        go_enter Tryz.func88, Tryz.ntmps88
        go_wp2_with ((go_at_call 43; refine (l02IsOk_any _ _ _ _).mono ?_; rintro e w1 ⟨rfl, rfl⟩; first | rw [hg] | rw [hn] | rw [hm]))
        go_ret
        exact ⟨ret_bool (by first | exact HF.out | (rw [← HF.out]; simp_all)), rfl⟩
      · skip
        have HF : Hid (true = nums3B g n m) := Lib.hid (by unfold nums3B; simp only [hg, hn, hm, Bool.false_and, Bool.and_false, Bool.true_and, Bool.and_true, Bool.and_self])
        go_enter Tryz.func88, Tryz.ntmps88
        go_wp2_with ((go_at_call 43; refine (l02IsOk_any _ _ _ _).mono ?_; rintro e w1 ⟨rfl, rfl⟩; first | rw [hg] | rw [hn] | rw [hm]))
        go_ret
        exact ⟨ret_bool (by first | exact HF.out | (rw [← HF.out]; simp_all)), rfl⟩
set_option maxRecDepth 100000 in
theorem l07Conf_any (g n m c : Int) (w : World)  :
    Calls Tryz.prog 103 #[.agg #[.int .i64 g, .int .i64 n, .int .i64 m, .int .i64 c]] w fun e w' => e = .returned (.bool (confB g n m c)) ∧ Below w.heap.size w w' := by
  have HB : Hid (Below w.heap.size w (w.alloc (.cells #[.int .i64 g, .int .i64 n, .int .i64 m, .int .i64 c] 28))) := Lib.hid ((Below.refl _ _).alloc (Nat.le_refl _) _)
  cases hn : nums3B g n m
  · skip
    have HF : Hid (false = confB g n m c) := Lib.hid (by unfold confB; simp only [hn, Bool.false_and, Bool.and_false, Bool.true_and, Bool.and_true, Bool.and_self])
    go_enter Tryz.func103, Tryz.ntmps103
    go_wp2_with (first | (go_at_call 88; refine (l05NumsOk_any _ _ _ _).mono ?_; rintro e w1 ⟨rfl, rfl⟩; rw [hn]) | (go_at_call 43; refine (l02IsOk_any _ _ _ _).mono ?_; rintro e w1 ⟨rfl, rfl⟩; first | rw [hc]))
    go_ret
    exact ⟨ret_bool (by first | exact HF.out | (rw [← HF.out]; simp_all)), HB.out⟩
  · skip
    cases hc : decide (0 ≤ c ∧ c ≤ 4294967295)
    · skip
      have HF : Hid (false = confB g n m c) := Lib.hid (by unfold confB; simp only [hn, hc, Bool.false_and, Bool.and_false, Bool.true_and, Bool.and_true, Bool.and_self])
      go_enter Tryz.func103, Tryz.ntmps103
      go_wp2_with (first | (go_at_call 88; refine (l05NumsOk_any _ _ _ _).mono ?_; rintro e w1 ⟨rfl, rfl⟩; rw [hn]) | (go_at_call 43; refine (l02IsOk_any _ _ _ _).mono ?_; rintro e w1 ⟨rfl, rfl⟩; first | rw [hc]))
      go_ret
      exact ⟨ret_bool (by first | exact HF.out | (rw [← HF.out]; simp_all)), HB.out⟩
    · skip
      have HF : Hid (true = confB g n m c) := Lib.hid (by unfold confB; simp only [hn, hc, Bool.false_and, Bool.and_false, Bool.true_and, Bool.and_true, Bool.and_self])
      go_enter Tryz.func103, Tryz.ntmps103
      go_wp2_with (first | (go_at_call 88; refine (l05NumsOk_any _ _ _ _).mono ?_; rintro e w1 ⟨rfl, rfl⟩; rw [hn]) | (go_at_call 43; refine (l02IsOk_any _ _ _ _).mono ?_; rintro e w1 ⟨rfl, rfl⟩; first | rw [hc]))
      go_ret
      exact ⟨ret_bool (by first | exact HF.out | (rw [← HF.out]; simp_all)), HB.out⟩
set_option maxRecDepth 100000 in
theorem l07Term_any (no : Int) (lk : ByteArray) (w : World) (ht : lk.size ≤ maxLen) :
    Calls Tryz.prog 104 #[.agg #[.int .i64 no, .string lk]] w fun e w' => e = .returned (.bool (termB no lk)) ∧ Below w.heap.size w w' := by
  have HT := Lib.hid ht
  clear ht
  have HB : Hid (Below w.heap.size w (w.alloc (.cells #[.int .i64 no, .string lk] 106))) := Lib.hid ((Below.refl _ _).alloc (Nat.le_refl _) _)
  cases hn : decide (1 ≤ no ∧ no ≤ 5)
  · skip
    have HF : Hid (false = termB no lk) := Lib.hid (by unfold termB; simp only [hn, Bool.false_and, Bool.and_false, Bool.true_and, Bool.and_true, Bool.and_self])
    go_enter Tryz.func104, Tryz.ntmps104
    go_wp2_with (first | (go_at_call 84; refine (l04SecretOk_any _ _ HT.out).mono ?_; rintro e w1 ⟨rfl, rfl⟩; rw [hs]) | (go_at_call 43; refine (l02IsOk_any _ _ _ _).mono ?_; rintro e w1 ⟨rfl, rfl⟩; first | rw [hn]))
    go_ret
    exact ⟨ret_bool (by first | exact HF.out | (rw [← HF.out]; simp_all)), HB.out⟩
  · skip
    cases hs : secR lk
    · skip
      have HF : Hid (false = termB no lk) := Lib.hid (by unfold termB; simp only [hn, hs, Bool.false_and, Bool.and_false, Bool.true_and, Bool.and_true, Bool.and_self])
      go_enter Tryz.func104, Tryz.ntmps104
      go_wp2_with (first | (go_at_call 84; refine (l04SecretOk_any _ _ HT.out).mono ?_; rintro e w1 ⟨rfl, rfl⟩; rw [hs]) | (go_at_call 43; refine (l02IsOk_any _ _ _ _).mono ?_; rintro e w1 ⟨rfl, rfl⟩; first | rw [hn]))
      go_ret
      exact ⟨ret_bool (by first | exact HF.out | (rw [← HF.out]; simp_all)), HB.out⟩
    · skip
      have HF : Hid (true = termB no lk) := Lib.hid (by unfold termB; simp only [hn, hs, Bool.false_and, Bool.and_false, Bool.true_and, Bool.and_true, Bool.and_self])
      go_enter Tryz.func104, Tryz.ntmps104
      go_wp2_with (first | (go_at_call 84; refine (l04SecretOk_any _ _ HT.out).mono ?_; rintro e w1 ⟨rfl, rfl⟩; rw [hs]) | (go_at_call 43; refine (l02IsOk_any _ _ _ _).mono ?_; rintro e w1 ⟨rfl, rfl⟩; first | rw [hn]))
      go_ret
      exact ⟨ret_bool (by first | exact HF.out | (rw [← HF.out]; simp_all)), HB.out⟩
set_option maxRecDepth 100000 in
theorem l07Item_any (nm : ByteArray) (tm : Int) (bd : ByteArray) (w : World) (hn : nm.size ≤ maxLen) (hb : bd.size ≤ maxLen) :
    Calls Tryz.prog 105 #[.agg #[.string nm, .int .i64 tm, .string bd]] w fun e w' => e = .returned (.bool (itemB nm tm bd)) ∧ Below w.heap.size w w' := by
  have HB : Hid (Below w.heap.size w (w.alloc (.cells #[.string nm, .int .i64 tm, .string bd] 108))) := Lib.hid ((Below.refl _ _).alloc (Nat.le_refl _) _)
  have HT := Lib.hid hn
  unfold maxLen at hb
  clear hn
  cases hw : wordB nm
  · have HF : Hid (false = itemB nm tm bd) := Lib.hid (by unfold itemB; rw [hw]; rfl)
    go_enter Tryz.func105, Tryz.ntmps105
    go_wp2_with (first | (go_at_call 106; refine (specWord_any _ _ HT.out).mono ?_; rintro e w1 ⟨rfl, rfl⟩; rw [hw]))
    go_ret
    exact ⟨ret_bool HF.out, HB.out⟩
  · cases ht : decide (1 ≤ tm ∧ tm ≤ 5)
    · have HF : Hid (false = itemB nm tm bd) := Lib.hid (by unfold itemB; rw [ht, Bool.and_false]; rfl)
      go_enter Tryz.func105, Tryz.ntmps105
      go_wp2_with (first | (go_at_call 106; refine (specWord_any _ _ HT.out).mono ?_; rintro e w1 ⟨rfl, rfl⟩; rw [hw]) | (go_at_call 43; refine (l02IsOk_any _ _ _ _).mono ?_; rintro e w1 ⟨rfl, rfl⟩; rw [ht]))
      go_ret
      exact ⟨ret_bool HF.out, HB.out⟩
    · have HF : Hid (decide (1 ≤ bd.size ∧ bd.size ≤ 20) = itemB nm tm bd) := Lib.hid (by unfold itemB; rw [hw, ht]; rfl)
      by_cases h1 : 1 ≤ bd.size
      · by_cases h2 : bd.size ≤ 20
        · go_enter Tryz.func105, Tryz.ntmps105
          go_wp2_with (first | (go_at_call 106; refine (specWord_any _ _ HT.out).mono ?_; rintro e w1 ⟨rfl, rfl⟩; rw [hw]) | (go_at_call 43; refine (l02IsOk_any _ _ _ _).mono ?_; rintro e w1 ⟨rfl, rfl⟩; rw [ht]))
          go_ret
          exact ⟨ret_bool (by rw [← HF.out]; simp [h1, h2]; omega), HB.out⟩
        · go_enter Tryz.func105, Tryz.ntmps105
          go_wp2_with (first | (go_at_call 106; refine (specWord_any _ _ HT.out).mono ?_; rintro e w1 ⟨rfl, rfl⟩; rw [hw]) | (go_at_call 43; refine (l02IsOk_any _ _ _ _).mono ?_; rintro e w1 ⟨rfl, rfl⟩; rw [ht]))
          go_ret
          exact ⟨ret_bool (by rw [← HF.out]; simp [h1, h2]; omega), HB.out⟩
      · go_enter Tryz.func105, Tryz.ntmps105
        go_wp2_with (first | (go_at_call 106; refine (specWord_any _ _ HT.out).mono ?_; rintro e w1 ⟨rfl, rfl⟩; rw [hw]) | (go_at_call 43; refine (l02IsOk_any _ _ _ _).mono ?_; rintro e w1 ⟨rfl, rfl⟩; rw [ht]))
        go_ret
        exact ⟨ret_bool (by rw [← HF.out]; simp [h1]), HB.out⟩
end Go.Proofs.YtidcpdfhnhfelaaGreatDoor

