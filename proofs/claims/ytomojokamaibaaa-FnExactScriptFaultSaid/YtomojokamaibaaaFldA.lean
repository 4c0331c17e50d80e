/- The field's arrays are filled: twice, fill. -/
import Derived.Test.YtomojokamaibaaaOnce
import Derived.Test.YtomojokamaibaaaMAlg
namespace Go.Proofs.Ytomojokamaibaaa
open Go.RowKit Go.PlainAid G IRow MGF
set_option linter.unusedVariables false
theorem xor16_nat (a b : Nat) (ha : a < 65536) (hb : b < 65536) : bits .xor .u16 (a : Int) (b : Int) = ((a ^^^ b : Nat) : Int) := by
  have h2 : a ^^^ b < 2 ^ 16 := Nat.xor_lt_two_pow (by omega) (by omega)
  have ha' : a % 2 ^ IntKind.u16.bits = a := Nat.mod_eq_of_lt (Nat.lt_of_lt_of_le ha (by decide))
  have hb' : b % 2 ^ IntKind.u16.bits = b := Nat.mod_eq_of_lt (Nat.lt_of_lt_of_le hb (by decide))
  simp only [bits, BitVec.ofInt_natCast, BitVec.toNat_xor, BitVec.toNat_ofNat, ha', hb']
  rw [IntKind.wrap_u16]
  omega
theorem xor8_nat (a b : Nat) (ha : a < 256) (hb : b < 256) : bits .xor .u8 (a : Int) (b : Int) = ((a ^^^ b : Nat) : Int) := by
  have h2 : a ^^^ b < 2 ^ 8 := Nat.xor_lt_two_pow (by omega) (by omega)
  have ha' : a % 2 ^ IntKind.u8.bits = a := Nat.mod_eq_of_lt (Nat.lt_of_lt_of_le ha (by decide))
  have hb' : b % 2 ^ IntKind.u8.bits = b := Nat.mod_eq_of_lt (Nat.lt_of_lt_of_le hb (by decide))
  simp only [bits, BitVec.ofInt_natCast, BitVec.toNat_xor, BitVec.toNat_ofNat, ha', hb']
  rw [IntKind.wrap_u8]
  omega
/-- A byte three times: the next power. -/
theorem ex_next {k : Nat} (h : k < 255) : ex k ^^^ xt (ex k) = ex ((k + 1) % 255) := by
  have h1 := allB_of (fun k => Nat.beq k 255 || Nat.beq (ex k ^^^ xt (ex k)) (ex ((k + 1) % 255))) 8 0 (by kernel_rfl) k (by omega)
  rw [Nat.zero_add] at h1
  simp only [Bool.or_eq_true, Nat.beq_eq] at h1
  omega
/-- The block of a field: 514 cells, told by a function; none is frozen. -/
def Blk (w : World) (b : Nat) (C : Nat → Value) : Prop := b < w.heap.size ∧ ∀ i, i < 514 → w.cell? ⟨b, i, none⟩ = some (C i) ∧ w.frozen? ⟨b, i, none⟩ = false
def upd (C : Nat → Value) (i : Nat) (v : Value) : Nat → Value := fun j => if j = i then v else C j
theorem Blk.set {w : World} {b : Nat} {C : Nat → Value} (h : Blk w b C) {i : Nat} (hi : i < 514) (v : Value) : Blk (w.setCell ⟨b, i, none⟩ v) b (upd C i v) := by
  refine ⟨by simpa using h.1, fun j hj => ⟨?_, by rw [World.frozen?_setCell]; exact (h.2 j hj).2⟩⟩
  by_cases e : j = i
  · subst e
    rw [World.cell?_setCell_same _ _ _ (h.2 j hj).1]
    simp [upd]
  · rw [World.cell?_setCell_other _ _ _ _ (fun h2 => e (by injection h2 with _ h3 _; exact h3.symm)), (h.2 j hj).1]
    simp [upd, e]
theorem Blk.drew {w : World} {b : Nat} {C : Nat → Value} (h : Blk w b C) : Blk w.drew b C := h
theorem Blk.grown {w w' : World} {b : Nat} {C : Nat → Value} (h : Blk w b C) {row : Option Nat} (hg : w.grownBy w' row) (hne : some b ≠ row) : Blk w' b C :=
  ⟨Nat.lt_of_lt_of_le h.1 hg.size, fun j hj => ⟨hg.cell (h.2 j hj).1 hne, (World.frozen?_of_block (w := w) (hg.block b h.1 hne)).trans (h.2 j hj).2⟩⟩
theorem Blk.below {w w' : World} {b : Nat} {C : Nat → Value} (h : Blk w b C) (hb : Below w.heap.size w w') : Blk w' b C :=
  ⟨Nat.lt_of_lt_of_le h.1 hb.size, fun j hj => ⟨(hb.cell (p := ⟨b, j, none⟩) h.1).trans (h.2 j hj).1, (hb.frozen (p := ⟨b, j, none⟩) h.1).trans (h.2 j hj).2⟩⟩
theorem Blk.eq {w : World} {b : Nat} {C D : Nat → Value} (h : Blk w b C) (e : ∀ i, i < 514 → C i = D i) : Blk w b D := ⟨h.1, fun i hi => by rw [← e i hi]; exact h.2 i hi⟩
theorem grown_set (w : World) (b i : Nat) (v : Value) : w.grownBy (w.setCell ⟨b, i, none⟩ v) (some b) :=
  ⟨rfl, rfl, rfl, by simp, fun k hk hne => by unfold World.setCell; simp only [Array.getElem?_modify]; rw [if_neg (fun e => hne (by rw [e]))]⟩
/-- What the arrays hold behind k rounds. -/
def FK (C : Nat → Value) (k : Nat) : Nat → Value := fun i =>
  if i < 3 then C i else if i < 258 then .int .u8 (if i - 3 < k then (ex (i - 3) : Int) else 0) else .int .u8 (if i ≠ 258 ∧ lg (i - 258) < k then (lg (i - 258) : Int) else 0)
theorem FK_next (C : Nat → Value) {k : Nat} (hk : k < 255) : ∀ i, i < 514 → upd (upd (FK C k) (3 + k) (.int .u8 (ex k))) (258 + ex k) (.int .u8 (k : Int)) i = FK C (k + 1) i := by
  intro i hi
  have hx := ex_fact hk
  by_cases h3 : i < 3
  · unfold upd FK
    rw [if_neg (by omega), if_neg (by omega), if_pos h3, if_pos h3]
  · by_cases h4 : i < 258
    · unfold upd FK
      rw [if_neg (by omega)]
      by_cases h5 : i = 3 + k
      · rw [if_pos h5, if_neg h3, if_pos h4, if_pos (by omega), h5, Nat.add_sub_cancel_left]
      · rw [if_neg h5, if_neg h3, if_pos h4, if_neg h3, if_pos h4]
        by_cases h6 : i - 3 < k
        · rw [if_pos h6, if_pos (by omega)]
        · rw [if_neg h6, if_neg (by omega)]
    · unfold upd FK
      by_cases h5 : i = 258 + ex k
      · have e : i - 258 = ex k := by omega
        rw [if_pos h5, if_neg h3, if_neg h4, e, hx.2.2, if_pos ⟨by omega, by omega⟩]
      · rw [if_neg h5, if_neg (by omega), if_neg h3, if_neg h4, if_neg h3, if_neg h4]
        by_cases h6 : i = 258
        · rw [if_neg (fun h => h.1 h6), if_neg (fun h => h.1 h6)]
        · have hl := lg_fact (show i - 258 < 256 by omega) (by omega)
          by_cases h7 : lg (i - 258) < k
          · rw [if_pos ⟨h6, h7⟩, if_pos ⟨h6, by omega⟩]
          · rw [if_neg (fun h => h7 h.2), if_neg (fun h => by
              have h8 : lg (i - 258) = k := by omega
              have h9 := hl.2
              rw [h8] at h9
              omega)]
theorem FK_zero {C : Nat → Value} (h : ∀ i, 3 ≤ i → i < 514 → C i = .int .u8 0) : ∀ i, i < 514 → C i = FK C 0 i := by
  intro i hi
  unfold FK
  by_cases h3 : i < 3
  · rw [if_pos h3]
  · rw [if_neg h3, h i (by omega) hi]
    by_cases h4 : i < 258
    · rw [if_pos h4, if_neg (by omega)]
    · rw [if_neg h4, if_neg (fun h => by omega)]
end Go.Proofs.Ytomojokamaibaaa
/- The field's arrays are filled: the walk of fill. -/
namespace Go.Proofs.Ytomojokamaibaaa
open Go.RowKit Go.PlainAid G IRow MGF
set_option linter.unusedVariables false
end Go.Proofs.Ytomojokamaibaaa
/- The field's arrays are made once: sync.Once over fill. -/
namespace Go.Proofs.Ytomojokamaibaaa
open Go.RowKit Go.PlainAid G IRow MGF
set_option linter.unusedVariables false
/-- The first three cells: is it done; the lock's state; its queue. -/
def hdC (d l : Int) : Nat → Value := fun i => if i = 0 then .int .u32 d else if i = 1 then .int .i32 l else .int .u32 0
theorem FK_upd0 (d l d' : Int) (k : Nat) : ∀ i, i < 514 → upd (FK (hdC d l) k) 0 (.int .u32 d') i = FK (hdC d' l) k i := by
  intro i _
  unfold upd FK hdC
  by_cases h : i = 0
  · subst h; simp
  · rw [if_neg h, if_neg h, if_neg h]
theorem FK_upd1 (d l l' : Int) (k : Nat) : ∀ i, i < 514 → upd (FK (hdC d l) k) 1 (.int .i32 l') i = FK (hdC d l') k i := by
  intro i _
  unfold upd FK hdC
  by_cases h : i = 1
  · subst h; simp
  · rw [if_neg h, if_neg h, if_neg h]
theorem FK_0 (d l : Int) (k : Nat) : FK (hdC d l) k 0 = .int .u32 d := rfl
theorem FK_1 (d l : Int) (k : Nat) : FK (hdC d l) k 1 = .int .i32 l := rfl
theorem grown_drew {w w' : World} {row : Option Nat} (h : w.grownBy w' row) : w.grownBy w'.drew row := ⟨h.os, h.tape, h.output, h.size, h.block⟩
end Go.Proofs.Ytomojokamaibaaa
/- A field, made or not: what its methods answer. -/
namespace Go.Proofs.Ytomojokamaibaaa
open Go.RowKit Go.PlainAid G IRow MGF
set_option linter.unusedVariables false
/-- A field in its block: not made yet, or made. -/
def Fld (w : World) (b : Nat) : Prop := Blk w b (FK (hdC 0 0) 0) ∨ Blk w b (FK (hdC 1 0) 255)
theorem Fld.grown {w w' : World} {b : Nat} (h : Fld w b) {row : Option Nat} (hg : w.grownBy w' row) (hne : some b ≠ row) : Fld w' b := h.imp (·.grown hg hne) (·.grown hg hne)
theorem Fld.below {w w' : World} {b : Nat} (h : Fld w b) (hb : Below w.heap.size w w') : Fld w' b := h.imp (·.below hb) (·.below hb)
theorem Fld.lt {w : World} {b : Nat} (h : Fld w b) : b < w.heap.size := h.elim (·.1) (·.1)
theorem FK_pow {d l : Int} {i : Nat} (h : i < 255) : FK (hdC d l) 255 (3 + i) = .int .u8 (ex i : Int) := by
  unfold FK
  rw [if_neg (by omega), if_pos (by omega), Nat.add_sub_cancel_left, if_pos h]
theorem FK_log {d l : Int} {a : Nat} (h : a < 256) (h0 : a ≠ 0) : FK (hdC d l) 255 (258 + a) = .int .u8 (lg a : Int) := by
  unfold FK
  rw [if_neg (by omega), if_neg (by omega), Nat.add_sub_cancel_left, if_pos ⟨by omega, (lg_fact h h0).1⟩]
end Go.Proofs.Ytomojokamaibaaa
/- A field's products, powers and inverses. -/
namespace Go.Proofs.Ytomojokamaibaaa
open Go.RowKit Go.PlainAid G IRow MGF
set_option linter.unusedVariables false
theorem b_eq0 {x : B} (h : x ≠ 0) : (bi x == 0) = false := by
  rw [beq_eq_false_iff_ne]
  exact fun h2 => h (bi_inj (h2.trans bi_zero.symm))
theorem bi_E (i : Nat) : bi (E i) = (ex (i % 255) : Int) := by unfold bi; rw [E_toNat]
theorem bi_L (x : B) : (lg x.toNat : Int) = (L x : Int) := rfl
end Go.Proofs.Ytomojokamaibaaa
