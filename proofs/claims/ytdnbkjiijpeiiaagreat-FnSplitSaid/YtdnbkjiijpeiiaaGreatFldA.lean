/- The field's arrays are filled: twice, fill. -/
import Derived.Test.YtdnbkjiijpeiiaaGreatOnce
import Derived.Test.YtdnbkjiijpeiiaaGreatMAlg
namespace Go.Proofs.YtdnbkjiijpeiiaaGreat
open Go.RowKit Go.PlainAid G IRow MGF
set_option linter.unusedVariables false
theorem xor16_nat (a b : Nat) (ha : a < 65536) (hb : b < 65536) : bits .xor .u16 (a : Int) (b : Int) = ((a ^^^ b : Nat) : Int) := by
  have h2 : a ^^^ b < 2 ^ 16 := Nat.xor_lt_two_pow (by omega) (by omega)
  have ha' : a % 2 ^ IntKind.u16.bits = a := Nat.mod_eq_of_lt (Nat.lt_of_lt_of_le ha (by decide))
  have hb' : b % 2 ^ IntKind.u16.bits = b := Nat.mod_eq_of_lt (Nat.lt_of_lt_of_le hb (by decide))
  simp only [bits, BitVec.ofInt_natCast, BitVec.toNat_xor, BitVec.toNat_ofNat, ha', hb']
  rw [IntKind.wrap_u16]
  omega
theorem xor8_nat (a b : Nat) (ha : a < 256) (hb : b < 256) : bits .xor .u8 (a : Int) (b : Int) = ((a ^^^ b : Nat) : Int) := by
  have h2 : a ^^^ b < 2 ^ 8 := Nat.xor_lt_two_pow (by omega) (by omega)
  have ha' : a % 2 ^ IntKind.u8.bits = a := Nat.mod_eq_of_lt (Nat.lt_of_lt_of_le ha (by decide))
  have hb' : b % 2 ^ IntKind.u8.bits = b := Nat.mod_eq_of_lt (Nat.lt_of_lt_of_le hb (by decide))
  simp only [bits, BitVec.ofInt_natCast, BitVec.toNat_xor, BitVec.toNat_ofNat, ha', hb']
  rw [IntKind.wrap_u8]
  omega
theorem twice_any (b : Nat) (w : World) (hb : b < 256) :
    Calls Tryz.prog 85 #[.int .u8 b] w fun e w' => e = .returned (.int .u8 ((xt b : Nat) : Int)) ∧ w = w' := by
  by_cases h : b < 128
  · have HX := Lib.hid (xt_low h)
    go_enter Tryz.func85, Tryz.ntmps85
    go_wp2_with fail
    go_ret
    exact ⟨ret_int (by rw [HX.out]; omega), rfl⟩
  · have HX := Lib.hid (xt_high (by omega : 128 ≤ b) hb)
    have hx := xor16_nat (2 * b) 283 (by omega) (by omega)
    go_enter Tryz.func85, Tryz.ntmps85
    go_wp2_with fail
    go_ret
    exact ⟨ret_int (by have h2 := xt_lt hb; rw [HX.out] at h2 ⊢; rw [show ((b : Int) * 2) = ((2 * b : Nat) : Int) by omega, show (283 : Int) = ((283 : Nat) : Int) from rfl, hx]; omega), rfl⟩
/-- A byte three times: the next power. -/
theorem ex_next {k : Nat} (h : k < 255) : ex k ^^^ xt (ex k) = ex ((k + 1) % 255) := by
  have h1 := allB_of (fun k => Nat.beq k 255 || Nat.beq (ex k ^^^ xt (ex k)) (ex ((k + 1) % 255))) 8 0 (by kernel_rfl) k (by omega)
  rw [Nat.zero_add] at h1
  simp only [Bool.or_eq_true, Nat.beq_eq] at h1
  omega
/-- The block of a field: 514 cells, told by a function; none is frozen. -/
def Blk (w : World) (b : Nat) (C : Nat → Value) : Prop := b < w.heap.size ∧ ∀ i, i < 514 → w.cell? ⟨b, i, none⟩ = some (C i) ∧ w.frozen? ⟨b, i, none⟩ = false
def upd (C : Nat → Value) (i : Nat) (v : Value) : Nat → Value := fun j => if j = i then v else C j
theorem Blk.set {w : World} {b : Nat} {C : Nat → Value} (h : Blk w b C) {i : Nat} (hi : i < 514) (v : Value) : Blk (w.setCell ⟨b, i, none⟩ v) b (upd C i v) := by
  refine ⟨by simpa using h.1, fun j hj => ⟨?_, by rw [World.frozen?_setCell]; exact (h.2 j hj).2⟩⟩
  by_cases e : j = i
  · subst e
    rw [World.cell?_setCell_same _ _ _ (h.2 j hj).1]
    simp [upd]
  · rw [World.cell?_setCell_other _ _ _ _ (fun h2 => e (by injection h2 with _ h3 _; exact h3.symm)), (h.2 j hj).1]
    simp [upd, e]
theorem Blk.drew {w : World} {b : Nat} {C : Nat → Value} (h : Blk w b C) : Blk w.drew b C := h
theorem Blk.grown {w w' : World} {b : Nat} {C : Nat → Value} (h : Blk w b C) {row : Option Nat} (hg : w.grownBy w' row) (hne : some b ≠ row) : Blk w' b C :=
  ⟨Nat.lt_of_lt_of_le h.1 hg.size, fun j hj => ⟨hg.cell (h.2 j hj).1 hne, (World.frozen?_of_block (w := w) (hg.block b h.1 hne)).trans (h.2 j hj).2⟩⟩
theorem Blk.below {w w' : World} {b : Nat} {C : Nat → Value} (h : Blk w b C) (hb : Below w.heap.size w w') : Blk w' b C :=
  ⟨Nat.lt_of_lt_of_le h.1 hb.size, fun j hj => ⟨(hb.cell (p := ⟨b, j, none⟩) h.1).trans (h.2 j hj).1, (hb.frozen (p := ⟨b, j, none⟩) h.1).trans (h.2 j hj).2⟩⟩
theorem Blk.eq {w : World} {b : Nat} {C D : Nat → Value} (h : Blk w b C) (e : ∀ i, i < 514 → C i = D i) : Blk w b D := ⟨h.1, fun i hi => by rw [← e i hi]; exact h.2 i hi⟩
theorem grown_set (w : World) (b i : Nat) (v : Value) : w.grownBy (w.setCell ⟨b, i, none⟩ v) (some b) :=
  ⟨rfl, rfl, rfl, by simp, fun k hk hne => by unfold World.setCell; simp only [Array.getElem?_modify]; rw [if_neg (fun e => hne (by rw [e]))]⟩
/-- What the arrays hold behind k rounds. -/
def FK (C : Nat → Value) (k : Nat) : Nat → Value := fun i =>
  if i < 3 then C i else if i < 258 then .int .u8 (if i - 3 < k then (ex (i - 3) : Int) else 0) else .int .u8 (if i ≠ 258 ∧ lg (i - 258) < k then (lg (i - 258) : Int) else 0)
theorem FK_next (C : Nat → Value) {k : Nat} (hk : k < 255) : ∀ i, i < 514 → upd (upd (FK C k) (3 + k) (.int .u8 (ex k))) (258 + ex k) (.int .u8 (k : Int)) i = FK C (k + 1) i := by
  intro i hi
  have hx := ex_fact hk
  by_cases h3 : i < 3
  · unfold upd FK
    rw [if_neg (by omega), if_neg (by omega), if_pos h3, if_pos h3]
  · by_cases h4 : i < 258
    · unfold upd FK
      rw [if_neg (by omega)]
      by_cases h5 : i = 3 + k
      · rw [if_pos h5, if_neg h3, if_pos h4, if_pos (by omega), h5, Nat.add_sub_cancel_left]
      · rw [if_neg h5, if_neg h3, if_pos h4, if_neg h3, if_pos h4]
        by_cases h6 : i - 3 < k
        · rw [if_pos h6, if_pos (by omega)]
        · rw [if_neg h6, if_neg (by omega)]
    · unfold upd FK
      by_cases h5 : i = 258 + ex k
      · have e : i - 258 = ex k := by omega
        rw [if_pos h5, if_neg h3, if_neg h4, e, hx.2.2, if_pos ⟨by omega, by omega⟩]
      · rw [if_neg h5, if_neg (by omega), if_neg h3, if_neg h4, if_neg h3, if_neg h4]
        by_cases h6 : i = 258
        · rw [if_neg (fun h => h.1 h6), if_neg (fun h => h.1 h6)]
        · have hl := lg_fact (show i - 258 < 256 by omega) (by omega)
          by_cases h7 : lg (i - 258) < k
          · rw [if_pos ⟨h6, h7⟩, if_pos ⟨h6, by omega⟩]
          · rw [if_neg (fun h => h7 h.2), if_neg (fun h => by
              have h8 : lg (i - 258) = k := by omega
              have h9 := hl.2
              rw [h8] at h9
              omega)]
theorem FK_zero {C : Nat → Value} (h : ∀ i, 3 ≤ i → i < 514 → C i = .int .u8 0) : ∀ i, i < 514 → C i = FK C 0 i := by
  intro i hi
  unfold FK
  by_cases h3 : i < 3
  · rw [if_pos h3]
  · rw [if_neg h3, h i (by omega) hi]
    by_cases h4 : i < 258
    · rw [if_pos h4, if_neg (by omega)]
    · rw [if_neg h4, if_neg (fun h => by omega)]
end Go.Proofs.YtdnbkjiijpeiiaaGreat
/- The field's arrays are filled: the walk of fill. -/
namespace Go.Proofs.YtdnbkjiijpeiiaaGreat
open Go.RowKit Go.PlainAid G IRow MGF
set_option linter.unusedVariables false
set_option maxRecDepth 100000 in
set_option maxHeartbeats 1600000 in
theorem fill_any (b : Nat) (C : Nat → Value) (w : World) (hB : Blk w b (FK C 0)) :
    Calls Tryz.prog 82 #[.pointer (some ⟨b, 0, none⟩)] w fun e w' => e = .returned (.tuple #[]) ∧ Blk w' b (FK C 255) ∧ w.grownBy w' (some b) := by
  have HB := Lib.hid hB
  clear hB
  go_enter Tryz.func82, Tryz.ntmps82
  go_wp2_with fail
  go_loopw [2, 4] (fun p i wr => ∃ k : Nat, k ≤ 255 ∧ i = .int .i64 k ∧ p = .int .u8 (ex (k % 255) : Int) ∧ Blk wr b (FK C k) ∧ w.grownBy wr (some b)) (fun _ i _ => 255 - (intOf i).toNat)
  case atStart => exact ⟨0, by omega, rfl, by rw [show ex (0 % 255) = 1 from by decide]; rfl, HB.out, World.grownBy.refl _ _⟩
  case round =>
    obtain ⟨k, hk, rfl, rfl, hb, hg⟩ := hrel
    have HBk := Lib.hid hb
    have HG := Lib.hid hg
    clear hb hg HB
    by_cases hlt : k < 255
    · have hx := ex_fact hlt
      have HX := Lib.hid (ex_next hlt)
      have HN := Lib.hid (FK_next C hlt)
      rw [Nat.mod_eq_of_lt hlt]
      obtain ⟨q, hq⟩ : ∃ q, q = ex k := ⟨_, rfl⟩
      rw [← hq] at hx
      have HQ := Lib.hid hq
      rw [← hq]
      clear hq
      have HB1 := Lib.hid (HBk.out.set (i := 3 + k) (by omega) (.int .u8 q))
      have HB2 := Lib.hid (HB1.out.set (i := 258 + q) (by omega) (.int .u8 k))
      obtain ⟨hc1, hf1⟩ := HBk.out.2 (3 + k) (by omega)
      obtain ⟨hc2, hf2⟩ := HB1.out.2 (258 + q) (by omega)
      have hxor := xor8_nat q (xt q) (by omega) (xt_lt (by omega))
      go_wp2_with fail
      refine (twice_any q _ (by omega)).mono ?_
      rintro e w1 ⟨rfl, hw1⟩
      subst hw1
      go_wp2_with fail
      go_round
      case rel =>
        refine ⟨k + 1, by omega, by simp, ?_, ?_, (grown_trans HG.out (grown_trans (grown_set _ _ _ _) (grown_set _ _ _ _)))⟩
        · rw [← HX.out, ← HQ.out, ← hxor]
        · refine HB2.out.eq (fun i hi => ?_)
          rw [← HN.out i hi, HQ.out]
      case measure => simp [intOf]; omega
    · obtain rfl : k = 255 := by omega
      go_wp2_with fail
      go_end0
      exact ⟨rfl, HBk.out, HG.out⟩
end Go.Proofs.YtdnbkjiijpeiiaaGreat
/- The field's arrays are made once: sync.Once over fill. -/
namespace Go.Proofs.YtdnbkjiijpeiiaaGreat
open Go.RowKit Go.PlainAid G IRow MGF
set_option linter.unusedVariables false
/-- The first three cells: is it done; the lock's state; its queue. -/
def hdC (d l : Int) : Nat → Value := fun i => if i = 0 then .int .u32 d else if i = 1 then .int .i32 l else .int .u32 0
theorem FK_upd0 (d l d' : Int) (k : Nat) : ∀ i, i < 514 → upd (FK (hdC d l) k) 0 (.int .u32 d') i = FK (hdC d' l) k i := by
  intro i _
  unfold upd FK hdC
  by_cases h : i = 0
  · subst h; simp
  · rw [if_neg h, if_neg h, if_neg h]
theorem FK_upd1 (d l l' : Int) (k : Nat) : ∀ i, i < 514 → upd (FK (hdC d l) k) 1 (.int .i32 l') i = FK (hdC d l') k i := by
  intro i _
  unfold upd FK hdC
  by_cases h : i = 1
  · subst h; simp
  · rw [if_neg h, if_neg h, if_neg h]
theorem FK_0 (d l : Int) (k : Nat) : FK (hdC d l) k 0 = .int .u32 d := rfl
theorem FK_1 (d l : Int) (k : Nat) : FK (hdC d l) k 1 = .int .i32 l := rfl
theorem grown_drew {w w' : World} {row : Option Nat} (h : w.grownBy w' row) : w.grownBy w'.drew row := ⟨h.os, h.tape, h.output, h.size, h.block⟩
/-- Is it done? -/
theorem load_any (a : Addr) (x : Int) (w : World) (hc : w.cell? a = some (.int .u32 x)) :
    Calls Tryz.prog 83 #[.pointer (some a)] w fun e w' => e = .returned (.bool (x != 0)) ∧ w = w' := by
  have hl := run_call_load (P := Tryz.prog) Tryz.func86 (by kernel_rfl) (by kernel_rfl) (by kernel_rfl) .u32 (by kernel_rfl) hc
  go_enter Tryz.func83, Tryz.ntmps83
  go_wp2_with fail
  go_ret
  exact ⟨rfl, rfl⟩
set_option maxRecDepth 100000 in
set_option maxHeartbeats 1600000 in
theorem slow_any (b : Nat) (w : World) (hB : Blk w b (FK (hdC 0 0) 0)) :
    Calls Tryz.prog 84 #[.pointer (some ⟨b, 0, none⟩), .func (.func 82) #[.pointer (some ⟨b, 0, none⟩)] #[]] w fun e w' => e = .returned (.tuple #[]) ∧ Blk w' b (FK (hdC 1 0) 255) ∧ w.grownBy w' (some b) := by
  have HB1 : Hid (Blk (w.setCell ⟨b, 1, none⟩ (.int .i32 1)) b (FK (hdC 0 1) 0)) := Lib.hid ((hB.set (i := 1) (by omega) (.int .i32 1)).eq (FK_upd1 0 0 1 0))
  obtain ⟨hc1, hf1⟩ := hB.2 1 (by omega)
  rw [FK_1] at hc1
  obtain ⟨hc0, hf0⟩ := HB1.out.2 0 (by omega)
  rw [FK_0] at hc0
  have hnot : ∀ (x : Bool) (w : World), (Op.unary .not (.bool x)).run Tryz.prog w = .ok (.bool (!x)) w := fun _ _ => rfl
  have HW := Lib.hid hB
  clear hB
  go_enter_defers Tryz.func84, Tryz.ntmps84
  go_wp2_with (go_at_call 87; refine (lock_free ⟨b, 1, none⟩ _ hc1 hf1).mono ?_; rintro e w' ⟨rfl, rfl⟩)
  refine (load_any ⟨b, 0, none⟩ 0 _ hc0).mono ?_
  rintro e w1 ⟨rfl, rfl⟩
  go_wp2_with fail
  refine (fill_any b (hdC 0 1) _ HB1.out).mono ?_
  rintro e w2 ⟨rfl, hb2, hg2⟩
  have HB2 := Lib.hid hb2
  have HG2 := Lib.hid (grown_trans (grown_set w b 1 _) hg2)
  clear hb2 hg2 hc0 hc1 hf0 hf1 HB1 HW
  obtain ⟨hc0, hf0⟩ := HB2.out.2 0 (by omega)
  rw [FK_0] at hc0
  have HB3 : Hid (Blk (w2.drew.setCell ⟨b, 0, none⟩ (.int .u32 1)) b (FK (hdC 1 1) 255)) := Lib.hid ((HB2.out.drew.set (i := 0) (by omega) (.int .u32 1)).eq (FK_upd0 0 1 1 255))
  obtain ⟨hc1, hf1⟩ := HB3.out.2 1 (by omega)
  rw [FK_1] at hc1
  have HB4 : Hid (Blk ((w2.drew.setCell ⟨b, 0, none⟩ (.int .u32 1)).setCell ⟨b, 1, none⟩ (.int .i32 0)) b (FK (hdC 1 0) 255)) := Lib.hid ((HB3.out.set (i := 1) (by omega) (.int .i32 0)).eq (FK_upd1 1 1 0 255))
  have HG4 : Hid (w.grownBy ((w2.drew.setCell ⟨b, 0, none⟩ (.int .u32 1)).setCell ⟨b, 1, none⟩ (.int .i32 0)) (some b)) := Lib.hid (grown_trans (grown_drew HG2.out) (grown_trans (grown_set _ _ _ _) (grown_set _ _ _ _)))
  go_wp2_with fail
  refine leaves_cons (f := 89) (args := #[.pointer (some ⟨b, 0, none⟩), .bool true]) (by simp) (by simp [go_sem]) ?_
  refine (store_deferred ⟨b, 0, none⟩ _ .returning _ hc0 hf0).mono ?_
  rintro e u' w'' ⟨rfl, rfl, rfl⟩
  refine leaves_cons (f := 88) (args := #[.pointer (some ⟨b, 1, none⟩)]) (by simp [settle]) (by simp [go_sem]) ?_
  refine (unlock_deferred ⟨b, 1, none⟩ _ _ hc1 hf1).mono ?_
  rintro e u' w'' ⟨rfl, rfl, rfl⟩
  have h1 := HB4.out
  have h2 := HG4.out
  simp only [Leaves, settle, results, Tryz.results84]
  simp [h1, h2]
end Go.Proofs.YtdnbkjiijpeiiaaGreat
/- A field, made or not: what its methods answer. -/
namespace Go.Proofs.YtdnbkjiijpeiiaaGreat
open Go.RowKit Go.PlainAid G IRow MGF
set_option linter.unusedVariables false
/-- A field in its block: not made yet, or made. -/
def Fld (w : World) (b : Nat) : Prop := Blk w b (FK (hdC 0 0) 0) ∨ Blk w b (FK (hdC 1 0) 255)
theorem Fld.grown {w w' : World} {b : Nat} (h : Fld w b) {row : Option Nat} (hg : w.grownBy w' row) (hne : some b ≠ row) : Fld w' b := h.imp (·.grown hg hne) (·.grown hg hne)
theorem Fld.below {w w' : World} {b : Nat} (h : Fld w b) (hb : Below w.heap.size w w') : Fld w' b := h.imp (·.below hb) (·.below hb)
theorem Fld.lt {w : World} {b : Nat} (h : Fld w b) : b < w.heap.size := h.elim (·.1) (·.1)
set_option maxRecDepth 100000 in
set_option maxHeartbeats 1600000 in
theorem do_any (b : Nat) (w : World) (h : Fld w b) :
    Calls Tryz.prog 81 #[.pointer (some ⟨b, 0, none⟩), .func (.func 82) #[.pointer (some ⟨b, 0, none⟩)] #[]] w fun e w' => e = .returned (.tuple #[]) ∧ Blk w' b (FK (hdC 1 0) 255) ∧ w.grownBy w' (some b) := by
  have hnot : ∀ (x : Bool) (w : World), (Op.unary .not (.bool x)).run Tryz.prog w = .ok (.bool (!x)) w := fun _ _ => rfl
  rcases h with h | h
  · obtain ⟨hc0, hf0⟩ := h.2 0 (by omega)
    rw [FK_0] at hc0
    have H := Lib.hid h
    clear h
    go_enter Tryz.func81, Tryz.ntmps81
    go_wp2_with fail
    refine (load_any ⟨b, 0, none⟩ 0 _ hc0).mono ?_
    rintro e w1 ⟨rfl, rfl⟩
    go_wp2_with fail
    refine (slow_any b _ H.out).mono ?_
    rintro e w2 ⟨rfl, hb2, hg2⟩
    have HB2 := Lib.hid hb2
    have HG2 := Lib.hid hg2
    clear hb2 hg2
    go_wp2_with fail
    go_end0
    exact ⟨rfl, HB2.out, HG2.out⟩
  · obtain ⟨hc0, hf0⟩ := h.2 0 (by omega)
    rw [FK_0] at hc0
    have H := Lib.hid h
    clear h
    go_enter Tryz.func81, Tryz.ntmps81
    go_wp2_with fail
    refine (load_any ⟨b, 0, none⟩ 1 _ hc0).mono ?_
    rintro e w1 ⟨rfl, rfl⟩
    go_wp2_with fail
    go_end0
    exact ⟨rfl, H.out, World.grownBy.refl _ _⟩
theorem FK_pow {d l : Int} {i : Nat} (h : i < 255) : FK (hdC d l) 255 (3 + i) = .int .u8 (ex i : Int) := by
  unfold FK
  rw [if_neg (by omega), if_pos (by omega), Nat.add_sub_cancel_left, if_pos h]
theorem FK_log {d l : Int} {a : Nat} (h : a < 256) (h0 : a ≠ 0) : FK (hdC d l) 255 (258 + a) = .int .u8 (lg a : Int) := by
  unfold FK
  rw [if_neg (by omega), if_neg (by omega), Nat.add_sub_cancel_left, if_pos ⟨by omega, (lg_fact h h0).1⟩]
set_option maxRecDepth 100000 in
set_option maxHeartbeats 1600000 in
theorem power_any (b n : Nat) (w : World) (h : Fld w b) (hn : n < 9223372036854775808) :
    Calls Tryz.prog 74 #[.pointer (some ⟨b, 0, none⟩), .int .i64 n] w fun e w' => e = .returned (.int .u8 (ex (n % 255) : Int)) ∧ Fld w' b ∧ w.grownBy w' (some b) := by
  have H := Lib.hid h
  clear h
  go_enter Tryz.func74, Tryz.ntmps74
  go_wp2_with fail
  refine (do_any b _ H.out).mono ?_
  rintro e w2 ⟨rfl, hb2, hg2⟩
  obtain ⟨hc, hf⟩ := hb2.2 (3 + n % 255) (by omega)
  rw [FK_pow (by omega)] at hc
  have HB2 := Lib.hid hb2
  have HG2 := Lib.hid hg2
  clear hb2 hg2
  go_wp2_with fail
  go_ret
  exact ⟨rfl, .inr HB2.out, HG2.out⟩
set_option maxRecDepth 100000 in
set_option maxHeartbeats 1600000 in
theorem log_any (b a : Nat) (w : World) (h : Fld w b) (ha : a < 256) (h0 : a ≠ 0) :
    Calls Tryz.prog 75 #[.pointer (some ⟨b, 0, none⟩), .int .u8 a] w fun e w' => e = .returned (.int .i64 (lg a : Int)) ∧ Fld w' b ∧ w.grownBy w' (some b) := by
  have H := Lib.hid h
  clear h
  have hlt := (lg_fact ha h0).1
  go_enter Tryz.func75, Tryz.ntmps75
  go_wp2_with fail
  refine (do_any b _ H.out).mono ?_
  rintro e w2 ⟨rfl, hb2, hg2⟩
  obtain ⟨hc, hf⟩ := hb2.2 (258 + a) (by omega)
  rw [FK_log ha h0] at hc
  have HB2 := Lib.hid hb2
  have HG2 := Lib.hid hg2
  clear hb2 hg2
  go_wp2_with fail
  go_ret
  exact ⟨rfl, .inr HB2.out, HG2.out⟩
end Go.Proofs.YtdnbkjiijpeiiaaGreat
/- A field's products, powers and inverses. -/
namespace Go.Proofs.YtdnbkjiijpeiiaaGreat
open Go.RowKit Go.PlainAid G IRow MGF
set_option linter.unusedVariables false
theorem b_eq0 {x : B} (h : x ≠ 0) : (bi x == 0) = false := by
  rw [beq_eq_false_iff_ne]
  exact fun h2 => h (bi_inj (h2.trans bi_zero.symm))
theorem bi_E (i : Nat) : bi (E i) = (ex (i % 255) : Int) := by unfold bi; rw [E_toNat]
theorem bi_L (x : B) : (lg x.toNat : Int) = (L x : Int) := rfl
set_option maxRecDepth 100000 in
set_option maxHeartbeats 1600000 in
theorem times_any (b : Nat) (x y : B) (w : World) (h : Fld w b) :
    Calls Tryz.prog 61 #[.pointer (some ⟨b, 0, none⟩), .int .u8 (bi x), .int .u8 (bi y)] w fun e w' => e = .returned (.int .u8 (bi (mul x y))) ∧ Fld w' b ∧ w.grownBy w' (some b) := by
  have H := Lib.hid h
  clear h
  by_cases hx : x = 0
  · subst hx
    rw [zero_mul, bi_zero]
    go_enter Tryz.func61, Tryz.ntmps61
    go_wp2_with fail
    go_ret
    exact ⟨rfl, H.out, World.grownBy.refl _ _⟩
  · by_cases hy : y = 0
    · subst hy
      have hx0 := b_eq0 hx
      rw [mul_zero, bi_zero]
      generalize bi x = z at *
      go_enter Tryz.func61, Tryz.ntmps61
      go_wp2_with fail
      go_ret
      exact ⟨rfl, H.out, World.grownBy.refl _ _⟩
    · have hx0 := b_eq0 hx
      have hy0 := b_eq0 hy
      have hlx := L_lt hx
      have hly := L_lt hy
      have HM : Hid ((ex ((L x + L y) % 255) : Int) = bi (mul x y)) := Lib.hid (by rw [mul_E hx hy, bi_E])
      have hcx := log_any b x.toNat (ha := x.isLt) (h0 := toNat_ne hx)
      have hcy := log_any b y.toNat (ha := y.isLt) (h0 := toNat_ne hy)
      rw [bi_L] at hcx hcy
      change ∀ w, Fld w b → Calls _ _ #[_, .int .u8 (bi x)] w _ at hcx
      change ∀ w, Fld w b → Calls _ _ #[_, .int .u8 (bi y)] w _ at hcy
      have HCX := Lib.hid hcx
      have HCY := Lib.hid hcy
      clear hcx hcy
      have hpw' := power_any b (L x + L y)
      rw [HM.out] at hpw'
      have hpw := Lib.hid hpw'
      clear hpw' HM
      generalize bi (mul x y) = m at *
      generalize bi x = zx at *
      generalize bi y = zy at *
      generalize L x = lx at *
      generalize L y = ly at *
      go_enter Tryz.func61, Tryz.ntmps61
      go_wp2_with fail
      refine (HCX.out _ H.out).mono ?_
      rintro e w1 ⟨rfl, h1, hg1⟩
      have H1 := Lib.hid h1
      have G1 := Lib.hid hg1
      clear h1 hg1
      go_wp2_with fail
      refine (HCY.out _ H1.out).mono ?_
      rintro e w2 ⟨rfl, h2, hg2⟩
      have H2 := Lib.hid h2
      have G2 := Lib.hid (grown_trans G1.out hg2)
      clear h2 hg2 H1 G1
      go_wp2_with fail
      have hcast : ((lx : Int) + (ly : Int)) = ((lx + ly : Nat) : Int) := by omega
      rw [hcast]
      refine (hpw.out _ H2.out (by omega)).mono ?_
      rintro e w3 ⟨rfl, h3, hg3⟩
      have H3 := Lib.hid h3
      have G3 := Lib.hid (grown_trans G2.out hg3)
      clear h3 hg3
      clear hcast
      go_wp2_with fail
      go_ret
      exact ⟨rfl, H3.out, G3.out⟩
set_option maxRecDepth 100000 in
set_option maxHeartbeats 1600000 in
theorem inverse_any (b : Nat) (x : B) (w : World) (h : Fld w b) (hx : x ≠ 0) :
    Calls Tryz.prog 57 #[.pointer (some ⟨b, 0, none⟩), .int .u8 (bi x)] w fun e w' => e = .returned (.int .u8 (bi (inv x))) ∧ Fld w' b ∧ w.grownBy w' (some b) := by
  have H := Lib.hid h
  clear h
  have hlx := L_lt hx
  have HM : Hid ((ex ((255 - L x) % 255) : Int) = bi (inv x)) := Lib.hid (by rw [inv_E hx, bi_E])
  have hcx := log_any b x.toNat (ha := x.isLt) (h0 := toNat_ne hx)
  rw [bi_L] at hcx
  change ∀ w, Fld w b → Calls _ _ #[_, .int .u8 (bi x)] w _ at hcx
  have HCX := Lib.hid hcx
  clear hcx
  have hpw' := power_any b (255 - L x)
  rw [HM.out] at hpw'
  have hpw := Lib.hid hpw'
  clear hpw' HM
  generalize bi (inv x) = m at *
  generalize bi x = zx at *
  generalize L x = lx at *
  go_enter Tryz.func57, Tryz.ntmps57
  go_wp2_with fail
  refine (HCX.out _ H.out).mono ?_
  rintro e w1 ⟨rfl, h1, hg1⟩
  have H1 := Lib.hid h1
  have G1 := Lib.hid hg1
  clear h1 hg1
  go_wp2_with fail
  have hcast : (255 - (lx : Int)) = ((255 - lx : Nat) : Int) := by omega
  rw [hcast]
  refine (hpw.out _ H1.out (by omega)).mono ?_
  rintro e w3 ⟨rfl, h3, hg3⟩
  have H3 := Lib.hid h3
  have G3 := Lib.hid (grown_trans G1.out hg3)
  clear h3 hg3
  clear hcast
  go_wp2_with fail
  go_ret
  exact ⟨rfl, H3.out, G3.out⟩
end Go.Proofs.YtdnbkjiijpeiiaaGreat
