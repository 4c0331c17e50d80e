/- A field, made or not: what its methods answer. -/
import Derived.Test.YtfplfkebamgniaaFill3
namespace Go.Proofs.Ytfplfkebamgniaa
open Go.RowKit Go.PlainAid G IRow MGF
set_option linter.unusedVariables false
/-- A field in its block: not made yet, or made. -/
def Fld (w : World) (b : Nat) : Prop := Blk w b (FK (hdC 0 0) 0) ∨ Blk w b (FK (hdC 1 0) 255)
theorem Fld.grown {w w' : World} {b : Nat} (h : Fld w b) {row : Option Nat} (hg : w.grownBy w' row) (hne : some b ≠ row) : Fld w' b := h.imp (·.grown hg hne) (·.grown hg hne)
theorem Fld.below {w w' : World} {b : Nat} (h : Fld w b) (hb : Below w.heap.size w w') : Fld w' b := h.imp (·.below hb) (·.below hb)
theorem Fld.lt {w : World} {b : Nat} (h : Fld w b) : b < w.heap.size := h.elim (·.1) (·.1)
set_option maxRecDepth 100000 in
set_option maxHeartbeats 1600000 in
theorem do_any (b : Nat) (w : World) (h : Fld w b) :
    Calls Try.prog 107 #[.pointer (some ⟨b, 0, none⟩), .func (.func 108) #[.pointer (some ⟨b, 0, none⟩)] #[]] w fun e w' => e = .returned (.tuple #[]) ∧ Blk w' b (FK (hdC 1 0) 255) ∧ w.grownBy w' (some b) := by
  have hnot : ∀ (x : Bool) (w : World), (Op.unary .not (.bool x)).run Try.prog w = .ok (.bool (!x)) w := fun _ _ => rfl
  rcases h with h | h
  · obtain ⟨hc0, hf0⟩ := h.2 0 (by omega)
    rw [FK_0] at hc0
    have H := Lib.hid h
    clear h
    go_enter Try.func107, Try.ntmps107
    go_wp2_with fail
    refine (load_any ⟨b, 0, none⟩ 0 _ hc0).mono ?_
    rintro e w1 ⟨rfl, rfl⟩
    go_wp2_with fail
    refine (slow_any b _ H.out).mono ?_
    rintro e w2 ⟨rfl, hb2, hg2⟩
    have HB2 := Lib.hid hb2
    have HG2 := Lib.hid hg2
    clear hb2 hg2
    go_wp2_with fail
    go_end0
    exact ⟨rfl, HB2.out, HG2.out⟩
  · obtain ⟨hc0, hf0⟩ := h.2 0 (by omega)
    rw [FK_0] at hc0
    have H := Lib.hid h
    clear h
    go_enter Try.func107, Try.ntmps107
    go_wp2_with fail
    refine (load_any ⟨b, 0, none⟩ 1 _ hc0).mono ?_
    rintro e w1 ⟨rfl, rfl⟩
    go_wp2_with fail
    go_end0
    exact ⟨rfl, H.out, World.grownBy.refl _ _⟩
theorem FK_pow {d l : Int} {i : Nat} (h : i < 255) : FK (hdC d l) 255 (3 + i) = .int .u8 (ex i : Int) := by
  unfold FK
  rw [if_neg (by omega), if_pos (by omega), Nat.add_sub_cancel_left, if_pos h]
theorem FK_log {d l : Int} {a : Nat} (h : a < 256) (h0 : a ≠ 0) : FK (hdC d l) 255 (258 + a) = .int .u8 (lg a : Int) := by
  unfold FK
  rw [if_neg (by omega), if_neg (by omega), Nat.add_sub_cancel_left, if_pos ⟨by omega, (lg_fact h h0).1⟩]
set_option maxRecDepth 100000 in
set_option maxHeartbeats 1600000 in
theorem power_any (b n : Nat) (w : World) (h : Fld w b) (hn : n < 9223372036854775808) :
    Calls Try.prog 99 #[.pointer (some ⟨b, 0, none⟩), .int .i64 n] w fun e w' => e = .returned (.int .u8 (ex (n % 255) : Int)) ∧ Fld w' b ∧ w.grownBy w' (some b) := by
  have H := Lib.hid h
  clear h
  go_enter Try.func99, Try.ntmps99
  go_wp2_with fail
  refine (do_any b _ H.out).mono ?_
  rintro e w2 ⟨rfl, hb2, hg2⟩
  obtain ⟨hc, hf⟩ := hb2.2 (3 + n % 255) (by omega)
  rw [FK_pow (by omega)] at hc
  have HB2 := Lib.hid hb2
  have HG2 := Lib.hid hg2
  clear hb2 hg2
  go_wp2_with fail
  go_ret
  exact ⟨rfl, .inr HB2.out, HG2.out⟩
set_option maxRecDepth 100000 in
set_option maxHeartbeats 1600000 in
theorem log_any (b a : Nat) (w : World) (h : Fld w b) (ha : a < 256) (h0 : a ≠ 0) :
    Calls Try.prog 100 #[.pointer (some ⟨b, 0, none⟩), .int .u8 a] w fun e w' => e = .returned (.int .i64 (lg a : Int)) ∧ Fld w' b ∧ w.grownBy w' (some b) := by
  have H := Lib.hid h
  clear h
  have hlt := (lg_fact ha h0).1
  go_enter Try.func100, Try.ntmps100
  go_wp2_with fail
  refine (do_any b _ H.out).mono ?_
  rintro e w2 ⟨rfl, hb2, hg2⟩
  obtain ⟨hc, hf⟩ := hb2.2 (258 + a) (by omega)
  rw [FK_log ha h0] at hc
  have HB2 := Lib.hid hb2
  have HG2 := Lib.hid hg2
  clear hb2 hg2
  go_wp2_with fail
  go_ret
  exact ⟨rfl, .inr HB2.out, HG2.out⟩
end Go.Proofs.Ytfplfkebamgniaa
