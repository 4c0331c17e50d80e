/- The field's arrays are made once: sync.Once over fill. -/
import Derived.Test.YtfplfkebamgniaaFill2
namespace Go.Proofs.Ytfplfkebamgniaa
open Go.RowKit Go.PlainAid G IRow MGF
set_option linter.unusedVariables false
/-- The first three cells: is it done; the lock's state; its queue. -/
def hdC (d l : Int) : Nat → Value := fun i => if i = 0 then .int .u32 d else if i = 1 then .int .i32 l else .int .u32 0
theorem FK_upd0 (d l d' : Int) (k : Nat) : ∀ i, i < 514 → upd (FK (hdC d l) k) 0 (.int .u32 d') i = FK (hdC d' l) k i := by
  intro i _
  unfold upd FK hdC
  by_cases h : i = 0
  · subst h; simp
  · rw [if_neg h, if_neg h, if_neg h]
theorem FK_upd1 (d l l' : Int) (k : Nat) : ∀ i, i < 514 → upd (FK (hdC d l) k) 1 (.int .i32 l') i = FK (hdC d l') k i := by
  intro i _
  unfold upd FK hdC
  by_cases h : i = 1
  · subst h; simp
  · rw [if_neg h, if_neg h, if_neg h]
theorem FK_0 (d l : Int) (k : Nat) : FK (hdC d l) k 0 = .int .u32 d := rfl
theorem FK_1 (d l : Int) (k : Nat) : FK (hdC d l) k 1 = .int .i32 l := rfl
theorem grown_drew {w w' : World} {row : Option Nat} (h : w.grownBy w' row) : w.grownBy w'.drew row := ⟨h.os, h.tape, h.output, h.size, h.block⟩
/-- Is it done? -/
theorem load_any (a : Addr) (x : Int) (w : World) (hc : w.cell? a = some (.int .u32 x)) :
    Calls Try.prog 109 #[.pointer (some a)] w fun e w' => e = .returned (.bool (x != 0)) ∧ w = w' := by
  have hl := run_call_load (P := Try.prog) Try.func112 (by kernel_rfl) (by kernel_rfl) (by kernel_rfl) .u32 (by kernel_rfl) hc
  go_enter Try.func109, Try.ntmps109
  go_wp2_with fail
  go_ret
  exact ⟨rfl, rfl⟩
set_option maxRecDepth 100000 in
set_option maxHeartbeats 1600000 in
theorem slow_any (b : Nat) (w : World) (hB : Blk w b (FK (hdC 0 0) 0)) :
    Calls Try.prog 110 #[.pointer (some ⟨b, 0, none⟩), .func (.func 108) #[.pointer (some ⟨b, 0, none⟩)] #[]] w fun e w' => e = .returned (.tuple #[]) ∧ Blk w' b (FK (hdC 1 0) 255) ∧ w.grownBy w' (some b) := by
  have HB1 : Hid (Blk (w.setCell ⟨b, 1, none⟩ (.int .i32 1)) b (FK (hdC 0 1) 0)) := Lib.hid ((hB.set (i := 1) (by omega) (.int .i32 1)).eq (FK_upd1 0 0 1 0))
  obtain ⟨hc1, hf1⟩ := hB.2 1 (by omega)
  rw [FK_1] at hc1
  obtain ⟨hc0, hf0⟩ := HB1.out.2 0 (by omega)
  rw [FK_0] at hc0
  have hnot : ∀ (x : Bool) (w : World), (Op.unary .not (.bool x)).run Try.prog w = .ok (.bool (!x)) w := fun _ _ => rfl
  have HW := Lib.hid hB
  clear hB
  go_enter_defers Try.func110, Try.ntmps110
  go_wp2_with (go_at_call 113; refine (lock_free ⟨b, 1, none⟩ _ hc1 hf1).mono ?_; rintro e w' ⟨rfl, rfl⟩)
  refine (load_any ⟨b, 0, none⟩ 0 _ hc0).mono ?_
  rintro e w1 ⟨rfl, rfl⟩
  go_wp2_with fail
  refine (fill_any b (hdC 0 1) _ HB1.out).mono ?_
  rintro e w2 ⟨rfl, hb2, hg2⟩
  have HB2 := Lib.hid hb2
  have HG2 := Lib.hid (grown_trans (grown_set w b 1 _) hg2)
  clear hb2 hg2 hc0 hc1 hf0 hf1 HB1 HW
  obtain ⟨hc0, hf0⟩ := HB2.out.2 0 (by omega)
  rw [FK_0] at hc0
  have HB3 : Hid (Blk (w2.drew.setCell ⟨b, 0, none⟩ (.int .u32 1)) b (FK (hdC 1 1) 255)) := Lib.hid ((HB2.out.drew.set (i := 0) (by omega) (.int .u32 1)).eq (FK_upd0 0 1 1 255))
  obtain ⟨hc1, hf1⟩ := HB3.out.2 1 (by omega)
  rw [FK_1] at hc1
  have HB4 : Hid (Blk ((w2.drew.setCell ⟨b, 0, none⟩ (.int .u32 1)).setCell ⟨b, 1, none⟩ (.int .i32 0)) b (FK (hdC 1 0) 255)) := Lib.hid ((HB3.out.set (i := 1) (by omega) (.int .i32 0)).eq (FK_upd1 1 1 0 255))
  have HG4 : Hid (w.grownBy ((w2.drew.setCell ⟨b, 0, none⟩ (.int .u32 1)).setCell ⟨b, 1, none⟩ (.int .i32 0)) (some b)) := Lib.hid (grown_trans (grown_drew HG2.out) (grown_trans (grown_set _ _ _ _) (grown_set _ _ _ _)))
  go_wp2_with fail
  refine leaves_cons (f := 115) (args := #[.pointer (some ⟨b, 0, none⟩), .bool true]) (by simp) (by simp [go_sem]) ?_
  refine (store_deferred ⟨b, 0, none⟩ _ .returning _ hc0 hf0).mono ?_
  rintro e u' w'' ⟨rfl, rfl, rfl⟩
  refine leaves_cons (f := 114) (args := #[.pointer (some ⟨b, 1, none⟩)]) (by simp [settle]) (by simp [go_sem]) ?_
  refine (unlock_deferred ⟨b, 1, none⟩ _ _ hc1 hf1).mono ?_
  rintro e u' w'' ⟨rfl, rfl, rfl⟩
  have h1 := HB4.out
  have h2 := HG4.out
  simp only [Leaves, settle, results, Try.results110]
  simp [h1, h2]
end Go.Proofs.Ytfplfkebamgniaa
