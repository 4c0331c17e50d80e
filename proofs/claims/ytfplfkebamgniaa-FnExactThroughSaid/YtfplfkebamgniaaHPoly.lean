/- What the laws' own functions on impl.PolyOut answer. -/
import Derived.Test.YtfplfkebamgniaaHInt
namespace Go.Proofs.Ytfplfkebamgniaa
open Go.RowKit G IRow
set_option linter.unusedVariables false
def polyV (v : Value) (c : Int) : Value := .agg #[v, .int .i64 c]
theorem eqPolyOut_any (a b : Option Addr) (n m cap cbp : Nat) (zs ys : List Int) (c d : Int) (w : World) (h : IR w a n cap zs) (k : IR w b m cbp ys) (hn : n ≤ 1048576) (hm : m ≤ 1048576) :
    Calls Try.prog 51 #[polyV (.slice a n cap) c, polyV (.slice b m cbp) d] w fun e w' => e = .returned (.bool (decide (zs = ys ∧ c = d))) ∧ Below w.heap.size w w' := by
  unfold polyV
  have hb0 : Below w.heap.size w ((w.alloc (Obj.cells #[Value.slice a n cap, Value.int IntKind.i64 c] 34)).alloc (Obj.cells #[Value.slice b m cbp, Value.int IntKind.i64 d] 34)) :=
    ((Below.refl _ _).alloc (Nat.le_refl _) _).alloc (by simp) _
  have HB0 := Lib.hid hb0
  have H := Lib.hid (h.below hb0)
  have K := Lib.hid (k.below hb0)
  clear h k hb0
  go_enter Try.func51, Try.ntmps51
  go_wp2_with fail
  refine (eqInt64S_any a b n m cap cbp zs ys _ H.out K.out hn hm).mono ?_
  rintro e w1 ⟨rfl, hb1⟩
  obtain ⟨hc, hf⟩ := bcell hb1
  have hz : w.heap.size + 1 < w1.heap.size := by have := hb1.size; simp at this; omega
  have HB1 := Lib.hid (HB0.out.trans (hb1.mono (by simp; omega)))
  clear hb1 H K HB0
  by_cases hzy : zs = ys
  · by_cases hcd : c = d
    · have HD := Lib.hid (decide_eq_true (show zs = ys ∧ c = d from ⟨hzy, hcd⟩))
      rw [decide_eq_true hzy]
      subst hcd
      clear hzy
      go_wp2_with fail
      go_ret
      exact ⟨ret_bool (by simpa using HD.out.symm), HB1.out⟩
    · have HD := Lib.hid (decide_eq_false (show ¬ (zs = ys ∧ c = d) from fun h => hcd h.2))
      rw [decide_eq_true hzy]
      have hcb : (c == d) = false := by rw [beq_eq_false_iff_ne]; exact hcd
      clear hzy
      go_wp2_with fail
      go_ret
      exact ⟨ret_bool (by simpa using HD.out.symm), HB1.out⟩
  · have HD := Lib.hid (decide_eq_false (show ¬ (zs = ys ∧ c = d) from fun h => hzy h.1))
    rw [decide_eq_false hzy]
    clear hzy
    go_wp2_with fail
    go_ret
    exact ⟨ret_bool HD.out.symm, HB1.out⟩
theorem markPolyOut_any (a : Option Addr) (base n cap : Nat) (zs : List Int) (c k0 : Int) (w : World) (h : w.ownsRow base 2 1 (.slice a n cap) n (zs.map (Value.int .i64))) (hn : n ≤ 1048576) (hk0 : 0 ≤ k0) (hk1 : k0 ≤ 1099511627776) :
    Calls Try.prog 53 #[polyV (.slice a n cap) c, .int .i64 k0] w fun e w' => e = .returned (.int .i64 (k0 + n)) ∧ w'.ownsRow base 2 1 (.slice a n cap) n ((marks k0 n).map (Value.int .i64)) ∧ w.grownBy w' (Value.slice a n cap).ownBlock := by
  unfold polyV
  have H := Lib.hid (h.alloc (Obj.cells #[Value.slice a n cap, Value.int IntKind.i64 c] 34))
  have HG := Lib.hid (World.grownBy_alloc w (Obj.cells #[Value.slice a n cap, Value.int IntKind.i64 c] 34) (Value.slice a n cap).ownBlock)
  clear h
  go_enter Try.func53, Try.ntmps53
  go_wp2_with fail
  refine (markInt64S_any a base n cap zs k0 _ H.out hn hk0 hk1).mono ?_
  rintro e w1 ⟨rfl, ho, hg⟩
  have HO := Lib.hid ho
  have HG1 := Lib.hid (grown_trans HG.out hg)
  clear ho hg H HG
  go_wp2_with fail
  go_ret
  exact ⟨rfl, HO.out, HG1.out⟩
theorem heldPolyOut_any (a : Option Addr) (n cap : Nat) (c k0 : Int) (w : World) (h : IR w a n cap (marks k0 n)) (hn : n ≤ 1048576) (hk0 : 0 ≤ k0) (hk1 : k0 ≤ 1099511627776) :
    Calls Try.prog 54 #[polyV (.slice a n cap) c, .int .i64 k0] w fun e w' => e = .returned (.int .i64 (k0 + n)) ∧ Below w.heap.size w w' := by
  unfold polyV
  have hb0 : Below w.heap.size w (w.alloc (Obj.cells #[Value.slice a n cap, Value.int IntKind.i64 c] 34)) := (Below.refl _ _).alloc (Nat.le_refl _) _
  have H := Lib.hid (h.below hb0)
  have HB := Lib.hid hb0
  clear h hb0
  go_enter Try.func54, Try.ntmps54
  go_wp2_with fail
  refine (heldInt64S_any a n cap k0 _ H.out hn hk0 hk1).mono ?_
  rintro e w1 ⟨rfl, hb⟩
  have HB1 := Lib.hid (HB.out.trans (hb.mono (by simp)))
  clear hb H HB
  go_wp2_with fail
  go_ret
  exact ⟨rfl, HB1.out⟩
end Go.Proofs.Ytfplfkebamgniaa
