/- The program's polynomials: a list of bytes as one; what one is at a place. -/
import Derived.Test.YtfplfkebamgniaaPoly1
import Derived.Deep.RegionHeld3
namespace Go.Proofs.Ytfplfkebamgniaa
open Go.RowKit Go.PlainAid G IRow MGF
set_option linter.unusedVariables false
theorem mTimes (f : Nat) (w : World) : (Go.method 250 88 (.pointer (some ⟨f, 0, none⟩)) "loop.example/g00839/impl.times").run Try.prog w = .ok (65, .pointer (some ⟨f, 0, none⟩)) w := by kernel_rfl
theorem mPlus (f : Nat) (w : World) : (Go.method 250 88 (.pointer (some ⟨f, 0, none⟩)) "loop.example/g00839/impl.plus").run Try.prog w = .ok (103, .pointer (some ⟨f, 0, none⟩)) w := by kernel_rfl
theorem ringPlus_any (f : Nat) (x y : B) (w : World) :
    Calls Try.prog 103 #[.pointer (some ⟨f, 0, none⟩), .int .u8 (bi x), .int .u8 (bi y)] w fun e w' => e = .returned (.int .u8 (bi (x ^^^ y))) ∧ w = w' := by
  have hx := bi_xor8 x y
  generalize bi (x ^^^ y) = z at *
  go_enter Try.func103, Try.ntmps103
  go_wp2_with fail
  go_ret
  exact ⟨rfl, rfl⟩
set_option maxRecDepth 100000 in
set_option maxHeartbeats 1600000 in
theorem at_any (f : Nat) (a : Option Addr) (n cap : Nat) (p : List B) (x : B) (w : World) (h : BR f w a n cap p) (hF : Fld w f) (hn : n ≤ 1048576) :
    Calls Try.prog 94 #[pvl f (.slice a n cap), .int .u8 (bi x)] w fun e w' => e = .returned (.int .u8 (bi (ev p x))) ∧ FAt w f w' := by
  have hl : p.length = n := h.len
  have hlt := hF.lt
  have hne : ∀ u, FAt (w.alloc (Obj.cells #[Value.pointer (some ⟨f, 0, none⟩), Value.slice a n cap] 90)) f u → u.cell? ⟨w.heap.size, 0, none⟩ = some (.pointer (some ⟨f, 0, none⟩)) ∧ u.cell? ⟨w.heap.size, 1, none⟩ = some (.slice a n cap) := by
    intro u hu
    have h0 := World.cell?_alloc_new w #[Value.pointer (some ⟨f, 0, none⟩), Value.slice a n cap] 90
    exact ⟨hu.cell (h0 0) (by show w.heap.size ≠ f; omega), hu.cell (h0 1) (by show w.heap.size ≠ f; omega)⟩
  have HW : Hid (FAt w f (w.alloc (Obj.cells #[Value.pointer (some ⟨f, 0, none⟩), Value.slice a n cap] 90))) := Lib.hid ((FAt.start hF).alloc _)
  have HC := Lib.hid hne
  clear hne hF
  have hw : IntKind.i64.wrap ((n : Int) - 1) = (n : Int) - 1 := by rw [IntWalk.i64_in _ (by omega)]
  unfold pvl
  go_enter Try.func94, Try.ntmps94
  go_wp2_with fail
  go_loopw [5, 6] (fun y i wr => ∃ j : Nat, j ≤ n ∧ i = .int .i64 ((j : Int) - 1) ∧ y = .int .u8 (bi (ev (p.drop j) x)) ∧ FAt (w.alloc (Obj.cells #[Value.pointer (some ⟨f, 0, none⟩), Value.slice a n cap] 90)) f wr) (fun _ i _ => (intOf i + 1).toNat)
  case atStart => exact ⟨n, Nat.le_refl _, rfl, by rw [List.drop_of_length_le (by omega)]; rfl, FAt.start HW.out.fld⟩
  case round =>
    obtain ⟨j, hj, rfl, rfl, hB⟩ := hrel
    by_cases h0 : j = 0
    · subst h0
      have HB := Lib.hid hB
      clear h hB
      go_wp2_with fail
      go_ret
      exact ⟨ret_int (by rw [List.drop_zero]), HW.out.step HB.out⟩
    · obtain ⟨i, rfl⟩ := Nat.exists_eq_succ_of_ne_zero h0
      have hbr := HW.out.br h
      obtain ⟨g, o, rfl, hg, hne, hc⟩ := hbr.cells (by omega)
      have HCK : Hid (∀ u, FAt (w.alloc (Obj.cells #[Value.pointer (some ⟨f, 0, none⟩), Value.slice (some ⟨g, o, none⟩) n cap] 90)) f u → u.cell? ⟨g, o + i, none⟩ = some (.int .u8 (bi (cf p i)))) := Lib.hid (fun u hu => hu.cell (hc i (by omega)) hne)
      have hE := ev_drop (p := p) (j := i) (by omega) x
      have HE := Lib.hid hE
      have hii : ((i + 1 : Nat) : Int) - 1 = (i : Int) := by omega
      rw [hii]
      have hin : i < n := by omega
      generalize hWB : w.alloc (Obj.cells #[Value.pointer (some ⟨f, 0, none⟩), Value.slice (some ⟨g, o, none⟩) n cap] 90) = wb at *
      have hFn := hB.drew
      clear hii hw hl hWB hbr hc hE hB h hg hne
      have hmT := mTimes f
      have hmP := mPlus f
      obtain ⟨y, hy⟩ : ∃ y, y = ev (p.drop (i + 1)) x := ⟨_, rfl⟩
      rw [← hy]
      have HY := Lib.hid hy
      clear hy
      go_wp2_with fail
      go_region_held3 (fun u => FAt wb f u ∧ u.cell? ⟨w.heap.size, 0, none⟩ = some (.pointer (some ⟨f, 0, none⟩)) ∧ u.cell? ⟨w.heap.size, 1, none⟩ = some (.slice (some ⟨g, o, none⟩) n cap) ∧ u.cell? ⟨g, o + i, none⟩ = some (.int .u8 (bi (cf p i)))) (exact ⟨hFn, (HC.out _ hFn).1, (HC.out _ hFn).2, HCK.out _ hFn⟩)
        (first
          | (go_at_call 65; refine Calls.mono (times_any f y x _ hFn.fld) ?_; rintro e w1 ⟨rfl, hf1, hg1⟩; have hFn := hFn.step (FAt.of hf1 hg1))
          | (go_at_call 103; refine Calls.mono (ringPlus_any f (mul y x) (cf p i) _) ?_; rintro e w1 ⟨rfl, rfl⟩))
      go_wp2_with fail
      go_roundw
      case rel => exact ⟨i, by omega, rfl, by rw [HE.out, HY.out], hFn⟩
      case measure => simp [intOf] <;> omega
end Go.Proofs.Ytfplfkebamgniaa
