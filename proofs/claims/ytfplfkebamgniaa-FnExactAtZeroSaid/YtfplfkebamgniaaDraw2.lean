/- What the model's sources of draws answer: whether, a number at some limit, any number. -/
import Derived.Test.YtfplfkebamgniaaDraw
namespace Go.Proofs.Ytfplfkebamgniaa
open Go.RowKit G
set_option linter.unusedVariables false
theorem SrcC.lt {w : World} {p cb co sl sc : Nat} {sa : Option Addr} (h : SrcC w p cb co sl sc sa) : p < w.heap.size := by
  obtain ⟨_, _, _, c0, _⟩ := h.ex
  exact World.block_lt_of_cell? w _ c0
theorem Src.lt {w : World} {p : Nat} (h : Src w p) : p < w.heap.size := by
  obtain ⟨cb, co, sl, sc, sa, h⟩ := h; exact h.lt
/-- A source stays one where its block and that of its bytes are as they were. -/
theorem SrcC.kept {w w' : World} {p cb co sl sc : Nat} {sa : Option Addr} (h : SrcC w p cb co sl sc sa) (hb : w'.heap[p]? = w.heap[p]?) (hb' : 0 < sl → w'.heap[cb]? = w.heap[cb]?) : SrcC w' p cb co sl sc sa := by
  obtain ⟨a, mix, size, c0, c1, c2, c3, f0, f1, f2, f3, a0, a1, hsl, m0, m1, s0, s1, hsa, hcp, hz⟩ := h.ex
  have hc : ∀ o, w'.cell? ⟨p, o, none⟩ = w.cell? ⟨p, o, none⟩ := fun o => World.cell?_of_block hb
  have hf : ∀ o, w'.frozen? ⟨p, o, none⟩ = w.frozen? ⟨p, o, none⟩ := fun o => World.frozen?_of_block hb
  refine ⟨a, mix, size, (hc _).trans c0, (hc _).trans c1, (hc _).trans c2, (hc _).trans c3, (hf _).trans f0, (hf _).trans f1, (hf _).trans f2, (hf _).trans f3, a0, a1, hsl, m0, m1, s0, s1, hsa, hcp, fun i hi => ?_⟩
  obtain ⟨z, z0, z1, hz'⟩ := hz i hi
  exact ⟨z, z0, z1, (World.cell?_of_block (hb' (by omega))).trans hz'⟩
theorem SrcC.code {w : World} {p cb co sl sc : Nat} {sa : Option Addr} (h : SrcC w p cb co sl sc sa) (hs : 0 < sl) : cb < w.heap.size := by
  obtain ⟨a, mix, size, c0, c1, c2, c3, f0, f1, f2, f3, a0, a1, hsl, m0, m1, s0, s1, hsa, hcp, hz⟩ := h.ex
  obtain ⟨z, z0, z1, hz'⟩ := hz 0 hs
  exact World.block_lt_of_cell? w _ hz'
theorem Src.kept {w w' : World} {p : Nat} (h : Src w p) (hb : ∀ k, k < w.heap.size → w'.heap[k]? = w.heap[k]?) : Src w' p := by
  obtain ⟨cb, co, sl, sc, sa, h⟩ := h
  exact ⟨cb, co, sl, sc, sa, h.kept (hb p h.lt) (fun hs => hb cb (h.code hs))⟩
theorem Src.alloc {w : World} {p : Nat} (h : Src w p) (o : Obj) : Src (w.alloc o) p := h.kept fun k hk => Below.heap_alloc w o k hk
theorem Src.drew {w : World} {p : Nat} (h : Src w p) : Src w.drew p := h.kept fun _ _ => rfl
theorem Src.drewN {w : World} {p : Nat} (h : Src w p) (n : Nat) : Src (w.drewN n) p := h.kept fun _ _ => rfl
/-- What a draw leaves of all else. -/
structure Drawn (w w' : World) (p : Nat) : Prop where
  src : Src w' p
  gr : w.grownBy w' (some p)
theorem Drawn.trans {a b c : World} {p : Nat} (h : Drawn a b p) (k : Drawn b c p) : Drawn a c p := ⟨k.src, grownBy_trans h.gr k.gr⟩
theorem one_any (p : Nat) (most : Int) (w : World) (hS : Src w p) (hm : most ≤ 9223372036854775807) :
    Calls Try.prog 62 #[.pointer (some ⟨p, 0, none⟩), .int .i64 most] w fun e w' => ∃ b : Bool, e = .returned (.bool b) ∧ Drawn w w' p ∧ w'.heap.size = w.heap.size := by
  go_enter Try.func62, Try.ntmps62
  go_wp2_with fail
  refine (n_any p most w hS hm).mono ?_
  rintro e w1 ⟨r, rfl, r0, r1, hS1, hg, hz⟩
  have HP := Lib.hid (⟨⟨hS1, hg⟩, hz⟩ : Drawn w w1 p ∧ w1.heap.size = w.heap.size)
  clear r1 hS1 hg hz
  go_wp2_with fail
  go_ret
  exact ⟨_, rfl, HP.out.1, HP.out.2⟩
def SomeI64 (w : World) (p : Nat) (e : Ending) (w' : World) : Prop := ∃ r : Int, e = .returned (.int .i64 r) ∧ (Lit.int .i64 r).wf = true ∧ Drawn w w' p
set_option maxHeartbeats 3200000 in
theorem edge_any (p : Nat) (w : World) (hS : Src w p) :
    Calls Try.prog 63 #[.pointer (some ⟨p, 0, none⟩)] w (SomeI64 w p) := by
  have hp := hS.lt
  go_enter Try.func63, Try.ntmps63
  go_wp2_with fail
  refine (n_any p 14 _ (hS.alloc _) (by omega)).mono ?_
  rintro e w1 ⟨r, rfl, r0, r1, hS1, hg, hz⟩
  have HG : Hid (w.grownBy w1 (some p)) := grownBy_trans (World.grownBy_alloc w _ _) hg
  have HS1 := Lib.hid hS1; clear hS1
  have hblk := hg.block w.heap.size (by simp) (by simp; omega)
  have hcl : ∀ o, w1.cell? ⟨w.heap.size, o, none⟩ = (w.alloc _).cell? ⟨w.heap.size, o, none⟩ := fun o => World.cell?_of_block hblk
  clear hblk hg hz
  have hr : r = 0 ∨ r = 1 ∨ r = 2 ∨ r = 3 ∨ r = 4 ∨ r = 5 ∨ r = 6 ∨ r = 7 ∨ r = 8 ∨ r = 9 ∨ r = 10 ∨ r = 11 ∨ r = 12 ∨ r = 13 := by omega
  clear r0 r1
  rcases hr with rfl | rfl | rfl | rfl | rfl | rfl | rfl | rfl | rfl | rfl | rfl | rfl | rfl | rfl
  all_goals
    go_wp2_with fail
    go_ret
    exact ⟨_, rfl, by decide, HS1.out, HG.out⟩
theorem grown_own {w wr w' : World} {p : Nat} {row : Option Nat} (h : w.grownBy wr (some p)) (k : wr.grownBy w' row) (hr : ∀ g, row = some g → w.heap.size ≤ g) : w.grownBy w' (some p) :=
  ⟨k.os.trans h.os, k.tape.trans h.tape, k.output.trans h.output, Nat.le_trans h.size k.size, fun i hi hp => (k.block i (Nat.lt_of_lt_of_le hi h.size) (fun e => by have := hr i e.symm; omega)).trans (h.block i hi hp)⟩
end Go.Proofs.Ytfplfkebamgniaa
