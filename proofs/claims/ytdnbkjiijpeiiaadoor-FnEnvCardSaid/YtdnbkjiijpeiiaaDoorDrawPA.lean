/- What the model's draws of chapter 3 answer. -/
import Derived.Test.YtdnbkjiijpeiiaaDoorDrawA
import Derived.Test.YtdnbkjiijpeiiaaDoorSPointsA
import Derived.Test.YtdnbkjiijpeiiaaDoorHPointA
import Derived.Test.YtdnbkjiijpeiiaaDoorChap2
namespace Go.Proofs.YtdnbkjiijpeiiaaDoor
open Go.RowKit G
set_option linter.unusedVariables false
def SomeTwo (w : World) (e : Ending) (w' : World) : Prop := ∃ a b : Int, e = .returned (.tuple #[.int .i64 a, .int .i64 b]) ∧ (Lit.int .i64 a).wf = true ∧ (Lit.int .i64 b).wf = true ∧ Below w.heap.size w w'
end Go.Proofs.YtdnbkjiijpeiiaaDoor
/- What the model's draws of polynomials and places answer. -/
namespace Go.Proofs.YtdnbkjiijpeiiaaDoor
open Go.RowKit Go.PlainAid G MGF IRow
set_option linter.unusedVariables false
theorem SrcC.grown {w w' : World} {p cb co sl sc : Nat} {sa : Option Addr} {row : Option Nat} {B : Nat} (h : SrcC w p cb co sl sc sa) (hp : p < B) (hcb : 0 < sl → cb < B) (hg : w.grownBy w' row) (hr : ∀ k, row = some k → B ≤ k) : SrcC w' p cb co sl sc sa :=
  h.kept (hg.block p h.lt (fun e => by have := hr p e.symm; omega)) (fun hs => hg.block cb (h.code hs) (fun e => by have := hr cb e.symm; have := hcb hs; omega))
theorem SrcC.below {w w' : World} {p cb co sl sc : Nat} {sa : Option Addr} (h : SrcC w p cb co sl sc sa) (hb : Below w.heap.size w w') : SrcC w' p cb co sl sc sa :=
  h.kept (hb.block p h.lt) (fun hs => hb.block cb (h.code hs))
theorem grown_below {w wr w' : World} {p : Nat} (h : w.grownBy wr (some p)) (k : Below wr.heap.size wr w') : w.grownBy w' (some p) :=
  grown_own h (row := none) ⟨k.os, k.tape, k.output, k.size, fun i hi _ => k.block i hi⟩ (fun g hg => by cases hg)
theorem own_drawn {w w' : World} {B p : Nat} {e : TypeId} {size : Nat} {v : Value} {n : Nat} {xs : List Value} (h : w.ownsRow B e size v n xs) (hg : w.grownBy w' (some p)) (hp : p < B) : w'.ownsRow B e size v n xs :=
  h.kept hg (Or.inr (fun e => by have := (h.lt p e).1; omega))
/-- What a draw leaves, told with the source's own bytes. -/
structure DrawnC (w w' : World) (p cb co sl sc : Nat) (sa : Option Addr) : Prop where
  src : SrcC w' p cb co sl sc sa
  gr : w.grownBy w' (some p)
theorem DrawnC.drawn {w w' : World} {p cb co sl sc : Nat} {sa : Option Addr} (h : DrawnC w w' p cb co sl sc sa) : Drawn w w' p := ⟨⟨cb, co, sl, sc, sa, h.src⟩, h.gr⟩
/-- A row of int64 in new memory, drawn. -/
def SomeRowC (N : Nat) (w : World) (p cb co sl sc : Nat) (sa : Option Addr) (e : Ending) (w' : World) : Prop :=
  ∃ a k c zs, e = .returned (.slice a k c) ∧ w'.ownsRow w.heap.size 2 1 (.slice a k c) k (List.map (Value.int .i64) zs) ∧ zs.length ≤ N ∧ DrawnC w w' p cb co sl sc sa
set_option maxRecDepth 100000 in
theorem one_c (p cb co sl sc : Nat) (sa : Option Addr) (most : Int) (w : World) (hS : SrcC w p cb co sl sc sa) (hm : most ≤ 9223372036854775807) :
    Calls Tryd.prog 51 #[.pointer (some ⟨p, 0, none⟩), .int .i64 most] w fun e w' => ∃ b : Bool, e = .returned (.bool b) ∧ DrawnC w w' p cb co sl sc sa ∧ w'.heap.size = w.heap.size := by
  go_enter Tryd.func51, Tryd.ntmps51
  go_wp2_with fail
  refine (n_c p cb co sl sc sa most w hS hm).mono ?_
  rintro e w1 ⟨r, rfl, r0, r1, hS1, hg, hz⟩
  have HP := Lib.hid (⟨⟨hS1, hg⟩, hz⟩ : DrawnC w w1 p cb co sl sc sa ∧ w1.heap.size = w.heap.size)
  clear r1 hS1 hg hz
  go_wp2_with fail
  go_ret
  exact ⟨_, rfl, HP.out.1, HP.out.2⟩
end Go.Proofs.YtdnbkjiijpeiiaaDoor
/- What the model's draws of places and points answer. -/
namespace Go.Proofs.YtdnbkjiijpeiiaaDoor
open Go.RowKit Go.PlainAid G MGF IRow
set_option linter.unusedVariables false
end Go.Proofs.YtdnbkjiijpeiiaaDoor
/- What the model's draws of chapter 4 answer, and what the laws compare lists with. -/
namespace Go.Proofs.YtdnbkjiijpeiiaaDoor
open Go.RowKit Go.PlainAid G MGF IRow
set_option linter.unusedVariables false
def TwoRows (w : World) (e : Ending) (w' : World) : Prop :=
  ∃ a k c zs b m d ys, e = .returned (.tuple #[.slice a k c, .slice b m d]) ∧ w'.ownsRow w.heap.size 2 1 (.slice a k c) k (List.map (Value.int .i64) zs) ∧ w'.ownsRow w.heap.size 2 1 (.slice b m d) m (List.map (Value.int .i64) ys) ∧ zs.length ≤ 101 ∧ ys.length ≤ 101 ∧ Below w.heap.size w w'
def OneRow (w : World) (e : Ending) (w' : World) : Prop :=
  ∃ a k c zs, e = .returned (.slice a k c) ∧ w'.ownsRow w.heap.size 2 1 (.slice a k c) k (List.map (Value.int .i64) zs) ∧ zs.length ≤ 101 ∧ Below w.heap.size w w'
def RowInt (w : World) (e : Ending) (w' : World) : Prop :=
  ∃ a k c zs x, e = .returned (.tuple #[.slice a k c, .int .i64 x]) ∧ w'.ownsRow w.heap.size 2 1 (.slice a k c) k (List.map (Value.int .i64) zs) ∧ zs.length ≤ 101 ∧ (Lit.int .i64 x).wf = true ∧ Below w.heap.size w w'
end Go.Proofs.YtdnbkjiijpeiiaaDoor
