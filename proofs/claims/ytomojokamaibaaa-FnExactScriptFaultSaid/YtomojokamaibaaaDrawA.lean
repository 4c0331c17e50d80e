/- What the model's sources of draws answer: numbers in their range; no memory is written but the source's own. -/
import Derived.Test.YtomojokamaibaaaBase
import Derived.BigQuiet
import Derived.Deep.QuietTactic
import Derived.RegionTactic
import Derived.WalkSmall
import Derived.OpenShut
import Derived.IntWalk
namespace Go.Proofs.Ytomojokamaibaaa
open Go.RowKit G
set_option linter.unusedVariables false
theorem setCell_setCell (w : World) (b o : Nat) (u v : Value) : (w.setCell ⟨b, o, none⟩ u).setCell ⟨b, o, none⟩ v = w.setCell ⟨b, o, none⟩ v := by
  unfold World.setCell
  congr 1
  apply Array.ext_getElem?
  intro i
  simp only [Array.getElem?_modify]
  split
  · cases w.heap[i]? with
    | none => rfl
    | some x => cases x <;> simp [Array.setIfInBounds_setIfInBounds]
  · rfl
/-- A source lies at block p; the bytes that it draws from lie in block cb. -/
structure SrcC (w : World) (p cb co sl sc : Nat) (sa : Option Addr) : Prop where
  ex : ∃ (a mix size : Int), w.cell? ⟨p, 0, none⟩ = some (.slice sa sl sc) ∧ w.cell? ⟨p, 1, none⟩ = some (.int .i64 a) ∧ w.cell? ⟨p, 2, none⟩ = some (.int .u64 mix) ∧ w.cell? ⟨p, 3, none⟩ = some (.int .i64 size) ∧
    w.frozen? ⟨p, 0, none⟩ = false ∧ w.frozen? ⟨p, 1, none⟩ = false ∧ w.frozen? ⟨p, 2, none⟩ = false ∧ w.frozen? ⟨p, 3, none⟩ = false ∧
    0 ≤ a ∧ a ≤ sl ∧ sl ≤ 1048576 ∧ 0 ≤ mix ∧ mix ≤ 18446744073709551615 ∧ 0 ≤ size ∧ size ≤ 12 ∧ (0 < sl → sa = some ⟨cb, co, none⟩) ∧ cb ≠ p ∧
    ∀ i, i < sl → ∃ z : Int, 0 ≤ z ∧ z ≤ 255 ∧ w.cell? ⟨cb, co + i, none⟩ = some (.int .u8 z)
def Src (w : World) (p : Nat) : Prop := ∃ cb co sl sc sa, SrcC w p cb co sl sc sa
/-- What a draw leaves of the source, and of all else. -/
structure NEnd (w w' : World) (p : Nat) (a' m' : Int) : Prop where
  c0 : w'.cell? ⟨p, 0, none⟩ = w.cell? ⟨p, 0, none⟩
  c1 : w'.cell? ⟨p, 1, none⟩ = some (.int .i64 a')
  c2 : w'.cell? ⟨p, 2, none⟩ = some (.int .u64 m')
  c3 : w'.cell? ⟨p, 3, none⟩ = w.cell? ⟨p, 3, none⟩
  fz : ∀ x, w'.frozen? x = w.frozen? x
  gr : w.grownBy w' (some p)
  sz : w'.heap.size = w.heap.size
theorem NEnd.drew {w w' : World} {p : Nat} {a m : Int} (h : NEnd w w' p a m) : NEnd w w'.drew p a m :=
  ⟨h.c0, h.c1, h.c2, h.c3, h.fz, ⟨h.gr.os, h.gr.tape, h.gr.output, h.gr.size, h.gr.block⟩, h.sz⟩
theorem NEnd.drewN {w w' : World} {p : Nat} {a m : Int} (h : NEnd w w' p a m) (k : Nat) : NEnd w (w'.drewN k) p a m :=
  ⟨h.c0, h.c1, h.c2, h.c3, h.fz, ⟨h.gr.os, h.gr.tape, h.gr.output, h.gr.size, h.gr.block⟩, h.sz⟩
theorem NEnd.start {w : World} {p : Nat} {a m : Int} (h1 : w.cell? ⟨p, 1, none⟩ = some (.int .i64 a)) (h2 : w.cell? ⟨p, 2, none⟩ = some (.int .u64 m)) : NEnd w w p a m :=
  ⟨rfl, h1, h2, rfl, fun _ => rfl, ⟨rfl, rfl, rfl, Nat.le_refl _, fun _ _ _ => rfl⟩, rfl⟩
theorem grownBy_setCell (w : World) (a : Addr) (v : Value) : w.grownBy (w.setCell a v) (some a.block) :=
  ⟨rfl, rfl, rfl, by simp [World.setCell], fun k _ hk => Below.heap_setCell _ _ _ _ (by intro e; exact hk (by rw [e]))⟩
theorem grownBy_trans {a b c : World} {row : Option Nat} (h : a.grownBy b row) (k : b.grownBy c row) : a.grownBy c row :=
  ⟨k.os.trans h.os, k.tape.trans h.tape, k.output.trans h.output, Nat.le_trans h.size k.size, fun i hi hr => (k.block i (Nat.lt_of_lt_of_le hi h.size) hr).trans (h.block i hi hr)⟩
theorem NEnd.set1 {w w' : World} {p : Nat} {a m b : Int} (h : NEnd w w' p a m) : NEnd w (w'.setCell ⟨p, 1, none⟩ (.int .i64 b)) p b m :=
  ⟨(World.cell?_setCell_other _ _ _ _ (by simp)).trans h.c0, World.cell?_setCell_same _ _ _ h.c1, (World.cell?_setCell_other _ _ _ _ (by simp)).trans h.c2, (World.cell?_setCell_other _ _ _ _ (by simp)).trans h.c3,
    fun x => (World.frozen?_setCell _ _ _ _).trans (h.fz x), grownBy_trans h.gr (grownBy_setCell _ _ _), by simpa [World.setCell] using h.sz⟩
theorem NEnd.set2 {w w' : World} {p : Nat} {a m b : Int} (h : NEnd w w' p a m) : NEnd w (w'.setCell ⟨p, 2, none⟩ (.int .u64 b)) p a b :=
  ⟨(World.cell?_setCell_other _ _ _ _ (by simp)).trans h.c0, (World.cell?_setCell_other _ _ _ _ (by simp)).trans h.c1, World.cell?_setCell_same _ _ _ h.c2, (World.cell?_setCell_other _ _ _ _ (by simp)).trans h.c3,
    fun x => (World.frozen?_setCell _ _ _ _).trans (h.fz x), grownBy_trans h.gr (grownBy_setCell _ _ _), by simpa [World.setCell] using h.sz⟩
def NPost (w : World) (p : Nat) (most a0 sl : Int) (e : Ending) (w' : World) : Prop :=
  ∃ r a' m' : Int, e = .returned (.int .i64 r) ∧ 0 ≤ r ∧ r < most ∧ a0 ≤ a' ∧ (a' ≤ sl ∨ a' = a0) ∧ 0 ≤ m' ∧ m' ≤ 18446744073709551615 ∧ NEnd w w' p a' m'
theorem mod_range {x most : Int} (h : 1 < most) (hm : most ≤ 9223372036854775807) (hx : 0 ≤ x) : 0 ≤ wrap64 (x.tmod most) ∧ wrap64 (x.tmod most) < most := by
  have h0 := Int.tmod_nonneg most hx
  have h1 := Int.tmod_lt_of_pos x (show 0 < most by omega)
  rw [IntWalk.wrap64_in _ ⟨by omega, by omega⟩]
  exact ⟨h0, h1⟩
theorem u64_range (x : Int) : 0 ≤ IntKind.u64.wrap x ∧ IntKind.u64.wrap x ≤ 18446744073709551615 := by rw [IntKind.wrap_u64]; omega
theorem xor64_range (x y : Int) : 0 ≤ bits .xor .u64 x y ∧ bits .xor .u64 x y ≤ 18446744073709551615 := bounds_u64 (wf_bits _ _ _ _)
end Go.Proofs.Ytomojokamaibaaa
/- What the model's sources of draws answer: whether, a number at some limit, any number. -/
namespace Go.Proofs.Ytomojokamaibaaa
open Go.RowKit G
set_option linter.unusedVariables false
theorem SrcC.lt {w : World} {p cb co sl sc : Nat} {sa : Option Addr} (h : SrcC w p cb co sl sc sa) : p < w.heap.size := by
  obtain ⟨_, _, _, c0, _⟩ := h.ex
  exact World.block_lt_of_cell? w _ c0
theorem Src.lt {w : World} {p : Nat} (h : Src w p) : p < w.heap.size := by
  obtain ⟨cb, co, sl, sc, sa, h⟩ := h; exact h.lt
/-- A source stays one where its block and that of its bytes are as they were. -/
theorem SrcC.kept {w w' : World} {p cb co sl sc : Nat} {sa : Option Addr} (h : SrcC w p cb co sl sc sa) (hb : w'.heap[p]? = w.heap[p]?) (hb' : 0 < sl → w'.heap[cb]? = w.heap[cb]?) : SrcC w' p cb co sl sc sa := by
  obtain ⟨a, mix, size, c0, c1, c2, c3, f0, f1, f2, f3, a0, a1, hsl, m0, m1, s0, s1, hsa, hcp, hz⟩ := h.ex
  have hc : ∀ o, w'.cell? ⟨p, o, none⟩ = w.cell? ⟨p, o, none⟩ := fun o => World.cell?_of_block hb
  have hf : ∀ o, w'.frozen? ⟨p, o, none⟩ = w.frozen? ⟨p, o, none⟩ := fun o => World.frozen?_of_block hb
  refine ⟨a, mix, size, (hc _).trans c0, (hc _).trans c1, (hc _).trans c2, (hc _).trans c3, (hf _).trans f0, (hf _).trans f1, (hf _).trans f2, (hf _).trans f3, a0, a1, hsl, m0, m1, s0, s1, hsa, hcp, fun i hi => ?_⟩
  obtain ⟨z, z0, z1, hz'⟩ := hz i hi
  exact ⟨z, z0, z1, (World.cell?_of_block (hb' (by omega))).trans hz'⟩
theorem SrcC.code {w : World} {p cb co sl sc : Nat} {sa : Option Addr} (h : SrcC w p cb co sl sc sa) (hs : 0 < sl) : cb < w.heap.size := by
  obtain ⟨a, mix, size, c0, c1, c2, c3, f0, f1, f2, f3, a0, a1, hsl, m0, m1, s0, s1, hsa, hcp, hz⟩ := h.ex
  obtain ⟨z, z0, z1, hz'⟩ := hz 0 hs
  exact World.block_lt_of_cell? w _ hz'
theorem Src.kept {w w' : World} {p : Nat} (h : Src w p) (hb : ∀ k, k < w.heap.size → w'.heap[k]? = w.heap[k]?) : Src w' p := by
  obtain ⟨cb, co, sl, sc, sa, h⟩ := h
  exact ⟨cb, co, sl, sc, sa, h.kept (hb p h.lt) (fun hs => hb cb (h.code hs))⟩
theorem Src.alloc {w : World} {p : Nat} (h : Src w p) (o : Obj) : Src (w.alloc o) p := h.kept fun k hk => Below.heap_alloc w o k hk
theorem Src.drew {w : World} {p : Nat} (h : Src w p) : Src w.drew p := h.kept fun _ _ => rfl
theorem Src.drewN {w : World} {p : Nat} (h : Src w p) (n : Nat) : Src (w.drewN n) p := h.kept fun _ _ => rfl
/-- What a draw leaves of all else. -/
structure Drawn (w w' : World) (p : Nat) : Prop where
  src : Src w' p
  gr : w.grownBy w' (some p)
theorem Drawn.trans {a b c : World} {p : Nat} (h : Drawn a b p) (k : Drawn b c p) : Drawn a c p := ⟨k.src, grownBy_trans h.gr k.gr⟩
def SomeI64 (w : World) (p : Nat) (e : Ending) (w' : World) : Prop := ∃ r : Int, e = .returned (.int .i64 r) ∧ (Lit.int .i64 r).wf = true ∧ Drawn w w' p
theorem grown_own {w wr w' : World} {p : Nat} {row : Option Nat} (h : w.grownBy wr (some p)) (k : wr.grownBy w' row) (hr : ∀ g, row = some g → w.heap.size ≤ g) : w.grownBy w' (some p) :=
  ⟨k.os.trans h.os, k.tape.trans h.tape, k.output.trans h.output, Nat.le_trans h.size k.size, fun i hi hp => (k.block i (Nat.lt_of_lt_of_le hi h.size) (fun e => by have := hr i e.symm; omega)).trans (h.block i hi hp)⟩
end Go.Proofs.Ytomojokamaibaaa
/- What the model's sources of draws answer: texts; and how a source is made. -/
namespace Go.Proofs.Ytomojokamaibaaa
open Go.RowKit G
set_option linter.unusedVariables false
section
variable {P : Program} {w : World}
/-- 's = append(s, u)', u of one cell, s the call's own: what the walk goes on with. -/
theorem append_one_g {ops : Array Oper} {rest : List Oper} {o : Oper} {a : Act} {Q : Exit → Act → World → Prop} (hgd : o.guard = none) (s x : Operand) (t : TypeId)
    (ho : o.op = .call { callee := .builtin .append, args := #[s, x], argTypes := #[t, t] })
    (e : TypeId) (i : TypeInfo) (z : Value) (bytes : Nat) (ht : P.underlying t = some (.slice e)) (hi : P.info? e = some i) (hz : i.zero = some z)
    (hsize : i.size = 1) (hby : i.bytes = bytes) (hzs : z.cells.size = 1)
    (B : Nat) (v : Value) (n : Nat) (xs : List Value) (hs : a.eval s = v) (hown : w.ownsRow B e 1 v n xs) (u : Value) (e' : TypeId) (hu : u.oneCell' = true)
    (hx : a.eval x = .slice (some ⟨w.heap.size, 0, none⟩) 1 1) (hB : B ≤ w.heap.size)
    (h63 : n + 1 ≤ maxLen) (hbytes : (n + 1) * bytes ≤ 140737488355328)
    (h : ∀ v' w', w'.ownsRow B e 1 v' (n + 1) (xs ++ [u]) → w.grownBy w' v.ownBlock → wpList P ops Q rest (a.put o.dst v') w') : wpList P ops Q (o :: rest) a (w.alloc (.cells #[u] e')) := by
  refine wpList_append_own _ hgd s x t ho B e i z 1 bytes ht hi hz hsize hby hzs (by decide) v n xs hs (hown.alloc _) ⟨w.heap.size, 0, none⟩ 1 1 [u] hx rfl ?_ ?_ h63 hbytes (by simp; omega) ?_
  · intro j y hj
    match j, hj with
    | 0, hj => simp at hj; subst hj; simp [Addr.add]
  · intro y hy; simp at hy; subst hy; exact hu
  · intro v' w' h1 h2 _
    exact h v' w' h1 (grownBy_trans (World.grownBy_alloc w _ _) h2)
end
end Go.Proofs.Ytomojokamaibaaa
/- How a source of draws is made. -/
namespace Go.Proofs.Ytomojokamaibaaa
open Go.RowKit G
set_option linter.unusedVariables false
/-- A list of bytes that came in. -/
def CodeAt (w : World) (ao : Option Addr) (len : Nat) : Prop := ∃ cb co : Nat, (0 < len → ao = some ⟨cb, co, none⟩) ∧ ∀ i, i < len → ∃ z : Int, 0 ≤ z ∧ z ≤ 255 ∧ w.cell? ⟨cb, co + i, none⟩ = some (.int .u8 z)
theorem CodeAt.below {w w' : World} {ao : Option Addr} {len : Nat} (h : CodeAt w ao len) (hb : Below w.heap.size w w') : CodeAt w' ao len := by
  obtain ⟨cb, co, ha, hc⟩ := h
  refine ⟨cb, co, ha, fun i hi => ?_⟩
  obtain ⟨z, z0, z1, hz⟩ := hc i hi
  exact ⟨z, z0, z1, (hb.cell (World.block_lt_of_cell? w _ hz)).trans hz⟩
end Go.Proofs.Ytomojokamaibaaa
/- What the model's draws of chapter 2 answer: a number; texts that are not too long; nothing that was there turns. -/
namespace Go.Proofs.Ytomojokamaibaaa
open Go.RowKit G
set_option linter.unusedVariables false
theorem below_drawn {B p : Nat} {w w1 w2 : World} (h : Below B w w1) (hB : B ≤ w.heap.size) (hp : B ≤ p) (hD : Drawn w1 w2 p) : Below B w w2 :=
  h.grown hD.gr (Nat.le_trans hB h.size) (fun k hk => by injection hk with hk; omega)
theorem made_zero (n : Nat) : (madeCells (Value.int .u8 0).cells (n * 1)).toList = (List.replicate n (0 : Int)).map (Value.int .u8) := by
  apply List.ext_getElem
  · simp [size_madeCells]
  · intro i h1 h2
    simp [madeCells, Value.cells, Nat.mod_one]
def SomeNum (w : World) (e : Ending) (w' : World) : Prop := ∃ r : Int, e = .returned (.int .i64 r) ∧ (Lit.int .i64 r).wf = true ∧ Below w.heap.size w w'
def SomeText (n : Nat) (w : World) (e : Ending) (w' : World) : Prop := ∃ x : ByteArray, e = .returned (.string x) ∧ x.size ≤ n ∧ Below w.heap.size w w'
end Go.Proofs.Ytomojokamaibaaa
