/- What the model's sources of draws answer: numbers in their range; no memory is written but the source's own. -/
import Derived.Test.YtfplfkebamgniaaBase
import Derived.BigQuiet
import Derived.Deep.QuietTactic
import Derived.RegionTactic
import Derived.WalkSmall
import Derived.OpenShut
import Derived.IntWalk
namespace Go.Proofs.Ytfplfkebamgniaa
open Go.RowKit G
set_option linter.unusedVariables false
theorem setCell_setCell (w : World) (b o : Nat) (u v : Value) : (w.setCell ⟨b, o, none⟩ u).setCell ⟨b, o, none⟩ v = w.setCell ⟨b, o, none⟩ v := by
  unfold World.setCell
  congr 1
  apply Array.ext_getElem?
  intro i
  simp only [Array.getElem?_modify]
  split
  · cases w.heap[i]? with
    | none => rfl
    | some x => cases x <;> simp [Array.setIfInBounds_setIfInBounds]
  · rfl
/-- A source lies at block p; the bytes that it draws from lie in block cb. -/
structure SrcC (w : World) (p cb co sl sc : Nat) (sa : Option Addr) : Prop where
  ex : ∃ (a mix size : Int), w.cell? ⟨p, 0, none⟩ = some (.slice sa sl sc) ∧ w.cell? ⟨p, 1, none⟩ = some (.int .i64 a) ∧ w.cell? ⟨p, 2, none⟩ = some (.int .u64 mix) ∧ w.cell? ⟨p, 3, none⟩ = some (.int .i64 size) ∧
    w.frozen? ⟨p, 0, none⟩ = false ∧ w.frozen? ⟨p, 1, none⟩ = false ∧ w.frozen? ⟨p, 2, none⟩ = false ∧ w.frozen? ⟨p, 3, none⟩ = false ∧
    0 ≤ a ∧ a ≤ sl ∧ sl ≤ 1048576 ∧ 0 ≤ mix ∧ mix ≤ 18446744073709551615 ∧ 0 ≤ size ∧ size ≤ 12 ∧ (0 < sl → sa = some ⟨cb, co, none⟩) ∧ cb ≠ p ∧
    ∀ i, i < sl → ∃ z : Int, 0 ≤ z ∧ z ≤ 255 ∧ w.cell? ⟨cb, co + i, none⟩ = some (.int .u8 z)
def Src (w : World) (p : Nat) : Prop := ∃ cb co sl sc sa, SrcC w p cb co sl sc sa
set_option maxHeartbeats 1600000 in
theorem n_small (p : Nat) (most : Int) (w : World) (h : most ≤ 1) :
    Calls Try.prog 61 #[.pointer (some ⟨p, 0, none⟩), .int .i64 most] w fun e w' => e = .returned (.int .i64 0) ∧ w = w' := by
  go_enter Try.func61, Try.ntmps61
  go_wp2_with fail
  go_ret
  exact ⟨rfl, rfl⟩
/-- What a draw leaves of the source, and of all else. -/
structure NEnd (w w' : World) (p : Nat) (a' m' : Int) : Prop where
  c0 : w'.cell? ⟨p, 0, none⟩ = w.cell? ⟨p, 0, none⟩
  c1 : w'.cell? ⟨p, 1, none⟩ = some (.int .i64 a')
  c2 : w'.cell? ⟨p, 2, none⟩ = some (.int .u64 m')
  c3 : w'.cell? ⟨p, 3, none⟩ = w.cell? ⟨p, 3, none⟩
  fz : ∀ x, w'.frozen? x = w.frozen? x
  gr : w.grownBy w' (some p)
  sz : w'.heap.size = w.heap.size
theorem NEnd.drew {w w' : World} {p : Nat} {a m : Int} (h : NEnd w w' p a m) : NEnd w w'.drew p a m :=
  ⟨h.c0, h.c1, h.c2, h.c3, h.fz, ⟨h.gr.os, h.gr.tape, h.gr.output, h.gr.size, h.gr.block⟩, h.sz⟩
theorem NEnd.drewN {w w' : World} {p : Nat} {a m : Int} (h : NEnd w w' p a m) (k : Nat) : NEnd w (w'.drewN k) p a m :=
  ⟨h.c0, h.c1, h.c2, h.c3, h.fz, ⟨h.gr.os, h.gr.tape, h.gr.output, h.gr.size, h.gr.block⟩, h.sz⟩
theorem NEnd.start {w : World} {p : Nat} {a m : Int} (h1 : w.cell? ⟨p, 1, none⟩ = some (.int .i64 a)) (h2 : w.cell? ⟨p, 2, none⟩ = some (.int .u64 m)) : NEnd w w p a m :=
  ⟨rfl, h1, h2, rfl, fun _ => rfl, ⟨rfl, rfl, rfl, Nat.le_refl _, fun _ _ _ => rfl⟩, rfl⟩
theorem grownBy_setCell (w : World) (a : Addr) (v : Value) : w.grownBy (w.setCell a v) (some a.block) :=
  ⟨rfl, rfl, rfl, by simp [World.setCell], fun k _ hk => Below.heap_setCell _ _ _ _ (by intro e; exact hk (by rw [e]))⟩
theorem grownBy_trans {a b c : World} {row : Option Nat} (h : a.grownBy b row) (k : b.grownBy c row) : a.grownBy c row :=
  ⟨k.os.trans h.os, k.tape.trans h.tape, k.output.trans h.output, Nat.le_trans h.size k.size, fun i hi hr => (k.block i (Nat.lt_of_lt_of_le hi h.size) hr).trans (h.block i hi hr)⟩
theorem NEnd.set1 {w w' : World} {p : Nat} {a m b : Int} (h : NEnd w w' p a m) : NEnd w (w'.setCell ⟨p, 1, none⟩ (.int .i64 b)) p b m :=
  ⟨(World.cell?_setCell_other _ _ _ _ (by simp)).trans h.c0, World.cell?_setCell_same _ _ _ h.c1, (World.cell?_setCell_other _ _ _ _ (by simp)).trans h.c2, (World.cell?_setCell_other _ _ _ _ (by simp)).trans h.c3,
    fun x => (World.frozen?_setCell _ _ _ _).trans (h.fz x), grownBy_trans h.gr (grownBy_setCell _ _ _), by simpa [World.setCell] using h.sz⟩
theorem NEnd.set2 {w w' : World} {p : Nat} {a m b : Int} (h : NEnd w w' p a m) : NEnd w (w'.setCell ⟨p, 2, none⟩ (.int .u64 b)) p a b :=
  ⟨(World.cell?_setCell_other _ _ _ _ (by simp)).trans h.c0, (World.cell?_setCell_other _ _ _ _ (by simp)).trans h.c1, World.cell?_setCell_same _ _ _ h.c2, (World.cell?_setCell_other _ _ _ _ (by simp)).trans h.c3,
    fun x => (World.frozen?_setCell _ _ _ _).trans (h.fz x), grownBy_trans h.gr (grownBy_setCell _ _ _), by simpa [World.setCell] using h.sz⟩
def NPost (w : World) (p : Nat) (most a0 sl : Int) (e : Ending) (w' : World) : Prop :=
  ∃ r a' m' : Int, e = .returned (.int .i64 r) ∧ 0 ≤ r ∧ r < most ∧ a0 ≤ a' ∧ (a' ≤ sl ∨ a' = a0) ∧ 0 ≤ m' ∧ m' ≤ 18446744073709551615 ∧ NEnd w w' p a' m'
theorem mod_range {x most : Int} (h : 1 < most) (hm : most ≤ 9223372036854775807) (hx : 0 ≤ x) : 0 ≤ wrap64 (x.tmod most) ∧ wrap64 (x.tmod most) < most := by
  have h0 := Int.tmod_nonneg most hx
  have h1 := Int.tmod_lt_of_pos x (show 0 < most by omega)
  rw [IntWalk.wrap64_in _ ⟨by omega, by omega⟩]
  exact ⟨h0, h1⟩
theorem u64_range (x : Int) : 0 ≤ IntKind.u64.wrap x ∧ IntKind.u64.wrap x ≤ 18446744073709551615 := by rw [IntKind.wrap_u64]; omega
theorem xor64_range (x y : Int) : 0 ≤ bits .xor .u64 x y ∧ bits .xor .u64 x y ≤ 18446744073709551615 := bounds_u64 (wf_bits _ _ _ _)
set_option maxHeartbeats 1600000 in
theorem n_t (p sl sc : Nat) (sa : Option Addr) (a mix most : Int) (w : World) (h : 1 < most) (hm : most ≤ 9223372036854775807)
    (c0 : w.cell? ⟨p, 0, none⟩ = some (.slice sa sl sc)) (c1 : w.cell? ⟨p, 1, none⟩ = some (.int .i64 a)) (c2 : w.cell? ⟨p, 2, none⟩ = some (.int .u64 mix))
    (f1 : w.frozen? ⟨p, 1, none⟩ = false) (f2 : w.frozen? ⟨p, 2, none⟩ = false) (hm0 : 0 ≤ mix) (hm1 : mix ≤ 18446744073709551615) (hsl : sl ≤ 1048576)
    (ha : (sl : Int) ≤ a) :
    Calls Try.prog 61 #[.pointer (some ⟨p, 0, none⟩), .int .i64 most] w (NPost w p most a sl) := by
  have hss : ∀ (W : World) (u v : Value), (W.setCell ⟨p, 2, none⟩ u).setCell ⟨p, 2, none⟩ v = W.setCell ⟨p, 2, none⟩ v := fun W u v => setCell_setCell W p 2 u v
  have HN := Lib.hid (NEnd.start c1 c2)
  go_enter Try.func61, Try.ntmps61
  go_wp2_with fail
  go_quiet (fail)
  go_wp2_with fail
  go_region
  go_wp2_with fail
  go_region
  go_wp2_with fail
  go_region
  go_wp2_with fail
  go_ret
  exact ⟨_, _, _, rfl, (mod_range h hm (u64_range _).1).1, (mod_range h hm (u64_range _).1).2, Int.le_refl _, Or.inr rfl, (xor64_range _ _).1, (xor64_range _ _).2, ((HN.out.drewN _).set2).drew.drew⟩
set_option maxHeartbeats 3200000 in
theorem n_u (p sl sc cb co k : Nat) (mix most z : Int) (w : World) (h : 1 < most) (hm : most ≤ 9223372036854775807)
    (c0 : w.cell? ⟨p, 0, none⟩ = some (.slice (some ⟨cb, co, none⟩) sl sc)) (c1 : w.cell? ⟨p, 1, none⟩ = some (.int .i64 k)) (c2 : w.cell? ⟨p, 2, none⟩ = some (.int .u64 mix))
    (f1 : w.frozen? ⟨p, 1, none⟩ = false) (f2 : w.frozen? ⟨p, 2, none⟩ = false) (hm0 : 0 ≤ mix) (hm1 : mix ≤ 18446744073709551615) (hsl : sl ≤ 1048576)
    (ha : k < sl) (hcp : cb ≠ p) (hz0 : 0 ≤ z) (hz1 : z ≤ 255) (cz : w.cell? ⟨cb, co + k, none⟩ = some (.int .u8 z)) :
    Calls Try.prog 61 #[.pointer (some ⟨p, 0, none⟩), .int .i64 most] w (NPost w p most k sl) := by
  have hss : ∀ (W : World) (u v : Value), (W.setCell ⟨p, 2, none⟩ u).setCell ⟨p, 2, none⟩ v = W.setCell ⟨p, 2, none⟩ v := fun W u v => setCell_setCell W p 2 u v
  have HN := Lib.hid (NEnd.start c1 c2)
  go_enter Try.func61, Try.ntmps61
  go_wp2_with fail
  go_quiet (fail)
  go_wp2_with fail
  go_quiet (fail)
  go_wp2_with fail
  go_region
  go_wp2_with fail
  go_region
  go_wp2_with fail
  go_region
  go_wp2_with fail
  go_ret
  exact ⟨_, (k : Int) + 1, _, rfl, (mod_range h hm (u64_range _).1).1, (mod_range h hm (u64_range _).1).2, by omega, Or.inl (by omega), (xor64_range _ _).1, (xor64_range _ _).2, (((HN.out.drewN _).set1).set2).drew.drew.drew⟩
/-- A draw from a source: a number below most, or 0; the source is still one, and nothing else turns. -/
theorem n_c (p cb co sl sc : Nat) (sa : Option Addr) (most : Int) (w : World) (hS : SrcC w p cb co sl sc sa) (hm : most ≤ 9223372036854775807) :
    Calls Try.prog 61 #[.pointer (some ⟨p, 0, none⟩), .int .i64 most] w fun e w' => ∃ r : Int, e = .returned (.int .i64 r) ∧ 0 ≤ r ∧ (r < most ∨ r = 0) ∧ SrcC w' p cb co sl sc sa ∧ w.grownBy w' (some p) ∧ w'.heap.size = w.heap.size := by
  by_cases h : 1 < most
  · obtain ⟨a, mix, size, c0, c1, c2, c3, f0, f1, f2, f3, a0, a1, hsl, m0, m1, s0, s1, hsa, hcp, hz⟩ := hS.ex
    have done : ∀ e w', NPost w p most a sl e w' → ∃ r : Int, e = .returned (.int .i64 r) ∧ 0 ≤ r ∧ (r < most ∨ r = 0) ∧ SrcC w' p cb co sl sc sa ∧ w.grownBy w' (some p) ∧ w'.heap.size = w.heap.size := by
      rintro e w' ⟨r, a', m', he, r0, r1, ha0, ha1, hm0, hm1, hN⟩
      refine ⟨r, he, r0, Or.inl r1, ⟨a', m', size, hN.c0.trans c0, hN.c1, hN.c2, hN.c3.trans c3, (hN.fz _).trans f0, (hN.fz _).trans f1, (hN.fz _).trans f2, (hN.fz _).trans f3, by omega, by omega, hsl, hm0, hm1, s0, s1, hsa, hcp, fun i hi => ?_⟩, hN.gr, hN.sz⟩
      obtain ⟨z, z0, z1, hc⟩ := hz i hi
      exact ⟨z, z0, z1, hN.gr.cell hc (by simp; exact hcp)⟩
    by_cases ha : a < sl
    · obtain ⟨k, rfl⟩ := Int.eq_ofNat_of_zero_le a0
      obtain rfl := hsa (by omega)
      obtain ⟨z, z0, z1, hc⟩ := hz k (by omega)
      exact (n_u p sl sc cb co k mix most z w h hm c0 c1 c2 f1 f2 m0 m1 hsl (by omega) hcp z0 z1 hc).mono done
    · exact (n_t p sl sc sa a mix most w h hm c0 c1 c2 f1 f2 m0 m1 hsl (by omega)).mono done
  · refine (n_small p most w (by omega)).mono ?_
    rintro e w' ⟨rfl, rfl⟩
    exact ⟨0, rfl, by omega, Or.inr rfl, hS, ⟨rfl, rfl, rfl, Nat.le_refl _, fun _ _ _ => rfl⟩, rfl⟩
theorem n_any (p : Nat) (most : Int) (w : World) (hS : Src w p) (hm : most ≤ 9223372036854775807) :
    Calls Try.prog 61 #[.pointer (some ⟨p, 0, none⟩), .int .i64 most] w fun e w' => ∃ r : Int, e = .returned (.int .i64 r) ∧ 0 ≤ r ∧ (r < most ∨ r = 0) ∧ Src w' p ∧ w.grownBy w' (some p) ∧ w'.heap.size = w.heap.size := by
  obtain ⟨cb, co, sl, sc, sa, h⟩ := hS
  refine (n_c p cb co sl sc sa most w h hm).mono ?_
  rintro e w' ⟨r, he, r0, r1, hS', hg, hz⟩
  exact ⟨r, he, r0, r1, ⟨cb, co, sl, sc, sa, hS'⟩, hg, hz⟩
end Go.Proofs.Ytfplfkebamgniaa
