/- Texts put together. -/
import Derived.Test.YtdnbkjiijpeiiaaDoorDrawSA
import Derived.Test.YtdnbkjiijpeiiaaDoorEnvD
namespace Go.Proofs.YtdnbkjiijpeiiaaDoor
open Go.RowKit Go.PlainAid G MGF IRow MNum
set_option linter.unusedVariables false
theorem own5c {w : World} {base h : Nat} {T : TypeId} {v0 v1 v2 v3 v4 : Value} (k : w.ownsRow base T 5 (.slice (some ⟨h, 0, none⟩) 1 1) 1 [v0, v1, v2, v3, v4]) : w.cell? ⟨h, 0, none⟩ = some v0 ∧ w.cell? ⟨h, 1, none⟩ = some v1 ∧ w.cell? ⟨h, 2, none⟩ = some v2 ∧ w.cell? ⟨h, 3, none⟩ = some v3 ∧ w.cell? ⟨h, 4, none⟩ = some v4 ∧ w.frozen? ⟨h, 0, none⟩ = false ∧ w.frozen? ⟨h, 1, none⟩ = false ∧ w.frozen? ⟨h, 2, none⟩ = false ∧ w.frozen? ⟨h, 3, none⟩ = false ∧ w.frozen? ⟨h, 4, none⟩ = false :=
  ⟨(by rw [k.cellAt 0 (by decide)]; rfl), (by rw [k.cellAt 1 (by decide)]; rfl), (by rw [k.cellAt 2 (by decide)]; rfl), (by rw [k.cellAt 3 (by decide)]; rfl), (by rw [k.cellAt 4 (by decide)]; rfl), k.frozenAt 0, k.frozenAt 1, k.frozenAt 2, k.frozenAt 3, k.frozenAt 4⟩
theorem DrawnC.refl {w : World} {p cb co sl sc : Nat} {sa : Option Addr} (h : SrcC w p cb co sl sc sa) : DrawnC w w p cb co sl sc sa := ⟨h, World.grownBy.refl _ _⟩
theorem DrawnC.set {w u : World} {p cb co sl sc h i : Nat} {sa : Option Addr} {v : Value} (hD : DrawnC w u p cb co sl sc sa) (hp : p < w.heap.size) (hcb : 0 < sl → cb < w.heap.size) (hh : w.heap.size ≤ h) : DrawnC w (u.setCell ⟨h, i, none⟩ v) p cb co sl sc sa :=
  ⟨hD.src.grown hp hcb (grown_set u h i v) (fun k hk => by cases hk; exact hh), grown_own hD.gr (grown_set u h i v) (fun g hg => by cases hg; exact hh)⟩
/-- An envelope that is drawn. -/
def SomeEnvC (w : World) (p cb co sl sc : Nat) (sa : Option Addr) (e : Ending) (w' : World) : Prop :=
  ∃ (g n m x : Int) (t : ByteArray), e = .returned (.agg #[.int .i64 g, .int .i64 n, .int .i64 m, .int .i64 x, .string t]) ∧ (0 ≤ m ∧ m ≤ 8) ∧ t.size ≤ 17 ∧ DrawnC w w' p cb co sl sc sa
set_option maxRecDepth 100000 in
set_option maxHeartbeats 1600000 in
theorem envOf_c (p cb co sl sc : Nat) (sa : Option Addr) (w : World) (hS : SrcC w p cb co sl sc sa) :
    Calls Tryd.prog 24 #[.pointer (some ⟨p, 0, none⟩)] w (SomeEnvC w p cb co sl sc sa) := by
  have hp := hS.lt
  have hcb := hS.code
  obtain ⟨W, hW⟩ : ∃ W, W = w.alloc (.cells #[.int .i64 0, .int .i64 0, .int .i64 0, .int .i64 0, .string ⟨#[]⟩] 24) := ⟨_, rfl⟩
  obtain ⟨h, hh⟩ : ∃ h, h = w.heap.size := ⟨_, rfl⟩
  have HO0 : Hid (W.ownsRow h 24 5 (.slice (some ⟨h, 0, none⟩) 1 1) 1 [.int .i64 0, .int .i64 0, .int .i64 0, .int .i64 0, .string ⟨#[]⟩]) := Lib.hid (by
    rw [hW, hh]
    exact World.ownsRow_lit w #[.int .i64 0, .int .i64 0, .int .i64 0, .int .i64 0, .string ⟨#[]⟩] 1 (Nat.le_refl _) (by decide) rfl)
  have HD0 : Hid (DrawnC w W p cb co sl sc sa) := Lib.hid (by rw [hW]; exact (DrawnC.refl hS).below ((Below.refl _ _).alloc (Nat.le_refl _) _))
  have hne : h ≠ p := by omega
  have hhw : w.heap.size ≤ h := by omega
  clear hS
  go_enter Tryd.func24, Tryd.ntmps24
  go_wp2_with fail
  rw [← hW, ← hh]
  clear hW hh
  refine (n_c p cb co sl sc sa 4 _ HD0.out.src (by omega)).mono ?_
  rintro e w1 ⟨r, rfl, r0, r1, hS1, hg, hz⟩
  have rh : r ≤ 3 := by omega
  have HD1 := Lib.hid (HD0.out.trans ⟨hS1, hg⟩)
  have HO1 := Lib.hid (own_kept HO0.out hg hne)
  clear r1 hg hz hS1 HD0 HO0
  have hw1 : IntKind.i64.wrap (1 + r) = 1 + r := by rw [IntWalk.i64_in _ (by omega)]
  go_wp2_with fail
  obtain ⟨n, hn⟩ : ∃ n, n = 1 + r := ⟨_, rfl⟩
  rw [← hn]
  have hn1 : 1 ≤ n := by omega
  have hn2 : n ≤ 4 := by omega
  clear hw1 hn r0 rh
  refine (n_c p cb co sl sc sa 4 _ HD1.out.src (by omega)).mono ?_
  rintro e w2 ⟨r, rfl, r0, r1, hS1, hg, hz⟩
  have rh : r ≤ 3 := by omega
  have HD2 := Lib.hid (HD1.out.trans ⟨hS1, hg⟩)
  have HO2 := Lib.hid (own_kept HO1.out hg hne)
  clear r1 hg hz hS1 HD1 HO1
  have hw1 : IntKind.i64.wrap (n + r) = n + r := by rw [IntWalk.i64_in _ (by omega)]
  go_wp2_with fail
  obtain ⟨m, hm⟩ : ∃ m, m = n + r := ⟨_, rfl⟩
  rw [← hm]
  have hm1 : 1 ≤ m := by omega
  have hm2 : m ≤ 7 := by omega
  clear hw1 hm r0 rh
  refine (n_c p cb co sl sc sa 3 _ HD2.out.src (by omega)).mono ?_
  rintro e w3 ⟨r, rfl, r0, r1, hS1, hg, hz⟩
  have rh : r ≤ 2 := by omega
  have HD3 := Lib.hid (HD2.out.trans ⟨hS1, hg⟩)
  have HO3 := Lib.hid (own_kept HO2.out hg hne)
  clear r1 hg hz hS1 HD2 HO2
  have hw1 : IntKind.i64.wrap (1 + r) = 1 + r := by rw [IntWalk.i64_in _ (by omega)]
  go_wp2_with fail
  obtain ⟨g, hg⟩ : ∃ g, g = 1 + r := ⟨_, rfl⟩
  rw [← hg]
  clear hw1 hg r0 rh
  refine (n_c p cb co sl sc sa m _ HD3.out.src (by omega)).mono ?_
  rintro e w4 ⟨r, rfl, r0, r1, hS1, hg, hz⟩
  have rh : r ≤ 7 := by omega
  have HD4 := Lib.hid (HD3.out.trans ⟨hS1, hg⟩)
  have HO4 := Lib.hid (own_kept HO3.out hg hne)
  clear r1 hg hz hS1 HD3 HO3
  have hw1 : IntKind.i64.wrap (1 + r) = 1 + r := by rw [IntWalk.i64_in _ (by omega)]
  go_wp2_with fail
  obtain ⟨x, hx⟩ : ∃ x, x = 1 + r := ⟨_, rfl⟩
  rw [← hx]
  clear hw1 hx r0 rh
  refine (n_c p cb co sl sc sa 5 _ HD4.out.src (by omega)).mono ?_
  rintro e w5 ⟨r, rfl, r0, r1, hS1, hg, hz⟩
  have rh : r ≤ 4 := by omega
  have HD5 := Lib.hid (HD4.out.trans ⟨hS1, hg⟩)
  have HO5 := Lib.hid (own_kept HO4.out hg hne)
  clear r1 hg hz hS1 HD4 HO4
  have hw1 : IntKind.i64.wrap (1 + r) = 1 + r := by rw [IntWalk.i64_in _ (by omega)]
  go_wp2_with fail
  refine (bytes_c p cb co sl sc sa (1 + r) _ HD5.out.src (by omega)).mono ?_
  rintro e w6 ⟨t, rfl, ht, hD⟩
  have HT : Hid (t.size ≤ 5) := Lib.hid (by omega)
  have HD6 := Lib.hid (HD5.out.trans hD)
  have HO6 := Lib.hid (own_kept HO5.out hD.gr hne)
  clear ht hD HD5 HO5
  clear hw1 r0 rh
  obtain ⟨q0, q1, q2, q3, q4, f0, f1, f2, f3, f4⟩ := own5c HO6.out
  have HP := Lib.hid (put5 (v0 := .int .i64 g) (v1 := .int .i64 n) (v2 := .int .i64 m) (v3 := .int .i64 x) (v4 := .string t) q0 q1 q2 q3 q4)
  have HDF := Lib.hid (((((HD6.out.set (h := h) (i := 0) (v := .int .i64 g) hp hcb hhw).set (h := h) (i := 1) (v := .int .i64 n) hp hcb hhw).set (h := h) (i := 2) (v := .int .i64 m) hp hcb hhw).set (h := h) (i := 3) (v := .int .i64 x) hp hcb hhw).set (h := h) (i := 4) (v := .string t) hp hcb hhw)
  go_wp2_with fail
  obtain ⟨r0, r1, r2, r3, r4⟩ := HP.out
  clear q0 q1 q2 q3 q4
  exact bodyPost_ret (v := .agg #[.int .i64 g, .int .i64 n, .int .i64 m, .int .i64 x, .string t]) (by simp [results, Tryd.results24, go_sem, r0, r1, r2, r3, r4]) rfl ⟨_, _, _, _, _, rfl, ⟨by omega, by omega⟩, Nat.le_trans HT.out (by decide), HDF.out⟩
set_option maxRecDepth 100000 in
set_option maxHeartbeats 3200000 in
theorem env_c (p cb co sl sc : Nat) (sa : Option Addr) (w : World) (hS : SrcC w p cb co sl sc sa) :
    Calls Tryd.prog 19 #[.pointer (some ⟨p, 0, none⟩)] w (SomeEnvC w p cb co sl sc sa) := by
  have hp := hS.lt
  have hcb := hS.code
  obtain ⟨W, hW⟩ : ∃ W, W = w.alloc (.cells #[.int .i64 0, .int .i64 0, .int .i64 0, .int .i64 0, .string ⟨#[]⟩] 24) := ⟨_, rfl⟩
  obtain ⟨h, hh⟩ : ∃ h, h = w.heap.size := ⟨_, rfl⟩
  have HO0 : Hid (W.ownsRow h 24 5 (.slice (some ⟨h, 0, none⟩) 1 1) 1 [.int .i64 0, .int .i64 0, .int .i64 0, .int .i64 0, .string ⟨#[]⟩]) := Lib.hid (by
    rw [hW, hh]
    exact World.ownsRow_lit w #[.int .i64 0, .int .i64 0, .int .i64 0, .int .i64 0, .string ⟨#[]⟩] 1 (Nat.le_refl _) (by decide) rfl)
  have HD0 : Hid (DrawnC w W p cb co sl sc sa) := Lib.hid (by rw [hW]; exact (DrawnC.refl hS).below ((Below.refl _ _).alloc (Nat.le_refl _) _))
  have hne : h ≠ p := by omega
  have hhw : w.heap.size ≤ h := by omega
  clear hS
  go_enter Tryd.func19, Tryd.ntmps19
  go_wp2_with fail
  rw [← hW, ← hh]
  clear hW hh
  refine (envOf_c p cb co sl sc sa _ HD0.out.src).mono ?_
  rintro e w1 ⟨g, n, m, x, t, rfl, ⟨hm1, hm2⟩, ht, hD⟩
  have HT := Lib.hid ht
  have hlt1 : h < w1.heap.size := (own_kept HO0.out hD.gr hne).lt h rfl |>.2
  have hp1 : p < w1.heap.size := Nat.lt_of_lt_of_le hp (HD0.out.trans hD).gr.size
  have HO1 := Lib.hid ((own_kept HO0.out hD.gr hne).alloc (.cells #[.int .i64 g, .int .i64 n, .int .i64 m, .int .i64 x, .string t] 24))
  have HE1 : Hid ((w1.alloc (.cells #[.int .i64 g, .int .i64 n, .int .i64 m, .int .i64 x, .string t] 24)).ownsRow w1.heap.size 24 5 (.slice (some ⟨w1.heap.size, 0, none⟩) 1 1) 1 [.int .i64 g, .int .i64 n, .int .i64 m, .int .i64 x, .string t]) := Lib.hid (World.ownsRow_lit w1 #[.int .i64 g, .int .i64 n, .int .i64 m, .int .i64 x, .string t] 1 (Nat.le_refl _) (by decide) rfl)
  have HD1 := Lib.hid ((HD0.out.trans hD).below ((Below.refl _ _).alloc (Nat.le_refl _) (.cells #[.int .i64 g, .int .i64 n, .int .i64 m, .int .i64 x, .string t] 24)))
  have hne2 : w1.heap.size ≠ p := by omega
  have hhe : h ≠ w1.heap.size := by omega
  have hwe : w.heap.size ≤ w1.heap.size := by omega
  clear ht hD HO0 HD0
  go_wp2_with fail
  generalize w1.alloc (.cells #[.int .i64 g, .int .i64 n, .int .i64 m, .int .i64 x, .string t] 24) = wl at *
  obtain ⟨he, hhe1⟩ : ∃ he, he = w1.heap.size := ⟨_, rfl⟩
  rw [← hhe1] at HE1 hne2 hhe hwe ⊢
  clear hhe1 hlt1 hp1
  refine (n_c p cb co sl sc sa 12 _ HD1.out.src (by omega)).mono ?_
  rintro e w2 ⟨r, rfl, r0, r1, hS1, hg, hz⟩
  have rh : r ≤ 11 := by omega
  have HD2 := Lib.hid (HD1.out.trans ⟨hS1, hg⟩)
  have HO2 := Lib.hid (own_kept HO1.out hg hne)
  have HE2 := Lib.hid (own_kept HE1.out hg hne2)
  clear r1 hg hz hS1 HD1 HO1 HE1
  by_cases h0 : r = 0
  · subst h0
    go_wp2_with fail
    have hp2 : p < w2.heap.size := Nat.lt_of_lt_of_le hp HD2.out.gr.size
    have HB2 := Lib.hid ((Below.refl w2.heap.size w2).alloc (Nat.le_refl _) (.cells #[.int .i64 0, .int .i64 999, .int .i64 1000] 2))
    have hS8 := HD2.out.src.below HB2.out
    refine (n_c p cb co sl sc sa 3 _ hS8 (by omega)).mono ?_
    rintro e w3 ⟨q, rfl, q0', q1', hS9, hg, hz⟩
    have hcl := lit_cells w2 _ _ hp2 hg
    have HD3 := Lib.hid ((HD2.out.below HB2.out).trans ⟨hS9, hg⟩)
    have HO3 := Lib.hid (own_kept (own_below HO2.out HB2.out) hg hne)
    have HE3 := Lib.hid (own_kept (own_below HE2.out HB2.out) hg hne2)
    have hq : q = 0 ∨ q = 1 ∨ q = 2 := by omega
    clear hS8 hS9 hg hz q0' q1' HB2
    have l0 := hcl 0
    have l1 := hcl 1
    have l2 := hcl 2
    simp only [List.getElem?_toArray, List.getElem?_cons_zero, List.getElem?_cons_succ] at l0 l1 l2
    clear hcl
    rcases hq with rfl | rfl | rfl
    · skip
      obtain ⟨d0, d1, d2, d3, d4, z0, z1, z2, z3, z4⟩ := own5c HE3.out
      have HEs := Lib.hid (show (w3.setCell ⟨he, 0, none⟩ (.int .i64 0)).ownsRow he 24 5 (.slice (some ⟨he, 0, none⟩) 1 1) 1 [.int .i64 0, .int .i64 n, .int .i64 m, .int .i64 x, .string t] from (HE3.out.stored 0 (.int .i64 0)).1)
      have HOs := Lib.hid (own_other (b := he) HO3.out (fun q hq => by simp only [Value.ownBlock, Option.some.injEq] at hq; omega) ⟨he, 0, none⟩ (.int .i64 0) rfl)
      have HDs := Lib.hid (HD3.out.set (h := he) (i := 0) (v := .int .i64 0) hp hcb hwe)
      clear d1 z1 d2 z2 d3 z3 d4 z4
      obtain ⟨e0, e1, e2, e3, e4, y0, y1, y2, y3, y4⟩ := own5c HEs.out
      obtain ⟨q0, q1, q2, q3, q4, f0, f1, f2, f3, f4⟩ := own5c HOs.out
      have HP := Lib.hid (put5 (v0 := .int .i64 0) (v1 := .int .i64 n) (v2 := .int .i64 m) (v3 := .int .i64 x) (v4 := .string t) q0 q1 q2 q3 q4)
      have HDF := Lib.hid (((((HDs.out.set (h := h) (i := 0) (v := .int .i64 0) hp hcb hhw).set (h := h) (i := 1) (v := .int .i64 n) hp hcb hhw).set (h := h) (i := 2) (v := .int .i64 m) hp hcb hhw).set (h := h) (i := 3) (v := .int .i64 x) hp hcb hhw).set (h := h) (i := 4) (v := .string t) hp hcb hhw)
      clear y0 y1 y2 y3 y4
      go_wp2_with fail
      obtain ⟨r0, r1, r2, r3, r4⟩ := HP.out
      exact bodyPost_ret (v := .agg #[.int .i64 0, .int .i64 n, .int .i64 m, .int .i64 x, .string t]) (by simp [results, Tryd.results19, go_sem, r0, r1, r2, r3, r4]) rfl ⟨_, _, _, _, _, rfl, ⟨by omega, by omega⟩, HT.out, HDF.out⟩
    · skip
      obtain ⟨d0, d1, d2, d3, d4, z0, z1, z2, z3, z4⟩ := own5c HE3.out
      have HEs := Lib.hid (show (w3.setCell ⟨he, 0, none⟩ (.int .i64 999)).ownsRow he 24 5 (.slice (some ⟨he, 0, none⟩) 1 1) 1 [.int .i64 999, .int .i64 n, .int .i64 m, .int .i64 x, .string t] from (HE3.out.stored 0 (.int .i64 999)).1)
      have HOs := Lib.hid (own_other (b := he) HO3.out (fun q hq => by simp only [Value.ownBlock, Option.some.injEq] at hq; omega) ⟨he, 0, none⟩ (.int .i64 999) rfl)
      have HDs := Lib.hid (HD3.out.set (h := he) (i := 0) (v := .int .i64 999) hp hcb hwe)
      clear d1 z1 d2 z2 d3 z3 d4 z4
      obtain ⟨e0, e1, e2, e3, e4, y0, y1, y2, y3, y4⟩ := own5c HEs.out
      obtain ⟨q0, q1, q2, q3, q4, f0, f1, f2, f3, f4⟩ := own5c HOs.out
      have HP := Lib.hid (put5 (v0 := .int .i64 999) (v1 := .int .i64 n) (v2 := .int .i64 m) (v3 := .int .i64 x) (v4 := .string t) q0 q1 q2 q3 q4)
      have HDF := Lib.hid (((((HDs.out.set (h := h) (i := 0) (v := .int .i64 999) hp hcb hhw).set (h := h) (i := 1) (v := .int .i64 n) hp hcb hhw).set (h := h) (i := 2) (v := .int .i64 m) hp hcb hhw).set (h := h) (i := 3) (v := .int .i64 x) hp hcb hhw).set (h := h) (i := 4) (v := .string t) hp hcb hhw)
      clear y0 y1 y2 y3 y4
      go_wp2_with fail
      obtain ⟨r0, r1, r2, r3, r4⟩ := HP.out
      exact bodyPost_ret (v := .agg #[.int .i64 999, .int .i64 n, .int .i64 m, .int .i64 x, .string t]) (by simp [results, Tryd.results19, go_sem, r0, r1, r2, r3, r4]) rfl ⟨_, _, _, _, _, rfl, ⟨by omega, by omega⟩, HT.out, HDF.out⟩
    · skip
      obtain ⟨d0, d1, d2, d3, d4, z0, z1, z2, z3, z4⟩ := own5c HE3.out
      have HEs := Lib.hid (show (w3.setCell ⟨he, 0, none⟩ (.int .i64 1000)).ownsRow he 24 5 (.slice (some ⟨he, 0, none⟩) 1 1) 1 [.int .i64 1000, .int .i64 n, .int .i64 m, .int .i64 x, .string t] from (HE3.out.stored 0 (.int .i64 1000)).1)
      have HOs := Lib.hid (own_other (b := he) HO3.out (fun q hq => by simp only [Value.ownBlock, Option.some.injEq] at hq; omega) ⟨he, 0, none⟩ (.int .i64 1000) rfl)
      have HDs := Lib.hid (HD3.out.set (h := he) (i := 0) (v := .int .i64 1000) hp hcb hwe)
      clear d1 z1 d2 z2 d3 z3 d4 z4
      obtain ⟨e0, e1, e2, e3, e4, y0, y1, y2, y3, y4⟩ := own5c HEs.out
      obtain ⟨q0, q1, q2, q3, q4, f0, f1, f2, f3, f4⟩ := own5c HOs.out
      have HP := Lib.hid (put5 (v0 := .int .i64 1000) (v1 := .int .i64 n) (v2 := .int .i64 m) (v3 := .int .i64 x) (v4 := .string t) q0 q1 q2 q3 q4)
      have HDF := Lib.hid (((((HDs.out.set (h := h) (i := 0) (v := .int .i64 1000) hp hcb hhw).set (h := h) (i := 1) (v := .int .i64 n) hp hcb hhw).set (h := h) (i := 2) (v := .int .i64 m) hp hcb hhw).set (h := h) (i := 3) (v := .int .i64 x) hp hcb hhw).set (h := h) (i := 4) (v := .string t) hp hcb hhw)
      clear y0 y1 y2 y3 y4
      go_wp2_with fail
      obtain ⟨r0, r1, r2, r3, r4⟩ := HP.out
      exact bodyPost_ret (v := .agg #[.int .i64 1000, .int .i64 n, .int .i64 m, .int .i64 x, .string t]) (by simp [results, Tryd.results19, go_sem, r0, r1, r2, r3, r4]) rfl ⟨_, _, _, _, _, rfl, ⟨by omega, by omega⟩, HT.out, HDF.out⟩
  by_cases h1 : r = 1
  · subst h1
    have HBd := Lib.hid ((Below.refl w2.heap.size w2).drew)
    have hSd := HD2.out.src.below HBd.out
    obtain ⟨d0, d1, d2, d3, d4, z0, z1, z2, z3, z4⟩ := own5c HE2.out
    clear d0 d1 d3 d4 z0 z1 z2 z3 z4
    go_wp2_with fail
    go_region_with (go_at_call 25; refine (n_c p cb co sl sc sa 2 _ hSd (by omega)).mono ?_; rintro e w3 ⟨q, rfl, q0', q1', hS9, hg, hz⟩; have HD3 := Lib.hid ((HD2.out.below HBd.out).trans ⟨hS9, hg⟩); have HO3 := Lib.hid (own_kept (own_below HO2.out HBd.out) hg hne); have HE3 := Lib.hid (own_kept (own_below HE2.out HBd.out) hg hne2); obtain ⟨d0, d1, d2', d3, d4, z0, z1, z2, z3, z4⟩ := own5c HE3.out; have hmq : IntKind.i64.wrap (m + q) = m + q := by rw [IntWalk.i64_in _ (by omega)])
    all_goals
      clear hS9 hg hz d0 d1 d2 d2' d3 d4 z0 z1 z2 z3 z4 hSd HBd
      obtain ⟨d0, d1, d2, d3, d4, z0, z1, z2, z3, z4⟩ := own5c HE3.out
      have HEs := Lib.hid (show (w3.setCell ⟨he, 3, none⟩ (.int .i64 (m + q))).ownsRow he 24 5 (.slice (some ⟨he, 0, none⟩) 1 1) 1 [.int .i64 g, .int .i64 n, .int .i64 m, .int .i64 (m + q), .string t] from (HE3.out.stored 3 (.int .i64 (m + q))).1)
      have HOs := Lib.hid (own_other (b := he) HO3.out (fun q hq => by simp only [Value.ownBlock, Option.some.injEq] at hq; omega) ⟨he, 3, none⟩ (.int .i64 (m + q)) rfl)
      have HDs := Lib.hid (HD3.out.set (h := he) (i := 3) (v := .int .i64 (m + q)) hp hcb hwe)
      clear d0 z0 d1 z1 d2 z2 d4 z4
      obtain ⟨e0, e1, e2, e3, e4, y0, y1, y2, y3, y4⟩ := own5c HEs.out
      obtain ⟨q0, q1, q2, q3, q4, f0, f1, f2, f3, f4⟩ := own5c HOs.out
      have HP := Lib.hid (put5 (v0 := .int .i64 g) (v1 := .int .i64 n) (v2 := .int .i64 m) (v3 := .int .i64 (m + q)) (v4 := .string t) q0 q1 q2 q3 q4)
      have HDF := Lib.hid (((((HDs.out.set (h := h) (i := 0) (v := .int .i64 g) hp hcb hhw).set (h := h) (i := 1) (v := .int .i64 n) hp hcb hhw).set (h := h) (i := 2) (v := .int .i64 m) hp hcb hhw).set (h := h) (i := 3) (v := .int .i64 (m + q)) hp hcb hhw).set (h := h) (i := 4) (v := .string t) hp hcb hhw)
      clear y0 y1 y2 y3 y4
      go_wp2_with fail
      obtain ⟨r0, r1, r2, r3, r4⟩ := HP.out
      exact bodyPost_ret (v := .agg #[.int .i64 g, .int .i64 n, .int .i64 m, .int .i64 (m + q), .string t]) (by simp [results, Tryd.results19, go_sem, r0, r1, r2, r3, r4]) rfl ⟨_, _, _, _, _, rfl, ⟨by omega, by omega⟩, HT.out, HDF.out⟩
  by_cases h2 : r = 2
  · subst h2
    go_wp2_with fail
    refine (n_c p cb co sl sc sa 3 _ HD2.out.src (by omega)).mono ?_
    rintro e w3 ⟨q, rfl, q0', q1', hS9, hg, hz⟩
    have HD3 := Lib.hid (HD2.out.trans ⟨hS9, hg⟩)
    have HO3 := Lib.hid (own_kept HO2.out hg hne)
    have HE3 := Lib.hid (own_kept HE2.out hg hne2)
    clear hS9 hg hz
    have hw1 : IntKind.i64.wrap (15 + q) = 15 + q := by rw [IntWalk.i64_in _ (by omega)]
    go_wp2_with fail
    refine (bytes_c p cb co sl sc sa (15 + q) _ HD3.out.src (by omega)).mono ?_
    rintro e w4 ⟨t', rfl, ht', hD⟩
    have HT' : Hid (t'.size ≤ 17) := Lib.hid (by omega)
    have HD4 := Lib.hid (HD3.out.trans hD)
    have HO4 := Lib.hid (own_kept HO3.out hD.gr hne)
    have HE4 := Lib.hid (own_kept HE3.out hD.gr hne2)
    clear ht' hD hw1 q0' q1'
    obtain ⟨d0, d1, d2, d3, d4, z0, z1, z2, z3, z4⟩ := own5c HE4.out
    have HEs := Lib.hid (show (w4.setCell ⟨he, 4, none⟩ (.string t')).ownsRow he 24 5 (.slice (some ⟨he, 0, none⟩) 1 1) 1 [.int .i64 g, .int .i64 n, .int .i64 m, .int .i64 x, .string t'] from (HE4.out.stored 4 (.string t')).1)
    have HOs := Lib.hid (own_other (b := he) HO4.out (fun q hq => by simp only [Value.ownBlock, Option.some.injEq] at hq; omega) ⟨he, 4, none⟩ (.string t') rfl)
    have HDs := Lib.hid (HD4.out.set (h := he) (i := 4) (v := .string t') hp hcb hwe)
    clear d0 z0 d1 z1 d2 z2 d3 z3
    obtain ⟨e0, e1, e2, e3, e4, y0, y1, y2, y3, y4⟩ := own5c HEs.out
    obtain ⟨q0, q1, q2, q3, q4, f0, f1, f2, f3, f4⟩ := own5c HOs.out
    have HP := Lib.hid (put5 (v0 := .int .i64 g) (v1 := .int .i64 n) (v2 := .int .i64 m) (v3 := .int .i64 x) (v4 := .string t') q0 q1 q2 q3 q4)
    have HDF := Lib.hid (((((HDs.out.set (h := h) (i := 0) (v := .int .i64 g) hp hcb hhw).set (h := h) (i := 1) (v := .int .i64 n) hp hcb hhw).set (h := h) (i := 2) (v := .int .i64 m) hp hcb hhw).set (h := h) (i := 3) (v := .int .i64 x) hp hcb hhw).set (h := h) (i := 4) (v := .string t') hp hcb hhw)
    clear y0 y1 y2 y3 y4
    go_wp2_with fail
    obtain ⟨r0, r1, r2, r3, r4⟩ := HP.out
    exact bodyPost_ret (v := .agg #[.int .i64 g, .int .i64 n, .int .i64 m, .int .i64 x, .string t']) (by simp [results, Tryd.results19, go_sem, r0, r1, r2, r3, r4]) rfl ⟨_, _, _, _, _, rfl, ⟨by omega, by omega⟩, HT'.out, HDF.out⟩
  have hr0 : (r == 0) = false := by simp [h0]
  have hr1 : (r == 1) = false := by simp [h1]
  have hr2 : (r == 2) = false := by simp [h2]
  have HEs := HE2
  have HOs := HO2
  have HDs := HD2
  obtain ⟨e0, e1, e2, e3, e4, y0, y1, y2, y3, y4⟩ := own5c HEs.out
  obtain ⟨q0, q1, q2, q3, q4, f0, f1, f2, f3, f4⟩ := own5c HOs.out
  have HP := Lib.hid (put5 (v0 := .int .i64 g) (v1 := .int .i64 n) (v2 := .int .i64 m) (v3 := .int .i64 x) (v4 := .string t) q0 q1 q2 q3 q4)
  have HDF := Lib.hid (((((HDs.out.set (h := h) (i := 0) (v := .int .i64 g) hp hcb hhw).set (h := h) (i := 1) (v := .int .i64 n) hp hcb hhw).set (h := h) (i := 2) (v := .int .i64 m) hp hcb hhw).set (h := h) (i := 3) (v := .int .i64 x) hp hcb hhw).set (h := h) (i := 4) (v := .string t) hp hcb hhw)
  clear y0 y1 y2 y3 y4
  go_wp2_with fail
  obtain ⟨r0, r1, r2, r3, r4⟩ := HP.out
  exact bodyPost_ret (v := .agg #[.int .i64 g, .int .i64 n, .int .i64 m, .int .i64 x, .string t]) (by simp [results, Tryd.results19, go_sem, r0, r1, r2, r3, r4]) rfl ⟨_, _, _, _, _, rfl, ⟨by omega, by omega⟩, HT.out, HDF.out⟩
end Go.Proofs.YtdnbkjiijpeiiaaDoor
namespace Go.Proofs.YtdnbkjiijpeiiaaDoor
open Go.RowKit Go.PlainAid G MGF IRow MNum
set_option linter.unusedVariables false
def SomeEnvW (w : World) (e : Ending) (w' : World) : Prop :=
  ∃ (g n m x : Int) (t : ByteArray), e = .returned (.agg #[.int .i64 g, .int .i64 n, .int .i64 m, .int .i64 x, .string t]) ∧ (0 ≤ m ∧ m ≤ 8) ∧ t.size ≤ 17 ∧ Below w.heap.size w w'
set_option maxRecDepth 100000 in
set_option maxHeartbeats 1600000 in
theorem drawEnvBytes_any (ao : Option Addr) (len cap : Nat) (w : World) (hC : CodeAt w ao len) (hl : len ≤ 1048576) :
    Calls Tryd.prog 5 #[.slice ao len cap] w (SomeEnvW w) := by
  obtain ⟨W, hW⟩ : ∃ W, W = w.alloc (.cells #[.int .i64 0, .int .i64 0, .int .i64 0, .int .i64 0, .string ⟨#[]⟩] 24) := ⟨_, rfl⟩
  obtain ⟨h, hh⟩ : ∃ h, h = w.heap.size := ⟨_, rfl⟩
  have HO0 : Hid (W.ownsRow h 24 5 (.slice (some ⟨h, 0, none⟩) 1 1) 1 [.int .i64 0, .int .i64 0, .int .i64 0, .int .i64 0, .string ⟨#[]⟩]) := Lib.hid (by
    rw [hW, hh]
    exact World.ownsRow_lit w #[.int .i64 0, .int .i64 0, .int .i64 0, .int .i64 0, .string ⟨#[]⟩] 1 (Nat.le_refl _) (by decide) rfl)
  have HB0 : Hid (Below w.heap.size w W) := Lib.hid (by rw [hW]; exact (Below.refl _ _).alloc (Nat.le_refl _) _)
  have hhw : w.heap.size ≤ h := by omega
  have hlW : h < W.heap.size := (HO0.out.lt h rfl).2
  go_enter Tryd.func5, Tryd.ntmps5
  go_wp2_with fail
  rw [← hW, ← hh]
  clear hW hh
  refine (source_any ao len cap W (hC.below HB0.out) hl).mono ?_
  rintro e w1 ⟨p, rfl, hp, ⟨cb, co, sl, sc, sa, hS⟩, hb1⟩
  have hne : h ≠ p := by omega
  have HO1 := Lib.hid (own_below HO0.out hb1)
  have HB1 := Lib.hid (HB0.out.trans (hb1.mono HB0.out.size))
  have hpw : w.heap.size ≤ p := by omega
  clear hb1 HO0
  go_wp2_with fail
  refine (env_c p cb co sl sc sa w1 hS).mono ?_
  rintro e w2 ⟨g, n, m, x, t, rfl, hm, ht, hD⟩
  have HM := Lib.hid hm
  have HT := Lib.hid ht
  have HO2 := Lib.hid (own_kept HO1.out hD.gr hne)
  have HB2 := Lib.hid (below_drawn HB1.out (Nat.le_refl _) hpw hD.drawn)
  clear hD hS hm ht HO1 HB1 HB0
  obtain ⟨q0, q1, q2, q3, q4, f0, f1, f2, f3, f4⟩ := own5c HO2.out
  have HP := Lib.hid (put5 (v0 := .int .i64 g) (v1 := .int .i64 n) (v2 := .int .i64 m) (v3 := .int .i64 x) (v4 := .string t) q0 q1 q2 q3 q4)
  have HBF := Lib.hid (((((HB2.out.setCell (p := ⟨h, 0, none⟩) hhw (.int .i64 g)).setCell (p := ⟨h, 1, none⟩) hhw (.int .i64 n)).setCell (p := ⟨h, 2, none⟩) hhw (.int .i64 m)).setCell (p := ⟨h, 3, none⟩) hhw (.int .i64 x)).setCell (p := ⟨h, 4, none⟩) hhw (.string t))
  go_wp2_with fail
  obtain ⟨r0, r1, r2, r3, r4⟩ := HP.out
  exact bodyPost_ret (v := .agg #[.int .i64 g, .int .i64 n, .int .i64 m, .int .i64 x, .string t]) (by simp [results, Tryd.results5, go_sem, r0, r1, r2, r3, r4]) rfl ⟨_, _, _, _, _, rfl, HM.out, HT.out, HBF.out⟩
theorem splitR_txt2 (s d : ByteArray) (need many : Int) : ∀ t, t < (splitR s need many d).1.length → ((splitR s need many d).1.getD t shD).2.size ≤ 16 := by
  intro t ht
  by_cases h : splitC s need many d = 0
  · have hOk := splitC_zero h
    rw [splitR_yes h] at ht ⊢
    dsimp only at ht ⊢
    rw [partsT_length] at ht
    have e : (partsT (polysT (tb s) (tb d) (kOf need)) many.toNat).getD t shD = ((t : Int) + 1, tx (vals (polysT (tb s) (tb d) (kOf need)) (pl (t + 1)))) := partsT_getD _ ht
    rw [e]
    dsimp only
    rw [tx_size, vals_length, polysT_length, tb_length]
    exact hOk.s2
  · rw [splitR_no rfl h] at ht
    exact absurd ht (by simp)
theorem cell_kept {w u : World} {b p i : Nat} (hg : w.grownBy u (some p)) (hb : b < w.heap.size) (hne : b ≠ p) : u.cell? ⟨b, i, none⟩ = w.cell? ⟨b, i, none⟩ := by
  rw [World.cell?_of_block (w := w) (a := ⟨b, i, none⟩) (hg.block b hb (by intro h; injection h with h; exact hne h))]
/-- What is drawn for Envelopes. -/
def SomeShares (w : World) (e : Ending) (w' : World) : Prop :=
  ∃ (g n m : Int) (a : Option Addr) (k c : Nat) (l : List (Int × ByteArray)), e = .returned (.tuple #[.int .i64 g, .int .i64 n, .int .i64 m, .slice a k c]) ∧ k ≤ 30 ∧ HR w' a k c l ∧ (∀ t, t < k → (l.getD t shD).2.size ≤ maxLen) ∧ Below w.heap.size w w'
set_option maxRecDepth 100000 in
set_option maxHeartbeats 1600000 in
theorem drawEnvelopes_any (ao : Option Addr) (len cap : Nat) (w : World) (hC : CodeAt w ao len) (hl : len ≤ 1048576) :
    Calls Tryd.prog 9 #[.slice ao len cap] w (SomeShares w) := by
  go_enter Tryd.func9, Tryd.ntmps9
  go_wp2_with fail
  refine (source_any ao len cap w hC hl).mono ?_
  rintro e w1 ⟨p, rfl, hp, ⟨cb, co, sl, sc, sa, hS⟩, hb1⟩
  have HB1 := Lib.hid hb1
  clear hb1
  go_wp2_with fail
  refine (all_c p cb co sl sc sa w1 hS).mono ?_
  rintro e w2 ⟨s, d, need, many, rfl, h1, h2, h3, h4, h5, h6, hD⟩
  have HD1 := Lib.hid hD
  clear hD hS h3 h4 h5 h6
  go_wp2_with fail
  refine (n_c p cb co sl sc sa 5 _ HD1.out.src (by omega)).mono ?_
  rintro e w3 ⟨r, rfl, r0, r1, hS1, hg, hz⟩
  have HB3 := Lib.hid (below_drawn HB1.out (Nat.le_refl _) hp (HD1.out.trans ⟨hS1, hg⟩).drawn)
  clear hS1 hg hz r0 r1 HD1 HB1
  go_wp2_with fail
  refine (specSplit_any s d need many w3 (by unfold maxLen; omega) (by unfold maxLen; omega)).mono ?_
  rintro e w4 ⟨aS, kS, cS, rfl, hown, hb4⟩
  have hkS : (splitR s need many d).1.length = kS := shares_len hown
  have hlS := splitR_len s need many d
  have htS := splitR_txt2 s d need many
  have hfd : ∀ (x y : Value) (u : World), (Instr.field 55 (.agg #[x, y]) 0).run Tryd.prog u = .ok x u := fun _ _ _ => by kernel_rfl
  have HF : Hid (kS ≤ 30 ∧ HR w4 aS kS cS (splitR s need many d).1 ∧ (∀ t, t < kS → ((splitR s need many d).1.getD t shD).2.size ≤ maxLen) ∧ Below w.heap.size w w4) := Lib.hid ⟨by omega, HR.own hown, fun t ht => Nat.le_trans (htS t (by omega)) (by unfold maxLen; omega), HB3.out.trans (hb4.mono HB3.out.size)⟩
  clear hown hb4 hkS hlS htS HB3
  go_wp2_with fail
  exact bodyPost_ret (v := .tuple #[.int .i64 r, .int .i64 need, .int .i64 many, .slice aS kS cS]) (by simp [results, Tryd.results9, go_sem]) rfl ⟨r, need, many, aS, kS, cS, _, rfl, HF.out⟩
set_option maxRecDepth 100000 in
set_option maxHeartbeats 1600000 in
theorem pick_c (p cb co sl sc : Nat) (sa : Option Addr) (w : World) (b : Nat) (k : Nat) (ts : List ByteArray) (hS : SrcC w p cb co sl sc sa) (hk : 0 < ts.length) (hk2 : ts.length ≤ 1000) (hb : b < w.heap.size) (hbp : b ≠ p) (hc : ∀ i (hi : i < ts.length), w.cell? ⟨b, i, none⟩ = some (.string ts[i])) :
    Calls Tryd.prog 31 #[.pointer (some ⟨p, 0, none⟩), .slice (some ⟨b, 0, none⟩) ts.length ts.length] w fun e w' => (∃ i, ∃ hi : i < ts.length, e = .returned (.string ts[i])) ∧ DrawnC w w' p cb co sl sc sa := by
  go_enter Tryd.func31, Tryd.ntmps31
  go_wp2_with fail
  refine (n_c p cb co sl sc sa (ts.length : Int) w hS (by omega)).mono ?_
  rintro e w1 ⟨r, rfl, r0, r1, hS1, hg, hz⟩
  obtain ⟨i, rfl⟩ : ∃ i : Nat, r = i := ⟨r.toNat, by omega⟩
  have hi : i < ts.length := by omega
  have hci : w1.cell? ⟨b, i, none⟩ = some (.string ts[i]) := by rw [cell_kept hg hb hbp]; exact hc i hi
  have HD := Lib.hid (⟨hS1, hg⟩ : DrawnC w w1 p cb co sl sc sa)
  clear hS1 hg hz r0 r1
  go_wp2_with fail
  go_ret
  exact ⟨⟨i, hi, rfl⟩, HD.out⟩
set_option maxRecDepth 100000 in
set_option maxHeartbeats 3200000 in
theorem spoil_c (p cb co sl sc : Nat) (sa : Option Addr) (s : ByteArray) (w : World) (hS : SrcC w p cb co sl sc sa) (hs : s.size ≤ 9000) :
    Calls Tryd.prog 26 #[.pointer (some ⟨p, 0, none⟩), .string s] w fun e w' => ∃ u : ByteArray, e = .returned (.string u) ∧ u.size ≤ s.size + 1 ∧ DrawnC w w' p cb co sl sc sa := by
  go_enter Tryd.func26, Tryd.ntmps26
  have hw1 : IntKind.i64.wrap ((s.size : Int) + 1) = (s.size : Int) + 1 := by rw [IntWalk.i64_in _ (by omega)]
  go_wp2_with fail
  refine (n_c p cb co sl sc sa ((s.size : Int) + 1) w hS (by omega)).mono ?_
  rintro e w1 ⟨k, rfl, k0, k1, hS1, hg, hz⟩
  have hk : k ≤ s.size := by omega
  have HD1 := Lib.hid (⟨hS1, hg⟩ : DrawnC w w1 p cb co sl sc sa)
  clear hS1 hg hz k1 hw1
  go_wp2_with fail
  refine (n_c p cb co sl sc sa 17 _ HD1.out.src (by omega)).mono ?_
  rintro e w2 ⟨r, rfl, r0, r1, hS1, hg, hz⟩
  have hr : r ≤ 16 := by omega
  have HD2 := Lib.hid (HD1.out.trans ⟨hS1, hg⟩)
  clear hS1 hg hz r1
  obtain ⟨k, rfl⟩ : ∃ j : Nat, k = j := ⟨k.toNat, by omega⟩
  have hcv := fun (y : Int) => conv_owned 22 9 5 Tryd.underlying22 Tryd.underlying5 Tryd.underlying9 w2.heap.size (.slice (some ⟨w2.heap.size, 0, none⟩) 1 1) 1 [y] (World.ownsRow_lit w2 #[.int .u8 y] 1 (Nat.le_refl _) (by decide) rfl)
  have HD3 := fun (y : Int) => HD2.out.below ((Below.refl w2.heap.size w2).alloc (Nat.le_refl _) (.cells #[.int .u8 y] 5))
  have hcs := fun (y : Int) => strOfNums_size [y]
  by_cases hkz : (k : Int) = s.size
  · have hkb : ((k : Int) == (s.size : Int)) = true := by simp [hkz]
    go_wp2_with fail
    go_region
    go_wp2_with fail
    go_ret
    exact ⟨_, rfl, by simp only [ByteArray.size_append, ByteArray.size_extract, hcs, List.length_cons, List.length_nil]; omega, (HD3 _).below (Below.refl _ _).drew⟩
  · have hkb : ((k : Int) == (s.size : Int)) = false := by simp [hkz]
    go_wp2_with fail
    refine (one_c p cb co sl sc sa 3 _ (HD3 _).src (by omega)).mono ?_
    rintro e w3 ⟨b, rfl, hD, hz⟩
    have HD4 := Lib.hid ((HD3 _).trans hD)
    clear hD hz
    cases b
    · go_wp2_with fail
      refine (one_c p cb co sl sc sa 2 _ HD4.out.src (by omega)).mono ?_
      rintro e w4 ⟨b, rfl, hD, hz⟩
      have HD5 := Lib.hid (HD4.out.trans hD)
      clear hD hz
      cases b
      · go_wp2_with fail
        go_region
        go_wp2_with fail
        go_ret
        exact ⟨_, rfl, by simp only [ByteArray.size_append, ByteArray.size_extract, hcs, List.length_cons, List.length_nil]; omega, HD5.out.below (Below.refl _ _).drew⟩
      · go_wp2_with fail
        go_region
        go_wp2_with fail
        go_ret
        exact ⟨_, rfl, by simp only [ByteArray.size_append, ByteArray.size_extract, hcs, List.length_cons, List.length_nil]; omega, HD5.out.below (Below.refl _ _).drew⟩
    · go_wp2_with fail
      go_region
      go_wp2_with fail
      go_ret
      exact ⟨_, rfl, by simp only [ByteArray.size_append, ByteArray.size_extract, hcs, List.length_cons, List.length_nil]; omega, HD4.out.below (Below.refl _ _).drew⟩
theorem envS_le (g n m x : Int) (t : ByteArray) (ht : t.size ≤ 17) : (envS g n m x t).size ≤ 8000 := by
  by_cases h : envB g n m x t = true
  · rw [envS_yes h]
    unfold sealS
    split
    · rw [ByteArray.size_append, crc4_size]; omega
    · show (0 : Nat) ≤ 8000; omega
  · have h2 : envB g n m x t = false := by simpa using h
    rw [envS_no h2]; show (0 : Nat) ≤ 8000; omega
def SomeTextR (w : World) (e : Ending) (w' : World) : Prop := ∃ t : ByteArray, e = .returned (.string t) ∧ t.size ≤ 9000 ∧ Below w.heap.size w w'
set_option maxRecDepth 100000 in
set_option maxHeartbeats 3200000 in
theorem drawEnvRead_any (ao : Option Addr) (len cap : Nat) (w : World) (hC : CodeAt w ao len) (hl : len ≤ 1048576) :
    Calls Tryd.prog 7 #[.slice ao len cap] w (SomeTextR w) := by
  go_enter Tryd.func7, Tryd.ntmps7
  go_wp2_with fail
  refine (source_any ao len cap w hC hl).mono ?_
  rintro e w1 ⟨p, rfl, hp, ⟨cb, co, sl, sc, sa, hS⟩, hb1⟩
  have HB1 := Lib.hid hb1
  clear hb1
  go_wp2_with fail
  refine (envOf_c p cb co sl sc sa w1 hS).mono ?_
  rintro e w2 ⟨g, n, m, x, t, rfl, hm, ht, hD⟩
  have HD2 := Lib.hid hD
  clear hD hS hm
  go_wp2_with fail
  refine (specEnvBytes_any g n m x t w2 (by unfold maxLen; omega)).mono ?_
  rintro e w3 ⟨rfl, hb⟩
  have HD3 := Lib.hid (HD2.out.below hb)
  have hz0 := envS_le g n m x t ht
  clear hb HD2 ht
  generalize envS g n m x t = s0 at *
  go_wp2_with fail
  refine (n_c p cb co sl sc sa 4 _ HD3.out.src (by omega)).mono ?_
  rintro e w4 ⟨r, rfl, r0, r1, hS1, hg, hz⟩
  have HD4 := Lib.hid (HD3.out.trans ⟨hS1, hg⟩)
  clear hS1 hg hz HD3 r1
  by_cases h0 : r = 0
  · subst h0
    go_wp2_with fail
    refine (spoil_c p cb co sl sc sa s0 _ HD4.out.src (by omega)).mono ?_
    rintro e w5 ⟨u, rfl, hu, hD⟩
    have HF := Lib.hid (below_drawn HB1.out (Nat.le_refl _) hp (HD4.out.trans hD).drawn)
    have HU : Hid (u.size ≤ 9000) := Lib.hid (by omega)
    clear hD
    go_wp2_with fail
    go_ret
    exact ⟨_, rfl, HU.out, HF.out⟩
  by_cases h1 : r = 1
  · subst h1
    go_wp2_with fail
    refine (n_c p cb co sl sc sa 3 _ HD4.out.src (by omega)).mono ?_
    rintro e w5 ⟨a, rfl, a0, a1, hS1, hg, hz⟩
    have HD5 := Lib.hid (HD4.out.trans ⟨hS1, hg⟩)
    clear hS1 hg hz HD4
    go_wp2_with fail
    refine (specPutNum_any a _ (by unfold i64P; omega)).mono ?_
    rintro e w6 ⟨rfl, hb⟩
    have HD6 := Lib.hid (HD5.out.below hb)
    have hz_a := numS_size a
    clear hb HD5 a0 a1
    go_wp2_with fail
    refine (n_c p cb co sl sc sa 12 _ HD6.out.src (by omega)).mono ?_
    rintro e w7 ⟨b, rfl, b0, b1, hS1, hg, hz⟩
    have HD7 := Lib.hid (HD6.out.trans ⟨hS1, hg⟩)
    clear hS1 hg hz HD6
    go_wp2_with fail
    refine (specPutNum_any b _ (by unfold i64P; omega)).mono ?_
    rintro e w8 ⟨rfl, hb⟩
    have HD8 := Lib.hid (HD7.out.below hb)
    have hz_b := numS_size b
    clear hb HD7 b0 b1
    go_wp2_with fail
    refine (n_c p cb co sl sc sa 22 _ HD8.out.src (by omega)).mono ?_
    rintro e w9 ⟨c, rfl, c0, c1, hS1, hg, hz⟩
    have HD9 := Lib.hid (HD8.out.trans ⟨hS1, hg⟩)
    clear hS1 hg hz HD8
    go_wp2_with fail
    refine (specPutNum_any c _ (by unfold i64P; omega)).mono ?_
    rintro e w10 ⟨rfl, hb⟩
    have HD10 := Lib.hid (HD9.out.below hb)
    have hz_c := numS_size c
    clear hb HD9 c0 c1
    go_wp2_with fail
    refine (n_c p cb co sl sc sa 5 _ HD10.out.src (by omega)).mono ?_
    rintro e w11 ⟨d, rfl, d0, d1, hS1, hg, hz⟩
    have HD11 := Lib.hid (HD10.out.trans ⟨hS1, hg⟩)
    clear hS1 hg hz HD10
    go_wp2_with fail
    refine (specPutNum_any d _ (by unfold i64P; omega)).mono ?_
    rintro e w12 ⟨rfl, hb⟩
    have HD12 := Lib.hid (HD11.out.below hb)
    have hz_d := numS_size d
    clear hb HD11 d0 d1
    go_wp2_with fail
    refine (n_c p cb co sl sc sa 4 _ HD12.out.src (by omega)).mono ?_
    rintro e w13 ⟨k, rfl, k0, k1, hS1, hg, hz⟩
    have HD13 := Lib.hid (HD12.out.trans ⟨hS1, hg⟩)
    clear hS1 hg hz HD12
    go_wp2_with fail
    refine (bytes_c p cb co sl sc sa k _ HD13.out.src (by omega)).mono ?_
    rintro e w14 ⟨v, rfl, hv, hD⟩
    have HD14 := Lib.hid (HD13.out.trans hD)
    have hv3 : v.size ≤ 3 := by omega
    clear hD HD13 hv k0 k1
    go_wp2_with fail
    refine (specPutText_any v _ (by unfold maxLen; omega)).mono ?_
    rintro e w15 ⟨rfl, hb⟩
    have HD15 := Lib.hid (HD14.out.below hb)
    have hz_t : (putTextS v).size ≤ 13 := by rw [putTextS_short (by omega), ByteArray.size_append]; have := numS_size (v.size : Int); omega
    clear hb HD14
    go_wp2_with fail
    have ho : (w15.alloc (.cells #[.string ⟨#[]⟩, .string ⟨#[]⟩, .string ⟨#[120]⟩] 9)).ownsRow w15.heap.size 9 1 (.slice (some ⟨w15.heap.size, 0, none⟩) 3 3) 3 [.string ⟨#[]⟩, .string ⟨#[]⟩, .string ⟨#[120]⟩] := World.ownsRow_lit w15 #[.string ⟨#[]⟩, .string ⟨#[]⟩, .string ⟨#[120]⟩] 3 (Nat.le_refl _) (by decide) rfl
    have hpl : p < w15.heap.size := HD15.out.src.lt
    have HBa := Lib.hid ((Below.refl w15.heap.size w15).alloc (Nat.le_refl _) (.cells #[.string ⟨#[]⟩, .string ⟨#[]⟩, .string ⟨#[120]⟩] 9))
    refine (pick_c p cb co sl sc sa _ w15.heap.size 3 [⟨#[]⟩, ⟨#[]⟩, ⟨#[120]⟩] (HD15.out.src.below HBa.out) (by decide) (by decide) (ho.lt w15.heap.size rfl).2 (by omega) (fun i hi => by
      rw [ho.cellAt i (by simpa using hi)]
      match i, hi with
      | 0, _ => rfl
      | 1, _ => rfl
      | 2, _ => rfl)).mono ?_
    rintro e w16 ⟨⟨i, hi, rfl⟩, hD⟩
    have HD16 := Lib.hid ((HD15.out.below HBa.out).trans hD)
    have hz_p : ([⟨#[]⟩, ⟨#[]⟩, ⟨#[120]⟩] : List ByteArray)[i].size ≤ 1 := by
      match i, hi with
      | 0, _ => exact Nat.zero_le _
      | 1, _ => exact Nat.zero_le _
      | 2, _ => exact Nat.le_refl 1
    generalize ([⟨#[]⟩, ⟨#[]⟩, ⟨#[120]⟩] : List ByteArray)[i] = z at *
    clear hD HD15 HBa ho hpl hi
    go_wp2_with fail
    have hal : (numS a ++ numS b ++ numS c ++ numS d ++ putTextS v ++ z).size ≤ 64 := by simp only [ByteArray.size_append]; omega
    refine (specSeal_any _ _ (by unfold maxLen; omega)).mono ?_
    rintro e w17 ⟨rfl, hb⟩
    have HF := Lib.hid (below_drawn HB1.out (Nat.le_refl _) hp (HD16.out.below hb).drawn)
    have HU : Hid ((sealS (numS a ++ numS b ++ numS c ++ numS d ++ putTextS v ++ z)).size ≤ 9000) := Lib.hid (by rw [sealS_yes (by omega), ByteArray.size_append, crc4_size]; omega)
    clear hb
    go_wp2_with fail
    go_ret
    exact ⟨_, rfl, HU.out, HF.out⟩
  have hr0 : (r == 0) = false := by simp [h0]
  have hr1 : (r == 1) = false := by simp [h1]
  have HF := Lib.hid (below_drawn HB1.out (Nat.le_refl _) hp HD4.out.drawn)
  have HU : Hid (s0.size ≤ 9000) := Lib.hid (by omega)
  go_wp2_with fail
  go_ret
  exact ⟨_, rfl, HU.out, HF.out⟩
end Go.Proofs.YtdnbkjiijpeiiaaDoor
