/- What the program's Vanish answers. -/
import Derived.Test.YtfplfkebamgniaaVan
namespace Go.Proofs.Ytfplfkebamgniaa
open Go.RowKit Go.PlainAid G MGF IRow
set_option linter.unusedVariables false
theorem told_short {p : List B} (h : p.length ≤ 60) : told p = (pv p, 0) := by unfold told; rw [if_neg (by omega)]
set_option maxRecDepth 100000 in
set_option maxHeartbeats 1600000 in
theorem implVanish_any (a : Option Addr) (n cap : Nat) (zs : List Int) (w : World) (h : IR w a n cap zs) (hn : n ≤ 1048576) :
    Calls Try.prog 35 #[.slice a n cap] w (NewOut (vanishR zs) w) := by
  have hl := h.len
  have hb0 : Below w.heap.size w (w.alloc (Obj.cells #[Value.slice none 0 0, Value.int IntKind.i64 0] 34)) := (Below.refl _ _).alloc (Nat.le_refl _) _
  by_cases h1 : 400 < n
  · have HF := Lib.hid (vanishR_size (zs := zs) (by omega))
    clear h hb0
    go_enter Try.func35, Try.ntmps35
    go_wp2_with fail
    exact bodyPost_ret (v := .agg #[.slice none 0 0, .int .i64 2]) (by simp [results, Try.results35, go_sem]) rfl (ret_out HF.out (World.ownsRow_nil _ _ _ _) ((Below.refl _ _).alloc (Nat.le_refl _) _))
  · have hno : ¬ 400 < zs.length := by omega
    have hbx := Box2.made w (.slice none 0 0) (.int .i64 0) 34
    have H := Lib.hid (h.below hb0)
    have HB0 := Lib.hid hb0
    have HBX := Lib.hid hbx
    clear h hb0 hbx
    cases hr : xsB zs 20
    · have HF := Lib.hid (vanishR_form hno hr)
      clear hno
      go_enter Try.func35, Try.ntmps35
      go_wp2_with fail
      refine (placesRight_any a n cap zs _ H.out hn).mono ?_
      rintro e w1 ⟨rfl, hb⟩
      rw [hr]
      obtain ⟨hsz1, hc0, hc1, hz0, hz1⟩ := HBX.out.below hb
      have HB1 := Lib.hid (HB0.out.trans (hb.mono HB0.out.size))
      obtain ⟨hr0, hr1⟩ := box_put (x := .slice none 0 0) (y := .int .i64 1) hc0 hc1
      have HR := Lib.hid (And.intro hr0 hr1)
      clear hb hr0 hr1
      go_wp2_with fail
      obtain ⟨hr0, hr1⟩ := HR.out
      exact bodyPost_ret (v := .agg #[.slice none 0 0, .int .i64 1]) (by simp [results, Try.results35, go_sem, hr0, hr1]) rfl (ret_out HF.out (World.ownsRow_nil _ _ _ _) ((HB1.out.setCell (p := ⟨w.heap.size, 0, none⟩) (Nat.le_refl _) _).setCell (p := ⟨w.heap.size, 1, none⟩) (Nat.le_refl _) _))
    · obtain ⟨xs, rfl, h1, h2, h3⟩ := (xsB_iff zs 20).1 hr
      have HF := Lib.hid (vanishR_pv hno hr)
      have hvl : xs.length = n := by rw [← hl, pv_length]
      rw [hvl] at HF
      clear hno
      go_enter Try.func35, Try.ntmps35
      go_wp2_with fail
      refine (placesRight_any a n cap (pv xs) _ H.out hn).mono ?_
      rintro e w2 ⟨rfl, hb⟩
      rw [hr]
      have HFN := Lib.hid (fld_new w2)
      have hbA : Below w2.heap.size w2 (w2.alloc (Obj.cells Try.zeroCells80 80)) := (Below.refl _ _).alloc (Nat.le_refl _) _
      have HI := Lib.hid ((H.out.below hb).below hbA)
      have HB2 := Lib.hid (HB0.out.trans (hb.mono HB0.out.size))
      have HB3 := Lib.hid (HB2.out.trans (hbA.mono HB2.out.size))
      have HBX3 := Lib.hid ((HBX.out.below hb).below hbA)
      have HFB : Hid (w.heap.size < w2.heap.size) := Lib.hid (HBX.out.below hb).1
      have HNE : Hid (0 < n → ∀ g o, a = some ⟨g, o, none⟩ → g ≠ w2.heap.size) := Lib.hid (fun h0 g o e => by
        obtain ⟨g', o', ha, hg, _⟩ := (H.out.below hb).cells h0
        rw [e] at ha
        cases ha
        omega)
      clear hb hbA
      go_wp2_with fail
      refine (vanish_any w2.heap.size a n cap xs _ HI.out HFN.out (by omega) h2 HNE.out).mono ?_
      rintro e w4 ⟨a4, k4, c4, rfl, h4, hf4⟩
      have HBX4 := Lib.hid (HBX3.out.grown hf4.grown (by have := HFB.out; simp; omega))
      have HB4 := Lib.hid (HB3.out.grown hf4.grown HB3.out.size (fun k e => by cases e; exact Nat.le_of_lt HFB.out))
      have H4 := Lib.hid h4
      have hk4 : k4 ≤ 21 := by
        have h5 := h4.len
        have h6 := vanS_length xs n
        omega
      have hto := told_short (p := vanS xs n) (by have := vanS_length xs n; omega)
      have HTO := Lib.hid hto
      clear h4 hf4 hto
      go_wp2_with fail
      refine (polyOut_any w2.heap.size a4 k4 c4 _ _ H4.out (by omega)).mono ?_
      rintro e w5 ⟨a5, k5, c5, rfl, ho, hb5⟩
      rw [HTO.out] at ho ⊢
      unfold polyV
      dsimp only at ho ⊢
      obtain ⟨hsz5, hc0, hc1, hz0, hz1⟩ := HBX4.out.below hb5
      have hsl : w.heap.size < w4.heap.size := HBX4.out.1
      have hne5 : ∀ g, (Value.slice a5 k5 c5).ownBlock = some g → g ≠ w.heap.size := fun g hg => by have := (ho.lt g hg).1; omega
      have HO := Lib.hid (own_mono (own_other (own_other ho hne5 ⟨w.heap.size, 0, none⟩ (.slice a5 k5 c5) rfl) hne5 ⟨w.heap.size, 1, none⟩ (.int .i64 0) rfl) (Nat.le_of_lt hsl))
      have HB5 := Lib.hid (((HB4.out.trans (hb5.mono HB4.out.size)).setCell (p := ⟨w.heap.size, 0, none⟩) (Nat.le_refl _) (.slice a5 k5 c5)).setCell (p := ⟨w.heap.size, 1, none⟩) (Nat.le_refl _) (.int .i64 0))
      obtain ⟨hr0, hr1⟩ := box_put (x := .slice a5 k5 c5) (y := .int .i64 0) hc0 hc1
      have HR := Lib.hid (And.intro hr0 hr1)
      clear ho hb5 hne5 hr0 hr1
      go_wp2_with fail
      obtain ⟨hr0, hr1⟩ := HR.out
      exact bodyPost_ret (v := .agg #[.slice a5 k5 c5, .int .i64 0]) (by simp [results, Try.results35, go_sem, hr0, hr1]) rfl (ret_out HF.out HO.out HB5.out)
end Go.Proofs.Ytfplfkebamgniaa
