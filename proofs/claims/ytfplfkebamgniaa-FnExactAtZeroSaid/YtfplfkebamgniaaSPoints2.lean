/- What the model's Through, AtZero and Vanish answer. -/
import Derived.Test.YtfplfkebamgniaaSXs
namespace Go.Proofs.Ytfplfkebamgniaa
open Go.RowKit Go.PlainAid G MGF IRow
set_option linter.unusedVariables false
def ibp (ps : List (Int × Int)) : List (B × B) := ps.map fun p => (ib p.1, ib p.2)
theorem ibp_pp (qs : List (B × B)) : ibp (pp qs) = qs := by
  unfold ibp pp
  rw [List.map_map]
  have : qs.map ((fun p : Int × Int => (ib p.1, ib p.2)) ∘ fun q : B × B => (bi q.1, bi q.2)) = qs.map id := List.map_congr_left (fun q _ => by
    show (ib (bi q.1), ib (bi q.2)) = q
    rw [ib_bi, ib_bi])
  rw [this, List.map_id]
def throughR (ps : List (Int × Int)) : List Int × Int := if 400 < ps.length then ([], 2) else if pointsB ps = true then (pv (thrS (ibp ps) ps.length), 0) else ([], 1)
def atZeroI (ps : List (Int × Int)) : Int := if pointsB ps = true then bi (ev (thrS (ibp ps) ps.length) 0) else -1
def vanishR (zs : List Int) : List Int × Int := if 400 < zs.length then ([], 2) else if xsB zs 20 = true then (pv (vanS (zs.map ib) zs.length), 0) else ([], 1)
theorem throughR_size {ps : List (Int × Int)} (h : 400 < ps.length) : throughR ps = ([], 2) := by unfold throughR; rw [if_pos h]
theorem throughR_form {ps : List (Int × Int)} (h : ¬ 400 < ps.length) (h2 : pointsB ps = false) : throughR ps = ([], 1) := by unfold throughR; rw [if_neg h, h2, if_neg (by decide)]
theorem throughR_pp {qs : List (B × B)} (h : ¬ 400 < (pp qs).length) (h2 : pointsB (pp qs) = true) : throughR (pp qs) = (pv (thrS qs qs.length), 0) := by unfold throughR; rw [if_neg h, if_pos h2, ibp_pp, pp_length]
theorem vanishR_size {zs : List Int} (h : 400 < zs.length) : vanishR zs = ([], 2) := by unfold vanishR; rw [if_pos h]
theorem vanishR_form {zs : List Int} (h : ¬ 400 < zs.length) (h2 : xsB zs 20 = false) : vanishR zs = ([], 1) := by unfold vanishR; rw [if_neg h, h2, if_neg (by decide)]
theorem vanishR_pv {xs : List B} (h : ¬ 400 < (pv xs).length) (h2 : xsB (pv xs) 20 = true) : vanishR (pv xs) = (pv (vanS xs xs.length), 0) := by unfold vanishR; rw [if_neg h, if_pos h2, map_ib_pv, pv_length]
theorem throughR_len (ps : List (Int × Int)) : (throughR ps).1.length ≤ 60 := by
  unfold throughR
  split
  · exact Nat.zero_le _
  · split
    · rename_i h
      obtain ⟨qs, rfl, h1, h2, h3⟩ := (pointsB_iff ps).1 h
      have := thrS_length qs qs.length (Nat.le_refl _)
      rw [ibp_pp, pp_length]
      show (pv _).length ≤ 60
      rw [pv_length]; omega
    · exact Nat.zero_le _
theorem vanishR_len (zs : List Int) : (vanishR zs).1.length ≤ 60 := by
  unfold vanishR
  split
  · exact Nat.zero_le _
  · split
    · rename_i h
      obtain ⟨xs, rfl, h1, _⟩ := (xsB_iff zs 20).1 h
      have := vanS_length xs xs.length
      show (pv (vanS ((pv xs).map ib) (pv xs).length)).length ≤ 60
      rw [pv_length, map_ib_pv, pv_length]; omega
    · exact Nat.zero_le _
set_option maxRecDepth 100000 in
theorem specThrough_any (a : Option Addr) (n cap : Nat) (ps : List (Int × Int)) (w : World) (h : PR w a n cap ps) (hn : n ≤ 1048576) :
    Calls Try.prog 41 #[.slice a n cap] w (NewOut (throughR ps) w) := by
  have hl := h.len
  have H := Lib.hid (h.below ((Below.refl _ w).alloc (Nat.le_refl _) (.cells #[.slice none 0 0, .int .i64 0] 34)))
  have HB0 := Lib.hid ((Below.refl _ w).alloc (Nat.le_refl _) (.cells #[.slice none 0 0, .int .i64 0] 34))
  clear h
  by_cases h1 : 400 < n
  · have HF := Lib.hid (throughR_size (ps := ps) (by omega))
    go_enter Try.func41, Try.ntmps41
    go_wp2_with fail
    exact bodyPost_ret (v := .agg #[.slice none 0 0, .int .i64 2]) (by simp [results, Try.results41, go_sem]) rfl (ret_out HF.out (World.ownsRow_nil _ _ _ _) (by repeat' (first | exact Below.refl _ _ | refine Below.alloc ?_ (by first | exact Nat.le_refl _ | (simp; done) | (simp; omega)) _ | refine Below.setCell ?_ (by first | exact Nat.le_refl _ | (simp; done) | (simp; omega)) _)))
  · have hno : ¬ 400 < ps.length := by omega
    cases hr : pointsB ps
    · have HF := Lib.hid (throughR_form hno hr)
      clear hno
      go_enter Try.func41, Try.ntmps41
      go_wp2_with fail
      refine (l03Points_any a n cap ps _ H.out hn).mono ?_
      rintro e w1 ⟨rfl, hb⟩
      rw [hr]
      obtain ⟨hc, hf⟩ := bcell hb
      have hz : w.heap.size < w1.heap.size := by have := hb.size; simp at this; omega
      have HB1 := Lib.hid (HB0.out.trans (hb.mono HB0.out.size))
      clear hb
      go_wp2_with fail
      exact bodyPost_ret (v := .agg #[.slice none 0 0, .int .i64 1]) (by simp [results, Try.results41, go_sem, hc]) rfl (ret_out HF.out (World.ownsRow_nil _ _ _ _) (by repeat' (first | exact HB1.out | exact Below.refl _ _ | refine Below.alloc ?_ (by first | exact Nat.le_refl _ | (simp; done) | (simp; omega)) _ | refine Below.setCell ?_ (by first | exact Nat.le_refl _ | (simp; done) | (simp; omega)) _)))
    · obtain ⟨qs, rfl, h1, h2, h3⟩ := (pointsB_iff ps).1 hr
      have HF := Lib.hid (throughR_pp hno hr)
      have hvl : qs.length = n := by rw [← hl, pp_length]
      rw [hvl] at HF
      clear hno
      go_enter Try.func41, Try.ntmps41
      go_wp2_with fail
      refine (l03Points_any a n cap (pp qs) _ H.out hn).mono ?_
      rintro e w1 ⟨rfl, hb⟩
      rw [hr]
      obtain ⟨hc, hf⟩ := bcell hb
      have hz : w.heap.size < w1.heap.size := by have := hb.size; simp at this; omega
      have HB1 := Lib.hid (HB0.out.trans (hb.mono HB0.out.size))
      have H2 := Lib.hid (H.out.below hb)
      clear hb
      go_wp2_with fail
      refine (l03Through_any a n cap qs _ H2.out (by rw [← hl, pp_length]; exact h1) (by rw [← hl, pp_length]; exact h2) h3).mono ?_
      rintro e w2 ⟨a', k', c', rfl, ho, hb⟩
      obtain ⟨hc2, hf2⟩ := bcell hb
      have hz2' : w.heap.size < w2.heap.size := by have := hb.size; omega
      have HB2 := Lib.hid (HB1.out.trans (hb.mono HB1.out.size))
      have hab : ∀ g, (Value.slice a' k' c').ownBlock = some g → w.heap.size < g := fun g hg => by have := (ho.lt g hg).1; omega
      have HO2 := Lib.hid (own_mono ho HB1.out.size)
      clear hb ho
      go_wp2_with fail
      exact bodyPost_ret (v := .agg #[.slice a' k' c', .int .i64 0]) (by simp [results, Try.results41, go_sem, hc, hz, hc2]) rfl (ret_out HF.out (by repeat' (first | exact HO2.out | refine own_other (b := w.heap.size) ?_ (fun g hg => by have := hab g hg; omega) _ _ rfl)) (by repeat' (first | exact HB2.out | refine Below.setCell ?_ (by first | exact Nat.le_refl _ | (simp; done) | (simp; omega)) _)))
set_option maxRecDepth 100000 in
theorem specVanish_any (a : Option Addr) (n cap : Nat) (zs : List Int) (w : World) (h : IR w a n cap zs) (hn : n ≤ 1048576) :
    Calls Try.prog 42 #[.slice a n cap] w (NewOut (vanishR zs) w) := by
  have hl := h.len
  have H := Lib.hid (h.below ((Below.refl _ w).alloc (Nat.le_refl _) (.cells #[.slice none 0 0, .int .i64 0] 34)))
  have HB0 := Lib.hid ((Below.refl _ w).alloc (Nat.le_refl _) (.cells #[.slice none 0 0, .int .i64 0] 34))
  clear h
  by_cases h1 : 400 < n
  · have HF := Lib.hid (vanishR_size (zs := zs) (by omega))
    go_enter Try.func42, Try.ntmps42
    go_wp2_with fail
    exact bodyPost_ret (v := .agg #[.slice none 0 0, .int .i64 2]) (by simp [results, Try.results42, go_sem]) rfl (ret_out HF.out (World.ownsRow_nil _ _ _ _) (by repeat' (first | exact Below.refl _ _ | refine Below.alloc ?_ (by first | exact Nat.le_refl _ | (simp; done) | (simp; omega)) _ | refine Below.setCell ?_ (by first | exact Nat.le_refl _ | (simp; done) | (simp; omega)) _)))
  · have hno : ¬ 400 < zs.length := by omega
    cases hr : xsB zs 20
    · have HF := Lib.hid (vanishR_form hno hr)
      clear hno
      go_enter Try.func42, Try.ntmps42
      go_wp2_with fail
      refine (l03Xs_any a n cap zs 20 _ H.out hn (by decide)).mono ?_
      rintro e w1 ⟨rfl, hb⟩
      rw [hr]
      obtain ⟨hc, hf⟩ := bcell hb
      have hz : w.heap.size < w1.heap.size := by have := hb.size; simp at this; omega
      have HB1 := Lib.hid (HB0.out.trans (hb.mono HB0.out.size))
      clear hb
      go_wp2_with fail
      exact bodyPost_ret (v := .agg #[.slice none 0 0, .int .i64 1]) (by simp [results, Try.results42, go_sem, hc]) rfl (ret_out HF.out (World.ownsRow_nil _ _ _ _) (by repeat' (first | exact HB1.out | exact Below.refl _ _ | refine Below.alloc ?_ (by first | exact Nat.le_refl _ | (simp; done) | (simp; omega)) _ | refine Below.setCell ?_ (by first | exact Nat.le_refl _ | (simp; done) | (simp; omega)) _)))
    · obtain ⟨xs, rfl, h1, h2, h3⟩ := (xsB_iff zs 20).1 hr
      have HF := Lib.hid (vanishR_pv hno hr)
      have hvl : xs.length = n := by rw [← hl, pv_length]
      rw [hvl] at HF
      clear hno
      go_enter Try.func42, Try.ntmps42
      go_wp2_with fail
      refine (l03Xs_any a n cap (pv xs) 20 _ H.out hn (by decide)).mono ?_
      rintro e w1 ⟨rfl, hb⟩
      rw [hr]
      obtain ⟨hc, hf⟩ := bcell hb
      have hz : w.heap.size < w1.heap.size := by have := hb.size; simp at this; omega
      have HB1 := Lib.hid (HB0.out.trans (hb.mono HB0.out.size))
      have H2 := Lib.hid (H.out.below hb)
      clear hb
      go_wp2_with fail
      refine (l03Vanish_any a n cap xs _ H2.out (by rw [← hl, pv_length]; omega) h2).mono ?_
      rintro e w2 ⟨a', k', c', rfl, ho, hb⟩
      obtain ⟨hc2, hf2⟩ := bcell hb
      have hz2' : w.heap.size < w2.heap.size := by have := hb.size; omega
      have HB2 := Lib.hid (HB1.out.trans (hb.mono HB1.out.size))
      have hab : ∀ g, (Value.slice a' k' c').ownBlock = some g → w.heap.size < g := fun g hg => by have := (ho.lt g hg).1; omega
      have HO2 := Lib.hid (own_mono ho HB1.out.size)
      clear hb ho
      go_wp2_with fail
      exact bodyPost_ret (v := .agg #[.slice a' k' c', .int .i64 0]) (by simp [results, Try.results42, go_sem, hc, hz, hc2]) rfl (ret_out HF.out (by repeat' (first | exact HO2.out | refine own_other (b := w.heap.size) ?_ (fun g hg => by have := hab g hg; omega) _ _ rfl)) (by repeat' (first | exact HB2.out | refine Below.setCell ?_ (by first | exact Nat.le_refl _ | (simp; done) | (simp; omega)) _)))
set_option maxRecDepth 100000 in
theorem specAtZero_any (a : Option Addr) (n cap : Nat) (ps : List (Int × Int)) (w : World) (h : PR w a n cap ps) (hn : n ≤ 1048576) :
    Calls Try.prog 46 #[.slice a n cap] w fun e w' => e = .returned (.int .i64 (atZeroI ps)) ∧ Below w.heap.size w w' := by
  have hl := h.len
  have H := Lib.hid h
  clear h
  cases hr : pointsB ps
  · have HF : Hid (-1 = atZeroI ps) := Lib.hid (by unfold atZeroI; rw [hr, if_neg (by decide)])
    go_enter Try.func46, Try.ntmps46
    go_wp2_with fail
    refine (l03Points_any a n cap ps _ H.out hn).mono ?_
    rintro e w1 ⟨rfl, hb⟩
    rw [hr]
    have HB := Lib.hid hb
    clear hb
    go_wp2_with fail
    go_ret
    exact ⟨ret_int HF.out, HB.out⟩
  · obtain ⟨qs, rfl, h1, h2, h3⟩ := (pointsB_iff ps).1 hr
    rw [pp_length] at hl
    subst hl
    have HF : Hid (bi (ev (thrS qs qs.length) 0) = atZeroI (pp qs)) := Lib.hid (by unfold atZeroI; rw [if_pos hr, ibp_pp, pp_length])
    have hz : (0 : Int) = bi 0 := rfl
    have HZ := Lib.hid hz
    clear hz
    go_enter Try.func46, Try.ntmps46
    go_wp2_with fail
    refine (l03Points_any a qs.length cap (pp qs) _ H.out hn).mono ?_
    rintro e w1 ⟨rfl, hb⟩
    rw [hr]
    have HB := Lib.hid hb
    have H2 := Lib.hid (H.out.below hb)
    clear hb
    go_wp2_with fail
    refine (l03Through_any a qs.length cap qs _ H2.out h1 h2 h3).mono ?_
    rintro e w2 ⟨a', k', c', rfl, ho, hb⟩
    have HB2 := Lib.hid (HB.out.trans (hb.mono HB.out.size))
    have HI := Lib.hid (IR.own ho)
    have hk : (thrS qs qs.length).length = k' := by have := ho.1; simpa [pv] using this
    have hk2 : k' ≤ 20 := by have := thrS_length qs qs.length (Nat.le_refl _); omega
    clear hb ho hk
    go_wp2_with fail
    refine (l03Eval_any a' k' c' (thrS qs qs.length) 0 _ HI.out (by omega)).mono ?_
    rintro e w3 ⟨rfl, hb⟩
    have HB3 := Lib.hid (HB2.out.trans (hb.mono HB2.out.size))
    clear hb
    go_wp2_with fail
    go_ret
    exact ⟨ret_int HF.out, HB3.out⟩
theorem specPolyRightB_any (a : Option Addr) (n cap : Nat) (zs : List Int) (w : World) (h : IR w a n cap zs) (hn : n ≤ 1048576) :
    Calls Try.prog 48 #[.slice a n cap] w fun e w' => e = .returned (.bool (rightB zs)) ∧ Below w.heap.size w w' := by
  refine (specPolyRight_any a n cap zs w h hn).mono ?_
  rintro e w' ⟨rfl, rfl⟩
  exact ⟨rfl, Below.refl _ _⟩
end Go.Proofs.Ytfplfkebamgniaa
