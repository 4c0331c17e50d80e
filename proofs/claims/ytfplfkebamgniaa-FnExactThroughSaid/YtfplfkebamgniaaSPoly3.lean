/- What the model's PolyMul answers. -/
import Derived.Test.YtfplfkebamgniaaSPoly2
import Derived.Test.YtfplfkebamgniaaSPolyM
namespace Go.Proofs.Ytfplfkebamgniaa
open Go.RowKit Go.PlainAid G MGF IRow
set_option linter.unusedVariables false
def polyMulR (zs ys : List Int) : List Int × Int := if 400 < zs.length ∨ 400 < ys.length then ([], 2) else if rightB zs = true ∧ rightB ys = true then told (trim (mulP (zs.map ib) (ys.map ib))) else ([], 1)
theorem polyMulR_len (zs ys : List Int) : (polyMulR zs ys).1.length ≤ 60 := by
  unfold polyMulR told
  split
  · exact Nat.zero_le _
  · split
    · split
      · exact Nat.zero_le _
      · rw [pv_length]; omega
    · exact Nat.zero_le _
theorem polyMulR_size {zs ys : List Int} (h : 400 < zs.length ∨ 400 < ys.length) : polyMulR zs ys = ([], 2) := by unfold polyMulR; rw [if_pos h]
theorem polyMulR_form {zs ys : List Int} (h : ¬ (400 < zs.length ∨ 400 < ys.length)) (h2 : ¬ (rightB zs = true ∧ rightB ys = true)) : polyMulR zs ys = ([], 1) := by unfold polyMulR; rw [if_neg h, if_neg h2]
theorem polyMulR_pv {p q : List B} (h : ¬ (400 < (pv p).length ∨ 400 < (pv q).length)) (h1 : rightB (pv p) = true) (h2 : rightB (pv q) = true) : polyMulR (pv p) (pv q) = told (trim (mulP p q)) := by unfold polyMulR; rw [if_neg h, if_pos ⟨h1, h2⟩, map_ib_pv, map_ib_pv]
set_option maxRecDepth 100000 in
theorem specPolyMul_any (a b : Option Addr) (n m cap cbp : Nat) (zs ys : List Int) (w : World) (h : IR w a n cap zs) (k : IR w b m cbp ys) (hn : n ≤ 1048576) (hm : m ≤ 1048576) :
    Calls Try.prog 40 #[.slice a n cap, .slice b m cbp] w (NewOut (polyMulR zs ys) w) := by
  have hl := h.len
  have hl2 := k.len
  have H := Lib.hid (h.below ((Below.refl _ w).alloc (Nat.le_refl _) (.cells #[.slice none 0 0, .int .i64 0] 34)))
  have K := Lib.hid (k.below ((Below.refl _ w).alloc (Nat.le_refl _) (.cells #[.slice none 0 0, .int .i64 0] 34)))
  clear h k
  by_cases h1 : 400 < n
  · have HF := Lib.hid (polyMulR_size (zs := zs) (ys := ys) (Or.inl (by omega)))
    go_enter Try.func40, Try.ntmps40
    go_wp2_with fail
    exact bodyPost_ret (v := .agg #[.slice none 0 0, .int .i64 2]) (by simp [results, Try.results40, go_sem]) rfl (ret_out HF.out (World.ownsRow_nil _ _ _ _) (by repeat' (first | exact Below.refl _ _ | refine Below.alloc ?_ (by first | exact Nat.le_refl _ | (simp; done) | (simp; omega)) _ | refine Below.setCell ?_ (by first | exact Nat.le_refl _ | (simp; done) | (simp; omega)) _)))
  · by_cases h2 : 400 < m
    · have HF := Lib.hid (polyMulR_size (zs := zs) (ys := ys) (Or.inr (by omega)))
      go_enter Try.func40, Try.ntmps40
      go_wp2_with fail
      exact bodyPost_ret (v := .agg #[.slice none 0 0, .int .i64 2]) (by simp [results, Try.results40, go_sem]) rfl (ret_out HF.out (World.ownsRow_nil _ _ _ _) (by repeat' (first | exact Below.refl _ _ | refine Below.alloc ?_ (by first | exact Nat.le_refl _ | (simp; done) | (simp; omega)) _ | refine Below.setCell ?_ (by first | exact Nat.le_refl _ | (simp; done) | (simp; omega)) _)))
    · have hno : ¬ (400 < zs.length ∨ 400 < ys.length) := by omega
      cases hr : rightB zs
      · have HF := Lib.hid (polyMulR_form hno (by rw [hr]; simp))
        clear hno
        go_enter Try.func40, Try.ntmps40
        go_wp2_with fail
        refine (specPolyRight_any a n cap zs _ H.out hn).mono ?_
        rintro e w1 ⟨rfl, rfl⟩
        rw [hr]
        go_wp2_with fail
        exact bodyPost_ret (v := .agg #[.slice none 0 0, .int .i64 1]) (by simp [results, Try.results40, go_sem]) rfl (ret_out HF.out (World.ownsRow_nil _ _ _ _) (by repeat' (first | exact Below.refl _ _ | refine Below.alloc ?_ (by first | exact Nat.le_refl _ | (simp; done) | (simp; omega)) _ | refine Below.setCell ?_ (by first | exact Nat.le_refl _ | (simp; done) | (simp; omega)) _)))
      · cases hr2 : rightB ys
        · have HF := Lib.hid (polyMulR_form hno (by rw [hr2]; simp))
          clear hno
          go_enter Try.func40, Try.ntmps40
          go_wp2_with fail
          refine (specPolyRight_any a n cap zs _ H.out hn).mono ?_
          rintro e w1 ⟨rfl, rfl⟩
          rw [hr]
          go_wp2_with fail
          refine (specPolyRight_any b m cbp ys _ K.out hm).mono ?_
          rintro e w1 ⟨rfl, rfl⟩
          rw [hr2]
          go_wp2_with fail
          exact bodyPost_ret (v := .agg #[.slice none 0 0, .int .i64 1]) (by simp [results, Try.results40, go_sem]) rfl (ret_out HF.out (World.ownsRow_nil _ _ _ _) (by repeat' (first | exact Below.refl _ _ | refine Below.alloc ?_ (by first | exact Nat.le_refl _ | (simp; done) | (simp; omega)) _ | refine Below.setCell ?_ (by first | exact Nat.le_refl _ | (simp; done) | (simp; omega)) _)))
        · obtain ⟨p, rfl, hp⟩ := (rightB_iff zs).1 hr
          obtain ⟨q, rfl, hq⟩ := (rightB_iff ys).1 hr2
          have HF := Lib.hid (polyMulR_pv hno hr hr2)
          clear hno hp hq
          go_enter Try.func40, Try.ntmps40
          go_wp2_with fail
          refine (specPolyRight_any a n cap (pv p) _ H.out hn).mono ?_
          rintro e w1 ⟨rfl, rfl⟩
          rw [hr]
          go_wp2_with fail
          refine (specPolyRight_any b m cbp (pv q) _ K.out hm).mono ?_
          rintro e w1 ⟨rfl, rfl⟩
          rw [hr2]
          go_wp2_with fail
          refine (l03Mul_any a b n m cap cbp p q _ H.out K.out (by omega) (by omega)).mono ?_
          rintro e w1 ⟨a', k', c', rfl, ho, hb⟩
          have hk' : (trim (mulP p q)).length = k' := by have := ho.1; simpa [pv] using this
          obtain ⟨hc, hf⟩ := bcell hb
          have hz : w.heap.size < w1.heap.size := by have := hb.size; simp at this; omega
          have HB1 : Hid (Below w.heap.size w w1) := Lib.hid (((Below.refl _ w).alloc (Nat.le_refl _) _).trans (hb.mono (by simp)))
          have hks : k' ≤ 1048576 := by
            have := length_trim (mulP p q)
            have h3 := length_mulP p q
            have e1 := H.out.len
            have e2 := K.out.len
            rw [pv_length] at e1 e2
            omega
          by_cases h60 : 60 < k'
          · have HT : Hid (told (trim (mulP p q)) = ([], 9)) := Lib.hid (by unfold told; rw [if_pos (by omega)])
            clear ho hb hk'
            go_wp2_with fail
            refine (l03Told_any a' k' c' _ hks).mono ?_
            rintro e w2 ⟨rfl, hb2⟩
            rw [if_pos h60]
            obtain ⟨hc2, hf2⟩ := bcell hb2
            have hz2' : w.heap.size < w2.heap.size := by have := hb2.size; omega
            have HB2 := Lib.hid (HB1.out.trans (hb2.mono HB1.out.size))
            unfold polyV
            clear hb2
            go_wp2_with fail
            exact bodyPost_ret (v := .agg #[.slice none 0 0, .int .i64 9]) (by simp [results, Try.results40, go_sem, hc, hz, hc2]) rfl (ret_out (HF.out.trans HT.out) (World.ownsRow_nil _ _ _ _) (by repeat' (first | exact HB2.out | refine Below.setCell ?_ (by first | exact Nat.le_refl _ | (simp; done) | (simp; omega)) _)))
          · have HT : Hid (told (trim (mulP p q)) = (pv (trim (mulP p q)), 0)) := Lib.hid (by unfold told; rw [if_neg (by omega)])
            have HO := Lib.hid (own_mono ho (show w.heap.size ≤ (w.alloc (.cells #[.slice none 0 0, .int .i64 0] 34)).heap.size by simp))
            have hlo := HO.out.lt
            have hab : ∀ g, (Value.slice a' k' c').ownBlock = some g → w.heap.size < g := fun g hg => by have := (ho.lt g hg).1; simp at this; omega
            clear ho hb hk'
            go_wp2_with fail
            refine (l03Told_any a' k' c' _ hks).mono ?_
            rintro e w2 ⟨rfl, hb2⟩
            rw [if_neg h60]
            obtain ⟨hc2, hf2⟩ := bcell hb2
            have hz2' : w.heap.size < w2.heap.size := by have := hb2.size; omega
            have HB2 := Lib.hid (HB1.out.trans (hb2.mono HB1.out.size))
            have HO2 := Lib.hid (own_below HO.out hb2)
            unfold polyV
            clear hb2
            go_wp2_with fail
            exact bodyPost_ret (v := .agg #[.slice a' k' c', .int .i64 0]) (by simp [results, Try.results40, go_sem, hc, hz, hc2]) rfl (ret_out (HF.out.trans HT.out) (by repeat' (first | exact HO2.out | refine own_other (b := w.heap.size) ?_ (fun g hg => by have := hab g hg; omega) _ _ rfl)) (by repeat' (first | exact HB2.out | refine Below.setCell ?_ (by first | exact Nat.le_refl _ | (simp; done) | (simp; omega)) _)))
end Go.Proofs.Ytfplfkebamgniaa
