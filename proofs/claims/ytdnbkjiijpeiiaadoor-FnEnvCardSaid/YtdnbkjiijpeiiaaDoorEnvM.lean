/- What the model's EnvRead answers. -/
import Derived.Test.YtdnbkjiijpeiiaaDoorEnvE
import Derived.Test.YtdnbkjiijpeiiaaDoorEnvF
import Derived.Test.YtdnbkjiijpeiiaaDoorEnvH
import Derived.Deep.Cut
import Derived.BigQuiet
import Derived.Deep.QuietTactic
namespace Go.Proofs.YtdnbkjiijpeiiaaDoor
open Go.RowKit Go.PlainAid G MGet MGF IRow MNum MJoin
set_option linter.unusedVariables false
theorem sN_le {u : ByteArray} {q : Nat × Bool} (h : q.1 ≤ u.size) : (sN u q).2.1 ≤ u.size := by
  by_cases hc : (rdS u q.1 10 0 0).2.2 = 0
  · exact (sN_yes hc).2.2
  · rw [sN_no hc]; exact h
theorem openS_long {s : ByteArray} (h : 8000 < s.size) : (openS s).2.2 = 2 := by rw [openS_size h]
theorem rdOk_of {u : ByteArray} {p : Nat} {k b : Bool} (h5 : (e5 u).2.2 = k) (hp : (e5 u).2.1 = p) (hb : envB (e1 u).1 (e2 u).1 (e3 u).1 (e4 u).1 (e5 u).1 = b) : rdOk u = (!k && (decide (p = u.size) && b)) := by unfold rdOk; rw [h5, hp, hb]
theorem own3 {w : World} {base h : Nat} {T : TypeId} {v0 v1 v2 : Value} (k : w.ownsRow base T 3 (.slice (some ⟨h, 0, none⟩) 1 1) 1 [v0, v1, v2]) : w.cell? ⟨h, 0, none⟩ = some v0 ∧ w.cell? ⟨h, 1, none⟩ = some v1 ∧ w.cell? ⟨h, 2, none⟩ = some v2 ∧ w.frozen? ⟨h, 0, none⟩ = false ∧ w.frozen? ⟨h, 1, none⟩ = false ∧ w.frozen? ⟨h, 2, none⟩ = false :=
  ⟨(by rw [k.cellAt 0 (by decide)]; rfl), (by rw [k.cellAt 1 (by decide)]; rfl), (by rw [k.cellAt 2 (by decide)]; rfl), k.frozenAt 0, k.frozenAt 1, k.frozenAt 2⟩
theorem own5 {w : World} {base h : Nat} {T : TypeId} {v0 v1 v2 v3 v4 : Value} (k : w.ownsRow base T 5 (.slice (some ⟨h, 0, none⟩) 1 1) 1 [v0, v1, v2, v3, v4]) : w.cell? ⟨h, 0, none⟩ = some v0 ∧ w.cell? ⟨h, 1, none⟩ = some v1 ∧ w.cell? ⟨h, 2, none⟩ = some v2 ∧ w.cell? ⟨h, 3, none⟩ = some v3 ∧ w.cell? ⟨h, 4, none⟩ = some v4 ∧ w.frozen? ⟨h, 0, none⟩ = false ∧ w.frozen? ⟨h, 1, none⟩ = false ∧ w.frozen? ⟨h, 2, none⟩ = false ∧ w.frozen? ⟨h, 3, none⟩ = false ∧ w.frozen? ⟨h, 4, none⟩ = false :=
  ⟨(by rw [k.cellAt 0 (by decide)]; rfl), (by rw [k.cellAt 1 (by decide)]; rfl), (by rw [k.cellAt 2 (by decide)]; rfl), (by rw [k.cellAt 3 (by decide)]; rfl), (by rw [k.cellAt 4 (by decide)]; rfl), k.frozenAt 0, k.frozenAt 1, k.frozenAt 2, k.frozenAt 3, k.frozenAt 4⟩
theorem own6 {w : World} {base h : Nat} {T : TypeId} {v0 v1 v2 v3 v4 v5 : Value} (k : w.ownsRow base T 6 (.slice (some ⟨h, 0, none⟩) 1 1) 1 [v0, v1, v2, v3, v4, v5]) : w.cell? ⟨h, 0, none⟩ = some v0 ∧ w.cell? ⟨h, 1, none⟩ = some v1 ∧ w.cell? ⟨h, 2, none⟩ = some v2 ∧ w.cell? ⟨h, 3, none⟩ = some v3 ∧ w.cell? ⟨h, 4, none⟩ = some v4 ∧ w.cell? ⟨h, 5, none⟩ = some v5 ∧ w.frozen? ⟨h, 0, none⟩ = false ∧ w.frozen? ⟨h, 1, none⟩ = false ∧ w.frozen? ⟨h, 2, none⟩ = false ∧ w.frozen? ⟨h, 3, none⟩ = false ∧ w.frozen? ⟨h, 4, none⟩ = false ∧ w.frozen? ⟨h, 5, none⟩ = false :=
  ⟨(by rw [k.cellAt 0 (by decide)]; rfl), (by rw [k.cellAt 1 (by decide)]; rfl), (by rw [k.cellAt 2 (by decide)]; rfl), (by rw [k.cellAt 3 (by decide)]; rfl), (by rw [k.cellAt 4 (by decide)]; rfl), (by rw [k.cellAt 5 (by decide)]; rfl), k.frozenAt 0, k.frozenAt 1, k.frozenAt 2, k.frozenAt 3, k.frozenAt 4, k.frozenAt 5⟩
set_option maxRecDepth 100000 in
set_option maxHeartbeats 6400000 in
theorem specEnvRead_any (s : ByteArray) (w : World) (hs : s.size ≤ maxLen) :
    Calls Tryd.prog 13 #[.string s] w fun e w' => e = .returned (envOutV (readE s)) ∧ Below w.heap.size w w' := by
  have HSZ := Lib.hid hs
  unfold maxLen at hs
  by_cases h8 : 8000 < s.size
  · have HF : Hid (readE s = (evD, 2)) := Lib.hid (by rw [readE_code (by rw [openS_long h8]; decide), openS_long h8])
    go_enter Tryd.func13, Tryd.ntmps13
    go_wp2_with fail
    exact bodyPost_ret (v := .agg #[.int .i64 0, .int .i64 0, .int .i64 0, .int .i64 0, .string ⟨#[]⟩, .int .i64 2]) (by simp [results, Tryd.results13, go_sem]) rfl ⟨by rw [HF.out]; rfl, by repeat' (first | exact Below.refl _ _ | refine Below.alloc ?_ (by first | exact Nat.le_refl _ | (simp; done) | (simp; omega)) _ | refine Below.setCell ?_ (by first | exact Nat.le_refl _ | (simp; done) | (simp; omega)) _)⟩
  obtain ⟨W, hW⟩ : ∃ W, W = w.alloc (.cells #[.int .i64 0, .int .i64 0, .int .i64 0, .int .i64 0, .string ⟨#[]⟩, .int .i64 0] 29) := ⟨_, rfl⟩
  obtain ⟨h, hh⟩ : ∃ h, h = w.heap.size := ⟨_, rfl⟩
  have HO0 : Hid (W.ownsRow h 29 6 (.slice (some ⟨h, 0, none⟩) 1 1) 1 [.int .i64 0, .int .i64 0, .int .i64 0, .int .i64 0, .string ⟨#[]⟩, .int .i64 0]) := Lib.hid (by
    rw [hW, hh]
    exact World.ownsRow_lit w #[.int .i64 0, .int .i64 0, .int .i64 0, .int .i64 0, .string ⟨#[]⟩, .int .i64 0] 1 (Nat.le_refl _) (by decide) rfl)
  have HB0 : Hid (Below h w W) := Lib.hid (by rw [hW, hh]; exact (Below.refl _ _).alloc (Nat.le_refl _) _)
  have HHE := Lib.hid hh
  have hsu := specUnseal_any s W HSZ.out
  by_cases hc : (openS s).2.2 = 0
  · rw [openS_is hc] at hsu
    have HOK := Lib.hid (readE_ok (s := s) hc)
    have HBAD := Lib.hid (readE_bad (s := s) hc)
    have hf8 := openS_fits hc
    generalize (openS s).1 = t at *
    have HSU := Lib.hid hsu
    clear hsu hc
    unfold textOutV at HSU
    dsimp only at HSU
    go_enter Tryd.func13, Tryd.ntmps13
    go_wp2_with fail
    rw [← hW, ← hh]
    clear hW hh
    refine HSU.out.mono ?_
    rintro e w1 ⟨rfl, hb⟩
    have hhl : h < w1.heap.size := by have := (HO0.out.lt h rfl).2; have := hb.size; omega
    obtain ⟨W2, hW2⟩ : ∃ W2, W2 = (w1.alloc (.cells #[.string t, .int .i64 0, .int .i64 0] 60)).alloc (.cells #[.string t, .int .i64 0, .bool false] 64) := ⟨_, rfl⟩
    obtain ⟨b3, hb3⟩ : ∃ b, b = w1.heap.size := ⟨_, rfl⟩
    have HO1 : Hid (W2.ownsRow h 29 6 (.slice (some ⟨h, 0, none⟩) 1 1) 1 [.int .i64 0, .int .i64 0, .int .i64 0, .int .i64 0, .string ⟨#[]⟩, .int .i64 0]) := Lib.hid (by rw [hW2]; exact ((own_below HO0.out hb).alloc _).alloc _)
    have HT1 : Hid (W2.ownsRow b3 60 3 (.slice (some ⟨b3, 0, none⟩) 1 1) 1 [.string t, .int .i64 0, .int .i64 0]) := Lib.hid (by
      rw [hW2, hb3]
      exact (World.ownsRow_lit w1 #[.string t, .int .i64 0, .int .i64 0] 1 (Nat.le_refl _) (by decide) rfl).alloc _)
    have HS0 : Hid (SB W2 (b3 + 1) t ((0 : Nat) : Int) false) := Lib.hid (by rw [hW2, hb3]; exact ⟨by simp, by simp, by simp, by simp, by simp, by simp⟩)
    have HB1 : Hid (Below h w W2) := Lib.hid (by
      rw [hW2]
      exact ((HB0.out.trans (hb.mono (by have := (HO0.out.lt h rfl).2; omega))).alloc (Nat.le_of_lt hhl) _).alloc (by simp; omega) _)
    have hne : h ≠ b3 + 1 := by omega
    have hn3 : b3 ≠ b3 + 1 := by omega
    have hhb : h ≤ b3 + 1 := by omega
    have hn5 : h < b3 := by omega
    have HE5 : Hid ((e5 t).1.size ≤ maxLen) := Lib.hid (e5_fits hf8)
    clear hb
    go_wp2_with fail
    rw [← hW2, ← hb3]
    clear hW2 hb3 hhl
    have hcon1 : Calls Tryd.prog 40 #[.pointer (some ⟨b3 + 1, 0, none⟩)] _ (fun e w' => e = .returned (.int .i64 (e1 t).1) ∧ SB w' (b3 + 1) t ((e1 t).2.1 : Int) (e1 t).2.2 ∧ World.grownBy _ w' (some (b3 + 1))) := srcNum_any (b3 + 1) t (0, false) _ HS0.out hf8 (Nat.zero_le _)
    refine hcon1.mono ?_
    rintro e w2 ⟨rfl, hs', hg⟩
    clear hcon1
    have HS1 := Lib.hid hs'
    have HO2 := Lib.hid (own_kept HO1.out hg hne)
    have HT2 := Lib.hid (own_kept HT1.out hg hn3)
    have hsz1 : h ≤ W2.heap.size := Nat.le_of_lt (HO1.out.lt h rfl).2
    have HB2 := Lib.hid (below_kept HB1.out hg hsz1 hhb)
    have hp1 : (e1 t).2.1 ≤ t.size := sN_le (u := t) (q := (0, false)) (Nat.zero_le _)
    clear hs' hg hsz1
    go_wp2_with fail
    have hcon2 : Calls Tryd.prog 40 #[.pointer (some ⟨b3 + 1, 0, none⟩)] _ (fun e w' => e = .returned (.int .i64 (e2 t).1) ∧ SB w' (b3 + 1) t ((e2 t).2.1 : Int) (e2 t).2.2 ∧ World.grownBy _ w' (some (b3 + 1))) := srcNum_any (b3 + 1) t (e1 t).2 _ HS1.out hf8 hp1
    refine hcon2.mono ?_
    rintro e w3 ⟨rfl, hs', hg⟩
    clear hcon2
    have HS2 := Lib.hid hs'
    have HO3 := Lib.hid (own_kept HO2.out hg hne)
    have HT3 := Lib.hid (own_kept HT2.out hg hn3)
    have hsz2 : h ≤ w2.heap.size := Nat.le_of_lt (HO2.out.lt h rfl).2
    have HB3 := Lib.hid (below_kept HB2.out hg hsz2 hhb)
    have hp2 : (e2 t).2.1 ≤ t.size := sN_le (u := t) (q := (e1 t).2) hp1
    clear hs' hg hsz2
    go_wp2_with fail
    have hcon3 : Calls Tryd.prog 40 #[.pointer (some ⟨b3 + 1, 0, none⟩)] _ (fun e w' => e = .returned (.int .i64 (e3 t).1) ∧ SB w' (b3 + 1) t ((e3 t).2.1 : Int) (e3 t).2.2 ∧ World.grownBy _ w' (some (b3 + 1))) := srcNum_any (b3 + 1) t (e2 t).2 _ HS2.out hf8 hp2
    refine hcon3.mono ?_
    rintro e w4 ⟨rfl, hs', hg⟩
    clear hcon3
    have HS3 := Lib.hid hs'
    have HO4 := Lib.hid (own_kept HO3.out hg hne)
    have HT4 := Lib.hid (own_kept HT3.out hg hn3)
    have hsz3 : h ≤ w3.heap.size := Nat.le_of_lt (HO3.out.lt h rfl).2
    have HB4 := Lib.hid (below_kept HB3.out hg hsz3 hhb)
    have hp3 : (e3 t).2.1 ≤ t.size := sN_le (u := t) (q := (e2 t).2) hp2
    clear hs' hg hsz3
    go_wp2_with fail
    have hcon4 : Calls Tryd.prog 40 #[.pointer (some ⟨b3 + 1, 0, none⟩)] _ (fun e w' => e = .returned (.int .i64 (e4 t).1) ∧ SB w' (b3 + 1) t ((e4 t).2.1 : Int) (e4 t).2.2 ∧ World.grownBy _ w' (some (b3 + 1))) := srcNum_any (b3 + 1) t (e3 t).2 _ HS3.out hf8 hp3
    refine hcon4.mono ?_
    rintro e w5 ⟨rfl, hs', hg⟩
    clear hcon4
    have HS4 := Lib.hid hs'
    have HO5 := Lib.hid (own_kept HO4.out hg hne)
    have HT5 := Lib.hid (own_kept HT4.out hg hn3)
    have hsz4 : h ≤ w4.heap.size := Nat.le_of_lt (HO4.out.lt h rfl).2
    have HB5 := Lib.hid (below_kept HB4.out hg hsz4 hhb)
    have hp4 : (e4 t).2.1 ≤ t.size := sN_le (u := t) (q := (e3 t).2) hp3
    clear hs' hg hsz4
    go_wp2_with fail
    have hcon5 : Calls Tryd.prog 41 #[.pointer (some ⟨b3 + 1, 0, none⟩)] _ (fun e w' => e = .returned (.string (e5 t).1) ∧ SB w' (b3 + 1) t ((e5 t).2.1 : Int) (e5 t).2.2 ∧ World.grownBy _ w' (some (b3 + 1))) := srcStr_any (b3 + 1) t (e4 t).2 _ HS4.out hf8 hp4
    refine hcon5.mono ?_
    rintro e w6 ⟨rfl, hs', hg⟩
    clear hcon5
    have HS5 := Lib.hid hs'
    have HO6 := Lib.hid (own_kept HO5.out hg hne)
    have HT6 := Lib.hid (own_kept HT5.out hg hn3)
    have hsz5 : h ≤ w5.heap.size := Nat.le_of_lt (HO5.out.lt h rfl).2
    have HB6 := Lib.hid (below_kept HB5.out hg hsz5 hhb)
    clear hs' hg hsz5
    obtain ⟨b, hbB⟩ : ∃ b, envB (e1 t).1 (e2 t).1 (e3 t).1 (e4 t).1 (e5 t).1 = b := ⟨_, rfl⟩
    have HRO := Lib.hid (rdOk_of (u := t) rfl rfl hbB)
    have HBB := Lib.hid hbB
    have HEV : Hid (rdEnv t = ⟨(e1 t).1, (e2 t).1, (e3 t).1, (e4 t).1, (e5 t).1⟩) := Lib.hid rfl
    have hRI := specEnvRight_any (e1 t).1 (e2 t).1 (e3 t).1 (e4 t).1 (e5 t).1
    clear hp1 hp2 hp3 hp4 HS0 HS1 HS2 HS3 HS4 HO1 HO2 HO3 HO4 HO5 HT1 HT2 HT3 HT4 HT5 HB1 HB2 HB3 HB4 HB5
    generalize (e5 t).2.1 = p at *
    generalize (e5 t).2.2 = k at *
    generalize (e1 t).1 = g at *
    generalize (e2 t).1 = n at *
    generalize (e3 t).1 = m at *
    generalize (e4 t).1 = x at *
    generalize (e5 t).1 = t' at *
    have HRI := Lib.hid hRI
    clear hRI hbB
    have hhl6 : h < w6.heap.size := (HO6.out.lt h rfl).2
    have HEB : Hid ((w6.alloc (.cells #[.int .i64 g, .int .i64 n, .int .i64 m, .int .i64 x, .string t'] 24)).ownsRow w6.heap.size 24 5 (.slice (some ⟨w6.heap.size, 0, none⟩) 1 1) 1 [.int .i64 g, .int .i64 n, .int .i64 m, .int .i64 x, .string t']) := Lib.hid (World.ownsRow_lit w6 #[.int .i64 g, .int .i64 n, .int .i64 m, .int .i64 x, .string t'] 1 (Nat.le_refl _) (by decide) rfl)
    have HO7 := Lib.hid (HO6.out.alloc (.cells #[.int .i64 g, .int .i64 n, .int .i64 m, .int .i64 x, .string t'] 24))
    have HT7 := Lib.hid (HT6.out.alloc (.cells #[.int .i64 g, .int .i64 n, .int .i64 m, .int .i64 x, .string t'] 24))
    have HS7 := Lib.hid (HS5.out.below ((Below.refl _ _).alloc (Nat.le_refl _) (.cells #[.int .i64 g, .int .i64 n, .int .i64 m, .int .i64 x, .string t'] 24)))
    have HB7 := Lib.hid (HB6.out.alloc (Nat.le_of_lt hhl6) (.cells #[.int .i64 g, .int .i64 n, .int .i64 m, .int .i64 x, .string t'] 24))
    clear HO6 HT6 HS5 HB6
    go_wp2_with fail
    generalize w6.alloc (.cells #[.int .i64 g, .int .i64 n, .int .i64 m, .int .i64 x, .string t'] 24) = wl at *
    obtain ⟨b5, hb5⟩ : ∃ b, b = w6.heap.size := ⟨_, rfl⟩
    rw [← hb5] at HEB ⊢
    clear hb5 hhl6
    obtain ⟨F, hF⟩ : ∃ F : World → Prop, F = fun u => Below h w u ∧ u.ownsRow h 29 6 (.slice (some ⟨h, 0, none⟩) 1 1) 1 [.int .i64 0, .int .i64 0, .int .i64 0, .int .i64 0, .string ⟨#[]⟩, .int .i64 0] ∧ u.ownsRow b3 60 3 (.slice (some ⟨b3, 0, none⟩) 1 1) 1 [.string t, .int .i64 0, .int .i64 0] ∧ SB u (b3 + 1) t (p : Int) k ∧ u.ownsRow b5 24 5 (.slice (some ⟨b5, 0, none⟩) 1 1) 1 [.int .i64 g, .int .i64 n, .int .i64 m, .int .i64 x, .string t'] := ⟨_, rfl⟩
    have F0 : F wl := by rw [hF]; exact ⟨HB7.out, HO7.out, HT7.out, HS7.out, HEB.out⟩
    have FB : Hid (∀ u v, F u → Below u.heap.size u v → F v) := Lib.hid (by
      rw [hF]
      rintro u v ⟨x0, x1, x2, x3, x4⟩ hb
      exact ⟨x0.trans (hb.mono (Nat.le_of_lt (x1.lt h rfl).2)), own_below x1 hb, own_below x2 hb, x3.below hb, own_below x4 hb⟩)
    have gB : Hid (∀ u, F u → Below h w u) := Lib.hid (by rw [hF]; exact fun u h => h.1)
    have gO : Hid (∀ u, F u → u.ownsRow h 29 6 (.slice (some ⟨h, 0, none⟩) 1 1) 1 [.int .i64 0, .int .i64 0, .int .i64 0, .int .i64 0, .string ⟨#[]⟩, .int .i64 0]) := Lib.hid (by rw [hF]; exact fun u h => h.2.1)
    have gE : Hid (∀ u, F u → u.ownsRow b5 24 5 (.slice (some ⟨b5, 0, none⟩) 1 1) 1 [.int .i64 g, .int .i64 n, .int .i64 m, .int .i64 x, .string t']) := Lib.hid (by rw [hF]; exact fun u h => h.2.2.2.2)
    have gS : Hid (∀ u, F u → (F u ∧ u.cell? ⟨b3 + 1, 2, none⟩ = some (.bool k) ∧ u.cell? ⟨b3 + 1, 1, none⟩ = some (.int .i64 (p : Int)) ∧ u.cell? ⟨b3, 0, none⟩ = some (.string t) ∧ u.cell? ⟨b5, 0, none⟩ = some (.int .i64 g) ∧ u.cell? ⟨b5, 1, none⟩ = some (.int .i64 n) ∧ u.cell? ⟨b5, 2, none⟩ = some (.int .i64 m) ∧ u.cell? ⟨b5, 3, none⟩ = some (.int .i64 x) ∧ u.cell? ⟨b5, 4, none⟩ = some (.string t'))) := Lib.hid (by
      rw [hF]
      intro u hu
      obtain ⟨c0, c1, c2, c3, c4, _⟩ := own5 hu.2.2.2.2
      exact ⟨hu, hu.2.2.2.1.c2, hu.2.2.2.1.c1, (own3 hu.2.2.1).1, c0, c1, c2, c3, c4⟩)
    clear hF HB7 HO7 HT7 HS7 HEB
    have hFn := FB.out _ _ F0 (Below.refl _ _).drew
    cases k
    · by_cases hps : p = t.size
      · skip
        subst hps
        cases b
        · have HR3 : Hid (readE s = (evD, 3)) := Lib.hid (HBAD.out (HRO.out.trans (by simp)))
          clear HRO
          go_region_held3 (fun u => F u ∧ u.cell? ⟨b3 + 1, 2, none⟩ = some (.bool false) ∧ u.cell? ⟨b3 + 1, 1, none⟩ = some (.int .i64 (t.size : Int)) ∧ u.cell? ⟨b3, 0, none⟩ = some (.string t) ∧ u.cell? ⟨b5, 0, none⟩ = some (.int .i64 g) ∧ u.cell? ⟨b5, 1, none⟩ = some (.int .i64 n) ∧ u.cell? ⟨b5, 2, none⟩ = some (.int .i64 m) ∧ u.cell? ⟨b5, 3, none⟩ = some (.int .i64 x) ∧ u.cell? ⟨b5, 4, none⟩ = some (.string t')) (exact gS.out _ hFn)
            (first
            | (go_at_call 15; refine Calls.mono (HRI.out _ HE5.out) ?_; rintro e w1 ⟨rfl, hb⟩; rw [HBB.out]; have hFn := FB.out _ _ hFn hb))
          all_goals
            obtain ⟨q0, q1, q2, q3, q4, q5, f0, f1, f2, f3, f4, f5⟩ := own6 (gO.out _ hFn)
            have HP := Lib.hid (put6 (v0 := .int .i64 0) (v1 := .int .i64 0) (v2 := .int .i64 0) (v3 := .int .i64 0) (v4 := .string ⟨#[]⟩) (v5 := .int .i64 3) q0 q1 q2 q3 q4 q5)
            have HB7 := Lib.hid (((((((gB.out _ hFn).setCell (p := ⟨h, 0, none⟩) (Nat.le_refl _) (.int .i64 0)).setCell (p := ⟨h, 1, none⟩) (Nat.le_refl _) (.int .i64 0)).setCell (p := ⟨h, 2, none⟩) (Nat.le_refl _) (.int .i64 0)).setCell (p := ⟨h, 3, none⟩) (Nat.le_refl _) (.int .i64 0)).setCell (p := ⟨h, 4, none⟩) (Nat.le_refl _) (.string ⟨#[]⟩)).setCell (p := ⟨h, 5, none⟩) (Nat.le_refl _) (.int .i64 3))
            go_wp2_with fail
            obtain ⟨r0, r1, r2, r3, r4, r5⟩ := HP.out
            have hbl := HB7.out
            clear q0 q1 q2 q3 q4 q5
            exact bodyPost_ret (v := .agg #[.int .i64 0, .int .i64 0, .int .i64 0, .int .i64 0, .string ⟨#[]⟩, .int .i64 3]) (by simp [results, Tryd.results13, go_sem, r0, r1, r2, r3, r4, r5]) rfl ⟨by rw [HR3.out]; rfl, by rw [HHE.out] at hbl ⊢; exact hbl⟩
        · have HR3 : Hid (readE s = (rdEnv t, 0)) := Lib.hid (HOK.out (HRO.out.trans (by simp)))
          rw [HEV.out] at HR3
          clear HRO
          go_region_held3 (fun u => F u ∧ u.cell? ⟨b3 + 1, 2, none⟩ = some (.bool false) ∧ u.cell? ⟨b3 + 1, 1, none⟩ = some (.int .i64 (t.size : Int)) ∧ u.cell? ⟨b3, 0, none⟩ = some (.string t) ∧ u.cell? ⟨b5, 0, none⟩ = some (.int .i64 g) ∧ u.cell? ⟨b5, 1, none⟩ = some (.int .i64 n) ∧ u.cell? ⟨b5, 2, none⟩ = some (.int .i64 m) ∧ u.cell? ⟨b5, 3, none⟩ = some (.int .i64 x) ∧ u.cell? ⟨b5, 4, none⟩ = some (.string t')) (exact gS.out _ hFn)
            (first
            | (go_at_call 15; refine Calls.mono (HRI.out _ HE5.out) ?_; rintro e w1 ⟨rfl, hb⟩; rw [HBB.out]; have hFn := FB.out _ _ hFn hb))
          all_goals
            obtain ⟨d0, d1, d2, d3, d4, _, _, _, _, _⟩ := own5 (gE.out _ hFn)
            obtain ⟨q0, q1, q2, q3, q4, q5, f0, f1, f2, f3, f4, f5⟩ := own6 (gO.out _ hFn)
            have HP := Lib.hid (put6 (v0 := .int .i64 g) (v1 := .int .i64 n) (v2 := .int .i64 m) (v3 := .int .i64 x) (v4 := .string t') (v5 := .int .i64 0) q0 q1 q2 q3 q4 q5)
            have HB7 := Lib.hid (((((((gB.out _ hFn).setCell (p := ⟨h, 0, none⟩) (Nat.le_refl _) (.int .i64 g)).setCell (p := ⟨h, 1, none⟩) (Nat.le_refl _) (.int .i64 n)).setCell (p := ⟨h, 2, none⟩) (Nat.le_refl _) (.int .i64 m)).setCell (p := ⟨h, 3, none⟩) (Nat.le_refl _) (.int .i64 x)).setCell (p := ⟨h, 4, none⟩) (Nat.le_refl _) (.string t')).setCell (p := ⟨h, 5, none⟩) (Nat.le_refl _) (.int .i64 0))
            go_wp2_with fail
            obtain ⟨r0, r1, r2, r3, r4, r5⟩ := HP.out
            have hbl := HB7.out
            clear q0 q1 q2 q3 q4 q5
            exact bodyPost_ret (v := .agg #[.int .i64 g, .int .i64 n, .int .i64 m, .int .i64 x, .string t', .int .i64 0]) (by simp [results, Tryd.results13, go_sem, r0, r1, r2, r3, r4, r5]) rfl ⟨by rw [HR3.out]; rfl, by rw [HHE.out] at hbl ⊢; exact hbl⟩
      · skip
        have hpn : ((p : Int) != (t.size : Int)) = true := by rw [bne_iff_ne]; omega
        have HR3 : Hid (readE s = (evD, 3)) := Lib.hid (HBAD.out (HRO.out.trans (by rw [decide_eq_false hps]; simp)))
        have hpq : ((p : Int) == (t.size : Int)) = false := by rw [beq_eq_false_iff_ne]; omega
        clear HRO hps
        obtain ⟨_, k2, k1, k0, _, _, _, _, _⟩ := gS.out _ F0
        clear hFn
        go_quiet (fail)
        clear k2 k1 k0
        generalize hDN : World.drewN _ _ = wq
        have DN : Below wl.heap.size wl wq := by rw [← hDN]; exact ⟨rfl, rfl, rfl, Nat.le_refl _, fun _ _ => rfl⟩
        clear hDN
        obtain ⟨q0, q1, q2, q3, q4, q5, f0, f1, f2, f3, f4, f5⟩ := own6 (gO.out _ (FB.out _ _ F0 DN))
        have HP := Lib.hid (put6 (v0 := .int .i64 0) (v1 := .int .i64 0) (v2 := .int .i64 0) (v3 := .int .i64 0) (v4 := .string ⟨#[]⟩) (v5 := .int .i64 3) q0 q1 q2 q3 q4 q5)
        have HB7 := Lib.hid (((((((gB.out _ (FB.out _ _ F0 DN)).setCell (p := ⟨h, 0, none⟩) (Nat.le_refl _) (.int .i64 0)).setCell (p := ⟨h, 1, none⟩) (Nat.le_refl _) (.int .i64 0)).setCell (p := ⟨h, 2, none⟩) (Nat.le_refl _) (.int .i64 0)).setCell (p := ⟨h, 3, none⟩) (Nat.le_refl _) (.int .i64 0)).setCell (p := ⟨h, 4, none⟩) (Nat.le_refl _) (.string ⟨#[]⟩)).setCell (p := ⟨h, 5, none⟩) (Nat.le_refl _) (.int .i64 3))
        go_wp2_with fail
        obtain ⟨r0, r1, r2, r3, r4, r5⟩ := HP.out
        have hbl := HB7.out
        clear q0 q1 q2 q3 q4 q5
        exact bodyPost_ret (v := .agg #[.int .i64 0, .int .i64 0, .int .i64 0, .int .i64 0, .string ⟨#[]⟩, .int .i64 3]) (by simp [results, Tryd.results13, go_sem, r0, r1, r2, r3, r4, r5]) rfl ⟨by rw [HR3.out]; rfl, by rw [HHE.out] at hbl ⊢; exact hbl⟩
    · skip
      have HR3 : Hid (readE s = (evD, 3)) := Lib.hid (HBAD.out (HRO.out.trans (by simp)))
      clear HRO
      obtain ⟨_, k2, k1, k0, _, _, _, _, _⟩ := gS.out _ F0
      clear hFn
      go_quiet (fail)
      clear k2 k1 k0
      generalize hDN : World.drewN _ _ = wq
      have DN : Below wl.heap.size wl wq := by rw [← hDN]; exact ⟨rfl, rfl, rfl, Nat.le_refl _, fun _ _ => rfl⟩
      clear hDN
      obtain ⟨q0, q1, q2, q3, q4, q5, f0, f1, f2, f3, f4, f5⟩ := own6 (gO.out _ (FB.out _ _ F0 DN))
      have HP := Lib.hid (put6 (v0 := .int .i64 0) (v1 := .int .i64 0) (v2 := .int .i64 0) (v3 := .int .i64 0) (v4 := .string ⟨#[]⟩) (v5 := .int .i64 3) q0 q1 q2 q3 q4 q5)
      have HB7 := Lib.hid (((((((gB.out _ (FB.out _ _ F0 DN)).setCell (p := ⟨h, 0, none⟩) (Nat.le_refl _) (.int .i64 0)).setCell (p := ⟨h, 1, none⟩) (Nat.le_refl _) (.int .i64 0)).setCell (p := ⟨h, 2, none⟩) (Nat.le_refl _) (.int .i64 0)).setCell (p := ⟨h, 3, none⟩) (Nat.le_refl _) (.int .i64 0)).setCell (p := ⟨h, 4, none⟩) (Nat.le_refl _) (.string ⟨#[]⟩)).setCell (p := ⟨h, 5, none⟩) (Nat.le_refl _) (.int .i64 3))
      go_wp2_with fail
      obtain ⟨r0, r1, r2, r3, r4, r5⟩ := HP.out
      have hbl := HB7.out
      clear q0 q1 q2 q3 q4 q5
      exact bodyPost_ret (v := .agg #[.int .i64 0, .int .i64 0, .int .i64 0, .int .i64 0, .string ⟨#[]⟩, .int .i64 3]) (by simp [results, Tryd.results13, go_sem, r0, r1, r2, r3, r4, r5]) rfl ⟨by rw [HR3.out]; rfl, by rw [HHE.out] at hbl ⊢; exact hbl⟩
  · rw [openS_zero s hc] at hsu
    have HF := Lib.hid (readE_code (s := s) hc)
    obtain ⟨c, hcc⟩ : ∃ c, c = (openS s).2.2 := ⟨_, rfl⟩
    rw [← hcc] at HF hsu hc
    have hcb : (c != 0) = true := by simp [hc]
    have HSU := Lib.hid hsu
    clear hcc hsu hc
    unfold textOutV at HSU
    dsimp only at HSU
    go_enter Tryd.func13, Tryd.ntmps13
    go_wp2_with fail
    rw [← hW, ← hh]
    clear hW hh
    refine HSU.out.mono ?_
    rintro e w1 ⟨rfl, hb⟩
    have hhl : h < w1.heap.size := by have := (HO0.out.lt h rfl).2; have := hb.size; omega
    have HO1 := Lib.hid ((own_below HO0.out hb).alloc (.cells #[.string ⟨#[]⟩, .int .i64 0, .int .i64 c] 60))
    have HB1 := Lib.hid ((HB0.out.trans (hb.mono (by have := (HO0.out.lt h rfl).2; omega))).alloc (Nat.le_of_lt hhl) (.cells #[.string ⟨#[]⟩, .int .i64 0, .int .i64 c] 60))
    have HT1 : Hid ((w1.alloc (.cells #[.string ⟨#[]⟩, .int .i64 0, .int .i64 c] 60)).ownsRow w1.heap.size 60 3 (.slice (some ⟨w1.heap.size, 0, none⟩) 1 1) 1 [.string ⟨#[]⟩, .int .i64 0, .int .i64 c]) := Lib.hid (World.ownsRow_lit w1 #[.string ⟨#[]⟩, .int .i64 0, .int .i64 c] 1 (Nat.le_refl _) (by decide) rfl)
    clear hb
    go_upto_if 14 with fail
    generalize w1.alloc (.cells #[.string ⟨#[]⟩, .int .i64 0, .int .i64 c] 60) = wl at *
    generalize w1.heap.size = b3 at *
    obtain ⟨_, _, t2, _, _, _⟩ := own3 HT1.out
    clear hhl HT1
    obtain ⟨q0, q1, q2, q3, q4, q5, f0, f1, f2, f3, f4, f5⟩ := own6 HO1.out
    have HP := Lib.hid (put6 (v0 := .int .i64 0) (v1 := .int .i64 0) (v2 := .int .i64 0) (v3 := .int .i64 0) (v4 := .string ⟨#[]⟩) (v5 := .int .i64 c) q0 q1 q2 q3 q4 q5)
    have HB7 := Lib.hid ((((((HB1.out.setCell (p := ⟨h, 0, none⟩) (Nat.le_refl _) (.int .i64 0)).setCell (p := ⟨h, 1, none⟩) (Nat.le_refl _) (.int .i64 0)).setCell (p := ⟨h, 2, none⟩) (Nat.le_refl _) (.int .i64 0)).setCell (p := ⟨h, 3, none⟩) (Nat.le_refl _) (.int .i64 0)).setCell (p := ⟨h, 4, none⟩) (Nat.le_refl _) (.string ⟨#[]⟩)).setCell (p := ⟨h, 5, none⟩) (Nat.le_refl _) (.int .i64 c))
    go_wp2_with fail
    obtain ⟨r0, r1, r2, r3, r4, r5⟩ := HP.out
    have hbl := HB7.out
    clear q0 q1 q2 q3 q4 q5
    exact bodyPost_ret (v := .agg #[.int .i64 0, .int .i64 0, .int .i64 0, .int .i64 0, .string ⟨#[]⟩, .int .i64 c]) (by simp [results, Tryd.results13, go_sem, r0, r1, r2, r3, r4, r5]) rfl ⟨by rw [HF.out]; rfl, by rw [HHE.out] at hbl ⊢; exact hbl⟩
theorem eqEnvOut_same (g n m x : Int) (t : ByteArray) (c : Int) (w : World) :
    Calls Tryd.prog 17 #[.agg #[.int .i64 g, .int .i64 n, .int .i64 m, .int .i64 x, .string t, .int .i64 c], .agg #[.int .i64 g, .int .i64 n, .int .i64 m, .int .i64 x, .string t, .int .i64 c]] w fun e w' => e = .returned (.bool true) ∧ Below w.heap.size w w' := by
  have HB0 : Hid (Below w.heap.size w ((w.alloc (.cells #[.int .i64 g, .int .i64 n, .int .i64 m, .int .i64 x, .string t, .int .i64 c] 29)).alloc (.cells #[.int .i64 g, .int .i64 n, .int .i64 m, .int .i64 x, .string t, .int .i64 c] 29))) := Lib.hid (((Below.refl _ _).alloc (Nat.le_refl _) _).alloc (by simp) _)
  go_enter Tryd.func17, Tryd.ntmps17
  go_wp2_with fail
  refine (eqEnv_same g n m x t _).mono ?_
  rintro e w1 ⟨rfl, hb1⟩
  obtain ⟨hc, hf⟩ := bcell hb1
  have hz : w.heap.size + 1 < w1.heap.size := by have := hb1.size; simp at this; omega
  have HB1 := Lib.hid (HB0.out.trans (hb1.mono (by simp; omega)))
  clear hb1 HB0
  go_wp2_with fail
  go_ret
  exact ⟨ret_bool (by simp), HB1.out⟩
end Go.Proofs.YtdnbkjiijpeiiaaDoor
