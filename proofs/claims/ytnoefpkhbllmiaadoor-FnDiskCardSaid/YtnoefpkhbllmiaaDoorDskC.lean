/- The disk: what the program answers, layer by layer. -/
import Derived.Test.YtnoefpkhbllmiaaDoorDskA
import Derived.Test.YtnoefpkhbllmiaaDoorDskB
import Derived.Test.YtnoefpkhbllmiaaDoorTillZ
import Derived.StillTailTactics
namespace Go.Proofs.YtnoefpkhbllmiaaDoor
open Go.RowKit Go.PlainAid G
set_option linter.unusedVariables false
theorem implDiskRight_any (s t : ByteArray) (w : World) (h : s.size + t.size ≤ 9007199254740992) :
    Calls Tryd.prog 13 #[.agg #[.string s, .string t]] w fun e w' => e = .returned (.bool (decide (s.size + t.size ≤ 3000))) ∧ Below w.heap.size w w' := by
  have HB : Hid (Below w.heap.size w (w.alloc (.cells #[.string s, .string t] 24))) := Lib.hid ((Below.refl _ _).alloc (Nat.le_refl _) _)
  have hw : IntKind.i64.wrap (3000 - (s.size : Int)) = 3000 - (s.size : Int) := by rw [IntWalk.i64_in _ (by omega)]
  by_cases h1 : s.size + t.size ≤ 3000
  · have h2 : (t.size : Int) ≤ 3000 - (s.size : Int) := by omega
    go_enter Tryd.func13, Tryd.ntmps13
    go_wp2_with fail
    go_ret
    exact ⟨ret_bool (by simp; try omega), HB.out⟩
  · have h2 : ¬ (t.size : Int) ≤ 3000 - (s.size : Int) := by omega
    go_enter Tryd.func13, Tryd.ntmps13
    go_wp2_with fail
    go_ret
    exact ⟨ret_bool (by simp; try omega), HB.out⟩
theorem told_any (s t : ByteArray) (a b : Option Addr) (base n c m d : Nat) (w : World) (hs : BS w base a n c s) (ht : BS w base b m d t) :
    Calls Tryd.prog 29 #[.agg #[.slice a n c, .slice b m d]] w fun e w' => e = .returned (dkV (s, t)) ∧ Below w.heap.size w w' := by
  obtain ⟨W, hW⟩ : ∃ W, W = (w.alloc (.cells #[.slice a n c, .slice b m d] 54)).alloc (.cells #[.string ⟨#[]⟩, .string ⟨#[]⟩] 24) := ⟨_, rfl⟩
  have hB : Below w.heap.size w W := by rw [hW]; exact ((Below.refl _ _).alloc (Nat.le_refl _) _).alloc (by simp) _
  have HB := Lib.hid hB
  have x0 : W.cell? ⟨w.heap.size, 0, none⟩ = some (.slice a n c) := by rw [hW]; simp
  have x1 : W.cell? ⟨w.heap.size, 1, none⟩ = some (.slice b m d) := by rw [hW]; simp
  have y0 : W.cell? ⟨w.heap.size + 1, 0, none⟩ = some (.string ⟨#[]⟩) := by rw [hW]; simp
  have y1 : W.cell? ⟨w.heap.size + 1, 1, none⟩ = some (.string ⟨#[]⟩) := by rw [hW]; simp
  have z0 : W.frozen? ⟨w.heap.size + 1, 0, none⟩ = false := by rw [hW]; simp
  have z1 : W.frozen? ⟨w.heap.size + 1, 1, none⟩ = false := by rw [hW]; simp
  have hcs : (convert 22 9 (.slice a n c)).run Tryd.prog W = .ok (.string s) W := BS.conv _ _ 5 Tryd.underlying22 Tryd.underlying5 Tryd.underlying9 (hs.below hB)
  have hct : (convert 22 9 (.slice b m d)).run Tryd.prog W = .ok (.string t) W := BS.conv _ _ 5 Tryd.underlying22 Tryd.underlying5 Tryd.underlying9 (ht.below hB)
  clear hB hs ht x0 x1 y0 y1 z0 z1
  rw [hW] at hcs hct
  go_enter Tryd.func29, Tryd.ntmps29
  go_wp2_with fail
  exact bodyPost_ret (v := .agg #[.string s, .string t]) (by simp [results, Tryd.results29, go_sem]) rfl ⟨rfl, by repeat' (first | exact Below.refl _ _ | refine Below.alloc ?_ (by first | exact Nat.le_refl _ | (simp; done) | (simp; omega)) _ | refine Below.setCell ?_ (by first | exact Nat.le_refl _ | (simp; done) | (simp; omega)) _)⟩
set_option maxRecDepth 100000 in
set_option maxHeartbeats 1600000 in
theorem laidOut_any (s t : ByteArray) (w : World) (h : s.size + t.size ≤ 10000000) :
    Calls Tryd.prog 26 #[.agg #[.string s, .string t]] w fun e w' => ∃ a b, e = .returned (.agg #[.slice a s.size s.size, .slice b t.size t.size]) ∧ BS w' w.heap.size a s.size s.size s ∧ BS w' w.heap.size b t.size t.size t ∧ Below w.heap.size w w' := by
  obtain ⟨i0, hi, hh⟩ := Option.map_eq_some_iff.1 infoU8
  obtain ⟨hz0, hz1, hz2⟩ : i0.zero = some (.int .u8 0) ∧ i0.size = 1 ∧ i0.bytes = 1 := by simpa using hh
  obtain ⟨W, hW⟩ : ∃ W, W = (w.alloc (.cells #[.string s, .string t] 24)).alloc (.cells #[.slice none 0 0, .slice none 0 0] 54) := ⟨_, rfl⟩
  have hB : Below w.heap.size w W := by rw [hW]; exact ((Below.refl _ _).alloc (Nat.le_refl _) _).alloc (by simp) _
  have x0 : W.cell? ⟨w.heap.size, 0, none⟩ = some (.string s) := by rw [hW]; simp
  have x1 : W.cell? ⟨w.heap.size, 1, none⟩ = some (.string t) := by rw [hW]; simp
  have y0 : W.cell? ⟨w.heap.size + 1, 0, none⟩ = some (.slice none 0 0) := by rw [hW]; simp
  have y1 : W.cell? ⟨w.heap.size + 1, 1, none⟩ = some (.slice none 0 0) := by rw [hW]; simp
  have z0 : W.frozen? ⟨w.heap.size + 1, 0, none⟩ = false := by rw [hW]; simp
  have z1 : W.frozen? ⟨w.heap.size + 1, 1, none⟩ = false := by rw [hW]; simp
  have hsz : W.heap.size = w.heap.size + 2 := by rw [hW, World.size_alloc, World.size_alloc]
  have hcv := Lib.run_convert_string_bytes (P := Tryd.prog) W 9 22 5 s Tryd.underlying9 Tryd.underlying22 Tryd.underlying5
  obtain ⟨g, c, w2, hA, hcap, hg, hlt, hby, hb2⟩ := conv_append (P := Tryd.prog) W s t 22 9 22 5 i0 Tryd.underlying22 Tryd.underlying9 hi hz0 hz1 hz2 h
  have hb1 : Below W.heap.size W (Lib.bytesWorld W 5 s) := ⟨rfl, rfl, rfl, by rw [Lib.bytesWorld_size]; omega, fun k hk => Lib.bytesWorld_at_old W _ s k hk⟩
  obtain ⟨w1, hw1⟩ : ∃ w1, w1 = Lib.bytesWorld W 5 s := ⟨_, rfl⟩
  rw [← hw1] at hcv hA hb1
  clear hw1
  have v1 := (hb1.cell (p := ⟨w.heap.size, 1, none⟩) (by show w.heap.size < W.heap.size; omega)).trans x1
  have u0 := (hb2.cell (p := ⟨w.heap.size, 0, none⟩) (by show w.heap.size < W.heap.size; omega)).trans x0
  have r0 := (hb2.cell (p := ⟨w.heap.size + 1, 0, none⟩) (by show w.heap.size + 1 < W.heap.size; omega)).trans y0
  have r1 := (hb2.cell (p := ⟨w.heap.size + 1, 1, none⟩) (by show w.heap.size + 1 < W.heap.size; omega)).trans y1
  have f0 := (hb2.frozen (p := ⟨w.heap.size + 1, 0, none⟩) (by show w.heap.size + 1 < W.heap.size; omega)).trans z0
  have f1 := (hb2.frozen (p := ⟨w.heap.size + 1, 1, none⟩) (by show w.heap.size + 1 < W.heap.size; omega)).trans z1
  have HB2 := Lib.hid (hB.trans (hb2.mono hB.size))
  have HBY := Lib.hid hby
  have HG := Lib.hid hg
  have HLT := Lib.hid hlt
  have HSZ := Lib.hid hsz
  have hsT := sizeOfU8
  have e0 : (0 : Int) ≤ (s.size : Int) := by omega
  have e1 : (s.size : Int) ≤ (c : Int) := by omega
  have e2 : (s.size : Int) ≤ ((s.size + t.size : Nat) : Int) := by omega
  have e3 : ((s.size + t.size : Nat) : Int) ≤ (c : Int) := by omega
  have e4 : (s.size : Int) ≤ (s.size : Int) + (t.size : Int) := by omega
  have e5 : (s.size : Int) + (t.size : Int) ≤ (c : Int) := by omega
  clear hB y0 y1 z0 z1 x1 hb1 hb2 hby hg hlt hcap hsz
  obtain ⟨gc, hgc⟩ : ∃ gc, gc = grownCap W s.size 0 5 := ⟨_, rfl⟩
  have hblk : W.heap.size = w.heap.size + 1 + 1 := HSZ.out
  rw [← hgc, hblk] at hcv hA
  rw [hW] at hcv
  clear hgc hblk
  have hN : ((s.size : Int) + (t.size : Int)).toNat = s.size + t.size := by omega
  have hlt2 : w.heap.size + 1 < w2.heap.size := by have := HSZ.out; have := HG.out; have := HLT.out; omega
  have HNE : Hid (∀ o g' o', some (⟨g, o, none⟩ : Addr) = some ⟨g', o', none⟩ → g' ≠ w.heap.size + 1) := Lib.hid (fun o g' o' h => by cases h; have := HSZ.out; have := HG.out; omega)
  have HT : Hid (∀ o, Lib.Bytes w2 g o s → BS w2 w.heap.size (some ⟨g, o, none⟩) s.size s.size s) := Lib.hid (fun o h => ⟨rfl, Nat.le_refl _, .inr ⟨g, o, rfl, by have := HSZ.out; have := HG.out; omega, HLT.out, h⟩⟩)
  have HT2 : Hid (∀ o, Lib.Bytes w2 g o t → BS w2 w.heap.size (some ⟨g, o, none⟩) t.size t.size t) := Lib.hid (fun o h => ⟨rfl, Nat.le_refl _, .inr ⟨g, o, rfl, by have := HSZ.out; have := HG.out; omega, HLT.out, h⟩⟩)
  have HFB : Hid (∀ u v : Value, Below w.heap.size w ((w2.setCell ⟨w.heap.size + 1, 0, none⟩ u).setCell ⟨w.heap.size + 1, 1, none⟩ v).drew) := Lib.hid (fun u v => ((HB2.out.setCell (p := ⟨w.heap.size + 1, 0, none⟩) (by simp) _).setCell (p := ⟨w.heap.size + 1, 1, none⟩) (by simp) _).drew)
  by_cases hte : t = ByteArray.empty
  · have hte2 : t.size = 0 := by rw [hte]; rfl
    have HTE : Hid (Lib.Bytes w2 g 0 t) := Lib.hid (fun i hi => absurd hi (by omega))
    clear hte
    go_enter Tryd.func26, Tryd.ntmps26
    go_wp2_with (at_builtin; refine app_wl rfl _ _ 22 9 22 rfl rfl _ _ _ rfl rfl hA ?_)
    go_still_tail 10, (by kernel_rfl)
    go_wp2_with fail
    refine bodyPost_ret (v := .agg #[.slice (some ⟨g, 0, none⟩) s.size s.size, .slice (some ⟨g, 0, none⟩) 0 0]) (by simp [results, Tryd.results26, go_sem, hlt2, r0, r1]) rfl ⟨_, some ⟨g, 0, none⟩, by rw [hte2], (((HT.out _ (bytes_left HBY.out)).other _ _ (HNE.out _)).other _ _ (HNE.out _)).drew, (((HT2.out _ HTE.out).other _ _ (HNE.out _)).other _ _ (HNE.out _)).drew, HFB.out _ _⟩
  · have hte2 : ¬ t.size = 0 := fun h => hte (bytes_none h)
    go_enter Tryd.func26, Tryd.ntmps26
    go_wp2_with (at_builtin; refine app_wl rfl _ _ 22 9 22 rfl rfl _ _ _ rfl rfl hA ?_)
    go_still_tail 10, (by kernel_rfl)
    go_wp2_with fail
    exact bodyPost_ret (v := .agg #[.slice (some ⟨g, 0, none⟩) s.size s.size, .slice (some ⟨g, s.size, none⟩) t.size t.size]) (by simp [results, Tryd.results26, go_sem, hlt2, r0, r1]) rfl ⟨_, _, rfl, (((HT.out _ (bytes_left HBY.out)).other _ _ (HNE.out _)).other _ _ (HNE.out _)).drew, (((HT2.out _ (by have := bytes_right HBY.out; rwa [Nat.zero_add] at this)).other _ _ (HNE.out _)).other _ _ (HNE.out _)).drew, HFB.out _ _⟩
set_option maxRecDepth 100000 in
theorem synced_any (s t : ByteArray) (a b : Option Addr) (base n m : Nat) (w : World) (hs : BS w base a n n s) (ht : BS w base b m m t) (hb : base ≤ w.heap.size) (hn : n + m ≤ 10000000) :
    Calls Tryd.prog 28 #[.agg #[.slice a n n, .slice b m m]] w fun e w' => ∃ a' c', e = .returned (.agg #[.slice a' (n + m) c', .slice none 0 0]) ∧ BS w' base a' (n + m) c' (s ++ t) ∧ Below w.heap.size w w' ∧ (a' = a ∨ ∃ g, a' = some ⟨g, 0, none⟩ ∧ w.heap.size ≤ g) := by
  obtain ⟨i0, hi, hh⟩ := Option.map_eq_some_iff.1 infoU8
  obtain ⟨hz0, hz1, hz2⟩ : i0.zero = some (.int .u8 0) ∧ i0.size = 1 ∧ i0.bytes = 1 := by simpa using hh
  obtain ⟨W, hW⟩ : ∃ W, W = (w.alloc (.cells #[.slice a n n, .slice b m m] 54)).alloc (.cells #[.slice none 0 0, .slice none 0 0] 54) := ⟨_, rfl⟩
  have hB : Below w.heap.size w W := by rw [hW]; exact ((Below.refl _ _).alloc (Nat.le_refl _) _).alloc (by simp) _
  have x0 : W.cell? ⟨w.heap.size, 0, none⟩ = some (.slice a n n) := by rw [hW]; simp
  have x1 : W.cell? ⟨w.heap.size, 1, none⟩ = some (.slice b m m) := by rw [hW]; simp
  have y0 : W.cell? ⟨w.heap.size + 1, 0, none⟩ = some (.slice none 0 0) := by rw [hW]; simp
  have y1 : W.cell? ⟨w.heap.size + 1, 1, none⟩ = some (.slice none 0 0) := by rw [hW]; simp
  have z0 : W.frozen? ⟨w.heap.size + 1, 0, none⟩ = false := by rw [hW]; simp
  have z1 : W.frozen? ⟨w.heap.size + 1, 1, none⟩ = false := by rw [hW]; simp
  have hsz : W.heap.size = w.heap.size + 2 := by rw [hW, World.size_alloc, World.size_alloc]
  obtain ⟨a', c', w2, hA, hS, hb2, hwh⟩ := BS.append (P := Tryd.prog) 22 22 22 5 i0 Tryd.underlying22 hi hz0 hz1 hz2 (hs.below hB) (.slice b m m) t (BS.src Tryd.underlying22 (ht.below hB)) ht.1 (Nat.le_trans hb hB.size) hn
  have r0 := (hb2.cell (p := ⟨w.heap.size + 1, 0, none⟩) (by show w.heap.size + 1 < W.heap.size; omega)).trans y0
  have r1 := (hb2.cell (p := ⟨w.heap.size + 1, 1, none⟩) (by show w.heap.size + 1 < W.heap.size; omega)).trans y1
  have f0 := (hb2.frozen (p := ⟨w.heap.size + 1, 0, none⟩) (by show w.heap.size + 1 < W.heap.size; omega)).trans z0
  have f1 := (hb2.frozen (p := ⟨w.heap.size + 1, 1, none⟩) (by show w.heap.size + 1 < W.heap.size; omega)).trans z1
  have HB2 := Lib.hid (hB.trans (hb2.mono hB.size))
  have HS := Lib.hid hS
  have HWH : Hid (a' = a ∨ ∃ g, a' = some ⟨g, 0, none⟩ ∧ w.heap.size ≤ g) := Lib.hid (hwh.imp id (fun ⟨g, h1, h2⟩ => ⟨g, h1, by omega⟩))
  have HNE : Hid (∀ g o, a' = some ⟨g, o, none⟩ → g ≠ w.heap.size + 1) := Lib.hid (fun g o hg => by
    rcases hwh with rfl | ⟨g2, rfl, h2⟩
    · rcases hs.2.2 with ⟨rfl, _⟩ | ⟨g3, o3, rfl, _, h3, _⟩
      · cases hg
      · cases hg; omega
    · cases hg; omega)
  have hlt : w.heap.size + 1 < w2.heap.size := by have := hb2.size; omega
  have HSZ := Lib.hid hsz
  clear hB hs ht hS hb2 hwh y0 y1 z0 z1 hsz
  rw [hW] at hA
  go_enter Tryd.func28, Tryd.ntmps28
  go_wp2_with (at_builtin; refine app_wl rfl _ _ 22 22 22 rfl rfl _ _ _ rfl rfl hA ?_)
  refine bodyPost_ret (v := .agg #[.slice a' (n + m) c', .slice none 0 0]) (by simp [results, Tryd.results28, go_sem, hlt, r0, r1]) rfl ⟨a', c', rfl, (HS.out.other _ _ HNE.out).other _ _ HNE.out, ?_, HWH.out⟩
  exact (HB2.out.setCell (p := ⟨w.heap.size + 1, 0, none⟩) (by simp) _).setCell (p := ⟨w.heap.size + 1, 1, none⟩) (by simp) _
set_option maxRecDepth 100000 in
theorem torn_any (s t : ByteArray) (a b : Option Addr) (base n m : Nat) (k : Int) (w : World) (hs : BS w base a n n s) (ht : BS w base b m m t) :
    Calls Tryd.prog 27 #[.agg #[.slice a n n, .slice b m m], .int .i64 k] w fun e w' => e = .returned (.agg #[.slice a n n, .slice b (dkKeep t k) (dkKeep t k)]) ∧ BS w' base b (dkKeep t k) (dkKeep t k) (t.extract 0 (dkKeep t k)) ∧ Below w.heap.size w w' := by
  have hsT := sizeOfU8
  have hm : m = t.size := ht.1
  obtain ⟨j, hj⟩ : ∃ j, j = min (max k 0) (m : Int) := ⟨_, rfl⟩
  have hk0 : (0 : Int) ≤ j := by omega
  have hk1 : j ≤ (m : Int) := by omega
  have HK : Hid (j.toNat = dkKeep t k) := Lib.hid (by unfold dkKeep; rw [hj, hm])
  have hj' := hj.symm
  have HS := Lib.hid ht
  have HM := Lib.hid hm
  clear hj ht hs hm
  obtain ⟨W, hW⟩ : ∃ W, W = (w.alloc (.cells #[.slice a n n, .slice b m m] 54)).alloc (.cells #[.slice none 0 0, .slice none 0 0] 54) := ⟨_, rfl⟩
  have HB := Lib.hid (show Below w.heap.size w W by rw [hW]; exact ((Below.refl _ _).alloc (Nat.le_refl _) _).alloc (by simp) _)
  have x0 : W.cell? ⟨w.heap.size, 0, none⟩ = some (.slice a n n) := by rw [hW]; simp
  have x1 : W.cell? ⟨w.heap.size, 1, none⟩ = some (.slice b m m) := by rw [hW]; simp
  have y0 : W.cell? ⟨w.heap.size + 1, 0, none⟩ = some (.slice none 0 0) := by rw [hW]; simp
  have y1 : W.cell? ⟨w.heap.size + 1, 1, none⟩ = some (.slice none 0 0) := by rw [hW]; simp
  have z0 : W.frozen? ⟨w.heap.size + 1, 0, none⟩ = false := by rw [hW]; simp
  have z1 : W.frozen? ⟨w.heap.size + 1, 1, none⟩ = false := by rw [hW]; simp
  have HSZ := Lib.hid (show W.heap.size = w.heap.size + 2 by rw [hW, World.size_alloc, World.size_alloc])
  go_enter Tryd.func27, Tryd.ntmps27
  go_wp2_with fail
  rw [← hW]
  clear hj' hW
  go_still_tail 8, (by kernel_rfl)
  go_wp2_with fail
  have hlt : w.heap.size + 1 < W.heap.size := by have := HSZ.out; omega
  refine bodyPost_ret (v := .agg #[.slice a n n, .slice b j.toNat j.toNat]) (by simp [results, Tryd.results27, go_sem, hlt, y0, y1]) rfl ?_
  rw [HK.out]
  have hne : ∀ g o, b = some ⟨g, o, none⟩ → g ≠ w.heap.size + 1 := fun g o hg => by
    rcases HS.out.2.2 with ⟨rfl, _⟩ | ⟨g3, o3, rfl, _, h3, _⟩
    · cases hg
    · cases hg; omega
  have hkl : dkKeep t k ≤ t.size := by have := HK.out; have := HM.out; omega
  refine ⟨rfl, ((((HS.out.take _ hkl).below HB.out).other _ _ hne).other _ _ hne).drew, ?_⟩
  exact ((HB.out.setCell (p := ⟨w.heap.size + 1, 0, none⟩) (by simp) _).setCell (p := ⟨w.heap.size + 1, 1, none⟩) (by simp) _).drew
end Go.Proofs.YtnoefpkhbllmiaaDoor
