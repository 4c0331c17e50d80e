/- What the program's and the model's Append answer. -/
import Derived.Test.YtnoefpkhbllmiaaDoorDskI
import Derived.Test.YtnoefpkhbllmiaaDoorTillZ
namespace Go.Proofs.YtnoefpkhbllmiaaDoor
open Go.RowKit Go.PlainAid G
set_option linter.unusedVariables false
set_option maxRecDepth 100000 in
set_option maxHeartbeats 1600000 in
theorem appended_long (s t b : ByteArray) (e0 e1 e2 : Addr) (w : World) (hd : DS w e0 e1 e2) (h : s.size + t.size ≤ 1048576) (hbb : b.size ≤ 1048576) (h1 : 8000 < b.size) :
    Calls Tryd.prog 22 #[.agg #[.string s, .string t], .string b] w fun e w' => e = .returned (.tuple #[.agg #[.string (⟨#[]⟩), .string (⟨#[]⟩)], .iface 66 (.agg #[.int .i64 (b.size : Int), .iface 85 (.pointer (some e0))])]) ∧ Below w.heap.size w w' := by
  obtain ⟨W, hW⟩ : ∃ W, W = (w.alloc (.cells #[.string s, .string t] 24)).alloc (.cells #[.string ⟨#[]⟩, .string ⟨#[]⟩] 24) := ⟨_, rfl⟩
  have HB0 := Lib.hid (show Below w.heap.size w W by rw [hW]; exact ((Below.refl _ _).alloc (Nat.le_refl _) _).alloc (by simp) _)
  have HX := Lib.hid (show DkBox W w.heap.size s t by rw [hW]; exact ⟨by simp; omega, by simp, by simp⟩)
  have HY := Lib.hid (show DkBox W (w.heap.size + 1) ⟨#[]⟩ ⟨#[]⟩ by rw [hW]; exact ⟨by simp, by simp, by simp⟩)
  have HZ := Lib.hid (show DkFree W (w.heap.size + 1) by rw [hW]; exact ⟨by simp, by simp⟩)
  have HD := Lib.hid (hd.below HB0.out)
  have HGL : Hid (0 < w.heap.size ∧ 1 < w.heap.size ∧ 2 < w.heap.size) := Lib.hid ⟨lt_of_cell hd.v0, lt_of_cell hd.v1, lt_of_cell hd.v2⟩
  have HBW := Lib.hid (Below.refl W.heap.size W)
  have hmx : Tryd.prog.follows .mixedOrders = true := by kernel_rfl
  clear hd
  go_enter Tryd.func22, Tryd.ntmps22
  go_wp2_with fail
  rw [← hW]
  clear hW
  refine (tooLong_any b _ (by unfold maxLen; omega)).mono ?_
  rintro e w1 ⟨rfl, rfl⟩
  rw [decide_eq_true h1]
  have r0 := (HY.out.below HBW.out).c0
  have r1 := (HY.out.below HBW.out).c1
  have f0 := (HZ.out.below HY.out.lt HBW.out).f0
  have f1 := (HZ.out.below HY.out.lt HBW.out).f1
  have hlt := (HY.out.below HBW.out).lt
  have v := (HD.out.below HBW.out).v0
  go_wp2_with fail
  clear r0 r1 f0 f1 hlt
  refine TillZ.region (t := 7) hmx (fun u => u.cell? ⟨0, 0, none⟩ = some (.iface 85 (.pointer (some e0)))) ?_
  have HBd := Lib.hid HBW.out.drew
  clear v
  generalize W.drew = wd at *
  have r0 := (HY.out.below HBd.out).c0
  have r1 := (HY.out.below HBd.out).c1
  have f0 := (HZ.out.below HY.out.lt HBd.out).f0
  have f1 := (HZ.out.below HY.out.lt HBd.out).f1
  have hlt := (HY.out.below HBd.out).lt
  have v := (HD.out.below HBd.out).v0
  have hS0 : wd.cell? ⟨0, 0, none⟩ = some (.iface 85 (.pointer (some e0))) := v
  refine TillZ.take (i := 0) (v := .agg #[.string ⟨#[]⟩, .string ⟨#[]⟩]) rfl rfl rfl (by kernel_rfl) (by kernel_rfl) (by kernel_rfl) (by kernel_rfl) hS0 (fun u hu => by go_simp) ?_
  simp only [Act.put, List.getElem_toArray, List.getElem_cons_zero, List.getElem_cons_succ, List.setIfInBounds_toArray, List.set_cons_zero, List.set_cons_succ]
  refine TillZ.take (i := 1) (v := .string b) rfl rfl rfl (by kernel_rfl) (by kernel_rfl) (by kernel_rfl) (by kernel_rfl) hS0 (fun u hu => by go_simp) ?_
  simp only [Act.put, List.getElem_toArray, List.getElem_cons_zero, List.getElem_cons_succ, List.setIfInBounds_toArray, List.set_cons_zero, List.set_cons_succ]
  refine TillZ.take (i := 2) (v := .int .i64 (b.size : Int)) rfl rfl rfl (by kernel_rfl) (by kernel_rfl) (by kernel_rfl) (by kernel_rfl) hS0 (fun u hu => by go_simp) ?_
  simp only [Act.put, List.getElem_toArray, List.getElem_cons_zero, List.getElem_cons_succ, List.setIfInBounds_toArray, List.set_cons_zero, List.set_cons_succ]
  refine TillZ.take (i := 3) (v := .iface 85 (.pointer (some e0))) rfl rfl rfl (by kernel_rfl) (by kernel_rfl) (by kernel_rfl) (by kernel_rfl) hS0 (fun u hu => by have z := hu; go_simp) ?_
  simp only [Act.put, List.getElem_toArray, List.getElem_cons_zero, List.getElem_cons_succ, List.setIfInBounds_toArray, List.set_cons_zero, List.set_cons_succ]
  refine TillZ.take (i := 4) (v := .agg #[.int .i64 (b.size : Int), .iface 85 (.pointer (some e0))]) rfl rfl rfl (by kernel_rfl) (by kernel_rfl) (by kernel_rfl) (by kernel_rfl) hS0 (fun u hu => by go_simp) ?_
  simp only [Act.put, List.getElem_toArray, List.getElem_cons_zero, List.getElem_cons_succ, List.setIfInBounds_toArray, List.set_cons_zero, List.set_cons_succ]
  refine TillZ.take (i := 5) (v := .iface 66 (.agg #[.int .i64 (b.size : Int), .iface 85 (.pointer (some e0))])) rfl rfl rfl (by kernel_rfl) (by kernel_rfl) (by kernel_rfl) (by kernel_rfl) hS0 (fun u hu => by go_simp) ?_
  simp only [Act.put, List.getElem_toArray, List.getElem_cons_zero, List.getElem_cons_succ, List.setIfInBounds_toArray, List.set_cons_zero, List.set_cons_succ]
  have hS1 : ((wd.setCell ⟨w.heap.size + 1, 0, none⟩ (.string ⟨#[]⟩)).setCell ⟨w.heap.size + 1, 1, none⟩ (.string ⟨#[]⟩)).cell? ⟨0, 0, none⟩ = some (.iface 85 (.pointer (some e0))) := by rw [World.cell?_setCell_other _ _ _ _ (by intro h2; injection h2 with h3; have := HGL.out; omega), World.cell?_setCell_other _ _ _ _ (by intro h2; injection h2 with h3; have := HGL.out; omega)]; exact v
  refine TillZ.one (i := 6) (by kernel_rfl) ?_
  refine TillZ.opz_skip (i := 6) (w' := (wd.setCell ⟨w.heap.size + 1, 0, none⟩ (.string ⟨#[]⟩)).setCell ⟨w.heap.size + 1, 1, none⟩ (.string ⟨#[]⟩)) rfl rfl rfl (by go_simp) hS1 ?_
  simp only [Act.put, List.getElem_toArray, List.getElem_cons_zero, List.getElem_cons_succ, List.setIfInBounds_toArray, List.set_cons_zero, List.set_cons_succ]
  refine TillZ.hand (v := .iface 66 (.agg #[.int .i64 (b.size : Int), .iface 85 (.pointer (some e0))])) (by kernel_rfl) rfl rfl (by go_simp) ?_
  simp only [Act.put, List.getElem_toArray, List.getElem_cons_zero, List.getElem_cons_succ, List.setIfInBounds_toArray, List.set_cons_zero, List.set_cons_succ]
  refine TillZ.any_done (by kernel_rfl) ?_ _
  go_wp2_with fail
  refine bodyPost_ret (v := .tuple #[.agg #[.string (⟨#[]⟩), .string (⟨#[]⟩)], .iface 66 (.agg #[.int .i64 (b.size : Int), .iface 85 (.pointer (some e0))])]) (by simp [results, Tryd.results22, go_sem, hlt, r0, r1]) rfl ⟨rfl, ?_⟩
  exact HB0.out.trans (((HBd.out.mono HB0.out.size).setCell (p := ⟨w.heap.size + 1, 0, none⟩) (by simp) _).setCell (p := ⟨w.heap.size + 1, 1, none⟩) (by simp) _)
set_option maxRecDepth 100000 in
set_option maxHeartbeats 1600000 in
theorem appended_wrong (s t b : ByteArray) (e0 e1 e2 : Addr) (w : World) (hd : DS w e0 e1 e2) (h : s.size + t.size ≤ 1048576) (hbb : b.size ≤ 1048576) (h1 : ¬ 8000 < b.size) (h2 : 3000 < s.size + t.size) :
    Calls Tryd.prog 22 #[.agg #[.string s, .string t], .string b] w fun e w' => e = .returned (.tuple #[.agg #[.string (⟨#[]⟩), .string (⟨#[]⟩)], .iface 66 (.agg #[.int .i64 (b.size : Int), .iface 85 (.pointer (some e1))])]) ∧ Below w.heap.size w w' := by
  obtain ⟨W, hW⟩ : ∃ W, W = (w.alloc (.cells #[.string s, .string t] 24)).alloc (.cells #[.string ⟨#[]⟩, .string ⟨#[]⟩] 24) := ⟨_, rfl⟩
  have HB0 := Lib.hid (show Below w.heap.size w W by rw [hW]; exact ((Below.refl _ _).alloc (Nat.le_refl _) _).alloc (by simp) _)
  have HX := Lib.hid (show DkBox W w.heap.size s t by rw [hW]; exact ⟨by simp; omega, by simp, by simp⟩)
  have HY := Lib.hid (show DkBox W (w.heap.size + 1) ⟨#[]⟩ ⟨#[]⟩ by rw [hW]; exact ⟨by simp, by simp, by simp⟩)
  have HZ := Lib.hid (show DkFree W (w.heap.size + 1) by rw [hW]; exact ⟨by simp, by simp⟩)
  have HD := Lib.hid (hd.below HB0.out)
  have HGL : Hid (0 < w.heap.size ∧ 1 < w.heap.size ∧ 2 < w.heap.size) := Lib.hid ⟨lt_of_cell hd.v0, lt_of_cell hd.v1, lt_of_cell hd.v2⟩
  have HBW := Lib.hid (Below.refl W.heap.size W)
  have hmx : Tryd.prog.follows .mixedOrders = true := by kernel_rfl
  clear hd
  go_enter Tryd.func22, Tryd.ntmps22
  go_wp2_with fail
  rw [← hW]
  clear hW
  refine (tooLong_any b _ (by unfold maxLen; omega)).mono ?_
  rintro e w1 ⟨rfl, rfl⟩
  rw [decide_eq_false (by omega)]
  have x0 := (HX.out.below HBW.out).c0
  have x1 := (HX.out.below HBW.out).c1
  go_wp2_with fail
  refine (implDiskRight_any s t _ (by omega)).mono ?_
  rintro e w2 ⟨rfl, hb⟩
  have HB2 := Lib.hid hb
  clear hb x0 x1
  rw [decide_eq_false (by omega)]
  have r0 := (HY.out.below HB2.out).c0
  have r1 := (HY.out.below HB2.out).c1
  have f0 := (HZ.out.below HY.out.lt HB2.out).f0
  have f1 := (HZ.out.below HY.out.lt HB2.out).f1
  have hlt := (HY.out.below HB2.out).lt
  have v := (HD.out.below HB2.out).v1
  go_wp2_with fail
  clear r0 r1 f0 f1 hlt
  refine TillZ.region (t := 7) hmx (fun u => u.cell? ⟨1, 0, none⟩ = some (.iface 85 (.pointer (some e1)))) ?_
  have HBd := Lib.hid HB2.out.drew
  clear v
  generalize w2.drew = wd at *
  have r0 := (HY.out.below HBd.out).c0
  have r1 := (HY.out.below HBd.out).c1
  have f0 := (HZ.out.below HY.out.lt HBd.out).f0
  have f1 := (HZ.out.below HY.out.lt HBd.out).f1
  have hlt := (HY.out.below HBd.out).lt
  have v := (HD.out.below HBd.out).v1
  have hS0 : wd.cell? ⟨1, 0, none⟩ = some (.iface 85 (.pointer (some e1))) := v
  refine TillZ.take (i := 0) (v := .agg #[.string ⟨#[]⟩, .string ⟨#[]⟩]) rfl rfl rfl (by kernel_rfl) (by kernel_rfl) (by kernel_rfl) (by kernel_rfl) hS0 (fun u hu => by go_simp) ?_
  simp only [Act.put, List.getElem_toArray, List.getElem_cons_zero, List.getElem_cons_succ, List.setIfInBounds_toArray, List.set_cons_zero, List.set_cons_succ]
  refine TillZ.take (i := 1) (v := .string b) rfl rfl rfl (by kernel_rfl) (by kernel_rfl) (by kernel_rfl) (by kernel_rfl) hS0 (fun u hu => by go_simp) ?_
  simp only [Act.put, List.getElem_toArray, List.getElem_cons_zero, List.getElem_cons_succ, List.setIfInBounds_toArray, List.set_cons_zero, List.set_cons_succ]
  refine TillZ.take (i := 2) (v := .int .i64 (b.size : Int)) rfl rfl rfl (by kernel_rfl) (by kernel_rfl) (by kernel_rfl) (by kernel_rfl) hS0 (fun u hu => by go_simp) ?_
  simp only [Act.put, List.getElem_toArray, List.getElem_cons_zero, List.getElem_cons_succ, List.setIfInBounds_toArray, List.set_cons_zero, List.set_cons_succ]
  refine TillZ.take (i := 3) (v := .iface 85 (.pointer (some e1))) rfl rfl rfl (by kernel_rfl) (by kernel_rfl) (by kernel_rfl) (by kernel_rfl) hS0 (fun u hu => by have z := hu; go_simp) ?_
  simp only [Act.put, List.getElem_toArray, List.getElem_cons_zero, List.getElem_cons_succ, List.setIfInBounds_toArray, List.set_cons_zero, List.set_cons_succ]
  refine TillZ.take (i := 4) (v := .agg #[.int .i64 (b.size : Int), .iface 85 (.pointer (some e1))]) rfl rfl rfl (by kernel_rfl) (by kernel_rfl) (by kernel_rfl) (by kernel_rfl) hS0 (fun u hu => by go_simp) ?_
  simp only [Act.put, List.getElem_toArray, List.getElem_cons_zero, List.getElem_cons_succ, List.setIfInBounds_toArray, List.set_cons_zero, List.set_cons_succ]
  refine TillZ.take (i := 5) (v := .iface 66 (.agg #[.int .i64 (b.size : Int), .iface 85 (.pointer (some e1))])) rfl rfl rfl (by kernel_rfl) (by kernel_rfl) (by kernel_rfl) (by kernel_rfl) hS0 (fun u hu => by go_simp) ?_
  simp only [Act.put, List.getElem_toArray, List.getElem_cons_zero, List.getElem_cons_succ, List.setIfInBounds_toArray, List.set_cons_zero, List.set_cons_succ]
  have hS1 : ((wd.setCell ⟨w.heap.size + 1, 0, none⟩ (.string ⟨#[]⟩)).setCell ⟨w.heap.size + 1, 1, none⟩ (.string ⟨#[]⟩)).cell? ⟨1, 0, none⟩ = some (.iface 85 (.pointer (some e1))) := by rw [World.cell?_setCell_other _ _ _ _ (by intro h2; injection h2 with h3; have := HGL.out; omega), World.cell?_setCell_other _ _ _ _ (by intro h2; injection h2 with h3; have := HGL.out; omega)]; exact v
  refine TillZ.one (i := 6) (by kernel_rfl) ?_
  refine TillZ.opz_skip (i := 6) (w' := (wd.setCell ⟨w.heap.size + 1, 0, none⟩ (.string ⟨#[]⟩)).setCell ⟨w.heap.size + 1, 1, none⟩ (.string ⟨#[]⟩)) rfl rfl rfl (by go_simp) hS1 ?_
  simp only [Act.put, List.getElem_toArray, List.getElem_cons_zero, List.getElem_cons_succ, List.setIfInBounds_toArray, List.set_cons_zero, List.set_cons_succ]
  refine TillZ.hand (v := .iface 66 (.agg #[.int .i64 (b.size : Int), .iface 85 (.pointer (some e1))])) (by kernel_rfl) rfl rfl (by go_simp) ?_
  simp only [Act.put, List.getElem_toArray, List.getElem_cons_zero, List.getElem_cons_succ, List.setIfInBounds_toArray, List.set_cons_zero, List.set_cons_succ]
  refine TillZ.any_done (by kernel_rfl) ?_ _
  go_wp2_with fail
  refine bodyPost_ret (v := .tuple #[.agg #[.string (⟨#[]⟩), .string (⟨#[]⟩)], .iface 66 (.agg #[.int .i64 (b.size : Int), .iface 85 (.pointer (some e1))])]) (by simp [results, Tryd.results22, go_sem, hlt, r0, r1]) rfl ⟨rfl, ?_⟩
  exact HB0.out.trans (((HBd.out.mono HB0.out.size).setCell (p := ⟨w.heap.size + 1, 0, none⟩) (by simp) _).setCell (p := ⟨w.heap.size + 1, 1, none⟩) (by simp) _)
set_option maxRecDepth 100000 in
set_option maxHeartbeats 1600000 in
theorem appended_full (s t b : ByteArray) (e0 e1 e2 : Addr) (w : World) (hd : DS w e0 e1 e2) (h : s.size + t.size ≤ 1048576) (hbb : b.size ≤ 1048576) (h1 : ¬ 8000 < b.size) (h2 : ¬ 3000 < s.size + t.size) (h3 : 3000 < s.size + t.size + b.size) :
    Calls Tryd.prog 22 #[.agg #[.string s, .string t], .string b] w fun e w' => e = .returned (.tuple #[.agg #[.string (⟨#[]⟩), .string (⟨#[]⟩)], .iface 66 (.agg #[.int .i64 (b.size : Int), .iface 85 (.pointer (some e2))])]) ∧ Below w.heap.size w w' := by
  obtain ⟨W, hW⟩ : ∃ W, W = (w.alloc (.cells #[.string s, .string t] 24)).alloc (.cells #[.string ⟨#[]⟩, .string ⟨#[]⟩] 24) := ⟨_, rfl⟩
  have HB0 := Lib.hid (show Below w.heap.size w W by rw [hW]; exact ((Below.refl _ _).alloc (Nat.le_refl _) _).alloc (by simp) _)
  have HX := Lib.hid (show DkBox W w.heap.size s t by rw [hW]; exact ⟨by simp; omega, by simp, by simp⟩)
  have HY := Lib.hid (show DkBox W (w.heap.size + 1) ⟨#[]⟩ ⟨#[]⟩ by rw [hW]; exact ⟨by simp, by simp, by simp⟩)
  have HZ := Lib.hid (show DkFree W (w.heap.size + 1) by rw [hW]; exact ⟨by simp, by simp⟩)
  have HD := Lib.hid (hd.below HB0.out)
  have HGL : Hid (0 < w.heap.size ∧ 1 < w.heap.size ∧ 2 < w.heap.size) := Lib.hid ⟨lt_of_cell hd.v0, lt_of_cell hd.v1, lt_of_cell hd.v2⟩
  have HBW := Lib.hid (Below.refl W.heap.size W)
  have hmx : Tryd.prog.follows .mixedOrders = true := by kernel_rfl
  clear hd
  go_enter Tryd.func22, Tryd.ntmps22
  go_wp2_with fail
  rw [← hW]
  clear hW
  refine (tooLong_any b _ (by unfold maxLen; omega)).mono ?_
  rintro e w1 ⟨rfl, rfl⟩
  rw [decide_eq_false (by omega)]
  have x0 := (HX.out.below HBW.out).c0
  have x1 := (HX.out.below HBW.out).c1
  go_wp2_with fail
  refine (implDiskRight_any s t _ (by omega)).mono ?_
  rintro e w2 ⟨rfl, hb⟩
  have HB2 := Lib.hid hb
  clear hb x0 x1
  rw [decide_eq_true (by omega)]
  have hw1 : IntKind.i64.wrap (3000 - (s.size : Int)) = 3000 - (s.size : Int) := by rw [IntWalk.i64_in _ (by omega)]
  have hw2 : IntKind.i64.wrap (3000 - (s.size : Int) - (t.size : Int)) = 3000 - (s.size : Int) - (t.size : Int) := by rw [IntWalk.i64_in _ (by omega)]
  have hc : 3000 - (s.size : Int) - (t.size : Int) < (b.size : Int) := by omega
  have x0 := (HX.out.below HB2.out).c0
  have x1 := (HX.out.below HB2.out).c1
  have r0 := (HY.out.below HB2.out).c0
  have r1 := (HY.out.below HB2.out).c1
  have f0 := (HZ.out.below HY.out.lt HB2.out).f0
  have f1 := (HZ.out.below HY.out.lt HB2.out).f1
  have hlt := (HY.out.below HB2.out).lt
  have v := (HD.out.below HB2.out).v2
  go_wp2_with fail
  clear x0 x1
  clear r0 r1 f0 f1 hlt
  refine TillZ.region (t := 7) hmx (fun u => u.cell? ⟨2, 0, none⟩ = some (.iface 85 (.pointer (some e2)))) ?_
  have HBd := Lib.hid HB2.out.drew
  clear v
  generalize w2.drew = wd at *
  have r0 := (HY.out.below HBd.out).c0
  have r1 := (HY.out.below HBd.out).c1
  have f0 := (HZ.out.below HY.out.lt HBd.out).f0
  have f1 := (HZ.out.below HY.out.lt HBd.out).f1
  have hlt := (HY.out.below HBd.out).lt
  have v := (HD.out.below HBd.out).v2
  have hS0 : wd.cell? ⟨2, 0, none⟩ = some (.iface 85 (.pointer (some e2))) := v
  refine TillZ.take (i := 0) (v := .agg #[.string ⟨#[]⟩, .string ⟨#[]⟩]) rfl rfl rfl (by kernel_rfl) (by kernel_rfl) (by kernel_rfl) (by kernel_rfl) hS0 (fun u hu => by go_simp) ?_
  simp only [Act.put, List.getElem_toArray, List.getElem_cons_zero, List.getElem_cons_succ, List.setIfInBounds_toArray, List.set_cons_zero, List.set_cons_succ]
  refine TillZ.take (i := 1) (v := .string b) rfl rfl rfl (by kernel_rfl) (by kernel_rfl) (by kernel_rfl) (by kernel_rfl) hS0 (fun u hu => by go_simp) ?_
  simp only [Act.put, List.getElem_toArray, List.getElem_cons_zero, List.getElem_cons_succ, List.setIfInBounds_toArray, List.set_cons_zero, List.set_cons_succ]
  refine TillZ.take (i := 2) (v := .int .i64 (b.size : Int)) rfl rfl rfl (by kernel_rfl) (by kernel_rfl) (by kernel_rfl) (by kernel_rfl) hS0 (fun u hu => by go_simp) ?_
  simp only [Act.put, List.getElem_toArray, List.getElem_cons_zero, List.getElem_cons_succ, List.setIfInBounds_toArray, List.set_cons_zero, List.set_cons_succ]
  refine TillZ.take (i := 3) (v := .iface 85 (.pointer (some e2))) rfl rfl rfl (by kernel_rfl) (by kernel_rfl) (by kernel_rfl) (by kernel_rfl) hS0 (fun u hu => by have z := hu; go_simp) ?_
  simp only [Act.put, List.getElem_toArray, List.getElem_cons_zero, List.getElem_cons_succ, List.setIfInBounds_toArray, List.set_cons_zero, List.set_cons_succ]
  refine TillZ.take (i := 4) (v := .agg #[.int .i64 (b.size : Int), .iface 85 (.pointer (some e2))]) rfl rfl rfl (by kernel_rfl) (by kernel_rfl) (by kernel_rfl) (by kernel_rfl) hS0 (fun u hu => by go_simp) ?_
  simp only [Act.put, List.getElem_toArray, List.getElem_cons_zero, List.getElem_cons_succ, List.setIfInBounds_toArray, List.set_cons_zero, List.set_cons_succ]
  refine TillZ.take (i := 5) (v := .iface 66 (.agg #[.int .i64 (b.size : Int), .iface 85 (.pointer (some e2))])) rfl rfl rfl (by kernel_rfl) (by kernel_rfl) (by kernel_rfl) (by kernel_rfl) hS0 (fun u hu => by go_simp) ?_
  simp only [Act.put, List.getElem_toArray, List.getElem_cons_zero, List.getElem_cons_succ, List.setIfInBounds_toArray, List.set_cons_zero, List.set_cons_succ]
  have hS1 : ((wd.setCell ⟨w.heap.size + 1, 0, none⟩ (.string ⟨#[]⟩)).setCell ⟨w.heap.size + 1, 1, none⟩ (.string ⟨#[]⟩)).cell? ⟨2, 0, none⟩ = some (.iface 85 (.pointer (some e2))) := by rw [World.cell?_setCell_other _ _ _ _ (by intro h2; injection h2 with h3; have := HGL.out; omega), World.cell?_setCell_other _ _ _ _ (by intro h2; injection h2 with h3; have := HGL.out; omega)]; exact v
  refine TillZ.one (i := 6) (by kernel_rfl) ?_
  refine TillZ.opz_skip (i := 6) (w' := (wd.setCell ⟨w.heap.size + 1, 0, none⟩ (.string ⟨#[]⟩)).setCell ⟨w.heap.size + 1, 1, none⟩ (.string ⟨#[]⟩)) rfl rfl rfl (by go_simp) hS1 ?_
  simp only [Act.put, List.getElem_toArray, List.getElem_cons_zero, List.getElem_cons_succ, List.setIfInBounds_toArray, List.set_cons_zero, List.set_cons_succ]
  refine TillZ.hand (v := .iface 66 (.agg #[.int .i64 (b.size : Int), .iface 85 (.pointer (some e2))])) (by kernel_rfl) rfl rfl (by go_simp) ?_
  simp only [Act.put, List.getElem_toArray, List.getElem_cons_zero, List.getElem_cons_succ, List.setIfInBounds_toArray, List.set_cons_zero, List.set_cons_succ]
  refine TillZ.any_done (by kernel_rfl) ?_ _
  go_wp2_with fail
  refine bodyPost_ret (v := .tuple #[.agg #[.string (⟨#[]⟩), .string (⟨#[]⟩)], .iface 66 (.agg #[.int .i64 (b.size : Int), .iface 85 (.pointer (some e2))])]) (by simp [results, Tryd.results22, go_sem, hlt, r0, r1]) rfl ⟨rfl, ?_⟩
  exact HB0.out.trans (((HBd.out.mono HB0.out.size).setCell (p := ⟨w.heap.size + 1, 0, none⟩) (by simp) _).setCell (p := ⟨w.heap.size + 1, 1, none⟩) (by simp) _)
set_option maxRecDepth 100000 in
set_option maxHeartbeats 1600000 in
theorem appended_ok (s t b : ByteArray) (e0 e1 e2 : Addr) (w : World) (hd : DS w e0 e1 e2) (h : s.size + t.size ≤ 1048576) (hbb : b.size ≤ 1048576) (h1 : ¬ 8000 < b.size) (h2 : ¬ 3000 < s.size + t.size) (h3 : ¬ 3000 < s.size + t.size + b.size) :
    Calls Tryd.prog 22 #[.agg #[.string s, .string t], .string b] w fun e w' => e = .returned (.tuple #[.agg #[.string (s), .string (t ++ b)], .nilIface]) ∧ Below w.heap.size w w' := by
  obtain ⟨W, hW⟩ : ∃ W, W = (w.alloc (.cells #[.string s, .string t] 24)).alloc (.cells #[.string ⟨#[]⟩, .string ⟨#[]⟩] 24) := ⟨_, rfl⟩
  have HB0 := Lib.hid (show Below w.heap.size w W by rw [hW]; exact ((Below.refl _ _).alloc (Nat.le_refl _) _).alloc (by simp) _)
  have HX := Lib.hid (show DkBox W w.heap.size s t by rw [hW]; exact ⟨by simp; omega, by simp, by simp⟩)
  have HY := Lib.hid (show DkBox W (w.heap.size + 1) ⟨#[]⟩ ⟨#[]⟩ by rw [hW]; exact ⟨by simp, by simp, by simp⟩)
  have HZ := Lib.hid (show DkFree W (w.heap.size + 1) by rw [hW]; exact ⟨by simp, by simp⟩)
  have HD := Lib.hid (hd.below HB0.out)
  have HGL : Hid (0 < w.heap.size ∧ 1 < w.heap.size ∧ 2 < w.heap.size) := Lib.hid ⟨lt_of_cell hd.v0, lt_of_cell hd.v1, lt_of_cell hd.v2⟩
  have HBW := Lib.hid (Below.refl W.heap.size W)
  have hmx : Tryd.prog.follows .mixedOrders = true := by kernel_rfl
  clear hd
  go_enter Tryd.func22, Tryd.ntmps22
  go_wp2_with fail
  rw [← hW]
  clear hW
  refine (tooLong_any b _ (by unfold maxLen; omega)).mono ?_
  rintro e w1 ⟨rfl, rfl⟩
  rw [decide_eq_false (by omega)]
  have x0 := (HX.out.below HBW.out).c0
  have x1 := (HX.out.below HBW.out).c1
  go_wp2_with fail
  refine (implDiskRight_any s t _ (by omega)).mono ?_
  rintro e w2 ⟨rfl, hb⟩
  have HB2 := Lib.hid hb
  clear hb x0 x1
  rw [decide_eq_true (by omega)]
  have hw1 : IntKind.i64.wrap (3000 - (s.size : Int)) = 3000 - (s.size : Int) := by rw [IntWalk.i64_in _ (by omega)]
  have hw2 : IntKind.i64.wrap (3000 - (s.size : Int) - (t.size : Int)) = 3000 - (s.size : Int) - (t.size : Int) := by rw [IntWalk.i64_in _ (by omega)]
  have hc : ¬ 3000 - (s.size : Int) - (t.size : Int) < (b.size : Int) := by omega
  have x0 := (HX.out.below HB2.out).c0
  have x1 := (HX.out.below HB2.out).c1
  go_wp2_with fail
  refine (laidOut_any s t _ (by omega)).mono ?_
  rintro e w3 ⟨a, c, rfl, hs, ht, hb⟩
  obtain ⟨i0, hi, hh⟩ := Option.map_eq_some_iff.1 infoU8
  obtain ⟨hz0, hz1, hz2⟩ : i0.zero = some (.int .u8 0) ∧ i0.size = 1 ∧ i0.bytes = 1 := by simpa using hh
  have HNC : Hid (∀ g o, a = some ⟨g, o, none⟩ → g < w3.heap.size) := Lib.hid (fun g o hg => by
    rcases hs.2.2 with ⟨rfl, _⟩ | ⟨g3, o3, rfl, _, h3, _⟩
    · cases hg
    · cases hg; exact h3)
  obtain ⟨V, hV⟩ : ∃ V, V = w3.alloc (.cells #[.slice a s.size s.size, .slice c t.size t.size] 54) := ⟨_, rfl⟩
  have hb1 : Below w3.heap.size w3 V := by rw [hV]; exact (Below.refl _ _).alloc (Nat.le_refl _) _
  have hbV := HB2.out.trans ((hb.trans (hb1.mono hb.size)).mono HB2.out.size)
  have hbase : W.heap.size ≤ w2.heap.size := HB2.out.size
  obtain ⟨l0, l1, l2, l3, l4⟩ : V.cell? ⟨w3.heap.size, 0, none⟩ = some (.slice a s.size s.size) ∧ V.cell? ⟨w3.heap.size, 1, none⟩ = some (.slice c t.size t.size) ∧ V.frozen? ⟨w3.heap.size, 0, none⟩ = false ∧ V.frozen? ⟨w3.heap.size, 1, none⟩ = false ∧ w3.heap.size < V.heap.size := by rw [hV]; exact ⟨by simp, by simp, by simp, by simp, by simp⟩
  obtain ⟨a', c', w4, hA, hS, hb2, hwh⟩ := BS.append (P := Tryd.prog) 22 9 22 5 i0 Tryd.underlying22 hi hz0 hz1 hz2 (ht.below hb1) (.string b) b (Src.ofString V Tryd.underlying9 b) rfl (Nat.le_trans hb.size hb1.size) (by omega)
  have HNT : Hid (∀ g o, a' = some ⟨g, o, none⟩ → g ≠ w3.heap.size) := Lib.hid (fun g o hg => by
    rcases hwh with rfl | ⟨g2, rfl, h2⟩
    · rcases ht.2.2 with ⟨rfl, _⟩ | ⟨g3, o3, rfl, _, h3, _⟩
      · cases hg
      · cases hg; exact Nat.ne_of_lt h3
    · cases hg; omega)
  have HNA : Hid (∀ g o, a = some ⟨g, o, none⟩ → g ≠ w3.heap.size) := Lib.hid (fun g o hg => Nat.ne_of_lt (HNC.out g o hg))
  have HB4 := Lib.hid (hbV.trans (hb2.mono hbV.size))
  have HS4 := Lib.hid ((hs.below hb1).below hb2)
  have HT4 := Lib.hid hS
  have m0 := (hb2.cell (p := ⟨w3.heap.size, 0, none⟩) l4).trans l0
  have m1 := (hb2.cell (p := ⟨w3.heap.size, 1, none⟩) l4).trans l1
  have n0 := (hb2.frozen (p := ⟨w3.heap.size, 0, none⟩) l4).trans l2
  have n1 := (hb2.frozen (p := ⟨w3.heap.size, 1, none⟩) l4).trans l3
  have hl4 : w3.heap.size < w4.heap.size := Nat.lt_of_lt_of_le l4 hb2.size
  have HL5 := Lib.hid (Nat.le_trans HB2.out.size hb.size)
  rw [hV] at hA
  clear hV hb hb1 hb2 hbV hbase hs ht hS hwh l0 l1 l2 l3 l4 HNC
  go_wp2_with (at_builtin; refine app_wl rfl _ _ 22 9 22 rfl rfl _ _ _ rfl rfl hA ?_)
  obtain ⟨X, hX⟩ : ∃ X, X = w4.setCell ⟨w3.heap.size, 1, none⟩ (.slice a' (t.size + b.size) c') := ⟨_, rfl⟩
  have HBX := Lib.hid (show Below W.heap.size W X by rw [hX]; exact HB4.out.setCell (p := ⟨w3.heap.size, 1, none⟩) HL5.out _)
  have HSX := Lib.hid (show BS X w2.heap.size a s.size s.size s by rw [hX]; exact HS4.out.other _ _ HNA.out)
  have HTX := Lib.hid (show BS X w2.heap.size a' (t.size + b.size) c' (t ++ b) by rw [hX]; exact HT4.out.other _ _ HNT.out)
  rw [← hX]
  clear hX m0 m1 n0 n1 hl4
  refine (told_any s (t ++ b) a a' w2.heap.size _ _ _ _ _ HSX.out HTX.out).mono ?_
  rintro e w5 ⟨rfl, hb⟩
  have HB5 := Lib.hid (HBX.out.trans (hb.mono HBX.out.size))
  clear hb x0 x1
  have r0 := (HY.out.below HB5.out).c0
  have r1 := (HY.out.below HB5.out).c1
  have f0 := (HZ.out.below HY.out.lt HB5.out).f0
  have f1 := (HZ.out.below HY.out.lt HB5.out).f1
  have hlt := (HY.out.below HB5.out).lt
  unfold dkV
  dsimp only
  go_wp2_with fail
  refine bodyPost_ret (v := .tuple #[.agg #[.string (s), .string (t ++ b)], .nilIface]) (by simp [results, Tryd.results22, go_sem, hlt, r0, r1]) rfl ⟨rfl, ?_⟩
  exact HB0.out.trans (((HB5.out.mono HB0.out.size).setCell (p := ⟨w.heap.size + 1, 0, none⟩) (by simp) _).setCell (p := ⟨w.heap.size + 1, 1, none⟩) (by simp) _)
theorem dkAppend_long {s t b : ByteArray} (h1 : 8000 < b.size) : dkAppend s t b = (⟨#[]⟩, ⟨#[]⟩, 2) := if_pos h1
theorem dkAppend_wrong {s t b : ByteArray} (h1 : ¬ 8000 < b.size) (h2 : 3000 < s.size + t.size) : dkAppend s t b = (⟨#[]⟩, ⟨#[]⟩, 1) := by unfold dkAppend; rw [if_neg h1, if_pos h2]
theorem dkAppend_full {s t b : ByteArray} (h1 : ¬ 8000 < b.size) (h2 : ¬ 3000 < s.size + t.size) (h3 : 3000 < s.size + t.size + b.size) : dkAppend s t b = (⟨#[]⟩, ⟨#[]⟩, 9) := by unfold dkAppend; rw [if_neg h1, if_neg h2, if_pos h3]
theorem dkAppend_ok {s t b : ByteArray} (h1 : ¬ 8000 < b.size) (h2 : ¬ 3000 < s.size + t.size) (h3 : ¬ 3000 < s.size + t.size + b.size) : dkAppend s t b = (s, t ++ b, 0) := by unfold dkAppend; rw [if_neg h1, if_neg h2, if_neg h3]
set_option maxRecDepth 100000 in
set_option maxHeartbeats 3200000 in
theorem implAppend_any (s t b : ByteArray) (e0 e1 e2 : Addr) (w : World) (hd : DS w e0 e1 e2) (h : s.size + t.size ≤ 1048576) (hbb : b.size ≤ 1048576) :
    Calls Tryd.prog 6 #[.agg #[.string s, .string t], .string b] w fun e w' => e = .returned (dkOutV (dkAppend s t b)) ∧ Below w.heap.size w w' := by
  obtain ⟨W, hW⟩ : ∃ W, W = (w.alloc (.cells #[.string s, .string t] 24)).alloc (.cells #[.string ⟨#[]⟩, .string ⟨#[]⟩, .int .i64 0] 28) := ⟨_, rfl⟩
  have HB0 := Lib.hid (show Below w.heap.size w W by rw [hW]; exact ((Below.refl _ _).alloc (Nat.le_refl _) _).alloc (by simp) _)
  have HD := Lib.hid (hd.below HB0.out)
  have HY : Hid (∀ u, Below W.heap.size W u → u.cell? ⟨w.heap.size + 1, 0, none⟩ = some (.string ⟨#[]⟩) ∧ u.cell? ⟨w.heap.size + 1, 1, none⟩ = some (.string ⟨#[]⟩) ∧ u.cell? ⟨w.heap.size + 1, 2, none⟩ = some (.int .i64 0) ∧ u.frozen? ⟨w.heap.size + 1, 0, none⟩ = false ∧ u.frozen? ⟨w.heap.size + 1, 1, none⟩ = false ∧ u.frozen? ⟨w.heap.size + 1, 2, none⟩ = false ∧ w.heap.size + 1 < u.heap.size) := Lib.hid (fun u hu => by
    have hl : w.heap.size + 1 < W.heap.size := by rw [hW]; simp
    exact ⟨(hu.cell (p := ⟨w.heap.size + 1, 0, none⟩) hl).trans (by rw [hW]; simp), (hu.cell (p := ⟨w.heap.size + 1, 1, none⟩) hl).trans (by rw [hW]; simp), (hu.cell (p := ⟨w.heap.size + 1, 2, none⟩) hl).trans (by rw [hW]; simp),
      (hu.frozen (p := ⟨w.heap.size + 1, 0, none⟩) hl).trans (by rw [hW]; simp), (hu.frozen (p := ⟨w.heap.size + 1, 1, none⟩) hl).trans (by rw [hW]; simp), (hu.frozen (p := ⟨w.heap.size + 1, 2, none⟩) hl).trans (by rw [hW]; simp), Nat.lt_of_lt_of_le hl hu.size⟩)
  have hmx : Tryd.prog.follows .mixedOrders = true := by kernel_rfl
  clear hd
  by_cases h1 : 8000 < b.size
  · skip
    have HR := Lib.hid (dkAppend_long (s := s) (t := t) (b := b) h1)
    go_enter Tryd.func6, Tryd.ntmps6
    go_wp2_with fail
    rw [← hW]
    clear hW
    refine (appended_long s t b e0 e1 e2 _ HD.out h hbb h1).mono ?_
    rintro e w1 ⟨rfl, hb⟩
    obtain ⟨V, hV⟩ : ∃ V, V = w1.alloc (.cells #[.string (⟨#[]⟩), .string (⟨#[]⟩)] 24) := ⟨_, rfl⟩
    have hb1 : Below w1.heap.size w1 V := by rw [hV]; exact (Below.refl _ _).alloc (Nat.le_refl _) _
    have HBV := Lib.hid (hb.trans (hb1.mono hb.size))
    have HG := Lib.hid (show DkBox V w1.heap.size (⟨#[]⟩) (⟨#[]⟩) by rw [hV]; exact ⟨by simp, by simp, by simp⟩)
    clear hb hb1
    go_wp2_with fail
    rw [← hV]
    clear hV
    refine TillZ.region (t := 4) hmx (fun u => DkBox u w1.heap.size (⟨#[]⟩) (⟨#[]⟩)) ?_
    have HBd := Lib.hid HBV.out.drew
    have hS0 := HG.out.below (Below.refl _ _).drew
    generalize V.drew = wd at *
    refine TillZ.take (i := 0) (v := .agg #[.string (⟨#[]⟩), .string (⟨#[]⟩)]) rfl rfl rfl (by kernel_rfl) (by kernel_rfl) (by kernel_rfl) (by kernel_rfl) hS0 (fun u hu => by have z0 := hu.c0; have z1 := hu.c1; go_simp) ?_
    simp only [Act.put, List.getElem_toArray, List.getElem_cons_zero, List.getElem_cons_succ, List.setIfInBounds_toArray, List.set_cons_zero, List.set_cons_succ]
    refine TillZ.take (i := 1) (v := .iface 66 (.agg #[.int .i64 (b.size : Int), .iface 85 (.pointer (some e0))])) rfl rfl rfl (by kernel_rfl) (by kernel_rfl) (by kernel_rfl) (by kernel_rfl) hS0 (fun u hu => by go_simp) ?_
    simp only [Act.put, List.getElem_toArray, List.getElem_cons_zero, List.getElem_cons_succ, List.setIfInBounds_toArray, List.set_cons_zero, List.set_cons_succ]
    refine TillZ.call (i := 2) (f := 23) (args := #[.iface 66 (.agg #[.int .i64 (b.size : Int), .iface 85 (.pointer (some e0))])]) (by kernel_rfl) rfl rfl (by kernel_rfl) (by go_simp) ?_
    refine Calls.mono (diskCode_long _ e0 e1 e2 wd (HD.out.below HBd.out)) ?_
    rintro e w2 ⟨rfl, hb⟩
    have HB2 := Lib.hid (HBd.out.trans (hb.mono HBd.out.size))
    have hS2 := hS0.below hb
    refine ⟨_, rfl, hS2, ?_⟩
    clear hb hS0
    simp only [Act.put, List.getElem_toArray, List.getElem_cons_zero, List.getElem_cons_succ, List.setIfInBounds_toArray, List.set_cons_zero, List.set_cons_succ]
    refine TillZ.value (i := 3) (v := .agg #[.string (⟨#[]⟩), .string (⟨#[]⟩), .int .i64 2]) (by kernel_rfl) rfl rfl (by kernel_rfl) (by go_simp) hS2 ?_
    simp only [Act.put, List.getElem_toArray, List.getElem_cons_zero, List.getElem_cons_succ, List.setIfInBounds_toArray, List.set_cons_zero, List.set_cons_succ]
    obtain ⟨r0, r1, r2, f0, f1, f2, hlt⟩ := HY.out w2 HB2.out
    refine TillZ.hand_skip (w' := ((w2.setCell ⟨w.heap.size + 1, 0, none⟩ (.string (⟨#[]⟩))).setCell ⟨w.heap.size + 1, 1, none⟩ (.string (⟨#[]⟩))).setCell ⟨w.heap.size + 1, 2, none⟩ (.int .i64 2)) (by kernel_rfl) rfl rfl (by go_simp) ?_
    simp only [Act.put, List.getElem_toArray, List.getElem_cons_zero, List.getElem_cons_succ, List.setIfInBounds_toArray, List.set_cons_zero, List.set_cons_succ]
    refine TillZ.any_done (by kernel_rfl) ?_ _
    go_wp2_with fail
    refine bodyPost_ret (v := .agg #[.string (⟨#[]⟩), .string (⟨#[]⟩), .int .i64 2]) (by simp [results, Tryd.results6, go_sem, hlt, r0, r1, r2]) rfl ⟨by rw [HR.out]; rfl, ?_⟩
    exact HB0.out.trans (((((HB2.out.mono HB0.out.size).setCell (p := ⟨w.heap.size + 1, 0, none⟩) (by simp) _).setCell (p := ⟨w.heap.size + 1, 1, none⟩) (by simp) _)).setCell (p := ⟨w.heap.size + 1, 2, none⟩) (by simp) _)
  · by_cases h2 : 3000 < s.size + t.size
    · skip
      have HR := Lib.hid (dkAppend_wrong (s := s) (t := t) (b := b) h1 h2)
      go_enter Tryd.func6, Tryd.ntmps6
      go_wp2_with fail
      rw [← hW]
      clear hW
      refine (appended_wrong s t b e0 e1 e2 _ HD.out h hbb h1 h2).mono ?_
      rintro e w1 ⟨rfl, hb⟩
      obtain ⟨V, hV⟩ : ∃ V, V = w1.alloc (.cells #[.string (⟨#[]⟩), .string (⟨#[]⟩)] 24) := ⟨_, rfl⟩
      have hb1 : Below w1.heap.size w1 V := by rw [hV]; exact (Below.refl _ _).alloc (Nat.le_refl _) _
      have HBV := Lib.hid (hb.trans (hb1.mono hb.size))
      have HG := Lib.hid (show DkBox V w1.heap.size (⟨#[]⟩) (⟨#[]⟩) by rw [hV]; exact ⟨by simp, by simp, by simp⟩)
      clear hb hb1
      go_wp2_with fail
      rw [← hV]
      clear hV
      refine TillZ.region (t := 4) hmx (fun u => DkBox u w1.heap.size (⟨#[]⟩) (⟨#[]⟩)) ?_
      have HBd := Lib.hid HBV.out.drew
      have hS0 := HG.out.below (Below.refl _ _).drew
      generalize V.drew = wd at *
      refine TillZ.take (i := 0) (v := .agg #[.string (⟨#[]⟩), .string (⟨#[]⟩)]) rfl rfl rfl (by kernel_rfl) (by kernel_rfl) (by kernel_rfl) (by kernel_rfl) hS0 (fun u hu => by have z0 := hu.c0; have z1 := hu.c1; go_simp) ?_
      simp only [Act.put, List.getElem_toArray, List.getElem_cons_zero, List.getElem_cons_succ, List.setIfInBounds_toArray, List.set_cons_zero, List.set_cons_succ]
      refine TillZ.take (i := 1) (v := .iface 66 (.agg #[.int .i64 (b.size : Int), .iface 85 (.pointer (some e1))])) rfl rfl rfl (by kernel_rfl) (by kernel_rfl) (by kernel_rfl) (by kernel_rfl) hS0 (fun u hu => by go_simp) ?_
      simp only [Act.put, List.getElem_toArray, List.getElem_cons_zero, List.getElem_cons_succ, List.setIfInBounds_toArray, List.set_cons_zero, List.set_cons_succ]
      refine TillZ.call (i := 2) (f := 23) (args := #[.iface 66 (.agg #[.int .i64 (b.size : Int), .iface 85 (.pointer (some e1))])]) (by kernel_rfl) rfl rfl (by kernel_rfl) (by go_simp) ?_
      refine Calls.mono (diskCode_wrong _ e0 e1 e2 wd (HD.out.below HBd.out)) ?_
      rintro e w2 ⟨rfl, hb⟩
      have HB2 := Lib.hid (HBd.out.trans (hb.mono HBd.out.size))
      have hS2 := hS0.below hb
      refine ⟨_, rfl, hS2, ?_⟩
      clear hb hS0
      simp only [Act.put, List.getElem_toArray, List.getElem_cons_zero, List.getElem_cons_succ, List.setIfInBounds_toArray, List.set_cons_zero, List.set_cons_succ]
      refine TillZ.value (i := 3) (v := .agg #[.string (⟨#[]⟩), .string (⟨#[]⟩), .int .i64 1]) (by kernel_rfl) rfl rfl (by kernel_rfl) (by go_simp) hS2 ?_
      simp only [Act.put, List.getElem_toArray, List.getElem_cons_zero, List.getElem_cons_succ, List.setIfInBounds_toArray, List.set_cons_zero, List.set_cons_succ]
      obtain ⟨r0, r1, r2, f0, f1, f2, hlt⟩ := HY.out w2 HB2.out
      refine TillZ.hand_skip (w' := ((w2.setCell ⟨w.heap.size + 1, 0, none⟩ (.string (⟨#[]⟩))).setCell ⟨w.heap.size + 1, 1, none⟩ (.string (⟨#[]⟩))).setCell ⟨w.heap.size + 1, 2, none⟩ (.int .i64 1)) (by kernel_rfl) rfl rfl (by go_simp) ?_
      simp only [Act.put, List.getElem_toArray, List.getElem_cons_zero, List.getElem_cons_succ, List.setIfInBounds_toArray, List.set_cons_zero, List.set_cons_succ]
      refine TillZ.any_done (by kernel_rfl) ?_ _
      go_wp2_with fail
      refine bodyPost_ret (v := .agg #[.string (⟨#[]⟩), .string (⟨#[]⟩), .int .i64 1]) (by simp [results, Tryd.results6, go_sem, hlt, r0, r1, r2]) rfl ⟨by rw [HR.out]; rfl, ?_⟩
      exact HB0.out.trans (((((HB2.out.mono HB0.out.size).setCell (p := ⟨w.heap.size + 1, 0, none⟩) (by simp) _).setCell (p := ⟨w.heap.size + 1, 1, none⟩) (by simp) _)).setCell (p := ⟨w.heap.size + 1, 2, none⟩) (by simp) _)
    · by_cases h3 : 3000 < s.size + t.size + b.size
      · skip
        have HR := Lib.hid (dkAppend_full (s := s) (t := t) (b := b) h1 h2 h3)
        go_enter Tryd.func6, Tryd.ntmps6
        go_wp2_with fail
        rw [← hW]
        clear hW
        refine (appended_full s t b e0 e1 e2 _ HD.out h hbb h1 h2 h3).mono ?_
        rintro e w1 ⟨rfl, hb⟩
        obtain ⟨V, hV⟩ : ∃ V, V = w1.alloc (.cells #[.string (⟨#[]⟩), .string (⟨#[]⟩)] 24) := ⟨_, rfl⟩
        have hb1 : Below w1.heap.size w1 V := by rw [hV]; exact (Below.refl _ _).alloc (Nat.le_refl _) _
        have HBV := Lib.hid (hb.trans (hb1.mono hb.size))
        have HG := Lib.hid (show DkBox V w1.heap.size (⟨#[]⟩) (⟨#[]⟩) by rw [hV]; exact ⟨by simp, by simp, by simp⟩)
        clear hb hb1
        go_wp2_with fail
        rw [← hV]
        clear hV
        refine TillZ.region (t := 4) hmx (fun u => DkBox u w1.heap.size (⟨#[]⟩) (⟨#[]⟩)) ?_
        have HBd := Lib.hid HBV.out.drew
        have hS0 := HG.out.below (Below.refl _ _).drew
        generalize V.drew = wd at *
        refine TillZ.take (i := 0) (v := .agg #[.string (⟨#[]⟩), .string (⟨#[]⟩)]) rfl rfl rfl (by kernel_rfl) (by kernel_rfl) (by kernel_rfl) (by kernel_rfl) hS0 (fun u hu => by have z0 := hu.c0; have z1 := hu.c1; go_simp) ?_
        simp only [Act.put, List.getElem_toArray, List.getElem_cons_zero, List.getElem_cons_succ, List.setIfInBounds_toArray, List.set_cons_zero, List.set_cons_succ]
        refine TillZ.take (i := 1) (v := .iface 66 (.agg #[.int .i64 (b.size : Int), .iface 85 (.pointer (some e2))])) rfl rfl rfl (by kernel_rfl) (by kernel_rfl) (by kernel_rfl) (by kernel_rfl) hS0 (fun u hu => by go_simp) ?_
        simp only [Act.put, List.getElem_toArray, List.getElem_cons_zero, List.getElem_cons_succ, List.setIfInBounds_toArray, List.set_cons_zero, List.set_cons_succ]
        refine TillZ.call (i := 2) (f := 23) (args := #[.iface 66 (.agg #[.int .i64 (b.size : Int), .iface 85 (.pointer (some e2))])]) (by kernel_rfl) rfl rfl (by kernel_rfl) (by go_simp) ?_
        refine Calls.mono (diskCode_full _ e0 e1 e2 wd (HD.out.below HBd.out)) ?_
        rintro e w2 ⟨rfl, hb⟩
        have HB2 := Lib.hid (HBd.out.trans (hb.mono HBd.out.size))
        have hS2 := hS0.below hb
        refine ⟨_, rfl, hS2, ?_⟩
        clear hb hS0
        simp only [Act.put, List.getElem_toArray, List.getElem_cons_zero, List.getElem_cons_succ, List.setIfInBounds_toArray, List.set_cons_zero, List.set_cons_succ]
        refine TillZ.value (i := 3) (v := .agg #[.string (⟨#[]⟩), .string (⟨#[]⟩), .int .i64 9]) (by kernel_rfl) rfl rfl (by kernel_rfl) (by go_simp) hS2 ?_
        simp only [Act.put, List.getElem_toArray, List.getElem_cons_zero, List.getElem_cons_succ, List.setIfInBounds_toArray, List.set_cons_zero, List.set_cons_succ]
        obtain ⟨r0, r1, r2, f0, f1, f2, hlt⟩ := HY.out w2 HB2.out
        refine TillZ.hand_skip (w' := ((w2.setCell ⟨w.heap.size + 1, 0, none⟩ (.string (⟨#[]⟩))).setCell ⟨w.heap.size + 1, 1, none⟩ (.string (⟨#[]⟩))).setCell ⟨w.heap.size + 1, 2, none⟩ (.int .i64 9)) (by kernel_rfl) rfl rfl (by go_simp) ?_
        simp only [Act.put, List.getElem_toArray, List.getElem_cons_zero, List.getElem_cons_succ, List.setIfInBounds_toArray, List.set_cons_zero, List.set_cons_succ]
        refine TillZ.any_done (by kernel_rfl) ?_ _
        go_wp2_with fail
        refine bodyPost_ret (v := .agg #[.string (⟨#[]⟩), .string (⟨#[]⟩), .int .i64 9]) (by simp [results, Tryd.results6, go_sem, hlt, r0, r1, r2]) rfl ⟨by rw [HR.out]; rfl, ?_⟩
        exact HB0.out.trans (((((HB2.out.mono HB0.out.size).setCell (p := ⟨w.heap.size + 1, 0, none⟩) (by simp) _).setCell (p := ⟨w.heap.size + 1, 1, none⟩) (by simp) _)).setCell (p := ⟨w.heap.size + 1, 2, none⟩) (by simp) _)
      · skip
        have HR := Lib.hid (dkAppend_ok (s := s) (t := t) (b := b) h1 h2 h3)
        go_enter Tryd.func6, Tryd.ntmps6
        go_wp2_with fail
        rw [← hW]
        clear hW
        refine (appended_ok s t b e0 e1 e2 _ HD.out h hbb h1 h2 h3).mono ?_
        rintro e w1 ⟨rfl, hb⟩
        obtain ⟨V, hV⟩ : ∃ V, V = w1.alloc (.cells #[.string (s), .string (t ++ b)] 24) := ⟨_, rfl⟩
        have hb1 : Below w1.heap.size w1 V := by rw [hV]; exact (Below.refl _ _).alloc (Nat.le_refl _) _
        have HBV := Lib.hid (hb.trans (hb1.mono hb.size))
        have HG := Lib.hid (show DkBox V w1.heap.size (s) (t ++ b) by rw [hV]; exact ⟨by simp, by simp, by simp⟩)
        clear hb hb1
        go_wp2_with fail
        rw [← hV]
        clear hV
        refine TillZ.region (t := 4) hmx (fun u => DkBox u w1.heap.size (s) (t ++ b)) ?_
        have HBd := Lib.hid HBV.out.drew
        have hS0 := HG.out.below (Below.refl _ _).drew
        generalize V.drew = wd at *
        refine TillZ.take (i := 0) (v := .agg #[.string (s), .string (t ++ b)]) rfl rfl rfl (by kernel_rfl) (by kernel_rfl) (by kernel_rfl) (by kernel_rfl) hS0 (fun u hu => by have z0 := hu.c0; have z1 := hu.c1; go_simp) ?_
        simp only [Act.put, List.getElem_toArray, List.getElem_cons_zero, List.getElem_cons_succ, List.setIfInBounds_toArray, List.set_cons_zero, List.set_cons_succ]
        refine TillZ.take (i := 1) (v := .nilIface) rfl rfl rfl (by kernel_rfl) (by kernel_rfl) (by kernel_rfl) (by kernel_rfl) hS0 (fun u hu => by go_simp) ?_
        simp only [Act.put, List.getElem_toArray, List.getElem_cons_zero, List.getElem_cons_succ, List.setIfInBounds_toArray, List.set_cons_zero, List.set_cons_succ]
        refine TillZ.call (i := 2) (f := 23) (args := #[.nilIface]) (by kernel_rfl) rfl rfl (by kernel_rfl) (by go_simp) ?_
        refine Calls.mono (diskCode_nil e0 e1 e2 wd (HD.out.below HBd.out)) ?_
        rintro e w2 ⟨rfl, hb⟩
        have HB2 := Lib.hid (HBd.out.trans (hb.mono HBd.out.size))
        have hS2 := hS0.below hb
        refine ⟨_, rfl, hS2, ?_⟩
        clear hb hS0
        simp only [Act.put, List.getElem_toArray, List.getElem_cons_zero, List.getElem_cons_succ, List.setIfInBounds_toArray, List.set_cons_zero, List.set_cons_succ]
        refine TillZ.value (i := 3) (v := .agg #[.string (s), .string (t ++ b), .int .i64 0]) (by kernel_rfl) rfl rfl (by kernel_rfl) (by go_simp) hS2 ?_
        simp only [Act.put, List.getElem_toArray, List.getElem_cons_zero, List.getElem_cons_succ, List.setIfInBounds_toArray, List.set_cons_zero, List.set_cons_succ]
        obtain ⟨r0, r1, r2, f0, f1, f2, hlt⟩ := HY.out w2 HB2.out
        refine TillZ.hand_skip (w' := ((w2.setCell ⟨w.heap.size + 1, 0, none⟩ (.string (s))).setCell ⟨w.heap.size + 1, 1, none⟩ (.string (t ++ b))).setCell ⟨w.heap.size + 1, 2, none⟩ (.int .i64 0)) (by kernel_rfl) rfl rfl (by go_simp) ?_
        simp only [Act.put, List.getElem_toArray, List.getElem_cons_zero, List.getElem_cons_succ, List.setIfInBounds_toArray, List.set_cons_zero, List.set_cons_succ]
        refine TillZ.any_done (by kernel_rfl) ?_ _
        go_wp2_with fail
        refine bodyPost_ret (v := .agg #[.string (s), .string (t ++ b), .int .i64 0]) (by simp [results, Tryd.results6, go_sem, hlt, r0, r1, r2]) rfl ⟨by rw [HR.out]; rfl, ?_⟩
        exact HB0.out.trans (((((HB2.out.mono HB0.out.size).setCell (p := ⟨w.heap.size + 1, 0, none⟩) (by simp) _).setCell (p := ⟨w.heap.size + 1, 1, none⟩) (by simp) _)).setCell (p := ⟨w.heap.size + 1, 2, none⟩) (by simp) _)
set_option maxRecDepth 100000 in
set_option maxHeartbeats 1600000 in
theorem specAppend_any (s t b : ByteArray) (w : World) (h : s.size + t.size ≤ 1048576) (hbb : b.size ≤ 1048576) :
    Calls Tryd.prog 10 #[.agg #[.string s, .string t], .string b] w fun e w' => e = .returned (dkOutV (dkAppend s t b)) ∧ Below w.heap.size w w' := by
  obtain ⟨W, hW⟩ : ∃ W, W = (w.alloc (.cells #[.string s, .string t] 24)).alloc (.cells #[.string ⟨#[]⟩, .string ⟨#[]⟩, .int .i64 0] 28) := ⟨_, rfl⟩
  have HB0 := Lib.hid (show Below w.heap.size w W by rw [hW]; exact ((Below.refl _ _).alloc (Nat.le_refl _) _).alloc (by simp) _)
  have HX := Lib.hid (show DkBox W w.heap.size s t by rw [hW]; exact ⟨by simp; omega, by simp, by simp⟩)
  have HY : Hid (∀ u, Below W.heap.size W u → u.cell? ⟨w.heap.size + 1, 0, none⟩ = some (.string ⟨#[]⟩) ∧ u.cell? ⟨w.heap.size + 1, 1, none⟩ = some (.string ⟨#[]⟩) ∧ u.cell? ⟨w.heap.size + 1, 2, none⟩ = some (.int .i64 0) ∧ u.frozen? ⟨w.heap.size + 1, 0, none⟩ = false ∧ u.frozen? ⟨w.heap.size + 1, 1, none⟩ = false ∧ u.frozen? ⟨w.heap.size + 1, 2, none⟩ = false ∧ w.heap.size + 1 < u.heap.size) := Lib.hid (fun u hu => by
    have hl : w.heap.size + 1 < W.heap.size := by rw [hW]; simp
    exact ⟨(hu.cell (p := ⟨w.heap.size + 1, 0, none⟩) hl).trans (by rw [hW]; simp), (hu.cell (p := ⟨w.heap.size + 1, 1, none⟩) hl).trans (by rw [hW]; simp), (hu.cell (p := ⟨w.heap.size + 1, 2, none⟩) hl).trans (by rw [hW]; simp),
      (hu.frozen (p := ⟨w.heap.size + 1, 0, none⟩) hl).trans (by rw [hW]; simp), (hu.frozen (p := ⟨w.heap.size + 1, 1, none⟩) hl).trans (by rw [hW]; simp), (hu.frozen (p := ⟨w.heap.size + 1, 2, none⟩) hl).trans (by rw [hW]; simp), Nat.lt_of_lt_of_le hl hu.size⟩)
  have HBW := Lib.hid (Below.refl W.heap.size W)
  by_cases h1 : 8000 < b.size
  · skip
    have HR := Lib.hid (dkAppend_long (s := s) (t := t) (b := b) h1)
    have hq1 : (8000 : Int) < (b.size : Int) := by omega
    obtain ⟨r0, r1, r2, f0, f1, f2, hlt⟩ := HY.out W HBW.out
    rw [hW] at r0 r1 r2 f0 f1 f2 hlt HBW
    go_enter Tryd.func10, Tryd.ntmps10
    go_wp2_with fail
    rw [← hW] at *
    refine bodyPost_ret (v := .agg #[.string (⟨#[]⟩), .string (⟨#[]⟩), .int .i64 2]) (by simp [results, Tryd.results10, go_sem, hlt, r0, r1, r2]) rfl ⟨by rw [HR.out]; rfl, ?_⟩
    exact (show Below w.heap.size w _ by repeat' (first | exact Below.refl _ _ | refine Below.alloc ?_ (by first | exact Nat.le_refl _ | (simp; done) | (simp; omega)) _ | refine Below.setCell ?_ (by first | exact Nat.le_refl _ | (simp; done) | (simp; omega)) _))
  · by_cases h2 : 3000 < s.size + t.size
    · skip
      have HR := Lib.hid (dkAppend_wrong (s := s) (t := t) (b := b) h1 h2)
      have hq1 : ¬ (8000 : Int) < (b.size : Int) := by omega
      have x0 := HX.out.c0
      have x1 := HX.out.c1
      go_enter Tryd.func10, Tryd.ntmps10
      go_wp2_with fail
      rw [← hW]
      clear hW
      refine (specDiskRight_any s t _ (by omega)).mono ?_
      rintro e w1 ⟨rfl, hb⟩
      have HB1 := Lib.hid hb
      clear hb x0 x1
      rw [decide_eq_false (by omega)]
      obtain ⟨r0, r1, r2, f0, f1, f2, hlt⟩ := HY.out w1 HB1.out
      have x0 := (HX.out.below HB1.out).c0
      have x1 := (HX.out.below HB1.out).c1
      go_wp2_with fail
      refine bodyPost_ret (v := .agg #[.string (⟨#[]⟩), .string (⟨#[]⟩), .int .i64 1]) (by simp [results, Tryd.results10, go_sem, hlt, r0, r1, r2]) rfl ⟨by rw [HR.out]; rfl, ?_⟩
      exact HB0.out.trans (((((HB1.out.mono HB0.out.size).setCell (p := ⟨w.heap.size + 1, 0, none⟩) (by simp) _).setCell (p := ⟨w.heap.size + 1, 1, none⟩) (by simp) _)).setCell (p := ⟨w.heap.size + 1, 2, none⟩) (by simp) _)
    · by_cases h3 : 3000 < s.size + t.size + b.size
      · skip
        have HR := Lib.hid (dkAppend_full (s := s) (t := t) (b := b) h1 h2 h3)
        have hq1 : ¬ (8000 : Int) < (b.size : Int) := by omega
        have x0 := HX.out.c0
        have x1 := HX.out.c1
        go_enter Tryd.func10, Tryd.ntmps10
        go_wp2_with fail
        rw [← hW]
        clear hW
        refine (specDiskRight_any s t _ (by omega)).mono ?_
        rintro e w1 ⟨rfl, hb⟩
        have HB1 := Lib.hid hb
        clear hb x0 x1
        rw [decide_eq_true (by omega)]
        obtain ⟨r0, r1, r2, f0, f1, f2, hlt⟩ := HY.out w1 HB1.out
        have x0 := (HX.out.below HB1.out).c0
        have x1 := (HX.out.below HB1.out).c1
        have hw1 : IntKind.i64.wrap ((s.size : Int) + (t.size : Int)) = (s.size : Int) + (t.size : Int) := by rw [IntWalk.i64_in _ (by omega)]
        have hw2 : IntKind.i64.wrap ((s.size : Int) + (t.size : Int) + (b.size : Int)) = (s.size : Int) + (t.size : Int) + (b.size : Int) := by rw [IntWalk.i64_in _ (by omega)]
        have hq3 : (3000 : Int) < (s.size : Int) + (t.size : Int) + (b.size : Int) := by omega
        have hsm : ¬ 9223372036854775807 < t.size + b.size := by omega
        go_wp2_with fail
        refine bodyPost_ret (v := .agg #[.string (⟨#[]⟩), .string (⟨#[]⟩), .int .i64 9]) (by simp [results, Tryd.results10, go_sem, hlt, r0, r1, r2]) rfl ⟨by rw [HR.out]; rfl, ?_⟩
        exact HB0.out.trans (((((HB1.out.mono HB0.out.size).setCell (p := ⟨w.heap.size + 1, 0, none⟩) (by simp) _).setCell (p := ⟨w.heap.size + 1, 1, none⟩) (by simp) _)).setCell (p := ⟨w.heap.size + 1, 2, none⟩) (by simp) _)
      · skip
        have HR := Lib.hid (dkAppend_ok (s := s) (t := t) (b := b) h1 h2 h3)
        have hq1 : ¬ (8000 : Int) < (b.size : Int) := by omega
        have x0 := HX.out.c0
        have x1 := HX.out.c1
        go_enter Tryd.func10, Tryd.ntmps10
        go_wp2_with fail
        rw [← hW]
        clear hW
        refine (specDiskRight_any s t _ (by omega)).mono ?_
        rintro e w1 ⟨rfl, hb⟩
        have HB1 := Lib.hid hb
        clear hb x0 x1
        rw [decide_eq_true (by omega)]
        obtain ⟨r0, r1, r2, f0, f1, f2, hlt⟩ := HY.out w1 HB1.out
        have x0 := (HX.out.below HB1.out).c0
        have x1 := (HX.out.below HB1.out).c1
        have hw1 : IntKind.i64.wrap ((s.size : Int) + (t.size : Int)) = (s.size : Int) + (t.size : Int) := by rw [IntWalk.i64_in _ (by omega)]
        have hw2 : IntKind.i64.wrap ((s.size : Int) + (t.size : Int) + (b.size : Int)) = (s.size : Int) + (t.size : Int) + (b.size : Int) := by rw [IntWalk.i64_in _ (by omega)]
        have hq3 : ¬ (3000 : Int) < (s.size : Int) + (t.size : Int) + (b.size : Int) := by omega
        have hsm : ¬ 9223372036854775807 < t.size + b.size := by omega
        go_wp2_with fail
        refine bodyPost_ret (v := .agg #[.string (s), .string (t ++ b), .int .i64 0]) (by simp [results, Tryd.results10, go_sem, hlt, r0, r1, r2]) rfl ⟨by rw [HR.out]; rfl, ?_⟩
        exact HB0.out.trans (((((HB1.out.mono HB0.out.size).setCell (p := ⟨w.heap.size + 1, 0, none⟩) (by simp) _).setCell (p := ⟨w.heap.size + 1, 1, none⟩) (by simp) _)).setCell (p := ⟨w.heap.size + 1, 2, none⟩) (by simp) _)
end Go.Proofs.YtnoefpkhbllmiaaDoor
