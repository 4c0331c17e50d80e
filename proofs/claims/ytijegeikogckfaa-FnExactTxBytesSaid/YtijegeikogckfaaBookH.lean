/- A right deed in bytes: what the model's function answers. -/
import Derived.Test.YtijegeikogckfaaBookB
import Derived.Test.YtijegeikogckfaaFnPutText
import Derived.Deep.RegionHeld3
namespace Go.Proofs.Ytijegeikogckfaa
open Go.RowKit Go.PlainAid G IRow MNum MJoin
set_option linter.unusedVariables false
/-- What a deed's bytes are. -/
def deedT (q0 q1 q2 q3 q4 q5 : Int) (q6 q7 : ByteArray) (q8 : Int) (q9 : ByteArray) : ByteArray :=
  if q0 = 1 then numS q0 ++ numS q1 ++ numS q2 ++ numS q3 ++ numS q4 else if q0 = 2 then numS q0 ++ numS q5 ++ putTextS q6 else if q0 = 3 then numS q0 ++ putTextS q7 ++ numS q8 ++ putTextS q9 else numS q0 ++ putTextS q7
def deedTx (d : Dd) : ByteArray := deedT d.kd d.gn d.nd d.mn d.ck d.no d.lk d.nm d.tm d.bd
theorem i64_in {n : Int} (h1 : -9000000000000000000 ≤ n) (h2 : n ≤ 9000000000000000000) : i64P n := by unfold i64P; omega
/-- What a right deed's numbers and texts are bound by. -/
theorem deedB_bounds {q0 q1 q2 q3 q4 q5 : Int} {q6 q7 : ByteArray} {q8 : Int} {q9 : ByteArray} (h : deedB q0 q1 q2 q3 q4 q5 q6 q7 q8 q9 = true) : (q0 = 1 ∧ (1 ≤ q1 ∧ q1 ≤ 999) ∧ (1 ≤ q2 ∧ q2 ≤ 10) ∧ (q2 ≤ q3 ∧ q3 ≤ 20) ∧ (0 ≤ q4 ∧ q4 ≤ 4294967295)) ∨ (q0 = 2 ∧ (1 ≤ q5 ∧ q5 ≤ 5) ∧ (1 ≤ q6.size ∧ q6.size ≤ 16)) ∨ (q0 = 3 ∧ (1 ≤ q7.size ∧ q7.size ≤ 8) ∧ (1 ≤ q8 ∧ q8 ≤ 5) ∧ (1 ≤ q9.size ∧ q9.size ≤ 20)) ∨ (q0 = 4 ∧ (1 ≤ q7.size ∧ q7.size ≤ 8)) := by
  unfold deedB at h
  by_cases k1 : q0 = 1
  · rw [if_pos k1] at h
    simp only [Bool.and_eq_true] at h
    exact .inl ⟨k1, confB_iff.1 h.1.1⟩
  · rw [if_neg k1] at h
    by_cases k2 : q0 = 2
    · rw [if_pos k2] at h
      simp only [Bool.and_eq_true] at h
      exact .inr (.inl ⟨k2, termB_iff.1 h.1.2⟩)
    · rw [if_neg k2] at h
      by_cases k3 : q0 = 3
      · rw [if_pos k3] at h
        simp only [Bool.and_eq_true] at h
        obtain ⟨h1, h2, h3⟩ := itemB_iff.1 h.2
        exact .inr (.inr (.inl ⟨k3, wordB_size h1, h2, h3⟩))
      · rw [if_neg k3] at h
        by_cases k4 : q0 = 4
        · rw [if_pos k4] at h
          simp only [Bool.and_eq_true] at h
          exact .inr (.inr (.inr ⟨k4, wordB_size h.2⟩))
        · rw [if_neg k4] at h
          cases h
set_option maxRecDepth 100000 in
set_option maxHeartbeats 6400000 in
theorem l07Deed_any (q0 q1 q2 q3 q4 q5 : Int) (q6 q7 : ByteArray) (q8 : Int) (q9 : ByteArray) (w : World) (hB : deedB q0 q1 q2 q3 q4 q5 q6 q7 q8 q9 = true) :
    Calls Try.prog 46 #[.agg #[.int .i64 q0, .int .i64 q1, .int .i64 q2, .int .i64 q3, .int .i64 q4, .int .i64 q5, .string q6, .string q7, .int .i64 q8, .string q9]] w fun e w' => e = .returned (.string (deedT q0 q1 q2 q3 q4 q5 q6 q7 q8 q9)) ∧ Below w.heap.size w w' := by
  have hbd := deedB_bounds hB
  clear hB
  obtain ⟨W, hW⟩ : ∃ W, W = w.alloc (.cells #[.int .i64 q0, .int .i64 q1, .int .i64 q2, .int .i64 q3, .int .i64 q4, .int .i64 q5, .string q6, .string q7, .int .i64 q8, .string q9] 50) := ⟨_, rfl⟩
  have HA : Hid (BoxC W w.heap.size [.int .i64 q0, .int .i64 q1, .int .i64 q2, .int .i64 q3, .int .i64 q4, .int .i64 q5, .string q6, .string q7, .int .i64 q8, .string q9]) := Lib.hid (by rw [hW]; exact BoxC.made _ _ _)
  have HW0 : Hid (Below w.heap.size w W) := Lib.hid (by rw [hW]; exact (Below.refl _ _).alloc (Nat.le_refl _) _)
  have HC : Hid (∀ u : World, Below W.heap.size W u → u.cell? ⟨w.heap.size, 0, none⟩ = some (.int .i64 q0) ∧ u.cell? ⟨w.heap.size, 1, none⟩ = some (.int .i64 q1) ∧ u.cell? ⟨w.heap.size, 2, none⟩ = some (.int .i64 q2) ∧ u.cell? ⟨w.heap.size, 3, none⟩ = some (.int .i64 q3) ∧ u.cell? ⟨w.heap.size, 4, none⟩ = some (.int .i64 q4) ∧ u.cell? ⟨w.heap.size, 5, none⟩ = some (.int .i64 q5) ∧ u.cell? ⟨w.heap.size, 6, none⟩ = some (.string q6) ∧ u.cell? ⟨w.heap.size, 7, none⟩ = some (.string q7) ∧ u.cell? ⟨w.heap.size, 8, none⟩ = some (.int .i64 q8) ∧ u.cell? ⟨w.heap.size, 9, none⟩ = some (.string q9)) := Lib.hid (fun u hu => ⟨(HA.out.below hu).cell 0 _ rfl, (HA.out.below hu).cell 1 _ rfl, (HA.out.below hu).cell 2 _ rfl, (HA.out.below hu).cell 3 _ rfl, (HA.out.below hu).cell 4 _ rfl, (HA.out.below hu).cell 5 _ rfl, (HA.out.below hu).cell 6 _ rfl, (HA.out.below hu).cell 7 _ rfl, (HA.out.below hu).cell 8 _ rfl, (HA.out.below hu).cell 9 _ rfl⟩)
  clear HA
  rcases hbd with hbd | hbd | hbd | hbd
  · obtain ⟨rfl, hbd⟩ := hbd
    have P0 : Hid (∀ u, Calls Try.prog 45 #[.int .i64 1] u fun e w' => e = .returned (.string (numS 1)) ∧ Below u.heap.size u w') := Lib.hid (fun u => specPutNum_any 1 u (i64_in (by omega) (by omega)))
    have z0 := (numS_size 1).2
    have P1 : Hid (∀ u, Calls Try.prog 45 #[.int .i64 q1] u fun e w' => e = .returned (.string (numS q1)) ∧ Below u.heap.size u w') := Lib.hid (fun u => specPutNum_any q1 u (i64_in (by omega) (by omega)))
    have z1 := (numS_size q1).2
    have P2 : Hid (∀ u, Calls Try.prog 45 #[.int .i64 q2] u fun e w' => e = .returned (.string (numS q2)) ∧ Below u.heap.size u w') := Lib.hid (fun u => specPutNum_any q2 u (i64_in (by omega) (by omega)))
    have z2 := (numS_size q2).2
    have P3 : Hid (∀ u, Calls Try.prog 45 #[.int .i64 q3] u fun e w' => e = .returned (.string (numS q3)) ∧ Below u.heap.size u w') := Lib.hid (fun u => specPutNum_any q3 u (i64_in (by omega) (by omega)))
    have z3 := (numS_size q3).2
    have P4 : Hid (∀ u, Calls Try.prog 45 #[.int .i64 q4] u fun e w' => e = .returned (.string (numS q4)) ∧ Below u.heap.size u w') := Lib.hid (fun u => specPutNum_any q4 u (i64_in (by omega) (by omega)))
    have z4 := (numS_size q4).2
    have HT : Hid (numS 1 ++ numS q1 ++ numS q2 ++ numS q3 ++ numS q4 = deedT 1 q1 q2 q3 q4 q5 q6 q7 q8 q9) := Lib.hid rfl
    generalize numS 1 = p0 at *
    generalize numS q1 = p1 at *
    generalize numS q2 = p2 at *
    generalize numS q3 = p3 at *
    generalize numS q4 = p4 at *
    have r0 : ∀ u : World, (Op.stringOp .add (p0) p1).run Try.prog u = .ok (.string (p0 ++ p1)) u := fun u => run_string_add_sum u _ _ (by omega)
    have s1 : (p0 ++ p1).size ≤ 300 := by rw [ByteArray.size_append]; omega
    have r1 : ∀ u : World, (Op.stringOp .add (p0 ++ p1) p2).run Try.prog u = .ok (.string (p0 ++ p1 ++ p2)) u := fun u => run_string_add_sum u _ _ (by omega)
    have s2 : (p0 ++ p1 ++ p2).size ≤ 400 := by rw [ByteArray.size_append]; omega
    have r2 : ∀ u : World, (Op.stringOp .add (p0 ++ p1 ++ p2) p3).run Try.prog u = .ok (.string (p0 ++ p1 ++ p2 ++ p3)) u := fun u => run_string_add_sum u _ _ (by omega)
    have s3 : (p0 ++ p1 ++ p2 ++ p3).size ≤ 500 := by rw [ByteArray.size_append]; omega
    have r3 : ∀ u : World, (Op.stringOp .add (p0 ++ p1 ++ p2 ++ p3) p4).run Try.prog u = .ok (.string (p0 ++ p1 ++ p2 ++ p3 ++ p4)) u := fun u => run_string_add_sum u _ _ (by omega)
    clear z0 hbd z1 z2 z3 z4 s1 s2 s3
    go_enter Try.func46, Try.ntmps46
    go_wp2_with fail
    rw [← hW]
    clear hW
    refine Calls.mono (P0.out _) ?_
    rintro e w1 ⟨rfl, hb⟩
    have hFn : Below W.heap.size W w1 := hb
    clear hb
    obtain ⟨x0, x1, x2, x3, x4, x5, x6, x7, x8, x9⟩ := HC.out _ hFn
    skip
    go_wp2_with fail
    clear x0 x1 x2 x3 x4 x5 x6 x7 x8 x9
    replace hFn := hFn.drew
    go_region_held3 (fun u => u.cell? ⟨w.heap.size, 1, none⟩ = some (.int .i64 q1) ∧ u.cell? ⟨w.heap.size, 2, none⟩ = some (.int .i64 q2) ∧ u.cell? ⟨w.heap.size, 3, none⟩ = some (.int .i64 q3) ∧ u.cell? ⟨w.heap.size, 4, none⟩ = some (.int .i64 q4)) (exact ⟨(HC.out _ hFn).2.1, (HC.out _ hFn).2.2.1, (HC.out _ hFn).2.2.2.1, (HC.out _ hFn).2.2.2.2.1⟩)
      (first | (go_at_call 45; (with_reducible refine Calls.mono (P1.out _) ?_); rintro e w1 ⟨rfl, hb⟩; have hFn := hFn.trans (hb.mono hFn.size)) | (go_at_call 45; (with_reducible refine Calls.mono (P2.out _) ?_); rintro e w1 ⟨rfl, hb⟩; have hFn := hFn.trans (hb.mono hFn.size)) | (go_at_call 45; (with_reducible refine Calls.mono (P3.out _) ?_); rintro e w1 ⟨rfl, hb⟩; have hFn := hFn.trans (hb.mono hFn.size)) | (go_at_call 45; (with_reducible refine Calls.mono (P4.out _) ?_); rintro e w1 ⟨rfl, hb⟩; have hFn := hFn.trans (hb.mono hFn.size)))
    all_goals
      go_wp2_with fail
      go_ret
      exact ⟨ret_string HT.out, HW0.out.trans (hFn.mono HW0.out.size)⟩
  · obtain ⟨rfl, hbd⟩ := hbd
    have P0 : Hid (∀ u, Calls Try.prog 45 #[.int .i64 2] u fun e w' => e = .returned (.string (numS 2)) ∧ Below u.heap.size u w') := Lib.hid (fun u => specPutNum_any 2 u (i64_in (by omega) (by omega)))
    have z0 := (numS_size 2).2
    have P5 : Hid (∀ u, Calls Try.prog 45 #[.int .i64 q5] u fun e w' => e = .returned (.string (numS q5)) ∧ Below u.heap.size u w') := Lib.hid (fun u => specPutNum_any q5 u (i64_in (by omega) (by omega)))
    have z5 := (numS_size q5).2
    have P6 : Hid (∀ u, Calls Try.prog 47 #[.string q6] u fun e w' => e = .returned (.string (putTextS q6)) ∧ Below u.heap.size u w') := Lib.hid (fun u => specPutText_any q6 u (by unfold maxLen; omega))
    have z6 : (putTextS q6).size ≤ 100 := by rw [putTextS_short (by omega), ByteArray.size_append]; have := (numS_size (q6.size : Int)).2; omega
    have HT : Hid (numS 2 ++ numS q5 ++ putTextS q6 = deedT 2 q1 q2 q3 q4 q5 q6 q7 q8 q9) := Lib.hid rfl
    generalize numS 2 = p0 at *
    generalize numS q5 = p5 at *
    generalize putTextS q6 = p6 at *
    have r0 : ∀ u : World, (Op.stringOp .add (p0) p5).run Try.prog u = .ok (.string (p0 ++ p5)) u := fun u => run_string_add_sum u _ _ (by omega)
    have s1 : (p0 ++ p5).size ≤ 300 := by rw [ByteArray.size_append]; omega
    have r1 : ∀ u : World, (Op.stringOp .add (p0 ++ p5) p6).run Try.prog u = .ok (.string (p0 ++ p5 ++ p6)) u := fun u => run_string_add_sum u _ _ (by omega)
    clear z0 hbd z5 z6 s1
    go_enter Try.func46, Try.ntmps46
    go_wp2_with fail
    rw [← hW]
    clear hW
    refine Calls.mono (P0.out _) ?_
    rintro e w1 ⟨rfl, hb⟩
    have hFn : Below W.heap.size W w1 := hb
    clear hb
    obtain ⟨x0, x1, x2, x3, x4, x5, x6, x7, x8, x9⟩ := HC.out _ hFn
    skip
    go_wp2_with fail
    clear x0 x1 x2 x3 x4 x5 x6 x7 x8 x9
    replace hFn := hFn.drew
    go_region_held3 (fun u => u.cell? ⟨w.heap.size, 5, none⟩ = some (.int .i64 q5) ∧ u.cell? ⟨w.heap.size, 6, none⟩ = some (.string q6)) (exact ⟨(HC.out _ hFn).2.2.2.2.2.1, (HC.out _ hFn).2.2.2.2.2.2.1⟩)
      (first | (go_at_call 45; (with_reducible refine Calls.mono (P5.out _) ?_); rintro e w1 ⟨rfl, hb⟩; have hFn := hFn.trans (hb.mono hFn.size)) | (go_at_call 47; (with_reducible refine Calls.mono (P6.out _) ?_); rintro e w1 ⟨rfl, hb⟩; have hFn := hFn.trans (hb.mono hFn.size)))
    all_goals
      go_wp2_with fail
      go_ret
      exact ⟨ret_string HT.out, HW0.out.trans (hFn.mono HW0.out.size)⟩
  · obtain ⟨rfl, hbd⟩ := hbd
    have P0 : Hid (∀ u, Calls Try.prog 45 #[.int .i64 3] u fun e w' => e = .returned (.string (numS 3)) ∧ Below u.heap.size u w') := Lib.hid (fun u => specPutNum_any 3 u (i64_in (by omega) (by omega)))
    have z0 := (numS_size 3).2
    have P7 : Hid (∀ u, Calls Try.prog 47 #[.string q7] u fun e w' => e = .returned (.string (putTextS q7)) ∧ Below u.heap.size u w') := Lib.hid (fun u => specPutText_any q7 u (by unfold maxLen; omega))
    have z7 : (putTextS q7).size ≤ 100 := by rw [putTextS_short (by omega), ByteArray.size_append]; have := (numS_size (q7.size : Int)).2; omega
    have P8 : Hid (∀ u, Calls Try.prog 45 #[.int .i64 q8] u fun e w' => e = .returned (.string (numS q8)) ∧ Below u.heap.size u w') := Lib.hid (fun u => specPutNum_any q8 u (i64_in (by omega) (by omega)))
    have z8 := (numS_size q8).2
    have P9 : Hid (∀ u, Calls Try.prog 47 #[.string q9] u fun e w' => e = .returned (.string (putTextS q9)) ∧ Below u.heap.size u w') := Lib.hid (fun u => specPutText_any q9 u (by unfold maxLen; omega))
    have z9 : (putTextS q9).size ≤ 100 := by rw [putTextS_short (by omega), ByteArray.size_append]; have := (numS_size (q9.size : Int)).2; omega
    have HT : Hid (numS 3 ++ putTextS q7 ++ numS q8 ++ putTextS q9 = deedT 3 q1 q2 q3 q4 q5 q6 q7 q8 q9) := Lib.hid rfl
    generalize numS 3 = p0 at *
    generalize putTextS q7 = p7 at *
    generalize numS q8 = p8 at *
    generalize putTextS q9 = p9 at *
    have r0 : ∀ u : World, (Op.stringOp .add (p0) p7).run Try.prog u = .ok (.string (p0 ++ p7)) u := fun u => run_string_add_sum u _ _ (by omega)
    have s1 : (p0 ++ p7).size ≤ 300 := by rw [ByteArray.size_append]; omega
    have r1 : ∀ u : World, (Op.stringOp .add (p0 ++ p7) p8).run Try.prog u = .ok (.string (p0 ++ p7 ++ p8)) u := fun u => run_string_add_sum u _ _ (by omega)
    have s2 : (p0 ++ p7 ++ p8).size ≤ 400 := by rw [ByteArray.size_append]; omega
    have r2 : ∀ u : World, (Op.stringOp .add (p0 ++ p7 ++ p8) p9).run Try.prog u = .ok (.string (p0 ++ p7 ++ p8 ++ p9)) u := fun u => run_string_add_sum u _ _ (by omega)
    clear z0 hbd z7 z8 z9 s1 s2
    go_enter Try.func46, Try.ntmps46
    go_wp2_with fail
    rw [← hW]
    clear hW
    refine Calls.mono (P0.out _) ?_
    rintro e w1 ⟨rfl, hb⟩
    have hFn : Below W.heap.size W w1 := hb
    clear hb
    obtain ⟨x0, x1, x2, x3, x4, x5, x6, x7, x8, x9⟩ := HC.out _ hFn
    skip
    go_wp2_with fail
    clear x0 x1 x2 x3 x4 x5 x6 x7 x8 x9
    replace hFn := hFn.drew
    go_region_held3 (fun u => u.cell? ⟨w.heap.size, 7, none⟩ = some (.string q7) ∧ u.cell? ⟨w.heap.size, 8, none⟩ = some (.int .i64 q8) ∧ u.cell? ⟨w.heap.size, 9, none⟩ = some (.string q9)) (exact ⟨(HC.out _ hFn).2.2.2.2.2.2.2.1, (HC.out _ hFn).2.2.2.2.2.2.2.2.1, (HC.out _ hFn).2.2.2.2.2.2.2.2.2⟩)
      (first | (go_at_call 47; (with_reducible refine Calls.mono (P7.out _) ?_); rintro e w1 ⟨rfl, hb⟩; have hFn := hFn.trans (hb.mono hFn.size)) | (go_at_call 45; (with_reducible refine Calls.mono (P8.out _) ?_); rintro e w1 ⟨rfl, hb⟩; have hFn := hFn.trans (hb.mono hFn.size)) | (go_at_call 47; (with_reducible refine Calls.mono (P9.out _) ?_); rintro e w1 ⟨rfl, hb⟩; have hFn := hFn.trans (hb.mono hFn.size)))
    all_goals
      go_wp2_with fail
      go_ret
      exact ⟨ret_string HT.out, HW0.out.trans (hFn.mono HW0.out.size)⟩
  · obtain ⟨rfl, hbd⟩ := hbd
    have P0 : Hid (∀ u, Calls Try.prog 45 #[.int .i64 4] u fun e w' => e = .returned (.string (numS 4)) ∧ Below u.heap.size u w') := Lib.hid (fun u => specPutNum_any 4 u (i64_in (by omega) (by omega)))
    have z0 := (numS_size 4).2
    have P7 : Hid (∀ u, Calls Try.prog 47 #[.string q7] u fun e w' => e = .returned (.string (putTextS q7)) ∧ Below u.heap.size u w') := Lib.hid (fun u => specPutText_any q7 u (by unfold maxLen; omega))
    have z7 : (putTextS q7).size ≤ 100 := by rw [putTextS_short (by omega), ByteArray.size_append]; have := (numS_size (q7.size : Int)).2; omega
    have HT : Hid (numS 4 ++ putTextS q7 = deedT 4 q1 q2 q3 q4 q5 q6 q7 q8 q9) := Lib.hid rfl
    generalize numS 4 = p0 at *
    generalize putTextS q7 = p7 at *
    have r0 : ∀ u : World, (Op.stringOp .add (p0) p7).run Try.prog u = .ok (.string (p0 ++ p7)) u := fun u => run_string_add_sum u _ _ (by omega)
    clear z0 hbd z7 
    go_enter Try.func46, Try.ntmps46
    go_wp2_with fail
    rw [← hW]
    clear hW
    refine Calls.mono (P0.out _) ?_
    rintro e w1 ⟨rfl, hb⟩
    have hFn : Below W.heap.size W w1 := hb
    clear hb
    obtain ⟨x0, x1, x2, x3, x4, x5, x6, x7, x8, x9⟩ := HC.out _ hFn
    skip
    go_wp2_with fail
    clear x0 x1 x2 x3 x4 x5 x6 x7 x8 x9
    refine Calls.mono (P7.out _) ?_
    rintro e w2 ⟨rfl, hb⟩
    replace hFn := hFn.trans (hb.mono hFn.size)
    clear hb
    go_wp2_with fail
    go_ret
    exact ⟨ret_string HT.out, HW0.out.trans (hFn.mono HW0.out.size)⟩
end Go.Proofs.Ytijegeikogckfaa
