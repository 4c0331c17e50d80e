/- Texts put together: what the law uses of them. -/
import Derived.Test.YtidcpdfhnhfelaaGreatDoorQTxr31
import Derived.Test.YtidcpdfhnhfelaaGreatDoorQTxr00
/- The kinds of deeds, each behind an interface; right deeds: what the program's functions answer. -/
namespace Go.Proofs.YtidcpdfhnhfelaaGreatDoor
open Go.RowKit Go.PlainAid G
set_option linter.unusedVariables false
set_option maxRecDepth 100000 in
theorem deedOf1_any (q0 q1 q2 q3 q4 q5 : Int) (q6 q7 : ByteArray) (q8 : Int) (q9 : ByteArray) (h : q0 = 1) (w : World) :
    Calls Tryz.prog 139 #[.agg #[.int .i64 q0, .int .i64 q1, .int .i64 q2, .int .i64 q3, .int .i64 q4, .int .i64 q5, .string q6, .string q7, .int .i64 q8, .string q9]] w fun e w' => e = .returned (.iface 206 (.agg #[.int .i64 q1, .int .i64 q2, .int .i64 q3, .int .i64 q4])) ∧ Below w.heap.size w w' := by
  subst h
  have HB : Hid (Below w.heap.size w (w.alloc (.cells #[.int .i64 1, .int .i64 q1, .int .i64 q2, .int .i64 q3, .int .i64 q4, .int .i64 q5, .string q6, .string q7, .int .i64 q8, .string q9] 110))) := Lib.hid ((Below.refl _ _).alloc (Nat.le_refl _) _)
  go_enter Tryz.func139, Tryz.ntmps139
  go_wp2_with fail
  go_ret
  exact ⟨rfl, HB.out⟩
set_option maxRecDepth 100000 in
theorem deedOf2_any (q0 q1 q2 q3 q4 q5 : Int) (q6 q7 : ByteArray) (q8 : Int) (q9 : ByteArray) (h : q0 = 2) (w : World) :
    Calls Tryz.prog 139 #[.agg #[.int .i64 q0, .int .i64 q1, .int .i64 q2, .int .i64 q3, .int .i64 q4, .int .i64 q5, .string q6, .string q7, .int .i64 q8, .string q9]] w fun e w' => e = .returned (.iface 229 (.agg #[.int .i64 q5, .string q6])) ∧ Below w.heap.size w w' := by
  subst h
  have HB : Hid (Below w.heap.size w (w.alloc (.cells #[.int .i64 2, .int .i64 q1, .int .i64 q2, .int .i64 q3, .int .i64 q4, .int .i64 q5, .string q6, .string q7, .int .i64 q8, .string q9] 110))) := Lib.hid ((Below.refl _ _).alloc (Nat.le_refl _) _)
  go_enter Tryz.func139, Tryz.ntmps139
  go_wp2_with fail
  go_ret
  exact ⟨rfl, HB.out⟩
set_option maxRecDepth 100000 in
theorem deedOf3_any (q0 q1 q2 q3 q4 q5 : Int) (q6 q7 : ByteArray) (q8 : Int) (q9 : ByteArray) (h : q0 = 3) (w : World) :
    Calls Tryz.prog 139 #[.agg #[.int .i64 q0, .int .i64 q1, .int .i64 q2, .int .i64 q3, .int .i64 q4, .int .i64 q5, .string q6, .string q7, .int .i64 q8, .string q9]] w fun e w' => e = .returned (.iface 230 (.agg #[.string q7, .int .i64 q8, .string q9])) ∧ Below w.heap.size w w' := by
  subst h
  have HB : Hid (Below w.heap.size w (w.alloc (.cells #[.int .i64 3, .int .i64 q1, .int .i64 q2, .int .i64 q3, .int .i64 q4, .int .i64 q5, .string q6, .string q7, .int .i64 q8, .string q9] 110))) := Lib.hid ((Below.refl _ _).alloc (Nat.le_refl _) _)
  go_enter Tryz.func139, Tryz.ntmps139
  go_wp2_with fail
  go_ret
  exact ⟨rfl, HB.out⟩
set_option maxRecDepth 100000 in
theorem deedOf4_any (q0 q1 q2 q3 q4 q5 : Int) (q6 q7 : ByteArray) (q8 : Int) (q9 : ByteArray) (h : q0 = 4) (w : World) :
    Calls Tryz.prog 139 #[.agg #[.int .i64 q0, .int .i64 q1, .int .i64 q2, .int .i64 q3, .int .i64 q4, .int .i64 q5, .string q6, .string q7, .int .i64 q8, .string q9]] w fun e w' => e = .returned (.iface 231 (.string q7)) ∧ Below w.heap.size w w' := by
  subst h
  have HB : Hid (Below w.heap.size w (w.alloc (.cells #[.int .i64 4, .int .i64 q1, .int .i64 q2, .int .i64 q3, .int .i64 q4, .int .i64 q5, .string q6, .string q7, .int .i64 q8, .string q9] 110))) := Lib.hid ((Below.refl _ _).alloc (Nat.le_refl _) _)
  go_enter Tryz.func139, Tryz.ntmps139
  go_wp2_with fail
  go_ret
  exact ⟨rfl, HB.out⟩
set_option maxRecDepth 100000 in
theorem deedOf0_any (q0 q1 q2 q3 q4 q5 : Int) (q6 q7 : ByteArray) (q8 : Int) (q9 : ByteArray) (h1 : ¬ q0 = 1) (h2 : ¬ q0 = 2) (h3 : ¬ q0 = 3) (h4 : ¬ q0 = 4) (w : World) :
    Calls Tryz.prog 139 #[.agg #[.int .i64 q0, .int .i64 q1, .int .i64 q2, .int .i64 q3, .int .i64 q4, .int .i64 q5, .string q6, .string q7, .int .i64 q8, .string q9]] w fun e w' => e = .returned .nilIface ∧ Below w.heap.size w w' := by
  have HB : Hid (Below w.heap.size w (w.alloc (.cells #[.int .i64 q0, .int .i64 q1, .int .i64 q2, .int .i64 q3, .int .i64 q4, .int .i64 q5, .string q6, .string q7, .int .i64 q8, .string q9] 110))) := Lib.hid ((Below.refl _ _).alloc (Nat.le_refl _) _)
  go_enter Tryz.func139, Tryz.ntmps139
  go_wp2_with fail
  go_ret
  exact ⟨rfl, HB.out⟩
set_option maxRecDepth 100000 in
theorem right1_any (q1 q2 q3 q4 : Int) (w : World)  :
    Calls Tryz.prog 211 #[.agg #[.int .i64 q1, .int .i64 q2, .int .i64 q3, .int .i64 q4]] w fun e w' => e = .returned (.bool (confB q1 q2 q3 q4)) ∧ Below w.heap.size w w' := by
  have HB : Hid (Below w.heap.size w (w.alloc (.cells #[.int .i64 q1, .int .i64 q2, .int .i64 q3, .int .i64 q4] 206))) := Lib.hid ((Below.refl _ _).alloc (Nat.le_refl _) _)
  go_enter Tryz.func211, Tryz.ntmps211
  go_wp2_with fail
  refine (implConf_any q1 q2 q3 q4 _).mono ?_
  rintro e w1 ⟨rfl, hb⟩
  have HB1 := Lib.hid (HB.out.trans (hb.mono HB.out.size))
  clear hb
  go_wp2_with fail
  go_ret
  exact ⟨rfl, HB1.out⟩
set_option maxRecDepth 100000 in
theorem whole1_any (q1 q2 q3 q4 : Int) (w : World) :
    Calls Tryz.prog 212 #[.agg #[.int .i64 q1, .int .i64 q2, .int .i64 q3, .int .i64 q4]] w fun e w' => e = .returned (.agg #[.int .i64 1, .int .i64 q1, .int .i64 q2, .int .i64 q3, .int .i64 q4, .int .i64 0, .string ⟨#[]⟩, .string ⟨#[]⟩, .int .i64 0, .string ⟨#[]⟩]) ∧ Below w.heap.size w w' := by
  have HB : Hid (Below w.heap.size w (w.alloc (.cells #[.int .i64 q1, .int .i64 q2, .int .i64 q3, .int .i64 q4] 206))) := Lib.hid ((Below.refl _ _).alloc (Nat.le_refl _) _)
  go_enter Tryz.func212, Tryz.ntmps212
  go_wp2_with fail
  exact bodyPost_ret (v := .agg #[.int .i64 1, .int .i64 q1, .int .i64 q2, .int .i64 q3, .int .i64 q4, .int .i64 0, .string ⟨#[]⟩, .string ⟨#[]⟩, .int .i64 0, .string ⟨#[]⟩]) (by simp [results, Tryz.results212, go_sem]) rfl ⟨rfl, by repeat' (first | exact Below.refl _ _ | refine Below.alloc ?_ (by first | exact Nat.le_refl _ | (simp; done) | (simp; omega)) _)⟩
set_option maxRecDepth 100000 in
theorem right2_any (q5 : Int) (q6 : ByteArray) (w : World) (h6 : q6.size ≤ maxLen) :
    Calls Tryz.prog 227 #[.agg #[.int .i64 q5, .string q6]] w fun e w' => e = .returned (.bool (termB q5 q6)) ∧ Below w.heap.size w w' := by
  have H6 := Lib.hid h6
  have HB : Hid (Below w.heap.size w (w.alloc (.cells #[.int .i64 q5, .string q6] 229))) := Lib.hid ((Below.refl _ _).alloc (Nat.le_refl _) _)
  go_enter Tryz.func227, Tryz.ntmps227
  go_wp2_with fail
  refine (implTerm_any q5 q6 _ H6.out).mono ?_
  rintro e w1 ⟨rfl, hb⟩
  have HB1 := Lib.hid (HB.out.trans (hb.mono HB.out.size))
  clear hb
  go_wp2_with fail
  go_ret
  exact ⟨rfl, HB1.out⟩
set_option maxRecDepth 100000 in
theorem whole2_any (q5 : Int) (q6 : ByteArray) (w : World) :
    Calls Tryz.prog 228 #[.agg #[.int .i64 q5, .string q6]] w fun e w' => e = .returned (.agg #[.int .i64 2, .int .i64 0, .int .i64 0, .int .i64 0, .int .i64 0, .int .i64 q5, .string q6, .string ⟨#[]⟩, .int .i64 0, .string ⟨#[]⟩]) ∧ Below w.heap.size w w' := by
  have HB : Hid (Below w.heap.size w (w.alloc (.cells #[.int .i64 q5, .string q6] 229))) := Lib.hid ((Below.refl _ _).alloc (Nat.le_refl _) _)
  go_enter Tryz.func228, Tryz.ntmps228
  go_wp2_with fail
  exact bodyPost_ret (v := .agg #[.int .i64 2, .int .i64 0, .int .i64 0, .int .i64 0, .int .i64 0, .int .i64 q5, .string q6, .string ⟨#[]⟩, .int .i64 0, .string ⟨#[]⟩]) (by simp [results, Tryz.results228, go_sem]) rfl ⟨rfl, by repeat' (first | exact Below.refl _ _ | refine Below.alloc ?_ (by first | exact Nat.le_refl _ | (simp; done) | (simp; omega)) _)⟩
set_option maxRecDepth 100000 in
theorem right3_any (q7 : ByteArray) (q8 : Int) (q9 : ByteArray) (w : World) (h7 : q7.size ≤ maxLen) (h9 : q9.size ≤ maxLen) :
    Calls Tryz.prog 232 #[.agg #[.string q7, .int .i64 q8, .string q9]] w fun e w' => e = .returned (.bool (itemB q7 q8 q9)) ∧ Below w.heap.size w w' := by
  have H7 := Lib.hid h7
  have H9 := Lib.hid h9
  have HB : Hid (Below w.heap.size w (w.alloc (.cells #[.string q7, .int .i64 q8, .string q9] 230))) := Lib.hid ((Below.refl _ _).alloc (Nat.le_refl _) _)
  go_enter Tryz.func232, Tryz.ntmps232
  go_wp2_with fail
  refine (implItem_any q7 q8 q9 _ H7.out H9.out).mono ?_
  rintro e w1 ⟨rfl, hb⟩
  have HB1 := Lib.hid (HB.out.trans (hb.mono HB.out.size))
  clear hb
  go_wp2_with fail
  go_ret
  exact ⟨rfl, HB1.out⟩
set_option maxRecDepth 100000 in
theorem whole3_any (q7 : ByteArray) (q8 : Int) (q9 : ByteArray) (w : World) :
    Calls Tryz.prog 233 #[.agg #[.string q7, .int .i64 q8, .string q9]] w fun e w' => e = .returned (.agg #[.int .i64 3, .int .i64 0, .int .i64 0, .int .i64 0, .int .i64 0, .int .i64 0, .string ⟨#[]⟩, .string q7, .int .i64 q8, .string q9]) ∧ Below w.heap.size w w' := by
  have HB : Hid (Below w.heap.size w (w.alloc (.cells #[.string q7, .int .i64 q8, .string q9] 230))) := Lib.hid ((Below.refl _ _).alloc (Nat.le_refl _) _)
  go_enter Tryz.func233, Tryz.ntmps233
  go_wp2_with fail
  exact bodyPost_ret (v := .agg #[.int .i64 3, .int .i64 0, .int .i64 0, .int .i64 0, .int .i64 0, .int .i64 0, .string ⟨#[]⟩, .string q7, .int .i64 q8, .string q9]) (by simp [results, Tryz.results233, go_sem]) rfl ⟨rfl, by repeat' (first | exact Below.refl _ _ | refine Below.alloc ?_ (by first | exact Nat.le_refl _ | (simp; done) | (simp; omega)) _)⟩
set_option maxRecDepth 100000 in
theorem right4_any (q7 : ByteArray) (w : World) (h7 : q7.size ≤ maxLen) :
    Calls Tryz.prog 239 #[.string q7] w fun e w' => e = .returned (.bool (wordB q7)) ∧ Below w.heap.size w w' := by
  have H7 := Lib.hid h7
  go_enter Tryz.func239, Tryz.ntmps239
  go_wp2_with fail
  refine (implWord_any q7 _ H7.out).mono ?_
  rintro e w1 ⟨rfl, hb⟩
  have HB1 := Lib.hid (hb)
  clear hb
  go_wp2_with fail
  go_ret
  exact ⟨rfl, HB1.out⟩
set_option maxRecDepth 100000 in
theorem whole4_any (q7 : ByteArray) (w : World) :
    Calls Tryz.prog 240 #[.string q7] w fun e w' => e = .returned (.agg #[.int .i64 4, .int .i64 0, .int .i64 0, .int .i64 0, .int .i64 0, .int .i64 0, .string ⟨#[]⟩, .string q7, .int .i64 0, .string ⟨#[]⟩]) ∧ Below w.heap.size w w' := by
  go_enter Tryz.func240, Tryz.ntmps240
  go_wp2_with fail
  exact bodyPost_ret (v := .agg #[.int .i64 4, .int .i64 0, .int .i64 0, .int .i64 0, .int .i64 0, .int .i64 0, .string ⟨#[]⟩, .string q7, .int .i64 0, .string ⟨#[]⟩]) (by simp [results, Tryz.results240, go_sem]) rfl ⟨rfl, by repeat' (first | exact Below.refl _ _ | refine Below.alloc ?_ (by first | exact Nat.le_refl _ | (simp; done) | (simp; omega)) _)⟩
theorem eql_deed1 (q1 q2 q3 q4 q5 : Int) (q6 q7 : ByteArray) (q8 : Int) (q9 : ByteArray) (W : World) :
    (binOp .eql 110 (.agg #[.int .i64 1, .int .i64 q1, .int .i64 q2, .int .i64 q3, .int .i64 q4, .int .i64 0, .string ⟨#[]⟩, .string ⟨#[]⟩, .int .i64 0, .string ⟨#[]⟩]) (.agg #[.int .i64 1, .int .i64 q1, .int .i64 q2, .int .i64 q3, .int .i64 q4, .int .i64 q5, .string q6, .string q7, .int .i64 q8, .string q9])).run Tryz.prog W = .ok (.bool (decide (q5 = 0 ∧ q6 = ⟨#[]⟩) && decide (q7 = ⟨#[]⟩ ∧ q8 = 0 ∧ q9 = ⟨#[]⟩))) W := by
  by_cases h : q5 = 0
  case neg => (have h2 : ¬ 0 = q5 := fun e => h e.symm; simp [go_sem, h, h2])
  subst h
  by_cases h : q6 = ⟨#[]⟩
  case neg => (have h2 := toList_ne h; have h3 : ¬ ([] : List UInt8) = q6.toList := fun e => h2 e.symm; have h4 : ¬ (⟨#[]⟩ : ByteArray) = q6 := fun e => h e.symm; simp [go_sem, h, h2, h3, h4])
  subst h
  by_cases h : q7 = ⟨#[]⟩
  case neg => (have h2 := toList_ne h; have h3 : ¬ ([] : List UInt8) = q7.toList := fun e => h2 e.symm; have h4 : ¬ (⟨#[]⟩ : ByteArray) = q7 := fun e => h e.symm; simp [go_sem, h, h2, h3, h4])
  subst h
  by_cases h : q8 = 0
  case neg => (have h2 : ¬ 0 = q8 := fun e => h e.symm; simp [go_sem, h, h2])
  subst h
  by_cases h : q9 = ⟨#[]⟩
  case neg => (have h2 := toList_ne h; have h3 : ¬ ([] : List UInt8) = q9.toList := fun e => h2 e.symm; have h4 : ¬ (⟨#[]⟩ : ByteArray) = q9 := fun e => h e.symm; simp [go_sem, h, h2, h3, h4])
  subst h
  simp [go_sem]
theorem eql_deed2 (q1 q2 q3 q4 q5 : Int) (q6 q7 : ByteArray) (q8 : Int) (q9 : ByteArray) (W : World) :
    (binOp .eql 110 (.agg #[.int .i64 2, .int .i64 0, .int .i64 0, .int .i64 0, .int .i64 0, .int .i64 q5, .string q6, .string ⟨#[]⟩, .int .i64 0, .string ⟨#[]⟩]) (.agg #[.int .i64 2, .int .i64 q1, .int .i64 q2, .int .i64 q3, .int .i64 q4, .int .i64 q5, .string q6, .string q7, .int .i64 q8, .string q9])).run Tryz.prog W = .ok (.bool (decide (q1 = 0 ∧ q2 = 0 ∧ q3 = 0 ∧ q4 = 0) && decide (q7 = ⟨#[]⟩ ∧ q8 = 0 ∧ q9 = ⟨#[]⟩))) W := by
  by_cases h : q1 = 0
  case neg => (have h2 : ¬ 0 = q1 := fun e => h e.symm; simp [go_sem, h, h2])
  subst h
  by_cases h : q2 = 0
  case neg => (have h2 : ¬ 0 = q2 := fun e => h e.symm; simp [go_sem, h, h2])
  subst h
  by_cases h : q3 = 0
  case neg => (have h2 : ¬ 0 = q3 := fun e => h e.symm; simp [go_sem, h, h2])
  subst h
  by_cases h : q4 = 0
  case neg => (have h2 : ¬ 0 = q4 := fun e => h e.symm; simp [go_sem, h, h2])
  subst h
  by_cases h : q7 = ⟨#[]⟩
  case neg => (have h2 := toList_ne h; have h3 : ¬ ([] : List UInt8) = q7.toList := fun e => h2 e.symm; have h4 : ¬ (⟨#[]⟩ : ByteArray) = q7 := fun e => h e.symm; simp [go_sem, h, h2, h3, h4])
  subst h
  by_cases h : q8 = 0
  case neg => (have h2 : ¬ 0 = q8 := fun e => h e.symm; simp [go_sem, h, h2])
  subst h
  by_cases h : q9 = ⟨#[]⟩
  case neg => (have h2 := toList_ne h; have h3 : ¬ ([] : List UInt8) = q9.toList := fun e => h2 e.symm; have h4 : ¬ (⟨#[]⟩ : ByteArray) = q9 := fun e => h e.symm; simp [go_sem, h, h2, h3, h4])
  subst h
  simp [go_sem]
theorem eql_deed3 (q1 q2 q3 q4 q5 : Int) (q6 q7 : ByteArray) (q8 : Int) (q9 : ByteArray) (W : World) :
    (binOp .eql 110 (.agg #[.int .i64 3, .int .i64 0, .int .i64 0, .int .i64 0, .int .i64 0, .int .i64 0, .string ⟨#[]⟩, .string q7, .int .i64 q8, .string q9]) (.agg #[.int .i64 3, .int .i64 q1, .int .i64 q2, .int .i64 q3, .int .i64 q4, .int .i64 q5, .string q6, .string q7, .int .i64 q8, .string q9])).run Tryz.prog W = .ok (.bool (decide (q1 = 0 ∧ q2 = 0 ∧ q3 = 0 ∧ q4 = 0) && decide (q5 = 0 ∧ q6 = ⟨#[]⟩))) W := by
  by_cases h : q1 = 0
  case neg => (have h2 : ¬ 0 = q1 := fun e => h e.symm; simp [go_sem, h, h2])
  subst h
  by_cases h : q2 = 0
  case neg => (have h2 : ¬ 0 = q2 := fun e => h e.symm; simp [go_sem, h, h2])
  subst h
  by_cases h : q3 = 0
  case neg => (have h2 : ¬ 0 = q3 := fun e => h e.symm; simp [go_sem, h, h2])
  subst h
  by_cases h : q4 = 0
  case neg => (have h2 : ¬ 0 = q4 := fun e => h e.symm; simp [go_sem, h, h2])
  subst h
  by_cases h : q5 = 0
  case neg => (have h2 : ¬ 0 = q5 := fun e => h e.symm; simp [go_sem, h, h2])
  subst h
  by_cases h : q6 = ⟨#[]⟩
  case neg => (have h2 := toList_ne h; have h3 : ¬ ([] : List UInt8) = q6.toList := fun e => h2 e.symm; have h4 : ¬ (⟨#[]⟩ : ByteArray) = q6 := fun e => h e.symm; simp [go_sem, h, h2, h3, h4])
  subst h
  simp [go_sem]
theorem eql_deed4 (q1 q2 q3 q4 q5 : Int) (q6 q7 : ByteArray) (q8 : Int) (q9 : ByteArray) (W : World) :
    (binOp .eql 110 (.agg #[.int .i64 4, .int .i64 0, .int .i64 0, .int .i64 0, .int .i64 0, .int .i64 0, .string ⟨#[]⟩, .string q7, .int .i64 0, .string ⟨#[]⟩]) (.agg #[.int .i64 4, .int .i64 q1, .int .i64 q2, .int .i64 q3, .int .i64 q4, .int .i64 q5, .string q6, .string q7, .int .i64 q8, .string q9])).run Tryz.prog W = .ok (.bool (decide (q1 = 0 ∧ q2 = 0 ∧ q3 = 0 ∧ q4 = 0) && decide (q5 = 0 ∧ q6 = ⟨#[]⟩) && decide (q8 = 0 ∧ q9 = ⟨#[]⟩))) W := by
  by_cases h : q1 = 0
  case neg => (have h2 : ¬ 0 = q1 := fun e => h e.symm; simp [go_sem, h, h2])
  subst h
  by_cases h : q2 = 0
  case neg => (have h2 : ¬ 0 = q2 := fun e => h e.symm; simp [go_sem, h, h2])
  subst h
  by_cases h : q3 = 0
  case neg => (have h2 : ¬ 0 = q3 := fun e => h e.symm; simp [go_sem, h, h2])
  subst h
  by_cases h : q4 = 0
  case neg => (have h2 : ¬ 0 = q4 := fun e => h e.symm; simp [go_sem, h, h2])
  subst h
  by_cases h : q5 = 0
  case neg => (have h2 : ¬ 0 = q5 := fun e => h e.symm; simp [go_sem, h, h2])
  subst h
  by_cases h : q6 = ⟨#[]⟩
  case neg => (have h2 := toList_ne h; have h3 : ¬ ([] : List UInt8) = q6.toList := fun e => h2 e.symm; have h4 : ¬ (⟨#[]⟩ : ByteArray) = q6 := fun e => h e.symm; simp [go_sem, h, h2, h3, h4])
  subst h
  by_cases h : q8 = 0
  case neg => (have h2 : ¬ 0 = q8 := fun e => h e.symm; simp [go_sem, h, h2])
  subst h
  by_cases h : q9 = ⟨#[]⟩
  case neg => (have h2 := toList_ne h; have h3 : ¬ ([] : List UInt8) = q9.toList := fun e => h2 e.symm; have h4 : ¬ (⟨#[]⟩ : ByteArray) = q9 := fun e => h e.symm; simp [go_sem, h, h2, h3, h4])
  subst h
  simp [go_sem]
end Go.Proofs.YtidcpdfhnhfelaaGreatDoor

