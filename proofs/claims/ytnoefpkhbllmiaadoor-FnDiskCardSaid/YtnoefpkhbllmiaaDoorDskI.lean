/- errors.Is by its contracts at the disk's errors, and what the program's Append answers. After the guide's worked example of errors.Is over sentinels. -/
import Derived.Test.YtnoefpkhbllmiaaDoorDskD
import Derived.LaidEql
import Derived.Stop.Asserts
import Derived.RowKitTokens
namespace Go.Proofs.YtnoefpkhbllmiaaDoor
open Go.RowKit Go.PlainAid G Go.Extern.Stop Go.Stop Go.Extern
set_option linter.unusedVariables false
/-- The three variables hold three errors of errors.New's make, each at a place of its own. -/
structure DS (w : World) (e0 e1 e2 : Addr) : Prop where
  v0 : w.cell? ⟨0, 0, none⟩ = some (.iface 85 (.pointer (some e0)))
  v1 : w.cell? ⟨1, 0, none⟩ = some (.iface 85 (.pointer (some e1)))
  v2 : w.cell? ⟨2, 0, none⟩ = some (.iface 85 (.pointer (some e2)))
  n01 : e0 ≠ e1
  n02 : e0 ≠ e2
  n12 : e1 ≠ e2
  h0 : ∃ c t, w.heap[e0.block]? = some (.cells c t (0, 0))
  h1 : ∃ c t, w.heap[e1.block]? = some (.cells c t (0, 0))
  h2 : ∃ c t, w.heap[e2.block]? = some (.cells c t (0, 0))
theorem lt_of_heap {w : World} {b : Nat} {o : Obj} (h : w.heap[b]? = some o) : b < w.heap.size := by
  rcases Nat.lt_or_ge b w.heap.size with h2 | h2
  · exact h2
  · rw [Array.getElem?_eq_none h2] at h; cases h
theorem lt_of_cell {w : World} {a : Addr} {v : Value} (h : w.cell? a = some v) : a.block < w.heap.size := by
  rcases Nat.lt_or_ge a.block w.heap.size with h2 | h2
  · exact h2
  · simp [World.cell?, Array.getElem?_eq_none h2] at h
theorem DS.below {w w' : World} {e0 e1 e2 : Addr} (h : DS w e0 e1 e2) (hb : Below w.heap.size w w') : DS w' e0 e1 e2 where
  v0 := (hb.cell (p := ⟨0, 0, none⟩) (lt_of_cell h.v0)).trans h.v0
  v1 := (hb.cell (p := ⟨1, 0, none⟩) (lt_of_cell h.v1)).trans h.v1
  v2 := (hb.cell (p := ⟨2, 0, none⟩) (lt_of_cell h.v2)).trans h.v2
  n01 := h.n01
  n02 := h.n02
  n12 := h.n12
  h0 := by obtain ⟨c, t, hh⟩ := h.h0; exact ⟨c, t, (hb.block _ (lt_of_heap hh)).trans hh⟩
  h1 := by obtain ⟨c, t, hh⟩ := h.h1; exact ⟨c, t, (hb.block _ (lt_of_heap hh)).trans hh⟩
  h2 := by obtain ⟨c, t, hh⟩ := h.h2; exact ⟨c, t, (hb.block _ (lt_of_heap hh)).trans hh⟩
theorem is_typeOf (v : Value) (w : World) : (ReflectliteType.typeOf #[.iface 85 v]).run Tryd.prog w = .ok (.iface 75 (.agg #[.pointer (some ⟨3, 85, none⟩)])) w := by kernel_rfl
theorem is_comparable (w : World) : ((ReflectliteType.method fun t => do Rtype.noPackHeld "Comparable" t; (fun a => Value.bool a.comparable) <$> typeInfo t) #[.agg #[.pointer (some ⟨3, 85, none⟩)]]).run Tryd.prog w = .ok (.bool true) w := by kernel_rfl
theorem is_metComp (v : Value) (w : World) : (Go.method 223 75 v "Comparable").run Tryd.prog w = .ok (57, v) w := by kernel_rfl
theorem is_comp : (Tryd.prog.info? 85).map (·.comparable) = some true := by kernel_rfl
theorem is_size : (Tryd.prog.info? 111).map (·.size) = some 1 := by kernel_rfl
theorem is_noIsE (v : Value) (xT : TypeId) (w : World) : (Instr.typeAssert (.iface 85 v) xT 77 true).run Tryd.prog w = .ok (.tuple #[.nilIface, .bool false]) w := run_typeAssert_lacksB Tryd.underlying77 (by kernel_rfl) (by kernel_rfl) v xT w
theorem is_noUnE (v : Value) (xT : TypeId) (w : World) : (Instr.typeAssert (.iface 85 v) xT 80 true).run Tryd.prog w = .ok (.tuple #[.nilIface, .bool false]) w := run_typeAssert_lacksB Tryd.underlying80 (by kernel_rfl) (by kernel_rfl) v xT w
theorem is_noUnsE (v : Value) (xT : TypeId) (w : World) : (Instr.typeAssert (.iface 85 v) xT 82 true).run Tryd.prog w = .ok (.tuple #[.nilIface, .bool false]) w := run_typeAssert_lacksB Tryd.underlying82 (by kernel_rfl) (by kernel_rfl) v xT w
theorem is_noIsR (v : Value) (xT : TypeId) (w : World) : (Instr.typeAssert (.iface 66 v) xT 77 true).run Tryd.prog w = .ok (.tuple #[.nilIface, .bool false]) w := run_typeAssert_lacksB Tryd.underlying77 (by kernel_rfl) (by kernel_rfl) v xT w
theorem is_hasUnR (v : Value) (xT : TypeId) (w : World) : (Instr.typeAssert (.iface 66 v) xT 80 true).run Tryd.prog w = .ok (.tuple #[.iface 66 v, .bool true]) w := run_typeAssert_hasB Tryd.underlying80 (by kernel_rfl) v xT w
theorem is_metUn (v : Value) (w : World) : (Go.method 223 66 v "Unwrap").run Tryd.prog w = .ok (53, v) w := by kernel_rfl
theorem unwrap_any (n : Int) (x : Value) (w : World) : Calls Tryd.prog 53 #[.agg #[.int .i64 n, x]] w fun e w' => e = .returned x ∧ Below w.heap.size w w' := by
  go_enter Tryd.func53, Tryd.ntmps53
  go_wp2_with fail
  go_ret
  exact ⟨rfl, (Below.refl _ _).alloc (Nat.le_refl _) _⟩
theorem is_nil (b : Addr) (w : World) :
    Calls Tryd.prog 34 #[.nilIface, .iface 85 (.pointer (some b))] w fun e w' => e = .returned (.bool false) ∧ Below w.heap.size w w' := by
  have hn := run_eql_iface_nil_left (P := Tryd.prog) w 85 (.pointer (some b)) Tryd.underlying47
  go_enter Tryd.func34, Tryd.ntmps34
  go_wp2
  go_ret
  exact ⟨rfl, Below.refl _ _⟩
theorem ist_same (n : Int) (b : Addr) (w : World) :
    Calls Tryd.prog 36 #[.iface 66 (.agg #[.int .i64 n, .iface 85 (.pointer (some b))]), .iface 85 (.pointer (some b)), .bool true] w fun e w' => e = .returned (.bool true) ∧ Below w.heap.size w w' := by
  obtain ⟨i, hi, hcmp⟩ := Option.map_eq_some_iff.1 is_comp
  obtain ⟨j, hj, hjs⟩ := Option.map_eq_some_iff.1 is_size
  have h8 := @run_callFunc_extern Tryd.prog 35 _ ReflectliteType.typeOf Tryd.func35 (by kernel_rfl) (by kernel_rfl) (by kernel_rfl) (by kernel_rfl)
  have h32 := @run_callFunc_extern Tryd.prog 57 _ (ReflectliteType.method fun t => do Rtype.noPackHeld "Comparable" t; pure (.bool (← typeInfo t).comparable)) Tryd.func57 (by kernel_rfl) (by kernel_rfl) (by kernel_rfl) (by kernel_rfl)
  have tT := is_typeOf
  have cT := is_comparable
  have mR := is_metComp
  have nE := is_noIsE
  have uE := is_noUnE
  have vE := is_noUnsE
  have nW := is_noIsR
  have uW := is_hasUnR
  have mU := is_metUn
  have heq : ∀ u, _ := fun u => run_eql_iface_ptr_same (P := Tryd.prog) u b Tryd.underlying47 Tryd.underlying85 hi hcmp hj
  have hty : ∀ u, _ := fun u => run_eql_iface_types (P := Tryd.prog) 66 85 (.agg #[.int .i64 n, .iface 85 (.pointer (some b))]) (.pointer (some b)) Tryd.underlying47 (by decide) u
  go_enter Tryd.func36, Tryd.ntmps36
  go_wp2
  refine wp_loop_rounds 2 ?_
  rw [rounds_succ]
  go_wp2
  rw [rounds_succ]
  go_wp2
  go_ret
  exact ⟨rfl, (Below.refl _ _).alloc (Nat.le_refl _) _⟩
theorem ist_other (n : Int) (a b : Addr) (ca cb : Array Value) (ta tb : TypeId) (w : World) (hne : a ≠ b) (ha : w.heap[a.block]? = some (.cells ca ta (0, 0))) (hb : w.heap[b.block]? = some (.cells cb tb (0, 0))) :
    Calls Tryd.prog 36 #[.iface 66 (.agg #[.int .i64 n, .iface 85 (.pointer (some a))]), .iface 85 (.pointer (some b)), .bool true] w fun e w' => e = .returned (.bool false) ∧ Below w.heap.size w w' := by
  obtain ⟨i, hi, hcmp⟩ := Option.map_eq_some_iff.1 is_comp
  obtain ⟨j, hj, hjs⟩ := Option.map_eq_some_iff.1 is_size
  have h8 := @run_callFunc_extern Tryd.prog 35 _ ReflectliteType.typeOf Tryd.func35 (by kernel_rfl) (by kernel_rfl) (by kernel_rfl) (by kernel_rfl)
  have h32 := @run_callFunc_extern Tryd.prog 57 _ (ReflectliteType.method fun t => do Rtype.noPackHeld "Comparable" t; pure (.bool (← typeInfo t).comparable)) Tryd.func57 (by kernel_rfl) (by kernel_rfl) (by kernel_rfl) (by kernel_rfl)
  have tT := is_typeOf
  have cT := is_comparable
  have mR := is_metComp
  have nE := is_noIsE
  have uE := is_noUnE
  have vE := is_noUnsE
  have nW := is_noIsR
  have uW := is_hasUnR
  have mU := is_metUn
  have heq : ∀ o : Obj, _ := fun o => run_eql_iface_ptr_other (P := Tryd.prog) (w.alloc o) Tryd.underlying47 Tryd.underlying85 hi hcmp hj (by rw [hjs]; decide) hne ((Below.heap_alloc w o _ (lt_of_heap ha)).trans ha) ((Below.heap_alloc w o _ (lt_of_heap hb)).trans hb)
  have hty : ∀ u, _ := fun u => run_eql_iface_types (P := Tryd.prog) 66 85 (.agg #[.int .i64 n, .iface 85 (.pointer (some a))]) (.pointer (some b)) Tryd.underlying47 (by decide) u
  go_enter Tryd.func36, Tryd.ntmps36
  go_wp2
  refine wp_loop_rounds 2 ?_
  rw [rounds_succ]
  go_wp2
  rw [rounds_succ]
  go_wp2
  go_ret
  exact ⟨rfl, (Below.refl _ _).alloc (Nat.le_refl _) _⟩
set_option maxRecDepth 100000 in
theorem is_same (n : Int) (b : Addr) (w : World) :
    Calls Tryd.prog 34 #[.iface 66 (.agg #[.int .i64 n, .iface 85 (.pointer (some b))]), .iface 85 (.pointer (some b))] w fun e w' => e = .returned (.bool true) ∧ Below w.heap.size w w' := by
  obtain ⟨i, hi, hcmp⟩ := Option.map_eq_some_iff.1 is_comp
  obtain ⟨j, hj, hjs⟩ := Option.map_eq_some_iff.1 is_size
  have h8 := @run_callFunc_extern Tryd.prog 35 _ ReflectliteType.typeOf Tryd.func35 (by kernel_rfl) (by kernel_rfl) (by kernel_rfl) (by kernel_rfl)
  have h32 := @run_callFunc_extern Tryd.prog 57 _ (ReflectliteType.method fun t => do Rtype.noPackHeld "Comparable" t; pure (.bool (← typeInfo t).comparable)) Tryd.func57 (by kernel_rfl) (by kernel_rfl) (by kernel_rfl) (by kernel_rfl)
  have tT := is_typeOf
  have cT := is_comparable
  have mR := is_metComp
  have nE := is_noIsE
  have uE := is_noUnE
  have vE := is_noUnsE
  have nW := is_noIsR
  have uW := is_hasUnR
  have mU := is_metUn
  go_enter Tryd.func34, Tryd.ntmps34
  go_wp2_with fail
  refine (ist_same n b _).mono ?_
  rintro e w1 ⟨rfl, hb⟩
  go_wp2_with fail
  go_ret
  exact ⟨rfl, hb⟩
set_option maxRecDepth 100000 in
theorem is_other (n : Int) (a b : Addr) (w : World) (hne : a ≠ b) (ha : ∃ c t, w.heap[a.block]? = some (.cells c t (0, 0))) (hb : ∃ c t, w.heap[b.block]? = some (.cells c t (0, 0))) :
    Calls Tryd.prog 34 #[.iface 66 (.agg #[.int .i64 n, .iface 85 (.pointer (some a))]), .iface 85 (.pointer (some b))] w fun e w' => e = .returned (.bool false) ∧ Below w.heap.size w w' := by
  obtain ⟨ca, ta, ha⟩ := ha
  obtain ⟨cb, tb, hb⟩ := hb
  obtain ⟨i, hi, hcmp⟩ := Option.map_eq_some_iff.1 is_comp
  obtain ⟨j, hj, hjs⟩ := Option.map_eq_some_iff.1 is_size
  have h8 := @run_callFunc_extern Tryd.prog 35 _ ReflectliteType.typeOf Tryd.func35 (by kernel_rfl) (by kernel_rfl) (by kernel_rfl) (by kernel_rfl)
  have h32 := @run_callFunc_extern Tryd.prog 57 _ (ReflectliteType.method fun t => do Rtype.noPackHeld "Comparable" t; pure (.bool (← typeInfo t).comparable)) Tryd.func57 (by kernel_rfl) (by kernel_rfl) (by kernel_rfl) (by kernel_rfl)
  have tT := is_typeOf
  have cT := is_comparable
  have mR := is_metComp
  have nE := is_noIsE
  have uE := is_noUnE
  have vE := is_noUnsE
  have nW := is_noIsR
  have uW := is_hasUnR
  have mU := is_metUn
  go_enter Tryd.func34, Tryd.ntmps34
  go_wp2_with fail
  refine (ist_other n a b ca cb ta tb _ hne ha hb).mono ?_
  rintro e w1 ⟨rfl, hb⟩
  go_wp2_with fail
  go_ret
  exact ⟨rfl, hb⟩

set_option maxRecDepth 100000 in
theorem diskCode_nil (e0 e1 e2 : Addr) (w : World) (h : DS w e0 e1 e2) :
    Calls Tryd.prog 23 #[.nilIface] w fun e w' => e = .returned (.int .i64 0) ∧ Below w.heap.size w w' := by
  have HD0 := Lib.hid h
  have HB0 := Lib.hid (Below.refl w.heap.size w)
  clear h
  have v := HD0.out.v0
  go_enter Tryd.func23, Tryd.ntmps23
  go_wp2_with fail
  refine (is_nil e0 _).mono ?_
  rintro e w1 ⟨rfl, hb⟩
  have HB1 := Lib.hid (HB0.out.trans (hb.mono HB0.out.size))
  have HD1 := Lib.hid (HD0.out.below hb)
  clear hb v
  have v := HD1.out.v1
  go_wp2_with fail
  refine (is_nil e1 _).mono ?_
  rintro e w2 ⟨rfl, hb⟩
  have HB2 := Lib.hid (HB1.out.trans (hb.mono HB1.out.size))
  have HD2 := Lib.hid (HD1.out.below hb)
  clear hb v
  have v := HD2.out.v2
  go_wp2_with fail
  refine (is_nil e2 _).mono ?_
  rintro e w3 ⟨rfl, hb⟩
  have HB3 := Lib.hid (HB2.out.trans (hb.mono HB2.out.size))
  have HD3 := Lib.hid (HD2.out.below hb)
  clear hb v
  go_wp2_with fail
  go_ret
  exact ⟨rfl, HB3.out⟩
set_option maxRecDepth 100000 in
theorem diskCode_long (n : Int) (e0 e1 e2 : Addr) (w : World) (h : DS w e0 e1 e2) :
    Calls Tryd.prog 23 #[.iface 66 (.agg #[.int .i64 n, .iface 85 (.pointer (some e0))])] w fun e w' => e = .returned (.int .i64 2) ∧ Below w.heap.size w w' := by
  have HD0 := Lib.hid h
  have HB0 := Lib.hid (Below.refl w.heap.size w)
  clear h
  have v := HD0.out.v0
  go_enter Tryd.func23, Tryd.ntmps23
  go_wp2_with fail
  refine (is_same n e0 _).mono ?_
  rintro e w1 ⟨rfl, hb⟩
  have HB1 := Lib.hid (HB0.out.trans (hb.mono HB0.out.size))
  have HD1 := Lib.hid (HD0.out.below hb)
  clear hb v
  go_wp2_with fail
  go_ret
  exact ⟨rfl, HB1.out⟩
set_option maxRecDepth 100000 in
theorem diskCode_wrong (n : Int) (e0 e1 e2 : Addr) (w : World) (h : DS w e0 e1 e2) :
    Calls Tryd.prog 23 #[.iface 66 (.agg #[.int .i64 n, .iface 85 (.pointer (some e1))])] w fun e w' => e = .returned (.int .i64 1) ∧ Below w.heap.size w w' := by
  have HD0 := Lib.hid h
  have HB0 := Lib.hid (Below.refl w.heap.size w)
  clear h
  have v := HD0.out.v0
  go_enter Tryd.func23, Tryd.ntmps23
  go_wp2_with fail
  refine (is_other n e1 e0 _ (Ne.symm HD0.out.n01) HD0.out.h1 HD0.out.h0).mono ?_
  rintro e w1 ⟨rfl, hb⟩
  have HB1 := Lib.hid (HB0.out.trans (hb.mono HB0.out.size))
  have HD1 := Lib.hid (HD0.out.below hb)
  clear hb v
  have v := HD1.out.v1
  go_wp2_with fail
  refine (is_same n e1 _).mono ?_
  rintro e w2 ⟨rfl, hb⟩
  have HB2 := Lib.hid (HB1.out.trans (hb.mono HB1.out.size))
  have HD2 := Lib.hid (HD1.out.below hb)
  clear hb v
  go_wp2_with fail
  go_ret
  exact ⟨rfl, HB2.out⟩
set_option maxRecDepth 100000 in
theorem diskCode_full (n : Int) (e0 e1 e2 : Addr) (w : World) (h : DS w e0 e1 e2) :
    Calls Tryd.prog 23 #[.iface 66 (.agg #[.int .i64 n, .iface 85 (.pointer (some e2))])] w fun e w' => e = .returned (.int .i64 9) ∧ Below w.heap.size w w' := by
  have HD0 := Lib.hid h
  have HB0 := Lib.hid (Below.refl w.heap.size w)
  clear h
  have v := HD0.out.v0
  go_enter Tryd.func23, Tryd.ntmps23
  go_wp2_with fail
  refine (is_other n e2 e0 _ (Ne.symm HD0.out.n02) HD0.out.h2 HD0.out.h0).mono ?_
  rintro e w1 ⟨rfl, hb⟩
  have HB1 := Lib.hid (HB0.out.trans (hb.mono HB0.out.size))
  have HD1 := Lib.hid (HD0.out.below hb)
  clear hb v
  have v := HD1.out.v1
  go_wp2_with fail
  refine (is_other n e2 e1 _ (Ne.symm HD1.out.n12) HD1.out.h2 HD1.out.h1).mono ?_
  rintro e w2 ⟨rfl, hb⟩
  have HB2 := Lib.hid (HB1.out.trans (hb.mono HB1.out.size))
  have HD2 := Lib.hid (HD1.out.below hb)
  clear hb v
  have v := HD2.out.v2
  go_wp2_with fail
  refine (is_same n e2 _).mono ?_
  rintro e w3 ⟨rfl, hb⟩
  have HB3 := Lib.hid (HB2.out.trans (hb.mono HB2.out.size))
  have HD3 := Lib.hid (HD2.out.below hb)
  clear hb v
  go_wp2_with fail
  go_ret
  exact ⟨rfl, HB3.out⟩
end Go.Proofs.YtnoefpkhbllmiaaDoor
