/- Used by the law. -/
import Derived.WalkKit
import Derived.ProofKit
import Derived.OpenShut
import Derived.ShutString
import Derived.IntWalk
import Derived.Deep.MidRow
import Derived.Test.YtgafndgnmadcfaaGreatDoorQV00
import Derived.Test.YtgafndgnmadcfaaGreatDoorQV01
import Derived.Test.YtgafndgnmadcfaaGreatDoorQV02
import Derived.Test.YtgafndgnmadcfaaGreatDoorQV03
import Derived.Test.YtgafndgnmadcfaaGreatDoorQV04
import Derived.Test.YtgafndgnmadcfaaGreatDoorQV05
import Derived.Test.YtgafndgnmadcfaaGreatDoorQV06
import Derived.Test.YtgafndgnmadcfaaGreatDoorQV07
import Derived.Test.YtgafndgnmadcfaaGreatDoorQV08
import Derived.Test.YtgafndgnmadcfaaGreatDoorQV09
import Derived.Test.YtgafndgnmadcfaaGreatDoorQV10
import Derived.Test.YtgafndgnmadcfaaGreatDoorQV11
import Derived.Test.YtgafndgnmadcfaaGreatDoorQV12
import Derived.Test.YtgafndgnmadcfaaGreatDoorQV13
import Derived.Test.YtgafndgnmadcfaaGreatDoorQV14
import Derived.Test.YtgafndgnmadcfaaGreatDoorQV15
import Derived.Test.YtgafndgnmadcfaaGreatDoorQV16
import Derived.Test.YtgafndgnmadcfaaGreatDoorQV17
import Derived.Test.YtgafndgnmadcfaaGreatDoorQV18
import Derived.Test.YtgafndgnmadcfaaGreatDoorQV19
import Derived.Test.YtgafndgnmadcfaaGreatDoorQV20
import Derived.Test.YtgafndgnmadcfaaGreatDoorQV21
import Derived.Test.YtgafndgnmadcfaaGreatDoorQV22
import Derived.Test.YtgafndgnmadcfaaGreatDoorQV23
import Derived.Test.YtgafndgnmadcfaaGreatDoorQV24
import Derived.Test.YtgafndgnmadcfaaGreatDoorQV25
import Derived.Test.YtgafndgnmadcfaaGreatDoorQV26
import Derived.Test.YtgafndgnmadcfaaGreatDoorQV27
import Derived.Test.YtgafndgnmadcfaaGreatDoorQV28
import Derived.Test.YtgafndgnmadcfaaGreatDoorQV29
import Derived.Test.YtgafndgnmadcfaaGreatDoorQV30
import Derived.Test.YtgafndgnmadcfaaGreatDoorQV31
import Derived.Test.YtgafndgnmadcfaaGreatDoorQV32
import Derived.Test.YtgafndgnmadcfaaGreatDoorQV33
import Derived.Test.YtgafndgnmadcfaaGreatDoorQV34
import Derived.Test.YtgafndgnmadcfaaGreatDoorQV35
import Derived.Test.YtgafndgnmadcfaaGreatDoorQV36
import Derived.Test.YtgafndgnmadcfaaGreatDoorQV37
import Derived.Test.YtgafndgnmadcfaaGreatDoorQV38
/- The laws' own functions on one envelope; an argument that is one. -/
namespace Go.Proofs.YtgafndgnmadcfaaGreatDoor
open Go.ChangeShapes Go.WideShapes Go.RowKit G
set_option linter.unusedVariables false
theorem cellsEnv : Tryz.prog.cellsOf 68 = 5 := by kernel_rfl
theorem cellsI64 : Tryz.prog.cellsOf 2 = 1 := by kernel_rfl
theorem cellsStr : Tryz.prog.cellsOf 9 = 1 := by kernel_rfl
set_option maxRecDepth 100000 in
/-- An argument that is an envelope: its four numbers and its text. -/
theorem env_open {H : Type} {enc : TypeId × Value → H} {w : World} {base b0 : Nat} {spare : Nat → Bool} {held : Bool} {v : Value} {d : DataW H} {ps : List MemPlace}
    (hv : Value.okWide Tryz.prog w .any b0 68 v) (h : DataW.Trod enc Tryz.prog w base spare held 68 v d ps) :
    ∃ (g n m x : Int) (t : ByteArray), v = .agg #[.int .i64 g, .int .i64 n, .int .i64 m, .int .i64 x, .string t] ∧ (Lit.int .i64 g).wf = true ∧ (Lit.int .i64 n).wf = true ∧ (Lit.int .i64 m).wf = true ∧ (Lit.int .i64 x).wf = true ∧ t.size ≤ maxLen ∧ ps = [] ∧
      ∀ (u : World) (base' : Nat) (spare' : Nat → Bool), DataW.Trod enc Tryz.prog u base' spare' held 68 v d [] := by
  obtain ⟨⟨l⟩, rfl, hsz⟩ := okWide_struct Tryz.underlying68 hv
  have hl5 : l.length = 5 := hsz.trans cellsEnv
  obtain ⟨fuel, hf⟩ := h
  obtain ⟨xs, k, _, hx, _, hlen, hg⟩ := DataW.trod_struct Tryz.underlying68 hf
  have hlen5 : xs.length = 5 := hlen
  match l, hl5, xs, hlen5 with
  | [a0, a1, a2, a3, a4], _, [y0, y1, y2, y3, y4], _ =>
    have r0 := hg 0 _ rfl
    have r1 := hg 1 _ rfl
    have r2 := hg 2 _ rfl
    have r3 := hg 3 _ rfl
    have r4 := hg 4 _ rfl
    simp [Value.cells, cellsI64, cellsStr] at r0 r1 r2 r3 r4
    obtain ⟨g, e0, z0, w0⟩ := DataW.trod_int Tryz.underlying2 r0
    obtain ⟨n, e1, z1, w1⟩ := DataW.trod_int Tryz.underlying2 r1
    obtain ⟨m, e2, z2, w2⟩ := DataW.trod_int Tryz.underlying2 r2
    obtain ⟨x, e3, z3, w3⟩ := DataW.trod_int Tryz.underlying2 r3
    obtain ⟨t, e4, z4, w4⟩ := DataW.trod_string Tryz.underlying9 r4
    simp only [List.cons.injEq, and_true] at e0 e1 e2 e3 e4
    subst e0 e1 e2 e3 e4 z0 z1 z2 z3 z4
    simp only [Prod.mk.injEq, List.map_cons, List.map_nil, List.flatMap_cons, List.flatMap_nil, List.append_nil] at hx
    obtain ⟨rfl, rfl⟩ := hx
    refine ⟨g, n, m, x, t, rfl, w0, w1, w2, w3, w4, rfl, fun u base' spare' => ⟨2, ?_⟩⟩
    have q0 := trod_int_mk (enc := enc) (w := u) (base := base') (spare := spare') (held := held) 0 Tryz.underlying2 w0
    have q1 := trod_int_mk (enc := enc) (w := u) (base := base') (spare := spare') (held := held) 0 Tryz.underlying2 w1
    have q2 := trod_int_mk (enc := enc) (w := u) (base := base') (spare := spare') (held := held) 0 Tryz.underlying2 w2
    have q3 := trod_int_mk (enc := enc) (w := u) (base := base') (spare := spare') (held := held) 0 Tryz.underlying2 w3
    have q4 : DataW.trod enc Tryz.prog u base' spare' held (0 + 1) 9 [.string t] = some (.lit (.string t.data.toList), []) := by simp [DataW.trod, Tryz.underlying9, w4]
    have hm := trod_struct_mk (enc := enc) (w := u) (base := base') (spare := spare') (held := held) (n := 1) (xs := [(.lit (.int .i64 g), []), (.lit (.int .i64 n), []), (.lit (.int .i64 m), []), (.lit (.int .i64 x), []), (.lit (.string t.data.toList), [])]) (cs := [.int .i64 g, .int .i64 n, .int .i64 m, .int .i64 x, .string t]) Tryz.underlying68 (by rw [cellsEnv]; rfl) (by simp [cellsI64, cellsStr, q0, q1, q2, q3, q4])
    simpa [Value.cells] using hm
end Go.Proofs.YtgafndgnmadcfaaGreatDoor

/- A struct in a box of its own, loaded and stored as a whole, whatever the number of its cells. -/
namespace Go.Proofs.YtgafndgnmadcfaaGreatDoor
open Go.RowKit Go.PlainAid G MGF IRow
set_option linter.unusedVariables false
theorem list_load {P : Program} {ops : Array Oper} {Q : Exit → Act → World → Prop} {rest : List Oper} {o : Oper} {a : Act} {w : World} {h : Nat} {cs : List Value} (b : BoxC w h cs) (ty : TypeId) (x : Operand) (n : Nat) (ho : o.op = .load ty x) (hg : o.guard = none) (hx : a.eval x = .pointer (some ⟨h, 0, none⟩)) (hn : cs.length = n) (hr : rowIs P ty n = true)
    (k : wpList P ops Q rest (a.put o.dst (.agg cs.toArray)) w) : wpList P ops Q (o :: rest) a w := list_value hg (exec_load b ty x n ho hx hn hr) k
end Go.Proofs.YtgafndgnmadcfaaGreatDoor

/- Current, of the program and of the model. -/
namespace Go.Proofs.YtgafndgnmadcfaaGreatDoor
open Go.RowKit Go.PlainAid G MGF IRow
set_option linter.unusedVariables false
/-- Is an envelope of the Gen, Need and Many of a right vault? -/
def curB (z : Bool) (c0 c1 c2 eg en em ex : Int) (et : ByteArray) : Bool := z && (envB eg en em ex et && (eg == c0 && (en == c1 && em == c2)))
set_option maxRecDepth 100000 in
set_option maxHeartbeats 3200000 in
theorem implCurrent_any (ds dt : ByteArray) (c0 c1 c2 c3 : Int) (op : Bool) (ma : ByteArray) (no : Int) (on : Bool) (nd mn : Int) (a1 : Option Addr) (n1 a3 : Nat) (a2 : Option Addr) (n2 a4 : Nat) (ts : List Tm) (is : List Im) (g1 : Option Addr) (gn g2 : Nat) (gs : List Ev) (r1 : Option Addr) (rn r2 : Nat) (rs : List Ev) (eg en em ex : Int) (et : ByteArray) (w : World) (h : VR w a1 n1 a3 a2 n2 a4 ts is g1 gn g2 gs r1 rn r2 rs) (hv : VG ds dt ma n1 n2 gn rn gs rs) (hg : ET w) (ht : et.size ≤ maxLen) :
    Calls Tryz.prog 30 #[.agg #[.string ds, .string dt, .int .i64 c0, .int .i64 c1, .int .i64 c2, .int .i64 c3, .slice a1 n1 a3, .slice a2 n2 a4, .bool op, .string ma, .slice g1 gn g2, .int .i64 no, .bool on, .int .i64 nd, .int .i64 mn, .slice r1 rn r2], .agg #[.int .i64 eg, .int .i64 en, .int .i64 em, .int .i64 ex, .string et]] w fun e w' => e = .returned (.bool (curB (vaultB ds dt c0 c1 c2 c3 op ma no on nd mn ts is gs rs) c0 c1 c2 eg en em ex et)) ∧ Below w.heap.size w w' := by
  have HR := Lib.hid h
  have HV := Lib.hid hv
  clear h hv
  obtain ⟨z, hz⟩ : ∃ z, vaultB ds dt c0 c1 c2 c3 op ma no on nd mn ts is gs rs = z := ⟨_, rfl⟩
  obtain ⟨y, hy⟩ : ∃ y, envB eg en em ex et = y := ⟨_, rfl⟩
  obtain ⟨cv, hcv⟩ : ∃ cv, curB (vaultB ds dt c0 c1 c2 c3 op ma no on nd mn ts is gs rs) c0 c1 c2 eg en em ex et = cv := ⟨_, rfl⟩
  rw [hcv]
  rw [hz] at hcv
  unfold curB at hcv
  rw [hy] at hcv
  have HCV := Lib.hid hcv
  have HZ := Lib.hid hz
  have HY := Lib.hid hy
  clear hcv hz hy
  obtain ⟨W, hW⟩ : ∃ W, W = (w.alloc (.cells #[.string ds, .string dt, .int .i64 c0, .int .i64 c1, .int .i64 c2, .int .i64 c3, .slice a1 n1 a3, .slice a2 n2 a4, .bool op, .string ma, .slice g1 gn g2, .int .i64 no, .bool on, .int .i64 nd, .int .i64 mn, .slice r1 rn r2] 47)).alloc (.cells #[.int .i64 eg, .int .i64 en, .int .i64 em, .int .i64 ex, .string et] 71) := ⟨_, rfl⟩
  have HB0 := Lib.hid (show Below w.heap.size w W by rw [hW]; exact ((Below.refl _ _).alloc (Nat.le_refl _) _).alloc (by simp) _)
  have HX := Lib.hid (show BoxC W w.heap.size [.string ds, .string dt, .int .i64 c0, .int .i64 c1, .int .i64 c2, .int .i64 c3, .slice a1 n1 a3, .slice a2 n2 a4, .bool op, .string ma, .slice g1 gn g2, .int .i64 no, .bool on, .int .i64 nd, .int .i64 mn, .slice r1 rn r2] by rw [hW]; exact (BoxC.made _ _ _).alloc _)
  have HE : Hid (BoxC W (w.heap.size + 1) [.int .i64 eg, .int .i64 en, .int .i64 em, .int .i64 ex, .string et]) := Lib.hid (by rw [hW]; have := BoxC.made (w.alloc (.cells #[.string ds, .string dt, .int .i64 c0, .int .i64 c1, .int .i64 c2, .int .i64 c3, .slice a1 n1 a3, .slice a2 n2 a4, .bool op, .string ma, .slice g1 gn g2, .int .i64 no, .bool on, .int .i64 nd, .int .i64 mn, .slice r1 rn r2] 47)) #[.int .i64 eg, .int .i64 en, .int .i64 em, .int .i64 ex, .string et] 71; rw [World.size_alloc] at this; exact this)
  go_enter Tryz.func30, Tryz.ntmps30
  go_upto_region 1 with fail
  rw [← hW]
  clear hW
  obtain ⟨V, hV⟩ : ∃ V, V = ((((W.alloc (.cells #[.int .i64 0, .int .i64 0, .int .i64 0, .int .i64 0] 38)).setCell ⟨W.heap.size, 0, none⟩ (.int .i64 c0)).setCell ⟨W.heap.size, 1, none⟩ (.int .i64 c1)).setCell ⟨W.heap.size, 2, none⟩ (.int .i64 c2)).setCell ⟨W.heap.size, 3, none⟩ (.int .i64 c3) := ⟨_, rfl⟩
  obtain ⟨U, hU⟩ : ∃ U, U = W.alloc (.cells #[.int .i64 c0, .int .i64 c1, .int .i64 c2, .int .i64 c3] 38) := ⟨_, rfl⟩
  have HC := Lib.hid (show BoxC U W.heap.size [.int .i64 c0, .int .i64 c1, .int .i64 c2, .int .i64 c3] by rw [hU]; exact BoxC.made _ _ _)
  have hVB : Below W.heap.size W U := by rw [hU]; exact (Below.refl _ _).alloc (Nat.le_refl _) _
  have HX1 := Lib.hid (HX.out.below hVB)
  have HE1 := Lib.hid (HE.out.below hVB)
  have HB1 := Lib.hid (HB0.out.trans (hVB.mono HB0.out.size))
  clear hVB hV
  have x2 := HX.out.cell 2 _ rfl
  have x3 := HX.out.cell 3 _ rfl
  have x4 := HX.out.cell 4 _ rfl
  have x5 := HX.out.cell 5 _ rfl
  go_upto_region 2 with fail
  rw [← hU]
  clear hU x2 x3 x4 x5 HX HE HB0
  go_wp2_with (refine list_load HX1.out 47 _ 16 rfl rfl rfl rfl (by kernel_rfl) ?_; simp only [Act.put, List.getElem_toArray, List.getElem_cons_zero, List.getElem_cons_succ, List.setIfInBounds_toArray, List.set_cons_zero, List.set_cons_succ])
  refine (implVaultRight_any ds dt c0 c1 c2 c3 op ma no on nd mn a1 n1 a3 a2 n2 a4 ts is g1 gn g2 gs r1 rn r2 rs U (HR.out.below HB1.out) HV.out (hg.below HB1.out)).mono ?_
  rintro e v3 ⟨he, hb⟩
  rw [HZ.out] at he
  subst he
  have HE3 := Lib.hid (HE1.out.below hb)
  have HC3 := Lib.hid (HC.out.below hb)
  have HB3 := Lib.hid (HB1.out.trans (hb.mono HB1.out.size))
  clear hb HE1 HC HB1 HX1
  cases z with
  | false =>
    obtain rfl : cv = false := by rw [← HCV.out]; rfl
    go_wp2_with fail
    go_ret
    exact ⟨rfl, HB3.out⟩
  | true =>
    have y0 := HE3.out.cell 0 _ rfl
    have y1 := HE3.out.cell 1 _ rfl
    have y2 := HE3.out.cell 2 _ rfl
    have y3 := HE3.out.cell 3 _ rfl
    have y4 := HE3.out.cell 4 _ rfl
    go_wp2_with fail
    refine (implEnvRight_any eg en em ex et v3 ht).mono ?_
    rintro e v4 ⟨he, hb⟩
    rw [HY.out] at he
    subst he
    have HE4 := Lib.hid (HE3.out.below hb)
    have HC4 := Lib.hid (HC3.out.below hb)
    have HB4 := Lib.hid (HB3.out.trans (hb.mono HB3.out.size))
    clear hb HE3 HC3 HB3 y0 y1 y2 y3 y4
    cases y with
    | false =>
      obtain rfl : cv = false := by rw [← HCV.out]; rfl
      go_wp2_with fail
      go_ret
      exact ⟨rfl, HB4.out⟩
    | true =>
      have u0 := HE4.out.cell 0 _ rfl
      have u1 := HE4.out.cell 1 _ rfl
      have u2 := HE4.out.cell 2 _ rfl
      have t0 := HC4.out.cell 0 _ rfl
      have t1 := HC4.out.cell 1 _ rfl
      have t2 := HC4.out.cell 2 _ rfl
      by_cases q0 : eg = c0
      · by_cases q1 : en = c1
        · obtain rfl : cv = (em == c2) := by rw [← HCV.out]; simp [q0, q1]
          go_wp2_with fail
          go_ret
          exact ⟨rfl, HB4.out⟩
        · obtain rfl : cv = false := by rw [← HCV.out]; simp [q0, q1]
          go_wp2_with fail
          go_ret
          exact ⟨rfl, HB4.out⟩
      · obtain rfl : cv = false := by rw [← HCV.out]; simp [q0]
        go_wp2_with fail
        go_ret
        exact ⟨rfl, HB4.out⟩
set_option maxRecDepth 100000 in
set_option maxHeartbeats 3200000 in
theorem specCurrent_any (ds dt : ByteArray) (c0 c1 c2 c3 : Int) (op : Bool) (ma : ByteArray) (no : Int) (on : Bool) (nd mn : Int) (a1 : Option Addr) (n1 a3 : Nat) (a2 : Option Addr) (n2 a4 : Nat) (ts : List Tm) (is : List Im) (g1 : Option Addr) (gn g2 : Nat) (gs : List Ev) (r1 : Option Addr) (rn r2 : Nat) (rs : List Ev) (eg en em ex : Int) (et : ByteArray) (w : World) (h : VR w a1 n1 a3 a2 n2 a4 ts is g1 gn g2 gs r1 rn r2 rs) (hv : VG ds dt ma n1 n2 gn rn gs rs) (ht : et.size ≤ maxLen) :
    Calls Tryz.prog 28 #[.agg #[.string ds, .string dt, .int .i64 c0, .int .i64 c1, .int .i64 c2, .int .i64 c3, .slice a1 n1 a3, .slice a2 n2 a4, .bool op, .string ma, .slice g1 gn g2, .int .i64 no, .bool on, .int .i64 nd, .int .i64 mn, .slice r1 rn r2], .agg #[.int .i64 eg, .int .i64 en, .int .i64 em, .int .i64 ex, .string et]] w fun e w' => e = .returned (.bool (curB (vaultB ds dt c0 c1 c2 c3 op ma no on nd mn ts is gs rs) c0 c1 c2 eg en em ex et)) ∧ Below w.heap.size w w' := by
  have HR := Lib.hid h
  have HV := Lib.hid hv
  clear h hv
  obtain ⟨z, hz⟩ : ∃ z, vaultB ds dt c0 c1 c2 c3 op ma no on nd mn ts is gs rs = z := ⟨_, rfl⟩
  obtain ⟨y, hy⟩ : ∃ y, envB eg en em ex et = y := ⟨_, rfl⟩
  obtain ⟨cv, hcv⟩ : ∃ cv, curB (vaultB ds dt c0 c1 c2 c3 op ma no on nd mn ts is gs rs) c0 c1 c2 eg en em ex et = cv := ⟨_, rfl⟩
  rw [hcv]
  rw [hz] at hcv
  unfold curB at hcv
  rw [hy] at hcv
  have HCV := Lib.hid hcv
  have HZ := Lib.hid hz
  have HY := Lib.hid hy
  clear hcv hz hy
  obtain ⟨W, hW⟩ : ∃ W, W = (w.alloc (.cells #[.string ds, .string dt, .int .i64 c0, .int .i64 c1, .int .i64 c2, .int .i64 c3, .slice a1 n1 a3, .slice a2 n2 a4, .bool op, .string ma, .slice g1 gn g2, .int .i64 no, .bool on, .int .i64 nd, .int .i64 mn, .slice r1 rn r2] 47)).alloc (.cells #[.int .i64 eg, .int .i64 en, .int .i64 em, .int .i64 ex, .string et] 71) := ⟨_, rfl⟩
  have HB0 := Lib.hid (show Below w.heap.size w W by rw [hW]; exact ((Below.refl _ _).alloc (Nat.le_refl _) _).alloc (by simp) _)
  have HX := Lib.hid (show BoxC W w.heap.size [.string ds, .string dt, .int .i64 c0, .int .i64 c1, .int .i64 c2, .int .i64 c3, .slice a1 n1 a3, .slice a2 n2 a4, .bool op, .string ma, .slice g1 gn g2, .int .i64 no, .bool on, .int .i64 nd, .int .i64 mn, .slice r1 rn r2] by rw [hW]; exact (BoxC.made _ _ _).alloc _)
  have HE : Hid (BoxC W (w.heap.size + 1) [.int .i64 eg, .int .i64 en, .int .i64 em, .int .i64 ex, .string et]) := Lib.hid (by rw [hW]; have := BoxC.made (w.alloc (.cells #[.string ds, .string dt, .int .i64 c0, .int .i64 c1, .int .i64 c2, .int .i64 c3, .slice a1 n1 a3, .slice a2 n2 a4, .bool op, .string ma, .slice g1 gn g2, .int .i64 no, .bool on, .int .i64 nd, .int .i64 mn, .slice r1 rn r2] 47)) #[.int .i64 eg, .int .i64 en, .int .i64 em, .int .i64 ex, .string et] 71; rw [World.size_alloc] at this; exact this)
  go_enter Tryz.func28, Tryz.ntmps28
  go_upto_region 1 with fail
  rw [← hW]
  clear hW
  obtain ⟨V, hV⟩ : ∃ V, V = ((((W.alloc (.cells #[.int .i64 0, .int .i64 0, .int .i64 0, .int .i64 0] 38)).setCell ⟨W.heap.size, 0, none⟩ (.int .i64 c0)).setCell ⟨W.heap.size, 1, none⟩ (.int .i64 c1)).setCell ⟨W.heap.size, 2, none⟩ (.int .i64 c2)).setCell ⟨W.heap.size, 3, none⟩ (.int .i64 c3) := ⟨_, rfl⟩
  obtain ⟨U, hU⟩ : ∃ U, U = W.alloc (.cells #[.int .i64 c0, .int .i64 c1, .int .i64 c2, .int .i64 c3] 38) := ⟨_, rfl⟩
  have HC := Lib.hid (show BoxC U W.heap.size [.int .i64 c0, .int .i64 c1, .int .i64 c2, .int .i64 c3] by rw [hU]; exact BoxC.made _ _ _)
  have hVB : Below W.heap.size W U := by rw [hU]; exact (Below.refl _ _).alloc (Nat.le_refl _) _
  have HX1 := Lib.hid (HX.out.below hVB)
  have HE1 := Lib.hid (HE.out.below hVB)
  have HB1 := Lib.hid (HB0.out.trans (hVB.mono HB0.out.size))
  clear hVB hV
  have x2 := HX.out.cell 2 _ rfl
  have x3 := HX.out.cell 3 _ rfl
  have x4 := HX.out.cell 4 _ rfl
  have x5 := HX.out.cell 5 _ rfl
  go_upto_region 2 with fail
  rw [← hU]
  clear hU x2 x3 x4 x5 HX HE HB0
  go_wp2_with (refine list_load HX1.out 47 _ 16 rfl rfl rfl rfl (by kernel_rfl) ?_; simp only [Act.put, List.getElem_toArray, List.getElem_cons_zero, List.getElem_cons_succ, List.setIfInBounds_toArray, List.set_cons_zero, List.set_cons_succ])
  refine (specVaultRight_any ds dt c0 c1 c2 c3 op ma no on nd mn a1 n1 a3 a2 n2 a4 ts is g1 gn g2 gs r1 rn r2 rs U (HR.out.below HB1.out) HV.out).mono ?_
  rintro e v3 ⟨he, hb⟩
  rw [HZ.out] at he
  subst he
  have HE3 := Lib.hid (HE1.out.below hb)
  have HC3 := Lib.hid (HC.out.below hb)
  have HB3 := Lib.hid (HB1.out.trans (hb.mono HB1.out.size))
  clear hb HE1 HC HB1 HX1
  cases z with
  | false =>
    obtain rfl : cv = false := by rw [← HCV.out]; rfl
    go_wp2_with fail
    go_ret
    exact ⟨rfl, HB3.out⟩
  | true =>
    have y0 := HE3.out.cell 0 _ rfl
    have y1 := HE3.out.cell 1 _ rfl
    have y2 := HE3.out.cell 2 _ rfl
    have y3 := HE3.out.cell 3 _ rfl
    have y4 := HE3.out.cell 4 _ rfl
    go_wp2_with fail
    refine (specEnvRight_any eg en em ex et v3 ht).mono ?_
    rintro e v4 ⟨he, hb⟩
    rw [HY.out] at he
    subst he
    have HE4 := Lib.hid (HE3.out.below hb)
    have HC4 := Lib.hid (HC3.out.below hb)
    have HB4 := Lib.hid (HB3.out.trans (hb.mono HB3.out.size))
    clear hb HE3 HC3 HB3 y0 y1 y2 y3 y4
    cases y with
    | false =>
      obtain rfl : cv = false := by rw [← HCV.out]; rfl
      go_wp2_with fail
      go_ret
      exact ⟨rfl, HB4.out⟩
    | true =>
      have u0 := HE4.out.cell 0 _ rfl
      have u1 := HE4.out.cell 1 _ rfl
      have u2 := HE4.out.cell 2 _ rfl
      have t0 := HC4.out.cell 0 _ rfl
      have t1 := HC4.out.cell 1 _ rfl
      have t2 := HC4.out.cell 2 _ rfl
      by_cases q0 : eg = c0
      · by_cases q1 : en = c1
        · obtain rfl : cv = (em == c2) := by rw [← HCV.out]; simp [q0, q1]
          go_wp2_with fail
          go_ret
          exact ⟨rfl, HB4.out⟩
        · obtain rfl : cv = false := by rw [← HCV.out]; simp [q0, q1]
          go_wp2_with fail
          go_ret
          exact ⟨rfl, HB4.out⟩
      · obtain rfl : cv = false := by rw [← HCV.out]; simp [q0]
        go_wp2_with fail
        go_ret
        exact ⟨rfl, HB4.out⟩
end Go.Proofs.YtgafndgnmadcfaaGreatDoor

/- Vaults by name: a value that is a vault, whatever lies where; boxes that hold one; what is answered of it. -/
namespace Go.Proofs.YtgafndgnmadcfaaGreatDoor
open Go.RowKit Go.PlainAid G MGF IRow
set_option linter.unusedVariables false
theorem BV.alloc {v : Value} {u : World} {h : Nat} (b : BV v u h) (o : Obj) : BV v (u.alloc o) h := b.below ((Below.refl _ _).alloc (Nat.le_refl _) _)
def VP.cur (p : VP) (eg en em ex : Int) (et : ByteArray) : Bool := curB p.right p.c0 p.c1 p.c2 eg en em ex et
theorem specCurrentV {p : VP} {v : Value} {u : World} (eg en em ex : Int) (et : ByteArray) (h : VV p v u) (hg : VGd p) (ht : et.size ≤ maxLen) :
    Calls Tryz.prog 28 #[v, .agg #[.int .i64 eg, .int .i64 en, .int .i64 em, .int .i64 ex, .string et]] u fun e u' => e = .returned (.bool (p.cur eg en em ex et)) ∧ Below u.heap.size u u' := by
  obtain ⟨b1, b3, b2, b4, g1, g2, r1, r2, rfl, hr⟩ := h
  exact specCurrent_any p.ds p.dt p.c0 p.c1 p.c2 p.c3 p.op p.ma p.no p.on p.nd p.mn b1 p.n1 b3 b2 p.n2 b4 p.ts p.is g1 p.gn g2 p.gs r1 p.rn r2 p.rs eg en em ex et u hr hg.v ht
theorem implCurrentV {p : VP} {v : Value} {u : World} (eg en em ex : Int) (et : ByteArray) (h : VV p v u) (hg : VGd p) (he : ET u) (ht : et.size ≤ maxLen) :
    Calls Tryz.prog 30 #[v, .agg #[.int .i64 eg, .int .i64 en, .int .i64 em, .int .i64 ex, .string et]] u fun e u' => e = .returned (.bool (p.cur eg en em ex et)) ∧ Below u.heap.size u u' := by
  obtain ⟨b1, b3, b2, b4, g1, g2, r1, r2, rfl, hr⟩ := h
  exact implCurrent_any p.ds p.dt p.c0 p.c1 p.c2 p.c3 p.op p.ma p.no p.on p.nd p.mn b1 p.n1 b3 b2 p.n2 b4 p.ts p.is g1 p.gn g2 p.gs r1 p.rn r2 p.rs eg en em ex et u hr hg.v he ht
end Go.Proofs.YtgafndgnmadcfaaGreatDoor

