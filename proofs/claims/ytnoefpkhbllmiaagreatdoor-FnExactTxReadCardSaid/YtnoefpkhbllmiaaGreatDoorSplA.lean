/- Parts: what is right, how many draws there must be, which fault is named. -/
import Derived.Test.YtnoefpkhbllmiaaGreatDoorMParts2
import Derived.Test.YtnoefpkhbllmiaaGreatDoorFnSmall
import Derived.Test.YtnoefpkhbllmiaaGreatDoorPolyA
import Derived.Lib.ConvBytes
import Derived.Deep.RegionHeld3
import Derived.Shelf.Abstract
import Derived.Test.YtnoefpkhbllmiaaGreatDoorVan2
import Derived.Deep.Cut
namespace Go.Proofs.YtnoefpkhbllmiaaGreatDoor
open Go.RowKit Go.PlainAid G MGF IRow
set_option linter.unusedVariables false
theorem secretRight_any (t : ByteArray) (w : World) (ht : t.size ≤ maxLen) :
    Calls Tryz.prog 149 #[.string t] w fun e w' => e = .returned (.bool (secB t)) ∧ w = w' := by
  unfold maxLen at ht
  by_cases h1 : 1 ≤ t.size
  · by_cases h2 : t.size ≤ 16
    · have HF : Hid (true = secB t) := Lib.hid (by unfold secB; rw [decide_eq_true ⟨h1, h2⟩])
      go_enter Tryz.func149, Tryz.ntmps149
      go_wp2
      go_ret
      exact ⟨ret_bool (by rw [← HF.out]; simp; omega), rfl⟩
    · have HF : Hid (false = secB t) := Lib.hid (by unfold secB; rw [decide_eq_false (by omega)])
      go_enter Tryz.func149, Tryz.ntmps149
      go_wp2
      go_ret
      exact ⟨ret_bool (by rw [← HF.out]; simp; omega), rfl⟩
  · have HF : Hid (false = secB t) := Lib.hid (by unfold secB; rw [decide_eq_false (by omega)])
    have h0 : t.size = 0 := by omega
    go_enter Tryz.func149, Tryz.ntmps149
    go_wp2
    go_ret
    exact ⟨ret_bool HF.out, rfl⟩
theorem needRight_any (n : Int) (w : World) :
    Calls Tryz.prog 140 #[.int .i64 n] w fun e w' => e = .returned (.bool (needB n)) ∧ w = w' := by
  by_cases h1 : 1 ≤ n
  · by_cases h2 : n ≤ 10
    · have HF : Hid (true = needB n) := Lib.hid (by unfold needB; rw [decide_eq_true ⟨h1, h2⟩])
      go_enter Tryz.func140, Tryz.ntmps140
      go_wp2
      go_ret
      exact ⟨ret_bool HF.out, rfl⟩
    · have HF : Hid (false = needB n) := Lib.hid (by unfold needB; rw [decide_eq_false (by omega)])
      go_enter Tryz.func140, Tryz.ntmps140
      go_wp2
      go_ret
      exact ⟨ret_bool HF.out, rfl⟩
  · have HF : Hid (false = needB n) := Lib.hid (by unfold needB; rw [decide_eq_false (by omega)])
    go_enter Tryz.func140, Tryz.ntmps140
    go_wp2
    go_ret
    exact ⟨ret_bool HF.out, rfl⟩
theorem manyRight_any (n m : Int) (w : World) :
    Calls Tryz.prog 139 #[.int .i64 n, .int .i64 m] w fun e w' => e = .returned (.bool (manyB n m)) ∧ w = w' := by
  cases hn : needB n
  · have HF : Hid (false = manyB n m) := Lib.hid (by unfold manyB; rw [hn]; rfl)
    go_enter Tryz.func139, Tryz.ntmps139
    go_wp2_with fail
    refine (needRight_any n _).mono ?_
    rintro e w1 ⟨rfl, rfl⟩
    rw [hn]
    go_wp2_with fail
    go_ret
    exact ⟨ret_bool HF.out, rfl⟩
  · by_cases h1 : n ≤ m
    · by_cases h2 : m ≤ 20
      · have HF : Hid (true = manyB n m) := Lib.hid (by unfold manyB; rw [hn, decide_eq_true ⟨h1, h2⟩]; rfl)
        go_enter Tryz.func139, Tryz.ntmps139
        go_wp2_with fail
        refine (needRight_any n _).mono ?_
        rintro e w1 ⟨rfl, rfl⟩
        rw [hn]
        go_wp2_with fail
        go_ret
        exact ⟨ret_bool HF.out, rfl⟩
      · have HF : Hid (false = manyB n m) := Lib.hid (by unfold manyB; rw [hn, decide_eq_false (by omega)]; rfl)
        go_enter Tryz.func139, Tryz.ntmps139
        go_wp2_with fail
        refine (needRight_any n _).mono ?_
        rintro e w1 ⟨rfl, rfl⟩
        rw [hn]
        go_wp2_with fail
        go_ret
        exact ⟨ret_bool (by rw [← HF.out]; simp <;> omega), rfl⟩
    · have HF : Hid (false = manyB n m) := Lib.hid (by unfold manyB; rw [hn, decide_eq_false (by omega)]; rfl)
      go_enter Tryz.func139, Tryz.ntmps139
      go_wp2_with fail
      refine (needRight_any n _).mono ?_
      rintro e w1 ⟨rfl, rfl⟩
      rw [hn]
      go_wp2_with fail
      go_ret
      exact ⟨ret_bool HF.out, rfl⟩
end Go.Proofs.YtnoefpkhbllmiaaGreatDoor
/- A curve of the program's: a function value that tells, of a byte, a byte, and may turn a field's block alone; of draws. -/
namespace Go.Proofs.YtnoefpkhbllmiaaGreatDoor
open Go.RowKit Go.PlainAid G MGF IRow
set_option linter.unusedVariables false
theorem le_grownCap (w : World) (n old : Nat) (e : TypeId) : n ≤ grownCap w n old e := by
  unfold grownCap Question.cut
  simp only []
  omega
theorem below_bytes (w : World) (e : TypeId) (s : ByteArray) : Below w.heap.size w (Lib.bytesWorld w e s) :=
  ⟨rfl, rfl, rfl, by rw [Lib.bytesWorld_size]; omega, fun k hk => Lib.bytesWorld_at_old w e s k hk⟩
theorem bytes_br (f : Nat) (w : World) (e : TypeId) (s : ByteArray) (hf : f < w.heap.size) : BR f (Lib.bytesWorld w e s) (some ⟨w.heap.size, 0, none⟩) s.size (grownCap w s.size 0 e) (tb s) := by
  refine ⟨tb_length s, le_grownCap _ _ _ _, (fun h => by cases h), fun _ => ⟨w.heap.size, 0, rfl, by rw [Lib.bytesWorld_size]; omega, by omega, fun i hi => ?_⟩⟩
  rw [Nat.zero_add, Lib.bytesWorld_cell w e s i hi, tb_cf s hi]
  have h2 : i < s.data.toList.length := by simpa using hi
  rw [List.getD_eq_getElem?_getD, List.getElem?_eq_getElem h2]
  rfl
/-- A row of bytes, where its block is as it was. -/
theorem BR.same {f : Nat} {w u : World} {a : Option Addr} {n cap : Nat} {p : List B} (h : BR f w a n cap p) (hk : ∀ g o, a = some ⟨g, o, none⟩ → u.heap[g]? = w.heap[g]?) : BR f u a n cap p := by
  refine ⟨h.len, h.le, h.nil, fun hn => ?_⟩
  obtain ⟨g, o, ha, hgl, hne, hc⟩ := h.cells hn
  have hb := hk g o ha
  have hcell : ∀ i, i < n → u.cell? ⟨g, o + i, none⟩ = some (.int .u8 (bi (cf p i))) := fun i hi => (World.cell?_of_block (a := ⟨g, o + i, none⟩) hb).trans (hc i hi)
  exact ⟨g, o, ha, World.block_lt_of_cell? u _ (hcell 0 hn), hne, hcell⟩
/-- A function value that tells, of a byte, a byte, wherever the blocks of D are as they are in w and a field is in f; it turns f alone. -/
structure Cv (f : Nat) (D : Nat → Prop) (w : World) (v : Value) (fn : B → B) : Prop where
  lt : ∀ k, D k → k < w.heap.size ∧ k ≠ f
  is : ∃ gf lb, v = .func (.func gf) #[] lb ∧ (∀ args (u : World), (callFunc gf args).run Tryz.prog u = .ok (.enter gf args) u) ∧
    ∀ u, Fld u f → (∀ k, D k → u.heap[k]? = w.heap[k]?) → ∀ x : B, Calls Tryz.prog gf (#[.int .u8 (bi x)] ++ lb) u fun e u' => e = .returned (.int .u8 (bi (fn x))) ∧ FAt u f u'
theorem Cv.kept {f : Nat} {D : Nat → Prop} {w w' : World} {v : Value} {fn : B → B} (h : Cv f D w v fn) (hk : ∀ k, D k → w'.heap[k]? = w.heap[k]?) (hs : w.heap.size ≤ w'.heap.size) : Cv f D w' v fn := by
  obtain ⟨gf, lb, hv, he, hc⟩ := h.is
  exact ⟨fun k hd => ⟨Nat.lt_of_lt_of_le (h.lt k hd).1 hs, (h.lt k hd).2⟩, gf, lb, hv, he, fun u hF hu x => hc u hF (fun k hd => (hu k hd).trans (hk k hd)) x⟩
theorem Cv.row {f : Nat} {D : Nat → Prop} {w w' : World} {v : Value} {fn : B → B} (h : Cv f D w v fn) {row : Option Nat} (hg : w.grownBy w' row) (hr : ∀ g, row = some g → ¬ D g) : Cv f D w' v fn :=
  h.kept (fun k hd => hg.block k (h.lt k hd).1 (fun e => hr k e.symm hd)) hg.size
theorem Cv.grown {f : Nat} {D : Nat → Prop} {w w' : World} {v : Value} {fn : B → B} (h : Cv f D w v fn) (hg : w.grownBy w' (some f)) : Cv f D w' v fn :=
  h.row hg (fun g e hd => (h.lt g hd).2 (by simpa using e.symm))
theorem Cv.below {f : Nat} {D : Nat → Prop} {w w' : World} {v : Value} {fn : B → B} (h : Cv f D w v fn) (hb : Below w.heap.size w w') : Cv f D w' v fn := h.grown (fg_below hb)
theorem Cv.congr {f : Nat} {D : Nat → Prop} {w : World} {v : Value} {fn gn : B → B} (h : Cv f D w v fn) (he : ∀ x, fn x = gn x) : Cv f D w v gn := by
  have : fn = gn := funext he
  rwa [← this]
theorem Cv.one {f : Nat} {D : Nat → Prop} {w : World} {v : Value} {fn : B → B} (h : Cv f D w v fn) : v.oneCell' = true := by
  obtain ⟨gf, lb, rfl, _⟩ := h.is
  rfl
end Go.Proofs.YtnoefpkhbllmiaaGreatDoor
/- The curve of one byte of a secret, and those of a secret. -/
namespace Go.Proofs.YtnoefpkhbllmiaaGreatDoor
open Go.RowKit Go.PlainAid G MGF IRow
set_option linter.unusedVariables false
theorem cell_one (w : World) (v : Value) (t : TypeId) : (w.alloc (.cells #[v] t)).cell? ⟨w.heap.size, 0, none⟩ = some v := by
  have h : (w.alloc (.cells #[v] t)).heap[w.heap.size]? = some (.cells #[v] t (0, 0)) := by show (w.heap.push _)[w.heap.size]? = _; simp
  unfold World.cell?
  dsimp only
  rw [h]
  rfl
end Go.Proofs.YtnoefpkhbllmiaaGreatDoor
