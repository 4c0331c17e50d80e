/- Parts: what is right, how many draws there must be, which fault is named. -/
import Derived.Test.YtdnbkjiijpeiiaaGreatMParts2
import Derived.Test.YtdnbkjiijpeiiaaGreatFnSmall
import Derived.Test.YtdnbkjiijpeiiaaGreatPolyA
import Derived.Lib.ConvBytes
import Derived.Deep.RegionHeld3
import Derived.Shelf.Abstract
import Derived.Test.YtdnbkjiijpeiiaaGreatVan2
import Derived.Deep.Cut
namespace Go.Proofs.YtdnbkjiijpeiiaaGreat
open Go.RowKit Go.PlainAid G MGF IRow
set_option linter.unusedVariables false
theorem secretRight_any (t : ByteArray) (w : World) (ht : t.size ≤ maxLen) :
    Calls Tryz.prog 46 #[.string t] w fun e w' => e = .returned (.bool (secB t)) ∧ w = w' := by
  unfold maxLen at ht
  by_cases h1 : 1 ≤ t.size
  · by_cases h2 : t.size ≤ 16
    · have HF : Hid (true = secB t) := Lib.hid (by unfold secB; rw [decide_eq_true ⟨h1, h2⟩])
      go_enter Tryz.func46, Tryz.ntmps46
      go_wp2
      go_ret
      exact ⟨ret_bool (by rw [← HF.out]; simp; omega), rfl⟩
    · have HF : Hid (false = secB t) := Lib.hid (by unfold secB; rw [decide_eq_false (by omega)])
      go_enter Tryz.func46, Tryz.ntmps46
      go_wp2
      go_ret
      exact ⟨ret_bool (by rw [← HF.out]; simp; omega), rfl⟩
  · have HF : Hid (false = secB t) := Lib.hid (by unfold secB; rw [decide_eq_false (by omega)])
    have h0 : t.size = 0 := by omega
    go_enter Tryz.func46, Tryz.ntmps46
    go_wp2
    go_ret
    exact ⟨ret_bool HF.out, rfl⟩
theorem needRight_any (n : Int) (w : World) :
    Calls Tryz.prog 47 #[.int .i64 n] w fun e w' => e = .returned (.bool (needB n)) ∧ w = w' := by
  by_cases h1 : 1 ≤ n
  · by_cases h2 : n ≤ 10
    · have HF : Hid (true = needB n) := Lib.hid (by unfold needB; rw [decide_eq_true ⟨h1, h2⟩])
      go_enter Tryz.func47, Tryz.ntmps47
      go_wp2
      go_ret
      exact ⟨ret_bool HF.out, rfl⟩
    · have HF : Hid (false = needB n) := Lib.hid (by unfold needB; rw [decide_eq_false (by omega)])
      go_enter Tryz.func47, Tryz.ntmps47
      go_wp2
      go_ret
      exact ⟨ret_bool HF.out, rfl⟩
  · have HF : Hid (false = needB n) := Lib.hid (by unfold needB; rw [decide_eq_false (by omega)])
    go_enter Tryz.func47, Tryz.ntmps47
    go_wp2
    go_ret
    exact ⟨ret_bool HF.out, rfl⟩
theorem drawsEach_any (n : Int) (w : World) (h1 : 1 ≤ n) (h2 : n ≤ 10) :
    Calls Tryz.prog 48 #[.int .i64 n] w fun e w' => e = .returned (.int .i64 (n - 1)) ∧ w = w' := by
  go_enter Tryz.func48, Tryz.ntmps48
  go_wp2
  go_ret
  exact ⟨rfl, rfl⟩
theorem manyRight_any (n m : Int) (w : World) :
    Calls Tryz.prog 51 #[.int .i64 n, .int .i64 m] w fun e w' => e = .returned (.bool (manyB n m)) ∧ w = w' := by
  cases hn : needB n
  · have HF : Hid (false = manyB n m) := Lib.hid (by unfold manyB; rw [hn]; rfl)
    go_enter Tryz.func51, Tryz.ntmps51
    go_wp2_with fail
    refine (needRight_any n _).mono ?_
    rintro e w1 ⟨rfl, rfl⟩
    rw [hn]
    go_wp2_with fail
    go_ret
    exact ⟨ret_bool HF.out, rfl⟩
  · by_cases h1 : n ≤ m
    · by_cases h2 : m ≤ 20
      · have HF : Hid (true = manyB n m) := Lib.hid (by unfold manyB; rw [hn, decide_eq_true ⟨h1, h2⟩]; rfl)
        go_enter Tryz.func51, Tryz.ntmps51
        go_wp2_with fail
        refine (needRight_any n _).mono ?_
        rintro e w1 ⟨rfl, rfl⟩
        rw [hn]
        go_wp2_with fail
        go_ret
        exact ⟨ret_bool HF.out, rfl⟩
      · have HF : Hid (false = manyB n m) := Lib.hid (by unfold manyB; rw [hn, decide_eq_false (by omega)]; rfl)
        go_enter Tryz.func51, Tryz.ntmps51
        go_wp2_with fail
        refine (needRight_any n _).mono ?_
        rintro e w1 ⟨rfl, rfl⟩
        rw [hn]
        go_wp2_with fail
        go_ret
        exact ⟨ret_bool (by rw [← HF.out]; simp <;> omega), rfl⟩
    · have HF : Hid (false = manyB n m) := Lib.hid (by unfold manyB; rw [hn, decide_eq_false (by omega)]; rfl)
      go_enter Tryz.func51, Tryz.ntmps51
      go_wp2_with fail
      refine (needRight_any n _).mono ?_
      rintro e w1 ⟨rfl, rfl⟩
      rw [hn]
      go_wp2_with fail
      go_ret
      exact ⟨ret_bool HF.out, rfl⟩
theorem implNeeds_any (t : ByteArray) (n : Int) (w : World) (ht : t.size ≤ maxLen) :
    Calls Tryz.prog 15 #[.string t, .int .i64 n] w fun e w' => e = .returned (.int .i64 (needsI t n)) ∧ w = w' := by
  have HT := Lib.hid ht
  cases hs : secB t
  · have HF : Hid (-1 = needsI t n) := Lib.hid (needsI_no (by rw [hs]; simp)).symm
    unfold maxLen at ht
    go_enter Tryz.func15, Tryz.ntmps15
    go_wp2_with fail
    refine (secretRight_any t _ HT.out).mono ?_
    rintro e w1 ⟨rfl, rfl⟩
    rw [hs]
    go_wp2_with fail
    go_ret
    exact ⟨ret_int HF.out, rfl⟩
  · cases hn : needB n
    · have HF : Hid (-1 = needsI t n) := Lib.hid (needsI_no (by rw [hn]; simp)).symm
      unfold maxLen at ht
      go_enter Tryz.func15, Tryz.ntmps15
      go_wp2_with fail
      refine (secretRight_any t _ HT.out).mono ?_
      rintro e w1 ⟨rfl, rfl⟩
      rw [hs]
      go_wp2_with fail
      refine (needRight_any n _).mono ?_
      rintro e w1 ⟨rfl, rfl⟩
      rw [hn]
      go_wp2_with fail
      go_ret
      exact ⟨ret_int HF.out, rfl⟩
    · have HF := Lib.hid (needsI_yes hs hn).symm
      obtain ⟨hb0, hb1⟩ := needs_bound hs hn
      obtain ⟨hn1, hn2⟩ := needB_iff.1 hn
      obtain ⟨hs1, hs2⟩ := secB_iff.1 hs
      clear ht
      go_enter Tryz.func15, Tryz.ntmps15
      go_wp2_with fail
      refine (secretRight_any t _ HT.out).mono ?_
      rintro e w1 ⟨rfl, rfl⟩
      rw [hs]
      go_wp2_with fail
      refine (needRight_any n _).mono ?_
      rintro e w1 ⟨rfl, rfl⟩
      rw [hn]
      go_wp2_with fail
      refine (drawsEach_any n _ hn1 hn2).mono ?_
      rintro e w1 ⟨rfl, rfl⟩
      go_wp2_with fail
      go_ret
      exact ⟨ret_int HF.out, rfl⟩
set_option maxHeartbeats 1600000 in
theorem splitFault_any (s d : ByteArray) (n m : Int) (w : World) (hs : s.size ≤ maxLen) (hd : d.size ≤ maxLen) :
    Calls Tryz.prog 20 #[.string s, .int .i64 n, .int .i64 m, .string d] w fun e w' => e = .returned (.int .i64 (splitC s n m d)) ∧ w = w' := by
  have HS := Lib.hid hs
  have HD := Lib.hid hd
  unfold maxLen at hs hd
  by_cases h1 : 8000 < s.size
  · have HF : Hid (2 = splitC s n m d) := Lib.hid (splitC_size (Or.inl h1)).symm
    go_enter Tryz.func20, Tryz.ntmps20
    go_wp2_with fail
    refine (tooLong_any s _ HS.out).mono ?_
    rintro e w1 ⟨rfl, rfl⟩
    rw [decide_eq_true h1]
    go_wp2_with fail
    go_ret
    exact ⟨ret_int HF.out, rfl⟩
  · by_cases h2 : 8000 < d.size
    · have HF : Hid (2 = splitC s n m d) := Lib.hid (splitC_size (Or.inr h2)).symm
      go_enter Tryz.func20, Tryz.ntmps20
      go_wp2_with fail
      refine (tooLong_any s _ HS.out).mono ?_
      rintro e w1 ⟨rfl, rfl⟩
      rw [decide_eq_false h1]
      go_wp2_with fail
      refine (tooLong_any d _ HD.out).mono ?_
      rintro e w1 ⟨rfl, rfl⟩
      rw [decide_eq_true h2]
      go_wp2_with fail
      go_ret
      exact ⟨ret_int HF.out, rfl⟩
    · have h3 : ¬ (8000 < s.size ∨ 8000 < d.size) := by omega
      cases hsb : secB s
      · have HF : Hid (1 = splitC s n m d) := Lib.hid (splitC_form h3 (by rw [hsb]; simp)).symm
        clear h3
        go_enter Tryz.func20, Tryz.ntmps20
        go_wp2_with fail
        refine (tooLong_any s _ HS.out).mono ?_
        rintro e w1 ⟨rfl, rfl⟩
        rw [decide_eq_false h1]
        go_wp2_with fail
        refine (tooLong_any d _ HD.out).mono ?_
        rintro e w1 ⟨rfl, rfl⟩
        rw [decide_eq_false h2]
        go_wp2_with fail
        refine (secretRight_any s _ HS.out).mono ?_
        rintro e w1 ⟨rfl, rfl⟩
        rw [hsb]
        go_wp2_with fail
        go_ret
        exact ⟨ret_int HF.out, rfl⟩
      · cases hmb : manyB n m
        · have HF : Hid (1 = splitC s n m d) := Lib.hid (splitC_form h3 (by rw [hmb]; simp)).symm
          clear h3
          go_enter Tryz.func20, Tryz.ntmps20
          go_wp2_with fail
          refine (tooLong_any s _ HS.out).mono ?_
          rintro e w1 ⟨rfl, rfl⟩
          rw [decide_eq_false h1]
          go_wp2_with fail
          refine (tooLong_any d _ HD.out).mono ?_
          rintro e w1 ⟨rfl, rfl⟩
          rw [decide_eq_false h2]
          go_wp2_with fail
          refine (secretRight_any s _ HS.out).mono ?_
          rintro e w1 ⟨rfl, rfl⟩
          rw [hsb]
          go_wp2_with fail
          refine (manyRight_any n m _).mono ?_
          rintro e w1 ⟨rfl, rfl⟩
          rw [hmb]
          go_wp2_with fail
          go_ret
          exact ⟨ret_int HF.out, rfl⟩
        · by_cases h4 : (d.size : Int) < needsI s n
          all_goals
            obtain ⟨c, HF⟩ : ∃ c, Hid (c = splitC s n m d) := ⟨_, Lib.hid rfl⟩
            have HC := HF.out
            first | rw [splitC_draws h3 ⟨hsb, hmb⟩ h4] at HC | rw [splitC_ok h3 ⟨hsb, hmb⟩ h4] at HC
            subst HC
            clear h3
            go_enter Tryz.func20, Tryz.ntmps20
            go_wp2_with fail
            refine (tooLong_any s _ HS.out).mono ?_
            rintro e w1 ⟨rfl, rfl⟩
            rw [decide_eq_false h1]
            go_wp2_with fail
            refine (tooLong_any d _ HD.out).mono ?_
            rintro e w1 ⟨rfl, rfl⟩
            rw [decide_eq_false h2]
            go_wp2_with fail
            refine (secretRight_any s _ HS.out).mono ?_
            rintro e w1 ⟨rfl, rfl⟩
            rw [hsb]
            go_wp2_with fail
            refine (manyRight_any n m _).mono ?_
            rintro e w1 ⟨rfl, rfl⟩
            rw [hmb]
            go_wp2_with fail
            refine (implNeeds_any s n _ HS.out).mono ?_
            rintro e w1 ⟨rfl, rfl⟩
            generalize needsI s n = nd at *
            go_wp2_with fail
            go_ret
            exact ⟨ret_int HF.out, rfl⟩
end Go.Proofs.YtdnbkjiijpeiiaaGreat
/- A curve of the program's: a function value that tells, of a byte, a byte, and may turn a field's block alone; of draws. -/
namespace Go.Proofs.YtdnbkjiijpeiiaaGreat
open Go.RowKit Go.PlainAid G MGF IRow
set_option linter.unusedVariables false
theorem le_grownCap (w : World) (n old : Nat) (e : TypeId) : n ≤ grownCap w n old e := by
  unfold grownCap Question.cut
  simp only []
  omega
theorem below_bytes (w : World) (e : TypeId) (s : ByteArray) : Below w.heap.size w (Lib.bytesWorld w e s) :=
  ⟨rfl, rfl, rfl, by rw [Lib.bytesWorld_size]; omega, fun k hk => Lib.bytesWorld_at_old w e s k hk⟩
theorem bytes_br (f : Nat) (w : World) (e : TypeId) (s : ByteArray) (hf : f < w.heap.size) : BR f (Lib.bytesWorld w e s) (some ⟨w.heap.size, 0, none⟩) s.size (grownCap w s.size 0 e) (tb s) := by
  refine ⟨tb_length s, le_grownCap _ _ _ _, (fun h => by cases h), fun _ => ⟨w.heap.size, 0, rfl, by rw [Lib.bytesWorld_size]; omega, by omega, fun i hi => ?_⟩⟩
  rw [Nat.zero_add, Lib.bytesWorld_cell w e s i hi, tb_cf s hi]
  have h2 : i < s.data.toList.length := by simpa using hi
  rw [List.getD_eq_getElem?_getD, List.getElem?_eq_getElem h2]
  rfl
/-- A row of bytes, where its block is as it was. -/
theorem BR.same {f : Nat} {w u : World} {a : Option Addr} {n cap : Nat} {p : List B} (h : BR f w a n cap p) (hk : ∀ g o, a = some ⟨g, o, none⟩ → u.heap[g]? = w.heap[g]?) : BR f u a n cap p := by
  refine ⟨h.len, h.le, h.nil, fun hn => ?_⟩
  obtain ⟨g, o, ha, hgl, hne, hc⟩ := h.cells hn
  have hb := hk g o ha
  have hcell : ∀ i, i < n → u.cell? ⟨g, o + i, none⟩ = some (.int .u8 (bi (cf p i))) := fun i hi => (World.cell?_of_block (a := ⟨g, o + i, none⟩) hb).trans (hc i hi)
  exact ⟨g, o, ha, World.block_lt_of_cell? u _ (hcell 0 hn), hne, hcell⟩
/-- A function value that tells, of a byte, a byte, wherever the blocks of D are as they are in w and a field is in f; it turns f alone. -/
structure Cv (f : Nat) (D : Nat → Prop) (w : World) (v : Value) (fn : B → B) : Prop where
  lt : ∀ k, D k → k < w.heap.size ∧ k ≠ f
  is : ∃ gf lb, v = .func (.func gf) #[] lb ∧ (∀ args (u : World), (callFunc gf args).run Tryz.prog u = .ok (.enter gf args) u) ∧
    ∀ u, Fld u f → (∀ k, D k → u.heap[k]? = w.heap[k]?) → ∀ x : B, Calls Tryz.prog gf (#[.int .u8 (bi x)] ++ lb) u fun e u' => e = .returned (.int .u8 (bi (fn x))) ∧ FAt u f u'
theorem Cv.kept {f : Nat} {D : Nat → Prop} {w w' : World} {v : Value} {fn : B → B} (h : Cv f D w v fn) (hk : ∀ k, D k → w'.heap[k]? = w.heap[k]?) (hs : w.heap.size ≤ w'.heap.size) : Cv f D w' v fn := by
  obtain ⟨gf, lb, hv, he, hc⟩ := h.is
  exact ⟨fun k hd => ⟨Nat.lt_of_lt_of_le (h.lt k hd).1 hs, (h.lt k hd).2⟩, gf, lb, hv, he, fun u hF hu x => hc u hF (fun k hd => (hu k hd).trans (hk k hd)) x⟩
theorem Cv.row {f : Nat} {D : Nat → Prop} {w w' : World} {v : Value} {fn : B → B} (h : Cv f D w v fn) {row : Option Nat} (hg : w.grownBy w' row) (hr : ∀ g, row = some g → ¬ D g) : Cv f D w' v fn :=
  h.kept (fun k hd => hg.block k (h.lt k hd).1 (fun e => hr k e.symm hd)) hg.size
theorem Cv.grown {f : Nat} {D : Nat → Prop} {w w' : World} {v : Value} {fn : B → B} (h : Cv f D w v fn) (hg : w.grownBy w' (some f)) : Cv f D w' v fn :=
  h.row hg (fun g e hd => (h.lt g hd).2 (by simpa using e.symm))
theorem Cv.below {f : Nat} {D : Nat → Prop} {w w' : World} {v : Value} {fn : B → B} (h : Cv f D w v fn) (hb : Below w.heap.size w w') : Cv f D w' v fn := h.grown (fg_below hb)
theorem Cv.congr {f : Nat} {D : Nat → Prop} {w : World} {v : Value} {fn gn : B → B} (h : Cv f D w v fn) (he : ∀ x, fn x = gn x) : Cv f D w v gn := by
  have : fn = gn := funext he
  rwa [← this]
theorem Cv.one {f : Nat} {D : Nat → Prop} {w : World} {v : Value} {fn : B → B} (h : Cv f D w v fn) : v.oneCell' = true := by
  obtain ⟨gf, lb, rfl, _⟩ := h.is
  rfl
set_option maxRecDepth 100000 in
set_option maxHeartbeats 1600000 in
theorem curveIn_any (f b0 b1 b2 : Nat) (a : Option Addr) (k cap : Nat) (p : List B) (x0 x : B) (w : World) (hF : Fld w f) (c0 : w.cell? ⟨b0, 0, none⟩ = some (.pointer (some ⟨f, 0, none⟩))) (c1 : w.cell? ⟨b1, 0, none⟩ = some (.int .u8 (bi x0)))
    (c2 : w.cell? ⟨b2, 0, none⟩ = some (.pointer (some ⟨f, 0, none⟩))) (c3 : w.cell? ⟨b2, 1, none⟩ = some (.slice a k cap)) (n0 : b0 ≠ f) (n1 : b1 ≠ f) (n2 : b2 ≠ f) (hR : BR f w a k cap p) (hk : k ≤ 1048576) :
    Calls Tryz.prog 72 #[.int .u8 (bi x), .pointer (some ⟨b0, 0, none⟩), .pointer (some ⟨b1, 0, none⟩), .pointer (some ⟨b2, 0, none⟩)] w fun e w' => e = .returned (.int .u8 (bi (x0 ^^^ mul x (ev p x)))) ∧ FAt w f w' := by
  have HC : Hid (∀ u, FAt w f u → (FAt w f u ∧ u.cell? ⟨b0, 0, none⟩ = some (.pointer (some ⟨f, 0, none⟩)) ∧ u.cell? ⟨b1, 0, none⟩ = some (.int .u8 (bi x0)) ∧ u.cell? ⟨b2, 0, none⟩ = some (.pointer (some ⟨f, 0, none⟩)) ∧ u.cell? ⟨b2, 1, none⟩ = some (.slice a k cap))) :=
    Lib.hid (fun u hu => ⟨hu, hu.cell c0 n0, hu.cell c1 n1, hu.cell c2 n2, hu.cell c3 n2⟩)
  have HR : Hid (∀ u, FAt w f u → BR f u a k cap p) := Lib.hid (fun u hu => hu.br hR)
  have hFn := (FAt.start hF).drew
  clear c0 c1 c2 c3 hR hF n0 n1 n2
  obtain ⟨y, hy⟩ : ∃ y, y = ev p x := ⟨_, rfl⟩
  rw [← hy]
  have HY := Lib.hid hy
  clear hy
  have hat : ∀ u, FAt w f u → Calls Tryz.prog 62 #[.agg #[.pointer (some ⟨f, 0, none⟩), .slice a k cap], .int .u8 (bi x)] u fun e w' => e = .returned (.int .u8 (bi y)) ∧ FAt u f w' := fun u hu => by
    have := at_any f a k cap p x u (HR.out _ hu) hu.fld hk
    unfold pvl at this
    rwa [← HY.out] at this
  have HAT := Lib.hid hat
  clear hat
  go_enter Tryz.func72, Tryz.ntmps72
  go_wp2_with fail
  go_region_held3 (fun u => FAt w f u ∧ u.cell? ⟨b0, 0, none⟩ = some (.pointer (some ⟨f, 0, none⟩)) ∧ u.cell? ⟨b1, 0, none⟩ = some (.int .u8 (bi x0)) ∧ u.cell? ⟨b2, 0, none⟩ = some (.pointer (some ⟨f, 0, none⟩)) ∧ u.cell? ⟨b2, 1, none⟩ = some (.slice a k cap)) (exact HC.out _ hFn)
    (first
      | (go_at_call 62; refine Calls.mono (HAT.out _ hFn) ?_; rintro e w1 ⟨rfl, hf1⟩; have hFn := hFn.step hf1)
      | (go_at_call 61; refine Calls.mono (times_any f x y _ hFn.fld) ?_; rintro e w1 ⟨rfl, hf1, hg1⟩; have hFn := hFn.step (FAt.of hf1 hg1))
      | (go_at_call 31; refine Calls.mono (ringPlus_any f x0 (mul x y) _) ?_; rintro e w1 ⟨rfl, rfl⟩))
  all_goals
    go_wp2_with fail
    go_ret
    exact ⟨rfl, hFn⟩
end Go.Proofs.YtdnbkjiijpeiiaaGreat
/- The curve of one byte of a secret, and those of a secret. -/
namespace Go.Proofs.YtdnbkjiijpeiiaaGreat
open Go.RowKit Go.PlainAid G MGF IRow
set_option linter.unusedVariables false
theorem cell_one (w : World) (v : Value) (t : TypeId) : (w.alloc (.cells #[v] t)).cell? ⟨w.heap.size, 0, none⟩ = some v := by
  have h : (w.alloc (.cells #[v] t)).heap[w.heap.size]? = some (.cells #[v] t (0, 0)) := by show (w.heap.push _)[w.heap.size]? = _; simp
  unfold World.cell?
  dsimp only
  rw [h]
  rfl
set_option maxRecDepth 100000 in
set_option maxHeartbeats 1600000 in
theorem curveOf_any (f : Nat) (x0 : B) (d : ByteArray) (w : World) (hf : f < w.heap.size) (hd : d.size ≤ 1048576) :
    Calls Tryz.prog 53 #[.pointer (some ⟨f, 0, none⟩), .int .u8 (bi x0), .string d] w fun e w' => ∃ v, e = .returned v ∧ Cv f (fun k => w.heap.size ≤ k ∧ k < w'.heap.size) w' v (fun x => x0 ^^^ mul x (ev (tb d) x)) ∧ Below w.heap.size w w' := by
  obtain ⟨wA, hwA⟩ : ∃ u, u = w.alloc (Obj.cells #[Value.pointer (some ⟨f, 0, none⟩)] 67) := ⟨_, rfl⟩
  have sA : wA.heap.size = w.heap.size + 1 := by rw [hwA]; exact World.size_alloc _ _
  have bA : Below w.heap.size w wA := by rw [hwA]; exact (Below.refl _ _).alloc (Nat.le_refl _) _
  have cA : wA.cell? ⟨w.heap.size, 0, none⟩ = some (.pointer (some ⟨f, 0, none⟩)) := by rw [hwA]; exact cell_one _ _ _
  obtain ⟨wB, hwB⟩ : ∃ u, u = wA.alloc (Obj.cells #[Value.int .u8 (bi x0)] 5) := ⟨_, rfl⟩
  have sB : wB.heap.size = w.heap.size + 2 := by rw [hwB, World.size_alloc, sA]
  have bB : Below wA.heap.size wA wB := by rw [hwB]; exact (Below.refl _ _).alloc (Nat.le_refl _) _
  have c0 : wB.cell? ⟨w.heap.size, 0, none⟩ = some (.pointer (some ⟨f, 0, none⟩)) := (bB.cell (p := ⟨w.heap.size, 0, none⟩) (by show w.heap.size < _; omega)).trans cA
  have c1 : wB.cell? ⟨w.heap.size + 1, 0, none⟩ = some (.int .u8 (bi x0)) := by rw [hwB, ← sA]; exact cell_one _ _ _
  have bW : Below w.heap.size w wB := bA.trans (bB.mono bA.size)
  have hcv : ∀ u : World, (convert 9 22 (.string d)).run Tryz.prog u = .ok (.slice (some ⟨u.heap.size, 0, none⟩) d.size (grownCap u d.size 0 5)) (Lib.bytesWorld u 5 d) := fun u => Lib.run_convert_string_bytes u _ _ _ d Tryz.underlying9 Tryz.underlying22 Tryz.underlying5
  have hcvB := hcv wB
  have hbr := bytes_br f wB 5 d (by omega)
  have hbb := below_bytes wB 5 d
  obtain ⟨wC, hwC⟩ : ∃ u, u = Lib.bytesWorld wB 5 d := ⟨_, rfl⟩
  rw [← hwC] at hcvB hbr hbb
  obtain ⟨cap, hcap⟩ : ∃ c, c = grownCap wB d.size 0 5 := ⟨_, rfl⟩
  rw [← hcap] at hcvB hbr
  have HBR := Lib.hid hbr
  have HBB := Lib.hid hbb
  have HBW := Lib.hid bW
  have SB := Lib.hid sB
  have C0 := Lib.hid c0
  have C1 := Lib.hid c1
  have HWA := Lib.hid hwA
  have HWB := Lib.hid hwB
  have hpos : w.heap.size < wB.heap.size := by omega
  clear hcv hbr hbb hwC hcap sA bA cA bB bW c1 sB hwA hwB
  go_enter Tryz.func53, Tryz.ntmps53
  go_upto_region 1 with fail
  rw [← HWA.out, ← HWB.out]
  clear c0
  have c0 := C0.out
  go_wp2_with fail
  refine (trimmed_any f _ _ _ (tb d) _ HBR.out hd).mono ?_
  rintro e w3 ⟨k, rfl, h3, hb3⟩
  unfold pvl
  have hk : k ≤ 1048576 := by
    have h4 := h3.len
    have h5 := length_trim (tb d)
    rw [tb_length] at h5
    omega
  have hbC := HBB.out.trans (hb3.mono HBB.out.size)
  have hsz3 : w.heap.size + 2 ≤ w3.heap.size := by have := hbC.size; have := SB.out; omega
  have hpp := PBox.made w3 (some ⟨f, 0, none⟩) (some ⟨wB.heap.size, 0, none⟩) k cap 76
  have hbF : Below w3.heap.size w3 (w3.alloc (Obj.cells #[Value.pointer (some ⟨f, 0, none⟩), Value.slice (some ⟨wB.heap.size, 0, none⟩) k cap] 76)) := (Below.refl _ _).alloc (Nat.le_refl _) _
  have HPP := Lib.hid hpp
  have HBF := Lib.hid hbF
  have HBC := Lib.hid hbC
  have H3 := Lib.hid h3
  clear hpp hbF hb3 hbC h3 c0
  go_wp2_with fail
  go_ret
  have hbT := HBC.out.trans (HBF.out.mono HBC.out.size)
  have hsF : w3.heap.size < (w3.alloc (Obj.cells #[Value.pointer (some ⟨f, 0, none⟩), Value.slice (some ⟨wB.heap.size, 0, none⟩) k cap] 76)).heap.size := by rw [World.size_alloc]; omega
  have hsB := SB.out
  refine ⟨_, rfl, ⟨fun k hk => ⟨hk.2, by omega⟩, _, _, rfl, enters_of Tryz.func72 (by kernel_rfl) rfl, fun u hF hu x => ?_⟩, HBW.out.trans (hbT.mono HBW.out.size)⟩
  obtain ⟨p0, p1, _, _⟩ := HPP.out.cells
  have hcl : ∀ (b o : Nat) (v : Value), w.heap.size ≤ b → World.cell? (w3.alloc (Obj.cells #[Value.pointer (some ⟨f, 0, none⟩), Value.slice (some ⟨wB.heap.size, 0, none⟩) k cap] 76)) ⟨b, o, none⟩ = some v → u.cell? ⟨b, o, none⟩ = some v := fun b o v hb hc =>
    (World.cell?_of_block (a := ⟨b, o, none⟩) (hu b ⟨hb, World.block_lt_of_cell? _ _ hc⟩)).trans hc
  have hR := (H3.out.below HBF.out).same (u := u) (fun g o e => by
    simp only [Option.some.injEq, Addr.mk.injEq, and_true] at e
    exact hu g ⟨by omega, by have := hbT.size; omega⟩)
  have q0 := hcl _ _ _ (Nat.le_refl _) ((hbT.cell (p := ⟨w.heap.size, 0, none⟩) (by show w.heap.size < _; omega)).trans C0.out)
  have q1 := hcl _ _ _ (by omega) ((hbT.cell (p := ⟨w.heap.size + 1, 0, none⟩) (by show w.heap.size + 1 < _; omega)).trans C1.out)
  have q2 := hcl _ _ _ (by omega) p0
  have q3 := hcl _ _ _ (by omega) p1
  have hcon := curveIn_any f w.heap.size (w.heap.size + 1) w3.heap.size _ k cap (trim (tb d)) x0 x u hF q0 q1 q2 q3 (by omega) (by omega) (by omega) hR hk
  rw [ev_trim] at hcon
  exact hcon
end Go.Proofs.YtdnbkjiijpeiiaaGreat
