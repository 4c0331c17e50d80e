/- Rows of bytes that hold a polynomial, beside a field's block; what one call of the field's leaves. -/
import Derived.Test.YtdnbkjiijpeiiaaGreatFldA
import Derived.Test.YtdnbkjiijpeiiaaGreatMParts2
import Derived.Laws.CopyOwn
import Derived.Test.YtdnbkjiijpeiiaaGreatSPolyA
import Derived.Deep.RegionHeld3
import Derived.Test.YtdnbkjiijpeiiaaGreatFnFieldA
import Derived.StillTailTactics
namespace Go.Proofs.YtdnbkjiijpeiiaaGreat
open Go.RowKit Go.PlainAid G IRow MGF
set_option linter.unusedVariables false
/-- A row of bytes that can be read, in another block than f. -/
structure BR (f : Nat) (w : World) (a : Option Addr) (n cap : Nat) (p : List B) : Prop where
  len : p.length = n
  le : n ≤ cap
  nil : a = none → cap = 0
  cells : 0 < n → ∃ g o, a = some ⟨g, o, none⟩ ∧ g < w.heap.size ∧ g ≠ f ∧ ∀ i, i < n → w.cell? ⟨g, o + i, none⟩ = some (.int .u8 (bi (cf p i)))
theorem BR.grown {f : Nat} {w w' : World} {a : Option Addr} {n cap : Nat} {p : List B} (h : BR f w a n cap p) (hg : w.grownBy w' (some f)) : BR f w' a n cap p := by
  refine ⟨h.len, h.le, h.nil, fun hn => ?_⟩
  obtain ⟨g, o, ha, hgl, hne, hc⟩ := h.cells hn
  exact ⟨g, o, ha, Nat.lt_of_lt_of_le hgl hg.size, hne, fun i hi => hg.cell (hc i hi) (fun e => hne (by simpa using e))⟩
theorem fg_below {w w' : World} {row : Option Nat} (hb : Below w.heap.size w w') : w.grownBy w' row := ⟨hb.os, hb.tape, hb.output, hb.size, fun k hk _ => hb.block k hk⟩
theorem BR.below {f : Nat} {w w' : World} {a : Option Addr} {n cap : Nat} {p : List B} (h : BR f w a n cap p) (hb : Below w.heap.size w w') : BR f w' a n cap p := h.grown (fg_below hb)
theorem BR.take {f : Nat} {w : World} {a : Option Addr} {n cap k : Nat} {p : List B} (h : BR f w a n cap p) (hk : k ≤ n) : BR f w a k cap (p.take k) := by
  have hl := h.len
  refine ⟨by rw [List.length_take]; omega, by have := h.le; omega, h.nil, fun hn => ?_⟩
  obtain ⟨g, o, ha, hg, hne, hc⟩ := h.cells (by omega)
  refine ⟨g, o, ha, hg, hne, fun i hi => ?_⟩
  rw [hc i (by omega)]
  simp [cf, List.getD, hi]
/-- A row of the call's own, made behind f. -/
theorem BR.own {f : Nat} {w : World} {base n cap : Nat} {a : Option Addr} {e : TypeId} {p : List B} (h : w.ownsRow base e 1 (.slice a n cap) n ((pv p).map (Value.int .u8))) (hf : f < base) : BR f w a n cap p := by
  have hl : p.length = n := by have := h.1; simpa [pv] using this
  have hle : n ≤ cap ∧ (a = .none → cap = 0) := by
    rcases h.2 with ⟨hv, h0⟩ | ⟨g, c, cur, hv, _, _, hnc, _⟩
    · simp only [Value.slice.injEq] at hv
      obtain ⟨rfl, rfl, rfl⟩ := hv
      exact ⟨Nat.le_refl _, fun _ => rfl⟩
    · simp only [Value.slice.injEq] at hv
      obtain ⟨rfl, _, rfl⟩ := hv
      exact ⟨hnc, fun h => by cases h⟩
  refine ⟨hl, hle.1, hle.2, fun hn => ?_⟩
  obtain ⟨g, cap', hv, hb, hg⟩ := h.form hn
  simp only [Value.slice.injEq] at hv
  obtain ⟨rfl, _, rfl⟩ := hv
  refine ⟨g, 0, rfl, hg, by omega, fun i hi => ?_⟩
  rw [Nat.zero_add, h.cellAt i (by simp []; omega)]
  simp [pv, cf, List.getD, List.getElem?_eq_getElem (show i < p.length by omega)]
theorem own_fg {f : Nat} {w w' : World} {base : Nat} {e : TypeId} {size : Nat} {v : Value} {n : Nat} {xs : List Value} (h : w.ownsRow base e size v n xs) (hg : w.grownBy w' (some f)) (hf : f < base) : w'.ownsRow base e size v n xs := by
  refine h.kept hg ?_
  cases hv : v.ownBlock with
  | none => exact .inl rfl
  | some g => exact .inr (fun h2 => by have := (h.lt g hv).1; simp only [Option.some.injEq] at h2; omega)
/-- A store into a block that is newer than all of the first world. -/
theorem fg_set {w wr : World} {row : Option Nat} (h : w.grownBy wr row) {g : Nat} (hg : w.heap.size ≤ g) (k : Nat) (v : Value) : w.grownBy (wr.setCell ⟨g, k, none⟩ v) row :=
  ⟨h.os, h.tape, h.output, by have := h.size; simpa using this, fun i hi hne => (Below.heap_setCell wr ⟨g, k, none⟩ v i (by show i ≠ g; omega)).trans (h.block i hi hne)⟩
theorem fg_alloc {w wr : World} {row : Option Nat} (h : w.grownBy wr row) (o : Obj) : w.grownBy (wr.alloc o) row := grown_trans h (World.grownBy_alloc wr o row)
theorem Fld.set {w : World} {f : Nat} (h : Fld w f) {g : Nat} (hne : f ≠ g) (k : Nat) (v : Value) : Fld (w.setCell ⟨g, k, none⟩ v) f := h.grown (grown_set w g k v) (fun e => hne (by simpa using e))
theorem Fld.alloc {w : World} {f : Nat} (h : Fld w f) (o : Obj) : Fld (w.alloc o) f := h.grown (World.grownBy_alloc w o none) (by simp)
theorem Fld.drew {w : World} {f : Nat} (h : Fld w f) : Fld w.drew f := h
/-- A row of the call's own of bytes: what stands in it, and what may be stored. -/
theorem own_cell8 {w : World} {base g n cap : Nat} {e : TypeId} {zs : List Int} (h : w.ownsRow base e 1 (.slice (some ⟨g, 0, none⟩) n cap) n (zs.map (Value.int .u8))) {k : Nat} (hk : k < n) : w.cell? ⟨g, k, none⟩ = some (.int .u8 (zs.getD k 0)) := by
  have hl : zs.length = n := by have := h.1; simpa using this
  rw [h.cellAt k (by simp; omega)]
  simp [List.getD, List.getElem?_eq_getElem (show k < zs.length by omega)]
theorem own_stored8 {w : World} {base g n cap : Nat} {e : TypeId} {zs : List Int} (h : w.ownsRow base e 1 (.slice (some ⟨g, 0, none⟩) n cap) n (zs.map (Value.int .u8))) (k : Nat) (z : Int) :
    (w.setCell ⟨g, k, none⟩ (.int .u8 z)).ownsRow base e 1 (.slice (some ⟨g, 0, none⟩) n cap) n ((zs.set k z).map (Value.int .u8)) := by
  have := (h.stored k (.int .u8 z)).1
  rwa [map_set] at this
theorem madeZero8 (n : Nat) : (madeCells (Value.int .u8 0).cells (n * 1)).toList = (fl (fun _ => 0) n).map (Value.int .u8) := by
  rw [← fl_zero]
  apply List.ext_getElem
  · simp [size_madeCells]
  · intro i h1 h2
    simp [madeCells, Value.cells, Nat.mod_one]
theorem bi_xor8 (x y : B) : bits .xor .u8 (bi x) (bi y) = bi (x ^^^ y) := by
  unfold bi
  rw [BitVec.toNat_xor]
  have h2 : x.toNat ^^^ y.toNat < 2 ^ 8 := Nat.xor_lt_two_pow x.isLt y.isLt
  have ha' : x.toNat % 2 ^ IntKind.u8.bits = x.toNat := Nat.mod_eq_of_lt x.isLt
  have hb' : y.toNat % 2 ^ IntKind.u8.bits = y.toNat := Nat.mod_eq_of_lt y.isLt
  simp only [bits, BitVec.ofInt_natCast, BitVec.toNat_xor, BitVec.toNat_ofNat, ha', hb']
  rw [IntKind.wrap_u8]
  omega
/-- A made row and its block. -/
theorem own_heap {w : World} {base L g : Nat} {e : TypeId} {xs : List Value} (h : w.ownsRow base e 1 (.slice (some ⟨g, 0, none⟩) L L) L xs) : base ≤ g ∧ w.heap[g]? = some (.cells xs.toArray e (0, 0)) := by
  rcases h.2 with ⟨h', _⟩ | ⟨g', cap', cur, h', hb, hg, _, _, hs, ht⟩
  · simp at h'
  · simp only [Value.slice.injEq, Option.some.injEq, Addr.mk.injEq, and_true] at h'
    obtain ⟨rfl, _, rfl⟩ := h'
    refine ⟨hb, ?_⟩
    rw [List.take_of_length_le (by rw [Array.length_toList, hs]; exact Nat.le_refl _)] at ht
    rw [← ht]
    exact hg
theorem own_of_heap {w : World} {base L g : Nat} {e : TypeId} {xs : List Value} (hb : base ≤ g) (hg : w.heap[g]? = some (.cells xs.toArray e (0, 0))) (hl : xs.length = L) (hm : L ≤ maxLen) : w.ownsRow base e 1 (.slice (some ⟨g, 0, none⟩) L L) L xs :=
  ⟨by omega, .inr ⟨g, L, xs.toArray, rfl, hb, hg, Nat.le_refl _, hm, by simp [hl], by rw [Nat.mul_one]; exact List.take_of_length_le (by simp [hl])⟩⟩
theorem splice_pv {p : List B} {L : Nat} (f : Int → Value) (h : p.length ≤ L) : splice ((fl (fun _ => 0) L).map f) 0 ((pv p).map f) = (fl (fun t => bi (cf p t)) L).map f := by
  apply List.ext_getElem
  · simp [splice, pv, fl_length]; omega
  · intro i h1 h2
    by_cases hi : i < p.length
    · simp [splice, pv, fl, hi, cf]
    · simp [splice, pv, fl, List.getElem_append, hi, cf]
      rfl
theorem below_of_none {w w' : World} (h : w.grownBy w' none) : Below w.heap.size w w' := ⟨h.os, h.tape, h.output, h.size, fun k hk => h.block k hk (by simp)⟩
/-- A polynomial of the program's: its field, and its row. -/
def pvl (f : Nat) (v : Value) : Value := .agg #[.pointer (some ⟨f, 0, none⟩), v]
/-- What copy wants of a row. -/
theorem BR.src {f : Nat} {w : World} {a : Option Addr} {n cap : Nat} {p : List B} (h : BR f w a n cap p) (h0 : 0 < ((pv p).map (Value.int .u8)).length) : ∃ ad, a = some ad ∧ ∀ j v, ((pv p).map (Value.int .u8))[j]? = some v → w.cell? (ad.add j) = some v := by
  have hl := h.len
  have hp : 0 < p.length := by simpa [pv] using h0
  obtain ⟨g, o, ha, hg, hf, hc⟩ := h.cells (by omega)
  refine ⟨_, ha, fun j v hj => ?_⟩
  have hjl : j < p.length := by
    by_cases hj2 : j < p.length
    · exact hj2
    · rw [List.getElem?_eq_none (by simp [pv]; omega)] at hj
      cases hj
  have e1 : (⟨g, o, none⟩ : Addr).add j = ⟨g, o + j, none⟩ := by unfold Addr.add; split <;> simp_all
  rw [e1, hc j (by omega), ← hj]
  simp [pv, cf, List.getD, List.getElem?_eq_getElem hjl]
/-- A store into another block leaves a row. -/
theorem BR.set {f : Nat} {w : World} {a : Option Addr} {n cap : Nat} {p : List B} (h : BR f w a n cap p) {b : Nat} (hne : ∀ g o, a = some ⟨g, o, none⟩ → g ≠ b) (k : Nat) (v : Value) : BR f (w.setCell ⟨b, k, none⟩ v) a n cap p := by
  refine ⟨h.len, h.le, h.nil, fun hn => ?_⟩
  obtain ⟨g, o, ha, hgl, hf, hc⟩ := h.cells hn
  refine ⟨g, o, ha, by simpa using hgl, hf, fun i hi => ?_⟩
  have hh := hc i hi
  rw [← hh]
  exact World.cell?_of_block (w := w) (Below.heap_setCell w ⟨b, k, none⟩ v g (hne g o ha))
/-- A struct of two cells is stored into its block. -/
theorem box_put {w : World} {b : Nat} {x y u v : Value} (h0 : w.cell? ⟨b, 0, none⟩ = some u) (h1 : w.cell? ⟨b, 1, none⟩ = some v) :
    ((w.setCell ⟨b, 0, none⟩ x).setCell ⟨b, 1, none⟩ y).cell? ⟨b, 0, none⟩ = some x ∧ ((w.setCell ⟨b, 0, none⟩ x).setCell ⟨b, 1, none⟩ y).cell? ⟨b, 1, none⟩ = some y :=
  ⟨(World.cell?_setCell_other _ ⟨b, 1, none⟩ ⟨b, 0, none⟩ _ (by simp)).trans (World.cell?_setCell_same _ _ _ h0), World.cell?_setCell_same _ _ _ ((World.cell?_setCell_other _ ⟨b, 0, none⟩ ⟨b, 1, none⟩ _ (by simp)).trans h1)⟩
/-- Nothing of W has turned but the field's block f; and a field is there. -/
def FAt (W : World) (f : Nat) (u : World) : Prop := Fld u f ∧ W.grownBy u (some f)
theorem FAt.start {W : World} {f : Nat} (h : Fld W f) : FAt W f W := ⟨h, World.grownBy.refl _ _⟩
theorem FAt.fld {W u : World} {f : Nat} (h : FAt W f u) : Fld u f := h.1
theorem FAt.grown {W u : World} {f : Nat} (h : FAt W f u) : W.grownBy u (some f) := h.2
theorem FAt.step {W u v : World} {f : Nat} (h : FAt W f u) (k : FAt u f v) : FAt W f v := ⟨k.1, grown_trans h.2 k.2⟩
theorem FAt.drew {W u : World} {f : Nat} (h : FAt W f u) : FAt W f u.drew := ⟨h.1, grown_drew h.2⟩
theorem FAt.alloc {W u : World} {f : Nat} (h : FAt W f u) (o : Obj) : FAt W f (u.alloc o) := ⟨h.1.alloc o, fg_alloc h.2 o⟩
theorem FAt.below {W u v : World} {f : Nat} (h : FAt W f u) (hb : Below u.heap.size u v) : FAt W f v := ⟨h.1.below hb, grown_trans h.2 (fg_below hb)⟩
theorem FAt.set {W u : World} {f : Nat} (h : FAt W f u) {g : Nat} (hg : W.heap.size ≤ g) (hf : f < W.heap.size) (k : Nat) (v : Value) : FAt W f (u.setCell ⟨g, k, none⟩ v) := ⟨h.1.set (by omega) k v, fg_set h.2 hg k v⟩
theorem FAt.br {W u : World} {f : Nat} {a : Option Addr} {n cap : Nat} {p : List B} (h : FAt W f u) (k : BR f W a n cap p) : BR f u a n cap p := k.grown h.2
theorem FAt.cell {W u : World} {f : Nat} (h : FAt W f u) {a : Addr} {v : Value} (hc : W.cell? a = some v) (hne : a.block ≠ f) : u.cell? a = some v := h.2.cell hc (fun e => hne (by simpa using e))
theorem FAt.own {W u : World} {f : Nat} (h : FAt W f u) {base : Nat} {e : TypeId} {size : Nat} {v : Value} {n : Nat} {xs : List Value} (k : W.ownsRow base e size v n xs) (hf : f < base) : u.ownsRow base e size v n xs := own_fg k h.2 hf
theorem FAt.of {W u : World} {f : Nat} (h1 : Fld u f) (h2 : W.grownBy u (some f)) : FAt W f u := ⟨h1, h2⟩
end Go.Proofs.YtdnbkjiijpeiiaaGreat
/- The program's polynomials: trimmed, a list of bytes as one, a list of its own. -/
namespace Go.Proofs.YtdnbkjiijpeiiaaGreat
open Go.RowKit Go.PlainAid G IRow MGF
set_option linter.unusedVariables false
set_option maxRecDepth 100000 in
theorem trimmed_any (f : Nat) (a : Option Addr) (n cap : Nat) (p : List B) (w : World) (h : BR f w a n cap p) (hn : n ≤ 1048576) :
    Calls Tryz.prog 55 #[.pointer (some ⟨f, 0, none⟩), .slice a n cap] w fun e w' => ∃ k, e = .returned (pvl f (.slice a k cap)) ∧ BR f w' a k cap (trim p) ∧ Below w.heap.size w w' := by
  have hl := h.len
  have hb0 : Below w.heap.size w (w.alloc (Obj.cells #[Value.pointer none, Value.slice none 0 0] 76)) := (Below.refl _ _).alloc (Nat.le_refl _) _
  have H0 := Lib.hid h
  replace h := h.below hb0
  clear hb0
  unfold pvl
  go_enter Tryz.func55, Tryz.ntmps55
  go_wp2_with fail
  go_loop [6] (fun i => ∃ j : Nat, j ≤ n ∧ i = .int .i64 j ∧ ∀ t, j ≤ t → cf p t = 0) (fun i => (intOf i).toNat)
  case atStart => exact ⟨n, Nat.le_refl _, rfl, fun t ht => cf_past (by omega)⟩
  case round =>
    obtain ⟨j, hj, rfl, hby⟩ := hrel
    have HBY := Lib.hid hby
    clear hby
    by_cases h0 : j = 0
    · subst h0
      have ht := trim_take (p := p) (j := 0) (Nat.zero_le _) HBY.out (Or.inl rfl)
      have hr := H0.out.take (Nat.zero_le n)
      rw [← ht] at hr
      have HR := Lib.hid hr
      have hnil := h.nil
      clear ht hr
      cases a with
      | none =>
        obtain rfl := hnil rfl
        obtain rfl : n = 0 := by have := h.le; omega
        clear h hnil
        go_wp2_with fail
        exact bodyPost_ret (v := .agg #[.pointer (some ⟨f, 0, none⟩), .slice none 0 0]) (by simp [results, Tryz.results55, go_sem]) rfl ⟨_, rfl, HR.out.below ((Below.refl _ _).alloc (Nat.le_refl _) _), (Below.refl _ _).alloc (Nat.le_refl _) _⟩
      | some ad =>
        clear h hnil
        go_wp2_with fail
        exact bodyPost_ret (v := .agg #[.pointer (some ⟨f, 0, none⟩), .slice (some ad) 0 cap]) (by simp [results, Tryz.results55, go_sem]) rfl ⟨_, rfl, HR.out.below ((Below.refl _ _).alloc (Nat.le_refl _) _), (Below.refl _ _).alloc (Nat.le_refl _) _⟩
    · obtain ⟨g, o, rfl, hg, hne, hc⟩ := h.cells (by omega)
      have hck := hc (j - 1) (by omega)
      have hbz := bi_zero_iff (cf p (j - 1))
      have hsub : (j : Int) - 1 = ((j - 1 : Nat) : Int) := by omega
      have hw : IntKind.i64.wrap ((j : Int) - 1) = ((j - 1 : Nat) : Int) := by rw [IntWalk.i64_in _ (by omega)]; omega
      by_cases hx : cf p (j - 1) = 0
      · have hxb : (bi (cf p (j - 1)) == 0) = true := by rw [hbz]; exact decide_eq_true hx
        have HN : Hid (∀ t, j - 1 ≤ t → cf p t = 0) := Lib.hid (fun t ht => by
          by_cases htj : t = j - 1
          · rw [htj]; exact hx
          · exact HBY.out t (by omega))
        generalize bi (cf p (j - 1)) = z at *
        clear hc h hbz hx
        go_wp2_with fail
        go_round
        case rel => exact ⟨j - 1, by omega, rfl, HN.out⟩
        case measure => simp [intOf]; omega
      · have hxb : (bi (cf p (j - 1)) == 0) = false := by rw [hbz]; exact decide_eq_false hx
        have ht := trim_take (p := p) (j := j) (by omega) HBY.out (Or.inr hx)
        have hr := H0.out.take hj
        rw [← ht] at hr
        have HR := Lib.hid hr
        generalize bi (cf p (j - 1)) = z at *
        have hle := h.le
        clear hc h hbz hx ht hr
        go_wp2_with fail
        exact bodyPost_ret (v := .agg #[.pointer (some ⟨f, 0, none⟩), .slice _ j cap]) (by simp [results, Tryz.results55, go_sem]) rfl ⟨_, rfl, HR.out.below ((Below.refl _ _).alloc (Nat.le_refl _) _), (Below.refl _ _).alloc (Nat.le_refl _) _⟩
end Go.Proofs.YtdnbkjiijpeiiaaGreat
/- The program's polynomials: a list of bytes as one; what one is at a place. -/
namespace Go.Proofs.YtdnbkjiijpeiiaaGreat
open Go.RowKit Go.PlainAid G IRow MGF
set_option linter.unusedVariables false
theorem mTimes (f : Nat) (w : World) : (Go.method 256 67 (.pointer (some ⟨f, 0, none⟩)) "loop.example/g00839/impl.times").run Tryz.prog w = .ok (61, .pointer (some ⟨f, 0, none⟩)) w := by kernel_rfl
theorem mPlus (f : Nat) (w : World) : (Go.method 256 67 (.pointer (some ⟨f, 0, none⟩)) "loop.example/g00839/impl.plus").run Tryz.prog w = .ok (31, .pointer (some ⟨f, 0, none⟩)) w := by kernel_rfl
theorem ringPlus_any (f : Nat) (x y : B) (w : World) :
    Calls Tryz.prog 31 #[.pointer (some ⟨f, 0, none⟩), .int .u8 (bi x), .int .u8 (bi y)] w fun e w' => e = .returned (.int .u8 (bi (x ^^^ y))) ∧ w = w' := by
  have hx := bi_xor8 x y
  generalize bi (x ^^^ y) = z at *
  go_enter Tryz.func31, Tryz.ntmps31
  go_wp2_with fail
  go_ret
  exact ⟨rfl, rfl⟩
set_option maxRecDepth 100000 in
set_option maxHeartbeats 1600000 in
theorem at_any (f : Nat) (a : Option Addr) (n cap : Nat) (p : List B) (x : B) (w : World) (h : BR f w a n cap p) (hF : Fld w f) (hn : n ≤ 1048576) :
    Calls Tryz.prog 62 #[pvl f (.slice a n cap), .int .u8 (bi x)] w fun e w' => e = .returned (.int .u8 (bi (ev p x))) ∧ FAt w f w' := by
  have hl : p.length = n := h.len
  have hlt := hF.lt
  have hne : ∀ u, FAt (w.alloc (Obj.cells #[Value.pointer (some ⟨f, 0, none⟩), Value.slice a n cap] 76)) f u → u.cell? ⟨w.heap.size, 0, none⟩ = some (.pointer (some ⟨f, 0, none⟩)) ∧ u.cell? ⟨w.heap.size, 1, none⟩ = some (.slice a n cap) := by
    intro u hu
    have h0 := World.cell?_alloc_new w #[Value.pointer (some ⟨f, 0, none⟩), Value.slice a n cap] 76
    exact ⟨hu.cell (h0 0) (by show w.heap.size ≠ f; omega), hu.cell (h0 1) (by show w.heap.size ≠ f; omega)⟩
  have HW : Hid (FAt w f (w.alloc (Obj.cells #[Value.pointer (some ⟨f, 0, none⟩), Value.slice a n cap] 76))) := Lib.hid ((FAt.start hF).alloc _)
  have HC := Lib.hid hne
  clear hne hF
  have hw : IntKind.i64.wrap ((n : Int) - 1) = (n : Int) - 1 := by rw [IntWalk.i64_in _ (by omega)]
  unfold pvl
  go_enter Tryz.func62, Tryz.ntmps62
  go_wp2_with fail
  go_loopw [5, 6] (fun y i wr => ∃ j : Nat, j ≤ n ∧ i = .int .i64 ((j : Int) - 1) ∧ y = .int .u8 (bi (ev (p.drop j) x)) ∧ FAt (w.alloc (Obj.cells #[Value.pointer (some ⟨f, 0, none⟩), Value.slice a n cap] 76)) f wr) (fun _ i _ => (intOf i + 1).toNat)
  case atStart => exact ⟨n, Nat.le_refl _, rfl, by rw [List.drop_of_length_le (by omega)]; rfl, FAt.start HW.out.fld⟩
  case round =>
    obtain ⟨j, hj, rfl, rfl, hB⟩ := hrel
    by_cases h0 : j = 0
    · subst h0
      have HB := Lib.hid hB
      clear h hB
      go_wp2_with fail
      go_ret
      exact ⟨ret_int (by rw [List.drop_zero]), HW.out.step HB.out⟩
    · obtain ⟨i, rfl⟩ := Nat.exists_eq_succ_of_ne_zero h0
      have hbr := HW.out.br h
      obtain ⟨g, o, rfl, hg, hne, hc⟩ := hbr.cells (by omega)
      have HCK : Hid (∀ u, FAt (w.alloc (Obj.cells #[Value.pointer (some ⟨f, 0, none⟩), Value.slice (some ⟨g, o, none⟩) n cap] 76)) f u → u.cell? ⟨g, o + i, none⟩ = some (.int .u8 (bi (cf p i)))) := Lib.hid (fun u hu => hu.cell (hc i (by omega)) hne)
      have hE := ev_drop (p := p) (j := i) (by omega) x
      have HE := Lib.hid hE
      have hii : ((i + 1 : Nat) : Int) - 1 = (i : Int) := by omega
      rw [hii]
      have hin : i < n := by omega
      generalize hWB : w.alloc (Obj.cells #[Value.pointer (some ⟨f, 0, none⟩), Value.slice (some ⟨g, o, none⟩) n cap] 76) = wb at *
      have hFn := hB.drew
      clear hii hw hl hWB hbr hc hE hB h hg hne
      have hmT := mTimes f
      have hmP := mPlus f
      obtain ⟨y, hy⟩ : ∃ y, y = ev (p.drop (i + 1)) x := ⟨_, rfl⟩
      rw [← hy]
      have HY := Lib.hid hy
      clear hy
      go_wp2_with fail
      go_region_held3 (fun u => FAt wb f u ∧ u.cell? ⟨w.heap.size, 0, none⟩ = some (.pointer (some ⟨f, 0, none⟩)) ∧ u.cell? ⟨w.heap.size, 1, none⟩ = some (.slice (some ⟨g, o, none⟩) n cap) ∧ u.cell? ⟨g, o + i, none⟩ = some (.int .u8 (bi (cf p i)))) (exact ⟨hFn, (HC.out _ hFn).1, (HC.out _ hFn).2, HCK.out _ hFn⟩)
        (first
          | (go_at_call 61; refine Calls.mono (times_any f y x _ hFn.fld) ?_; rintro e w1 ⟨rfl, hf1, hg1⟩; have hFn := hFn.step (FAt.of hf1 hg1))
          | (go_at_call 31; refine Calls.mono (ringPlus_any f (mul y x) (cf p i) _) ?_; rintro e w1 ⟨rfl, rfl⟩))
      go_wp2_with fail
      go_roundw
      case rel => exact ⟨i, by omega, rfl, by rw [HE.out, HY.out], hFn⟩
      case measure => simp [intOf] <;> omega
end Go.Proofs.YtdnbkjiijpeiiaaGreat
/- The program's polynomials: a list of bytes as one, and one as a list of its own. -/
namespace Go.Proofs.YtdnbkjiijpeiiaaGreat
open Go.RowKit Go.PlainAid G IRow MGF
set_option linter.unusedVariables false
set_option maxRecDepth 100000 in
set_option maxHeartbeats 1600000 in
theorem bytePolyOf_any (f : Nat) (a : Option Addr) (n cap : Nat) (p : List B) (w : World) (h : IR w a n cap (pv p)) (hf : f < w.heap.size) (hn : n ≤ 1048576) :
    Calls Tryz.prog 76 #[.pointer (some ⟨f, 0, none⟩), .slice a n cap] w fun e w' => ∃ a' k c', e = .returned (pvl f (.slice a' k c')) ∧ BR f w' a' k c' (trim p) ∧ Below w.heap.size w w' := by
  have hl : p.length = n := by have := h.len; rwa [pv_length] at this
  obtain ⟨i0, hi, hz0, hz1, hz2⟩ := info_parts infoU8
  have hb0 : Below w.heap.size w (w.alloc (Obj.cells #[Value.pointer none, Value.slice none 0 0] 76)) := (Below.refl _ _).alloc (Nat.le_refl _) _
  have hs0 : (w.alloc (Obj.cells #[Value.pointer none, Value.slice none 0 0] 76)).heap.size = w.heap.size + 1 := by simp
  have hx0 := World.cell?_alloc_new w #[Value.pointer none, Value.slice none 0 0] 76
  have hfz0 : (w.alloc (Obj.cells #[Value.pointer none, Value.slice none 0 0] 76)).frozen? ⟨w.heap.size, 0, none⟩ = false := by simp
  have hfz1 : (w.alloc (Obj.cells #[Value.pointer none, Value.slice none 0 0] 76)).frozen? ⟨w.heap.size, 1, none⟩ = false := by simp
  have hc0 := hx0 0
  have hc1 := hx0 1
  have HB0 := Lib.hid hb0
  have H0 := Lib.hid (h.below hb0)
  clear hx0 h hb0
  go_enter Tryz.func76, Tryz.ntmps76
  go_wp2_with (at_make; refine wpList_make_full _ rfl (.tmp 9) (.tmp 9) 22 rfl (w.heap.size + 1) 5 i0 (.int .u8 0) 1 Tryz.underlying22 hi hz0 hz1 .i64 .i64 _ _ n rfl rfl rfl rfl (by rw [hz2]; omega) (by unfold maxLen; omega) (by rw [hs0]; exact Nat.le_refl _) ?_; intro w4 hown4 hg4; rw [madeZero8, hs0] at hown4)
  generalize w.alloc (Obj.cells #[Value.pointer none, Value.slice none 0 0] 76) = wa at *
  obtain ⟨rb, hrb⟩ : ∃ r, r = w.heap.size + 1 := ⟨_, rfl⟩
  have HRB : Hid (w.heap.size < rb) := Lib.hid (by omega)
  simp only [← hrb] at *
  have HG4 := Lib.hid hg4
  have HS0 := Lib.hid hs0
  clear hg4 hs0 hrb
  go_loopw [13] (fun i wr => ∃ k : Nat, k ≤ n ∧ i = .int .i64 k ∧ wr.ownsRow rb 5 1 (.slice (some ⟨rb, 0, none⟩) n n) n ((fl (fun t => if t < k then bi (cf p t) else 0) n).map (Value.int .u8)) ∧ wa.grownBy wr none) (fun i _ => n - (intOf i).toNat)
  case atStart => exact ⟨0, Nat.zero_le _, rfl, by simpa using hown4, HG4.out⟩
  case round =>
    obtain ⟨k, hk, rfl, hown, hG⟩ := hrel
    by_cases hlt : k < n
    · obtain ⟨g, o, rfl, hg, hc⟩ := H0.out.cells (by omega)
      have hck := hG.cell (hc k hlt) (by simp)
      rw [pv_getD] at hck
      have hoc := own_cell8 hown hlt
      have hof := hown.frozenAt k
      have hmod := b_mod (cf p k)
      have hs := own_stored8 hown k (bi (cf p k))
      rw [fl_set, fl_congr (g := fun t => if t < k + 1 then bi (cf p t) else 0) (fun i _ => by
        by_cases h1 : i = k
        · subst h1; simp
        · rw [if_neg h1]
          by_cases h2 : i < k
          · rw [if_pos h2, if_pos (by omega)]
          · rw [if_neg h2, if_neg (by omega)])] at hs
      have HS := Lib.hid hs
      have HG := Lib.hid (fg_set hG (g := rb) (by have := HS0.out; omega) k (.int .u8 (bi (cf p k))))
      generalize bi (cf p k) = z at *
      clear hown hG hs hc hown4
      go_wp2_with fail
      go_roundw
      case rel => exact ⟨k + 1, by omega, by go_num, HS.out, HG.out⟩
      case measure => simp [intOf]; omega
    · obtain rfl : k = n := by omega
      have e : fl (fun t => if t < k then bi (cf p t) else 0) k = pv p := by
        rw [pv_fl, hl]
        exact fl_congr (fun t ht => by rw [if_pos ht])
      rw [e] at hown
      have HR := Lib.hid (BR.own hown (f := f) (by have := HRB.out; omega))
      have HG := Lib.hid hG
      have HC0 := Lib.hid (hG.cell hc0 (by simp))
      have HC1 := Lib.hid (hG.cell hc1 (by simp))
      have HZ0 := Lib.hid ((World.frozen?_of_block (w := wa) (a := ⟨w.heap.size, 0, none⟩) (hG.block w.heap.size (by have := HS0.out; have := HRB.out; omega) (by simp))).trans hfz0)
      have HZ1 := Lib.hid ((World.frozen?_of_block (w := wa) (a := ⟨w.heap.size, 1, none⟩) (hG.block w.heap.size (by have := HS0.out; have := HRB.out; omega) (by simp))).trans hfz1)
      have hsz : w.heap.size < wr.heap.size := by have := hG.size; have := HS0.out; have := HRB.out; omega
      clear hown hown4 hc0 hc1 hfz0 hfz1 hG e
      go_wp2_with fail
      refine (trimmed_any f (some ⟨rb, 0, none⟩) k k p _ HR.out (by omega)).mono ?_
      rintro e w6 ⟨k6, rfl, h6, hb6⟩
      unfold pvl
      have hc0 := (hb6.cell (p := ⟨w.heap.size, 0, none⟩) hsz).trans HC0.out
      have hc1 := (hb6.cell (p := ⟨w.heap.size, 1, none⟩) hsz).trans HC1.out
      have hz0' := (hb6.frozen (p := ⟨w.heap.size, 0, none⟩) hsz).trans HZ0.out
      have hz1' := (hb6.frozen (p := ⟨w.heap.size, 1, none⟩) hsz).trans HZ1.out
      have H6 := Lib.hid h6
      have HB6 := Lib.hid hb6
      clear h6 hb6
      go_wp2_with fail
      obtain ⟨hr0, hr1⟩ := box_put (w := w6) (b := w.heap.size) (x := .pointer (some ⟨f, 0, none⟩)) (y := .slice (some ⟨rb, 0, none⟩) k6 k) hc0 hc1
      have hbe : Below w.heap.size w ((w6.setCell ⟨w.heap.size, 0, none⟩ (.pointer (some ⟨f, 0, none⟩))).setCell ⟨w.heap.size, 1, none⟩ (.slice (some ⟨rb, 0, none⟩) k6 k)) :=
        (((HB0.out.grown HG.out (by have := HS0.out; have := HRB.out; omega) (fun k e => by cases e)).trans (HB6.out.mono (Nat.le_of_lt hsz))).setCell (p := ⟨w.heap.size, 0, none⟩) (Nat.le_refl _) _).setCell (p := ⟨w.heap.size, 1, none⟩) (Nat.le_refl _) _
      have hbr := (H6.out.set (b := w.heap.size) (fun g o e => by cases e; have := HRB.out; omega) 0 (.pointer (some ⟨f, 0, none⟩))).set (b := w.heap.size) (fun g o e => by cases e; have := HRB.out; omega) 1 (.slice (some ⟨rb, 0, none⟩) k6 k)
      exact bodyPost_ret (v := .agg #[.pointer (some ⟨f, 0, none⟩), .slice (some ⟨rb, 0, none⟩) k6 k]) (by simp [results, Tryz.results76, go_sem, hr0, hr1]) rfl ⟨_, _, _, rfl, hbr, hbe⟩
end Go.Proofs.YtdnbkjiijpeiiaaGreat
/- The program's polynomials: sums. -/
namespace Go.Proofs.YtdnbkjiijpeiiaaGreat
open Go.RowKit Go.PlainAid G IRow MGF
set_option linter.unusedVariables false
set_option maxRecDepth 100000 in
/-- Three blocks of two cells: what stands in them. -/
theorem three_boxes (w : World) (x0 x1 y0 y1 z0 z1 : Value) (t u v : TypeId) {wa : World} (h : wa = ((w.alloc (.cells #[x0, x1] t)).alloc (.cells #[y0, y1] u)).alloc (.cells #[z0, z1] v)) :
    wa.heap.size = w.heap.size + 3 ∧ (wa.cell? ⟨w.heap.size, 0, none⟩ = some x0 ∧ wa.cell? ⟨w.heap.size, 1, none⟩ = some x1) ∧ (wa.cell? ⟨w.heap.size + 1, 0, none⟩ = some y0 ∧ wa.cell? ⟨w.heap.size + 1, 1, none⟩ = some y1) ∧ (wa.cell? ⟨w.heap.size + 2, 0, none⟩ = some z0 ∧ wa.cell? ⟨w.heap.size + 2, 1, none⟩ = some z1) ∧ wa.frozen? ⟨w.heap.size + 2, 0, none⟩ = false ∧ wa.frozen? ⟨w.heap.size + 2, 1, none⟩ = false ∧ Below w.heap.size w wa := by
  subst h
  have s1 : (w.alloc (.cells #[x0, x1] t)).heap.size = w.heap.size + 1 := World.size_alloc _ _
  have s2 : ((w.alloc (.cells #[x0, x1] t)).alloc (.cells #[y0, y1] u)).heap.size = w.heap.size + 2 := by rw [World.size_alloc, s1]
  have a0 := World.cell?_alloc_new w #[x0, x1] t
  have a1 := World.cell?_alloc_new (w.alloc (.cells #[x0, x1] t)) #[y0, y1] u
  have a2 := World.cell?_alloc_new ((w.alloc (.cells #[x0, x1] t)).alloc (.cells #[y0, y1] u)) #[z0, z1] v
  have f2 := World.frozen?_alloc_new ((w.alloc (.cells #[x0, x1] t)).alloc (.cells #[y0, y1] u)) #[z0, z1] v
  rw [s1] at a1
  rw [s2] at a2 f2
  refine ⟨by rw [World.size_alloc, s2], ⟨?_, ?_⟩, ⟨?_, ?_⟩, ⟨a2 0, a2 1⟩, f2 0, f2 1, (((Below.refl _ _).alloc (Nat.le_refl _) _).alloc (by rw [s1]; omega) _).alloc (by rw [s2]; omega) _⟩
  · rw [World.cell?_alloc_past _ _ _ (by rw [s2]; omega), World.cell?_alloc_past _ _ _ (by rw [s1]; omega)]; exact a0 0
  · rw [World.cell?_alloc_past _ _ _ (by rw [s2]; omega), World.cell?_alloc_past _ _ _ (by rw [s1]; omega)]; exact a0 1
  · rw [World.cell?_alloc_past _ _ _ (by rw [s2]; omega)]; exact a1 0
  · rw [World.cell?_alloc_past _ _ _ (by rw [s2]; omega)]; exact a1 1
set_option maxRecDepth 100000 in
set_option maxHeartbeats 1600000 in
theorem plus_any (f : Nat) (a b : Option Addr) (n m cap cbp : Nat) (p q : List B) (w : World) (h : BR f w a n cap p) (k : BR f w b m cbp q) (hF : Fld w f) (hn : n ≤ 524288) (hm : m ≤ 524288) :
    Calls Tryz.prog 77 #[pvl f (.slice a n cap), pvl f (.slice b m cbp)] w fun e w' => ∃ a' k' c', e = .returned (pvl f (.slice a' k' c')) ∧ BR f w' a' k' c' (trim (addP p q)) ∧ FAt w f w' := by
  obtain ⟨i0, hi, hz0, hz1, hz2⟩ := info_parts infoU8
  obtain ⟨L, hL⟩ : ∃ L, L = max n m := ⟨_, rfl⟩
  have hLi : max (n : Int) (m : Int) = (L : Int) := by omega
  have HLI : Hid (((max n m : Nat) : Int) = (L : Int)) := Lib.hid (by omega)
  have hLs : L ≤ 524288 := by omega
  have hnL : n ≤ L := by omega
  have hmL : m ≤ L := by omega
  have HL := Lib.hid hL
  clear hL
  have hlt := hF.lt
  obtain ⟨wa, hwa⟩ : ∃ wa, wa = ((w.alloc (Obj.cells #[Value.pointer (some ⟨f, 0, none⟩), Value.slice a n cap] 76)).alloc (Obj.cells #[Value.pointer (some ⟨f, 0, none⟩), Value.slice b m cbp] 76)).alloc (Obj.cells #[Value.pointer none, Value.slice none 0 0] 76) := ⟨_, rfl⟩
  obtain ⟨hs0, hP, hQ, hR, hfr0, hfr1, hb0⟩ := three_boxes w _ _ _ _ _ _ _ _ _ hwa
  have hFa : Fld wa f := hF.below hb0
  have H0 := Lib.hid (h.below hb0)
  have K0 := Lib.hid (k.below hb0)
  have HFA := Lib.hid hFa
  have HB0 := Lib.hid hb0
  clear h k hF hFa hb0
  unfold pvl
  go_enter Tryz.func77, Tryz.ntmps77
  go_wp2_with (first
    | (at_make; rw [← hwa]; refine wpList_make_full _ rfl (.tmp 14) (.tmp 14) 22 rfl wa.heap.size 5 i0 (.int .u8 0) 1 Tryz.underlying22 hi hz0 hz1 .i64 .i64 _ _ L rfl rfl (by first | rfl | exact HLI.out | omega) (by first | rfl | exact HLI.out | omega) (by rw [hz2]; omega) (by unfold maxLen; omega) (Nat.le_refl _) ?_; intro w4 hown4 hg4; rw [madeZero8, hs0] at hown4; rw [hs0]; have hP4 := hg4.cell hP.2 (by simp); have HG4 := Lib.hid hg4; clear hg4)
    | (have hgd4 := hown4; (refine wpList_copy_splice rfl (.tmp 16) (.tmp 18) 22 22 rfl 5 Tryz.underlying22 (by kernel_rfl) _ _ _ _ _ _ rfl rfl (w.heap.size + 3) 0 ((fl (fun _ => 0) L).map (Value.int .u8)) 5 (own_heap hown4).2 ((pv p).map (Value.int .u8)) (by rw [List.length_map, pv_length, H0.out.len]; exact (Nat.min_eq_left hnL).symm) (fun h0 => ⟨rfl, (H0.out.below (below_of_none HG4.out)).src h0⟩) (by rw [List.length_map, List.length_map, pv_length, H0.out.len, fl_length]; omega) (fun v hv => by obtain ⟨z, _, rfl⟩ := List.mem_map.1 hv; rfl) wa.heap.size wa (below_of_none HG4.out) (by rw [hs0]; exact Nat.le_refl _) ?_); intro w5 hh5 hb5; rw [splice_pv _ (by rw [H0.out.len]; exact hnL)] at hh5; have hown5 := own_of_heap (Nat.le_refl (w.heap.size + 3)) hh5.out (by rw [List.length_map, fl_length]) (by unfold maxLen; omega); have hQ5 := (hb5.cell (p := ⟨w.heap.size + 1, 1, none⟩) (by show w.heap.size + 1 < wa.heap.size; omega)).trans hQ.2; have HB5 := Lib.hid hb5; have HO5 := Lib.hid hown5; clear hb5 hh5 hown5 hown4 hgd4 hP4))
  obtain ⟨rb, hrb⟩ : ∃ r, r = w.heap.size + 3 := ⟨_, rfl⟩
  have HRB : Hid (w.heap.size + 2 < rb) := Lib.hid (by omega)
  simp only [← hrb] at *
  have HS0 := Lib.hid hs0
  have HC := Lib.hid (And.intro hP (And.intro hR (And.intro hfr0 hfr1)))
  have hnef : f < w.heap.size := hlt
  clear hs0 hrb hP hQ hQ5 hR hfr0 hfr1 hwa
  go_loopw [23] (fun i wr => ∃ j : Nat, j ≤ m ∧ i = .int .i64 j ∧ wr.ownsRow rb 5 1 (.slice (some ⟨rb, 0, none⟩) L L) L ((fl (fun t => bi (if t < j then cf p t ^^^ cf q t else cf p t)) L).map (Value.int .u8)) ∧ FAt wa f wr) (fun i _ => m - (intOf i).toNat)
  case atStart => exact ⟨0, Nat.zero_le _, rfl, by rw [fl_congr (g := fun t => bi (cf p t)) (fun t _ => by rw [if_neg (Nat.not_lt_zero t)])]; exact HO5.out, (FAt.start HFA.out).below HB5.out⟩
  case round =>
    obtain ⟨j, hj, rfl, hown, hG⟩ := hrel
    by_cases hlt : j < m
    · obtain ⟨g, o, rfl, hg, hne, hc⟩ := K0.out.cells (by omega)
      have hck := hG.cell (hc j hlt) hne
      have hjL : j < L := by omega
      have hoc := own_cell8 hown hjL
      rw [fl_getD _ hjL, if_neg (Nat.lt_irrefl j)] at hoc
      have hof := hown.frozenAt j
      have hp0 := hG.cell HC.out.1.1 (by show w.heap.size ≠ f; omega)
      have hs := own_stored8 hown j (bi (cf p j ^^^ cf q j))
      rw [fl_set, fl_congr (g := fun t => bi (if t < j + 1 then cf p t ^^^ cf q t else cf p t)) (fun t _ => by
        by_cases h1 : t = j
        · subst h1; simp
        · rw [if_neg h1]
          by_cases h2 : t < j
          · rw [if_pos h2, if_pos (by omega)]
          · rw [if_neg h2, if_neg (by omega)])] at hs
      have HS : Hid ((wr.drew.setCell ⟨rb, j, none⟩ (.int .u8 (bi (cf p j ^^^ cf q j)))).ownsRow rb 5 1 (.slice (some ⟨rb, 0, none⟩) L L) L ((fl (fun t => bi (if t < j + 1 then cf p t ^^^ cf q t else cf p t)) L).map (Value.int .u8))) := Lib.hid hs
      have HG := Lib.hid (hG.drew.set (g := rb) (by have := HS0.out; omega) (by have := HS0.out; have := HRB.out; omega) j (.int .u8 (bi (cf p j ^^^ cf q j))))
      have hcall := (ringPlus_any f (cf p j) (cf q j) wr.drew).mono (fun e w' h => (⟨h.1, h.2.symm⟩ : e = Ending.returned (.int .u8 (bi (cf p j ^^^ cf q j))) ∧ w' = wr.drew))
      have hmP := mPlus f
      have hoc' : wr.drew.cell? ⟨rb, j, none⟩ = _ := hoc
      have hof' : wr.drew.frozen? ⟨rb, j, none⟩ = _ := hof
      generalize bi (cf p j ^^^ cf q j) = z at *
      generalize bi (cf p j) = x at *
      generalize bi (cf q j) = y at *
      clear hown hG hs hc
      go_wp2_with fail
      go_still_tail 12, (by kernel_rfl)
      still_call hcall
      repeat still_step
      refine wpStill_nil ?_
      change wpList _ _ _ _ _ wr.drew
      clear hoc hof hck hcall
      generalize wr.drew = we at *
      go_wp2_with fail
      go_roundw
      case rel => exact ⟨j + 1, by omega, by go_num, HS.out, HG.out⟩
      case measure => simp [intOf]; omega
    · obtain rfl : j = m := by omega
      have hLL : (addP p q).length = L := by rw [length_addP, H0.out.len, K0.out.len]; exact HL.out.symm
      have e : fl (fun t => bi (if t < j then cf p t ^^^ cf q t else cf p t)) L = pv (addP p q) := by
        rw [pv_fl, hLL]
        refine fl_congr (fun t _ => ?_)
        rw [cf_addP]
        by_cases h2 : t < j
        · rw [if_pos h2]
        · rw [if_neg h2, cf_past (p := q) (by rw [K0.out.len]; omega), xor0]
      rw [e] at hown
      have HR := Lib.hid (BR.own hown (f := f) (by have := HRB.out; omega))
      have HG := Lib.hid hG
      have hsz : w.heap.size + 1 + 1 < wr.heap.size := by have := hG.grown.size; have := HS0.out; have := HRB.out; omega
      have hp0 := hG.cell HC.out.1.1 (by show w.heap.size ≠ f; omega)
      have HC0 : Hid (wr.cell? ⟨w.heap.size + 1 + 1, 0, none⟩ = some (.pointer none)) := Lib.hid (hG.cell HC.out.2.1.1 (by show w.heap.size + 2 ≠ f; omega))
      have HC1 : Hid (wr.cell? ⟨w.heap.size + 1 + 1, 1, none⟩ = some (.slice none 0 0)) := Lib.hid (hG.cell HC.out.2.1.2 (by show w.heap.size + 2 ≠ f; omega))
      have hblk := hG.grown.block (w.heap.size + 1 + 1) (by have := HS0.out; have := HRB.out; omega) (by simp; omega)
      have HZ0 : Hid (wr.frozen? ⟨w.heap.size + 1 + 1, 0, none⟩ = false) := Lib.hid ((World.frozen?_of_block (w := wa) (a := ⟨w.heap.size + 1 + 1, 0, none⟩) hblk).trans HC.out.2.2.1)
      have HZ1 : Hid (wr.frozen? ⟨w.heap.size + 1 + 1, 1, none⟩ = false) := Lib.hid ((World.frozen?_of_block (w := wa) (a := ⟨w.heap.size + 1 + 1, 1, none⟩) hblk).trans HC.out.2.2.2)
      clear hown hG e hblk
      go_wp2_with fail
      refine (trimmed_any f (some ⟨rb, 0, none⟩) L L (addP p q) _ HR.out (by omega)).mono ?_
      rintro e w6 ⟨k6, rfl, h6, hb6⟩
      unfold pvl
      have hc0 := (hb6.cell (p := ⟨w.heap.size + 1 + 1, 0, none⟩) hsz).trans HC0.out
      have hc1 := (hb6.cell (p := ⟨w.heap.size + 1 + 1, 1, none⟩) hsz).trans HC1.out
      have hz0' := (hb6.frozen (p := ⟨w.heap.size + 1 + 1, 0, none⟩) hsz).trans HZ0.out
      have hz1' := (hb6.frozen (p := ⟨w.heap.size + 1 + 1, 1, none⟩) hsz).trans HZ1.out
      have H6 := Lib.hid h6
      have HB6 := Lib.hid hb6
      clear h6 hb6 hp0
      go_wp2_with fail
      obtain ⟨hr0, hr1⟩ := box_put (w := w6) (b := w.heap.size + 1 + 1) (x := .pointer (some ⟨f, 0, none⟩)) (y := .slice (some ⟨rb, 0, none⟩) k6 L) hc0 hc1
      have hbr := (H6.out.set (b := w.heap.size + 1 + 1) (fun g o e => by cases e; have := HRB.out; omega) 0 (.pointer (some ⟨f, 0, none⟩))).set (b := w.heap.size + 1 + 1) (fun g o e => by cases e; have := HRB.out; omega) 1 (.slice (some ⟨rb, 0, none⟩) k6 L)
      have hfa : FAt w f wr := FAt.of HG.out.fld (grown_trans (fg_below HB0.out) HG.out.grown)
      have hfe := ((hfa.below HB6.out).set (g := w.heap.size + 1 + 1) (by omega) hnef 0 (.pointer (some ⟨f, 0, none⟩))).set (g := w.heap.size + 1 + 1) (by omega) hnef 1 (.slice (some ⟨rb, 0, none⟩) k6 L)
      exact bodyPost_ret (v := .agg #[.pointer (some ⟨f, 0, none⟩), .slice (some ⟨rb, 0, none⟩) k6 L]) (by simp [results, Tryz.results77, go_sem, hr0, hr1]) rfl ⟨_, _, _, rfl, hbr, hfe⟩
end Go.Proofs.YtdnbkjiijpeiiaaGreat
