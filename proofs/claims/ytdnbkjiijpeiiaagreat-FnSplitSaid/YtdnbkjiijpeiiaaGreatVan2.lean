/- Which points, and which places, are right: the program's looks, by a list of what was seen. -/
import Derived.Test.YtdnbkjiijpeiiaaGreatSPointsA
import Derived.Test.YtdnbkjiijpeiiaaGreatFnFieldA
import Derived.Test.YtdnbkjiijpeiiaaGreatHPointA
import Derived.Test.YtdnbkjiijpeiiaaGreatPolyB
namespace Go.Proofs.YtdnbkjiijpeiiaaGreat
open Go.RowKit Go.PlainAid G MGF IRow
set_option linter.unusedVariables false
/-- A list of what was seen, in its block. -/
def Seen (w : World) (b : Nat) (S : Nat → Bool) : Prop := b < w.heap.size ∧ ∀ i, i < 256 → w.cell? ⟨b, i, none⟩ = some (.bool (S i)) ∧ w.frozen? ⟨b, i, none⟩ = false
theorem Seen.set {w : World} {b : Nat} {S : Nat → Bool} (h : Seen w b S) {i : Nat} (_ : i < 256) (T : Nat → Bool) (hT : ∀ j, j < 256 → T j = if j = i then true else S j) : Seen (w.setCell ⟨b, i, none⟩ (.bool true)) b T := by
  refine ⟨by simpa using h.1, fun j hj => ⟨?_, by rw [World.frozen?_setCell]; exact (h.2 j hj).2⟩⟩
  rw [hT j hj]
  by_cases e : j = i
  · subst e
    rw [World.cell?_setCell_same _ _ _ (h.2 j hj).1, if_pos rfl]
  · rw [World.cell?_setCell_other _ _ _ _ (fun h2 => e (by injection h2 with _ h3 _; exact h3.symm)), (h.2 j hj).1, if_neg e]
theorem Seen.below {w w' : World} {b : Nat} {S : Nat → Bool} (h : Seen w b S) (hb : Below w.heap.size w w') : Seen w' b S :=
  ⟨Nat.lt_of_lt_of_le h.1 hb.size, fun i hi => ⟨(hb.cell (p := ⟨b, i, none⟩) h.1).trans (h.2 i hi).1, (hb.frozen (p := ⟨b, i, none⟩) h.1).trans (h.2 i hi).2⟩⟩
theorem zero_seen : Tryz.zeroCells116.toList = List.replicate 256 (.bool false) := by kernel_rfl
theorem seen_new (w : World) : Seen (w.alloc (.cells Tryz.zeroCells116 116)) w.heap.size (fun _ => false) := by
  refine ⟨by rw [World.size_alloc]; omega, fun i hi => ⟨?_, World.frozen?_alloc_new w _ _ i⟩⟩
  rw [World.cell?_alloc_new w, ← Array.getElem?_toList, zero_seen, List.getElem?_replicate, if_pos hi]
set_option maxRecDepth 100000 in
set_option maxHeartbeats 1600000 in
theorem placesRight_any (a : Option Addr) (n cap : Nat) (zs : List Int) (w : World) (h : IR w a n cap zs) (hn : n ≤ 1048576) :
    Calls Tryz.prog 54 #[.slice a n cap] w fun e w' => e = .returned (.bool (xsB zs 20)) ∧ Below w.heap.size w w' := by
  have hl := h.len
  by_cases h20 : 20 < n
  · have HF : Hid (false = xsB zs 20) := Lib.hid (by unfold xsB; rw [decide_eq_false (by omega), Bool.false_and])
    clear h
    go_enter Tryz.func54, Tryz.ntmps54
    go_wp2_with fail
    go_ret
    exact ⟨ret_bool HF.out, Below.refl _ _⟩
  · go_enter Tryz.func54, Tryz.ntmps54
    go_wp2_with fail
    go_loopw [11] (fun i wr => ∃ j : Nat, j ≤ n ∧ i = .int .i64 j ∧ (∀ t, t < j → okX (zs.getD t 0) = true) ∧ (zs.take j).Nodup ∧ Seen wr w.heap.size (fun v => decide ((v : Int) ∈ zs.take j)) ∧ Below w.heap.size w wr) (fun i _ => n - (intOf i).toNat)
    case atStart => exact ⟨0, Nat.zero_le _, rfl, fun t ht => by omega, by simp, by simpa using seen_new w, (Below.refl _ _).alloc (Nat.le_refl _) _⟩
    case round =>
      obtain ⟨j, hj, rfl, hok, hnd, hS, hB⟩ := hrel
      have HOK := Lib.hid hok
      have HND := Lib.hid hnd
      clear hok hnd
      by_cases hlt : j < n
      · obtain ⟨g, o, rfl, hg, hc⟩ := h.cells (by omega)
        have hck := (hB.cell (p := ⟨g, o + j, none⟩) hg).trans (hc j hlt)
        have HBD : Hid (okX (zs.getD j 0) = false → false = xsB zs 20) := Lib.hid (fun h2 => by
          unfold xsB
          rw [not_all1 (by omega) h2]
          simp)
        have HDP : Hid (zs.getD j 0 ∈ zs.take j → false = xsB zs 20) := Lib.hid (fun h2 => by
          obtain ⟨k, hk, hkk⟩ := List.getElem_of_mem h2
          have hk2 : k < j := by rw [List.length_take] at hk; omega
          have hkz : zs.getD k 0 = zs.getD j 0 := by
            rw [← hkk, List.getElem_take, List.getD_eq_getElem?_getD, List.getElem?_eq_getElem (by omega)]
            rfl
          unfold xsB
          rw [decide_eq_false (not_nodup1 (by omega) hk2 hkz)]
          simp)
        have HNX : Hid (okX (zs.getD j 0) = true → ¬ zs.getD j 0 ∈ zs.take j → (∀ t, t < j + 1 → okX (zs.getD t 0) = true) ∧ (zs.take (j + 1)).Nodup) := Lib.hid (fun h2 h3 => by
          refine ⟨fun t ht => ?_, nodup_take1 (by omega) HND.out (fun k hk e => h3 ?_)⟩
          · by_cases htj : t = j
            · rw [htj]; exact h2
            · exact HOK.out t (by omega)
          · rw [← e]
            have : zs.getD k 0 = (zs.take j).getD k 0 := by simp [List.getD, hk]
            rw [this, getD_mem _ (by rw [List.length_take]; omega)]
            exact List.getElem_mem _)
        have HTK := Lib.hid (take_getD (zs := zs) (j := j) (by omega))
        generalize zs.getD j 0 = z at *
        clear hc h
        by_cases hb : 0 ≤ z ∧ z ≤ 255
        · by_cases h0 : z = 0
          · subst h0
            have HF := Lib.hid (HBD.out rfl)
            have hbt : byteB 0 = true := rfl
            clear hS
            go_wp2_with fail
            refine (isByte_any 0 _).mono ?_
            rintro e w1 ⟨rfl, rfl⟩
            rw [hbt]
            go_wp2_with fail
            go_ret
            exact ⟨ret_bool HF.out, hB⟩
          · obtain ⟨v, rfl⟩ := Int.eq_ofNat_of_zero_le hb.1
            have hv : v < 256 := by omega
            have hvb : ((v : Int) == 0) = false := by rw [beq_eq_false_iff_ne]; exact h0
            have hbt : byteB (v : Int) = true := byteB_yes hb.1 hb.2
            obtain ⟨hcs, hfs⟩ := hS.2 v hv
            dsimp only at hcs
            by_cases hsn : (v : Int) ∈ zs.take j
            · rw [decide_eq_true hsn] at hcs
              have HF := Lib.hid (HDP.out hsn)
              clear hS hsn
              go_wp2_with fail
              refine (isByte_any _ _).mono ?_
              rintro e w1 ⟨rfl, rfl⟩
              rw [hbt]
              go_wp2_with fail
              go_ret
              exact ⟨ret_bool HF.out, hB⟩
            · rw [decide_eq_false hsn] at hcs
              have HF := Lib.hid (HNX.out (decide_eq_true (by omega)) hsn)
              have HSS := Lib.hid (hS.set hv (fun u => decide ((u : Int) ∈ zs.take (j + 1))) (fun u hu => by
                rw [HTK.out]
                by_cases e : u = v
                · subst e
                  rw [if_pos rfl]
                  exact decide_eq_true (by simp)
                · rw [if_neg e]
                  have : ((u : Int) ∈ zs.take j ++ [(v : Int)]) ↔ (u : Int) ∈ zs.take j := by
                    simp only [List.mem_append, List.mem_singleton]
                    exact ⟨fun h => h.elim id (fun h => absurd (Int.ofNat.inj h) e), Or.inl⟩
                  simp only [this]))
              have HBB := Lib.hid (hB.setCell (p := ⟨w.heap.size, v, none⟩) (Nat.le_refl _) (.bool true))
              clear hS hsn hB
              go_wp2_with fail
              refine (isByte_any _ _).mono ?_
              rintro e w1 ⟨rfl, rfl⟩
              rw [hbt]
              go_wp2_with fail
              go_roundw
              case rel => exact ⟨j + 1, by omega, by go_num, HF.out.1, HF.out.2, HSS.out, HBB.out⟩
              case measure => simp [intOf]; omega
        · have HF := Lib.hid (HBD.out (decide_eq_false (by omega)))
          have hbt : byteB z = false := byteB_no hb
          clear hS
          go_wp2_with fail
          refine (isByte_any z _).mono ?_
          rintro e w1 ⟨rfl, rfl⟩
          rw [hbt]
          go_wp2_with fail
          go_ret
          exact ⟨ret_bool HF.out, hB⟩
      · obtain rfl : j = n := by omega
        have HF : Hid (true = xsB zs 20) := Lib.hid (by
          have h1 := HND.out
          rw [List.take_of_length_le (by omega)] at h1
          unfold xsB
          rw [decide_eq_true (by omega), all_of1 (fun t ht => HOK.out t (by omega)), decide_eq_true h1]
          rfl)
        clear hS h
        go_wp2_with fail
        go_ret
        exact ⟨ret_bool HF.out, hB⟩
end Go.Proofs.YtdnbkjiijpeiiaaGreat
/- What the program's vanish answers. -/
namespace Go.Proofs.YtdnbkjiijpeiiaaGreat
open Go.RowKit Go.PlainAid G MGF IRow
set_option linter.unusedVariables false
/-- A struct of a pointer and a slice in a block of its own. -/
def PBox (u : World) (b : Nat) (x : Option Addr) (a : Option Addr) (k c : Nat) : Prop := ∃ t, u.heap[b]? = some (.cells #[.pointer x, .slice a k c] t (0, 0))
theorem PBox.lt {u : World} {b : Nat} {x a : Option Addr} {k c : Nat} (h : PBox u b x a k c) : b < u.heap.size := by
  obtain ⟨t, h⟩ := h
  exact (Array.getElem?_eq_some_iff.1 h).1
theorem PBox.cells {u : World} {b : Nat} {x a : Option Addr} {k c : Nat} (h : PBox u b x a k c) : u.cell? ⟨b, 0, none⟩ = some (.pointer x) ∧ u.cell? ⟨b, 1, none⟩ = some (.slice a k c) ∧ u.frozen? ⟨b, 0, none⟩ = false ∧ u.frozen? ⟨b, 1, none⟩ = false := by
  obtain ⟨t, h⟩ := h
  exact ⟨by rw [cell_of_row u b 0 _ _ _ h]; rfl, by rw [cell_of_row u b 1 _ _ _ h]; rfl, frozen_of_row u b 0 _ _ h, frozen_of_row u b 1 _ _ h⟩
theorem PBox.grown {u v : World} {b : Nat} {x a : Option Addr} {k c : Nat} (h : PBox u b x a k c) {row : Option Nat} (hg : u.grownBy v row) (hne : some b ≠ row) : PBox v b x a k c := by
  have hlt := h.lt
  obtain ⟨t, h⟩ := h
  exact ⟨t, (hg.block b hlt hne).trans h⟩
theorem PBox.below {u v : World} {b : Nat} {x a : Option Addr} {k c : Nat} (h : PBox u b x a k c) (hb : Below u.heap.size u v) : PBox v b x a k c := h.grown (fg_below (row := none) hb) (by simp)
theorem PBox.made (u : World) (x a : Option Addr) (k c : Nat) (t : TypeId) : PBox (u.alloc (.cells #[.pointer x, .slice a k c] t)) u.heap.size x a k c := ⟨t, by show (u.heap.push _)[u.heap.size]? = _; simp⟩
theorem PBox.put {u : World} {b : Nat} {x a : Option Addr} {k c : Nat} (h : PBox u b x a k c) (y a' : Option Addr) (k' c' : Nat) : PBox ((u.setCell ⟨b, 0, none⟩ (.pointer y)).setCell ⟨b, 1, none⟩ (.slice a' k' c')) b y a' k' c' := by
  obtain ⟨t, h⟩ := h
  exact ⟨t, heap_setCell_same _ b 1 _ t _ (heap_setCell_same u b 0 _ t _ h)⟩
theorem PBox.other {u : World} {b d : Nat} {x a : Option Addr} {k c : Nat} (h : PBox u b x a k c) (hne : b ≠ d) (i : Nat) (v : Value) : PBox (u.setCell ⟨d, i, none⟩ v) b x a k c := h.grown (grown_set u d i v) (by simpa using hne)
/-- A row of bytes does not lie in such a block. -/
theorem PBox.ne {u : World} {b : Nat} {x a : Option Addr} {k c : Nat} (h : PBox u b x a k c) {f : Nat} {ar : Option Addr} {n cap : Nat} {p : List B} (hr : BR f u ar n cap p) (hn : 0 < n) : ∀ g o, ar = some ⟨g, o, none⟩ → g ≠ b := by
  rintro g o rfl rfl
  obtain ⟨t, h⟩ := h
  obtain ⟨g', o', he, _, _, hc⟩ := hr.cells hn
  simp only [Option.some.injEq, Addr.mk.injEq, and_true] at he
  obtain ⟨rfl, rfl⟩ := he
  have h0 := hc 0 hn
  rw [cell_of_row u g _ _ _ _ h] at h0
  rcases Nat.lt_or_ge (o + 0) 2 with hlt | hge
  · match o, hlt with
    | 0, _ => simp at h0
    | 1, _ => simp at h0
  · rw [Array.getElem?_eq_none (by simpa using hge)] at h0
    cases h0
theorem BR.put {f : Nat} {u : World} {ar : Option Addr} {n cap : Nat} {p : List B} (hr : BR f u ar n cap p) {b : Nat} {x a : Option Addr} {k c : Nat} (h : PBox u b x a k c) (y a' : Option Addr) (k' c' : Nat) : BR f ((u.setCell ⟨b, 0, none⟩ (.pointer y)).setCell ⟨b, 1, none⟩ (.slice a' k' c')) ar n cap p := by
  by_cases hn : 0 < n
  · exact (hr.set (h.ne hr hn) 0 _).set (h.ne hr hn) 1 _
  · exact ⟨hr.len, hr.le, hr.nil, fun h => absurd h hn⟩
theorem lit8_one (f : Nat) (w : World) (x : B) (e : TypeId) (hf : f < w.heap.size) : BR f (w.alloc (.cells #[.int .u8 (bi x)] e)) (some ⟨w.heap.size, 0, none⟩) 1 1 [x] := BR.own (World.ownsRow_lit w #[.int .u8 (bi x)] 1 (Nat.le_refl _) (by decide) rfl) hf
theorem lit8_two (f : Nat) (w : World) (x y : B) (e : TypeId) (hf : f < w.heap.size) : BR f (w.alloc (.cells #[.int .u8 (bi x), .int .u8 (bi y)] e)) (some ⟨w.heap.size, 0, none⟩) 2 2 [x, y] := BR.own (World.ownsRow_lit w #[.int .u8 (bi x), .int .u8 (bi y)] 2 (Nat.le_refl _) (by decide) rfl) hf
theorem lit8_1two (f : Nat) (w : World) (y : B) (e : TypeId) (hf : f < w.heap.size) : BR f (w.alloc (.cells #[.int .u8 1, .int .u8 (bi y)] e)) (some ⟨w.heap.size, 0, none⟩) 2 2 [1, y] := lit8_two f w 1 y e hf
theorem b_wrap (x : B) : IntKind.u8.wrap (bi x) = bi x := by rw [IntKind.wrap_u8]; exact b_mod x
theorem trim_one : trim [(1 : B)] = [1] := trim_of_right (fun _ => by simp)
theorem trim_pair {y : B} (h : y ≠ 0) (x : B) : trim [x, y] = [x, y] := trim_of_right (fun _ => by simpa using h)
theorem ptimes_agg (f : Nat) (a b : Option Addr) (n m cap cbp : Nat) (p q : List B) (w : World) (h : BR f w a n cap p) (k : BR f w b m cbp q) (hF : Fld w f) (hn : n ≤ 524288) (hm : m ≤ 524288) :
    Calls Tryz.prog 56 #[.agg #[.pointer (some ⟨f, 0, none⟩), .slice a n cap], .agg #[.pointer (some ⟨f, 0, none⟩), .slice b m cbp]] w fun e w' => ∃ a' k' c', e = .returned (.agg #[.pointer (some ⟨f, 0, none⟩), .slice a' k' c']) ∧ BR f w' a' k' c' (trim (mulP p q)) ∧ FAt w f w' := ptimes_any f a b n m cap cbp p q w h k hF hn hm
set_option maxRecDepth 100000 in
set_option maxHeartbeats 4000000 in
theorem vanish_any (f : Nat) (a : Option Addr) (n cap : Nat) (xs : List B) (w : World) (h : IR w a n cap (pv xs)) (hF : Fld w f) (hn : n ≤ 20) (h0 : ∀ x ∈ xs, x ≠ 0) (hne : 0 < n → ∀ g o, a = some ⟨g, o, none⟩ → g ≠ f) :
    Calls Tryz.prog 30 #[.pointer (some ⟨f, 0, none⟩), .slice a n cap] w fun e w' => ∃ a' k' c', e = .returned (pvl f (.slice a' k' c')) ∧ BR f w' a' k' c' (vanS xs n) ∧ FAt w f w' := by
  have hl : xs.length = n := by have := h.len; rwa [pv_length] at this
  have hlt := hF.lt
  obtain ⟨wr0, hwr0⟩ : ∃ u, u = w.alloc (Obj.cells #[Value.pointer none, Value.slice none 0 0] 76) := ⟨_, rfl⟩
  have hs0 : wr0.heap.size = w.heap.size + 1 := by rw [hwr0]; exact World.size_alloc _ _
  have hpr0 : PBox wr0 w.heap.size none none 0 0 := by rw [hwr0]; exact PBox.made _ _ _ _ _ _
  have hb0 : Below w.heap.size w wr0 := by rw [hwr0]; exact (Below.refl _ _).alloc (Nat.le_refl _) _
  have hbL : Below wr0.heap.size wr0 (wr0.alloc (Obj.cells #[Value.int .u8 1] 5)) := (Below.refl _ _).alloc (Nat.le_refl _) _
  have HL := Lib.hid (lit8_one f wr0 1 5 (by omega))
  have HFL := Lib.hid (((FAt.start hF).below hb0).below hbL)
  have HPL := Lib.hid (hpr0.below hbL)
  have HI := Lib.hid h
  have HNE := Lib.hid hne
  clear hpr0 hb0 hbL h hF hne
  go_enter Tryz.func30, Tryz.ntmps30
  go_wp2_with fail
  rw [← hwr0]
  have e1 : w.heap.size + 1 = wr0.heap.size := hs0.symm
  rw [e1]
  refine (trimmed_any f (some ⟨wr0.heap.size, 0, none⟩) 1 1 [1] _ HL.out (by decide)).mono ?_
  rintro e w2 ⟨k2, rfl, h2, hb2⟩
  rw [trim_one] at h2
  unfold pvl
  have H2 := Lib.hid h2
  have HF2 := Lib.hid (HFL.out.below hb2)
  have HP2 := Lib.hid (HPL.out.below hb2)
  have HS0 := Lib.hid hs0
  clear h2 hb2 HL HFL HPL e1 hs0 hwr0
  go_wp2_with fail
  have HPW := Lib.hid (PBox.made w2 (some ⟨f, 0, none⟩) (some ⟨wr0.heap.size, 0, none⟩) k2 1 76)
  have hbW : Below w2.heap.size w2 (w2.alloc (Obj.cells #[Value.pointer (some ⟨f, 0, none⟩), Value.slice (some ⟨wr0.heap.size, 0, none⟩) k2 1] 76)) := (Below.refl _ _).alloc (Nat.le_refl _) _
  have HPR := Lib.hid (HP2.out.below hbW)
  have HFW := Lib.hid (HF2.out.below hbW)
  have H2W := Lib.hid (H2.out.below hbW)
  have HNB : Hid (w.heap.size ≠ w2.heap.size ∧ w.heap.size ≤ w2.heap.size ∧ f < w.heap.size) := Lib.hid (by have := HP2.out.lt; omega)
  generalize w2.alloc (Obj.cells #[Value.pointer (some ⟨f, 0, none⟩), Value.slice (some ⟨wr0.heap.size, 0, none⟩) k2 1] 76) = wl at *
  obtain ⟨wb, hwb⟩ : ∃ b, b = w2.heap.size := ⟨_, rfl⟩
  rw [← hwb] at HPW HNB
  simp only [← hwb]
  clear H2 HP2 HF2 hbW hwb
  go_loopw [13] (fun i wr => ∃ j : Nat, j ≤ n ∧ i = .int .i64 j ∧ ∃ a1 k1 c1, PBox wr wb (some ⟨f, 0, none⟩) a1 k1 c1 ∧ BR f wr a1 k1 c1 (vanS xs j) ∧ PBox wr w.heap.size none none 0 0 ∧ FAt w f wr) (fun i _ => n - (intOf i).toNat)
  case atStart => exact ⟨0, Nat.zero_le _, rfl, _, _, _, HPW.out, H2W.out, HPR.out, HFW.out⟩
  case round =>
    obtain ⟨j, hj, rfl, a1, k1, c1, hpw, hbr, hpr, hfa⟩ := hrel
    by_cases hlt : j < n
    · obtain ⟨g, o, rfl, hg, hc⟩ := HI.out.cells (by omega)
      have hck := hfa.cell (hc j hlt) (HNE.out (by omega) g o rfl)
      rw [pv_getD] at hck
      have hx0 : cf xs j ≠ 0 := h0 _ (by unfold cf; rw [getD_mem _ (by omega)]; exact List.getElem_mem _)
      have hk1 : k1 ≤ 30 := by have := hbr.len; have := vanS_length xs j; omega
      have HS : Hid (trim (mulP (vanS xs j) [1, inv (cf xs j)]) = vanS xs (j + 1)) := Lib.hid rfl
      have HT : Hid (trim [1, inv (cf xs j)] = [1, inv (cf xs j)]) := Lib.hid (trim_pair (inv_ne hx0) 1)
      have hinv : ∀ u, Fld u f → Calls Tryz.prog 57 #[.pointer (some ⟨f, 0, none⟩), .int .u8 (IntKind.u8.wrap (bi (cf xs j)))] u fun e w' => e = .returned (.int .u8 (bi (inv (cf xs j)))) ∧ Fld w' f ∧ u.grownBy w' (some f) := fun u hu => by
        rw [b_wrap]
        exact inverse_any f (cf xs j) u hu hx0
      have HINV := Lib.hid hinv
      clear hinv
      have HLT := Lib.hid (fun u (hu : f < u.heap.size) => lit8_1two f u (inv (cf xs j)) 5 hu)
      generalize cf xs j = x at *
      generalize vanS xs j = P at *
      obtain ⟨hw0, hw1, _, _⟩ := hpw.cells
      have hw0' : wr.drew.cell? ⟨wb, 0, none⟩ = _ := hw0
      have hw1' : wr.drew.cell? ⟨wb, 1, none⟩ = _ := hw1
      have hFn := hfa.drew
      have hPn : PBox wr.drew wb (some ⟨f, 0, none⟩) a1 k1 c1 := hpw
      have hRn : PBox wr.drew w.heap.size none none 0 0 := hpr
      have hBn : BR f wr.drew a1 k1 c1 P := hbr.below (Below.refl _ _).drew
      have HN1 : Hid (some wb ≠ some f) := Lib.hid (by have := HNB.out; simp; omega)
      have HN2 : Hid (some w.heap.size ≠ some f) := Lib.hid (by have := HNB.out; simp; omega)
      have H2le : Hid (2 ≤ 1048576) := Lib.hid (by decide)
      have HK1 : Hid (k1 ≤ 524288) := Lib.hid (by omega)
      have HK3 : Hid (∀ (u : World) (a : Option Addr) (k c : Nat), BR f u a k c [1, inv x] → k ≤ 524288) := Lib.hid (fun u a k c h => by have := h.len; simp at this; omega)
      have HCP : Hid (∀ u : World, PBox u wb (some ⟨f, 0, none⟩) a1 k1 c1 → u.cell? ⟨wb, 0, none⟩ = some (.pointer (some ⟨f, 0, none⟩)) ∧ u.cell? ⟨wb, 1, none⟩ = some (.slice a1 k1 c1)) := Lib.hid (fun u hu => ⟨hu.cells.1, hu.cells.2.1⟩)
      clear hc hg hx0 hw0 hw1 hpw hpr hbr hfa HI HNE hk1
      go_wp2_with fail
      go_region_with (first
        | (go_at_call 57; with_reducible refine Calls.mono (HINV.out _ hFn.fld) ?_; rintro e w1 ⟨rfl, hf1, hg1⟩; have hFn := hFn.step (FAt.of hf1 hg1); have hPn := hPn.grown hg1 HN1.out; have hRn := hRn.grown hg1 HN2.out; have hBn := hBn.grown hg1; obtain ⟨hq0, hq1⟩ := HCP.out _ hPn; have hql := hPn.lt; have hLn := HLT.out w1 hFn.fld.lt; have hbA : Below w1.heap.size w1 (w1.alloc (Obj.cells #[Value.int .u8 1, Value.int .u8 (bi (inv x))] 5)) := (Below.refl _ _).alloc (Nat.le_refl _) _)
        | (go_at_call 55; with_reducible refine Calls.mono (trimmed_any f _ 2 2 [1, inv x] _ hLn H2le.out) ?_; rintro e w3 ⟨k3, rfl, h3, hb3⟩; have hFn := (hFn.below hbA).below hb3; have hPn := (hPn.below hbA).below hb3; have hRn := (hRn.below hbA).below hb3; have hBn := (hBn.below hbA).below hb3; obtain ⟨hq0, hq1⟩ := HCP.out _ hPn; rw [HT.out] at h3; unfold pvl)
        | (go_at_call 56; with_reducible refine Calls.mono (ptimes_agg f a1 _ k1 k3 c1 2 P [1, inv x] _ hBn h3 hFn.fld HK1.out (HK3.out _ _ _ _ h3)) ?_; rintro e w4 ⟨a4, k4, c4, rfl, h4, hf4⟩; have hFn := hFn.step hf4; have hPn := hPn.grown hf4.grown HN1.out; have hRn := hRn.grown hf4.grown HN2.out; obtain ⟨hq0, hq1, hz0', hz1'⟩ := hPn.cells; rw [HS.out] at h4))
      all_goals
        have hP5 := hPn.put (some ⟨f, 0, none⟩) a4 k4 c4
        have hB5 := h4.put hPn (some ⟨f, 0, none⟩) a4 k4 c4
        have hR5 := (hRn.other HNB.out.1 0 (Value.pointer (some ⟨f, 0, none⟩))).other HNB.out.1 1 (Value.slice a4 k4 c4)
        have hF5 := (hFn.set HNB.out.2.1 HNB.out.2.2 0 (Value.pointer (some ⟨f, 0, none⟩))).set HNB.out.2.1 HNB.out.2.2 1 (Value.slice a4 k4 c4)
        clear HINV HLT HK3 HCP
        go_wp2_with fail
        go_roundw
        case rel => exact ⟨j + 1, by omega, by go_num, _, _, _, hP5, hB5, hR5, hF5⟩
        case measure => simp [intOf]; omega
    · obtain rfl : j = n := by omega
      obtain ⟨hw0, hw1, _, _⟩ := hpw.cells
      obtain ⟨hr0, hr1, hz0', hz1'⟩ := hpr.cells
      have hP5 := (hpr.put (some ⟨f, 0, none⟩) a1 k1 c1).cells
      have hb5 := hbr.put hpr (some ⟨f, 0, none⟩) a1 k1 c1
      have hf5 := (hfa.set (g := w.heap.size) (Nat.le_refl _) HNB.out.2.2 0 (Value.pointer (some ⟨f, 0, none⟩))).set (g := w.heap.size) (Nat.le_refl _) HNB.out.2.2 1 (Value.slice a1 k1 c1)
      have HP5 := Lib.hid hP5
      have HB5 := Lib.hid hb5
      have HF5 := Lib.hid hf5
      clear hP5 hb5 hf5 hbr hfa hpw hpr HI HNE
      go_wp2_with fail
      obtain ⟨hq0, hq1, _, _⟩ := HP5.out
      exact bodyPost_ret (v := .agg #[.pointer (some ⟨f, 0, none⟩), .slice a1 k1 c1]) (by simp [results, Tryz.results30, go_sem, hq0, hq1]) rfl ⟨_, _, _, rfl, HB5.out, HF5.out⟩
end Go.Proofs.YtdnbkjiijpeiiaaGreat
/- What the program's Vanish answers. -/
namespace Go.Proofs.YtdnbkjiijpeiiaaGreat
open Go.RowKit Go.PlainAid G MGF IRow
set_option linter.unusedVariables false
theorem told_short {p : List B} (h : p.length ≤ 60) : told p = (pv p, 0) := by unfold told; rw [if_neg (by omega)]
end Go.Proofs.YtdnbkjiijpeiiaaGreat
