/- What the program's PolyRight answers, and which fault a pair has. -/
import Derived.Test.YtnlmbcdaolccbaaSPolyA
import Derived.Test.YtnlmbcdaolccbaaFnFieldA
import Derived.Test.YtnlmbcdaolccbaaPoly5
namespace Go.Proofs.Ytnlmbcdaolccbaa
open Go.RowKit Go.PlainAid G MGF IRow
set_option linter.unusedVariables false
set_option maxRecDepth 100000 in
theorem implPolyRight_any (a : Option Addr) (n cap : Nat) (zs : List Int) (w : World) (h : IR w a n cap zs) (hn : n ≤ 1048576) :
    Calls Try.prog 26 #[.slice a n cap] w fun e w' => e = .returned (.bool (rightB zs)) ∧ w = w' := by
  have hl := h.len
  by_cases h60 : 60 < n
  · have HF : Hid (false = rightB zs) := Lib.hid (by unfold rightB; rw [decide_eq_false (by omega), Bool.false_and])
    clear h
    go_enter Try.func26, Try.ntmps26
    go_wp2_with fail
    go_ret
    exact ⟨ret_bool HF.out, rfl⟩
  · go_enter Try.func26, Try.ntmps26
    go_wp2_with fail
    go_loop [10] (fun i => ∃ j : Nat, j ≤ n ∧ i = .int .i64 j ∧ ∀ t, t < j → byteB (zs.getD t 0) = true) (fun i => n - (intOf i).toNat)
    case atStart => exact ⟨0, Nat.zero_le _, rfl, fun t ht => by omega⟩
    case round =>
      obtain ⟨j, hj, rfl, hby⟩ := hrel
      have HBY := Lib.hid hby
      clear hby
      by_cases hlt : j < n
      · obtain ⟨g, o, rfl, hg, hc⟩ := h.cells (by omega)
        have hck := hc j hlt
        have HG : Hid (byteB (zs.getD j 0) = true → ∀ t, t < j + 1 → byteB (zs.getD t 0) = true) := Lib.hid (fun h2 t ht => by
          by_cases htj : t = j
          · subst htj; exact h2
          · exact HBY.out t (by omega))
        have HN : Hid (byteB (zs.getD j 0) = false → false = rightB zs) := Lib.hid (fun h2 => by
          unfold rightB
          have : zs.all byteB = false := by
            rw [List.all_eq_false]
            exact ⟨zs.getD j 0, by rw [List.getD_eq_getElem?_getD, List.getElem?_eq_getElem (by omega)]; exact List.getElem_mem _, by rw [h2]; exact Bool.false_ne_true⟩
          rw [this]
          simp)
        generalize zs.getD j 0 = z at *
        clear hc h
        go_wp2_with fail
        refine (isByte_any z _).mono ?_
        rintro e w1 ⟨rfl, rfl⟩
        cases hb : byteB z
        · have HF := Lib.hid (HN.out hb)
          go_wp2_with fail
          go_ret
          exact ⟨ret_bool HF.out, rfl⟩
        · have HF := Lib.hid (HG.out hb)
          go_wp2_with fail
          go_round
          case rel => exact ⟨j + 1, by omega, by go_num, HF.out⟩
          case measure => simp [intOf]; omega
      · obtain rfl : j = n := by omega
        have hall : zs.all byteB = true := by
          rw [List.all_eq_true]
          intro z hz
          obtain ⟨t, ht, rfl⟩ := List.getElem_of_mem hz
          have := HBY.out t (by omega)
          rwa [List.getD_eq_getElem?_getD, List.getElem?_eq_getElem ht] at this
        by_cases h0 : j = 0
        · have HF : Hid (true = rightB zs) := Lib.hid (by unfold rightB; rw [decide_eq_true (by omega), hall, decide_eq_true (by omega)]; rfl)
          subst h0
          clear h hall
          go_wp2_with fail
          go_ret
          exact ⟨ret_bool HF.out, rfl⟩
        · obtain ⟨g, o, rfl, hg, hc⟩ := h.cells (by omega)
          have hck := hc (j - 1) (by omega)
          have HF : Hid ((!(zs.getD (j - 1) 0 == 0)) = rightB zs) := Lib.hid (by unfold rightB; rw [decide_eq_true (by omega), hall, decide_eq_false (by omega), hl]; rfl)
          have hw : IntKind.i64.wrap ((j : Int) - 1) = ((j - 1 : Nat) : Int) := by rw [IntWalk.i64_in _ (by omega)]; omega
          have hjj : (j - 1 : Nat) < j := by omega
          have hsub : (j : Int) - 1 = ((j - 1 : Nat) : Int) := by omega
          have hj0 : ((j : Int) == 0) = false := by rw [beq_eq_false_iff_ne]; omega
          generalize zs.getD (j - 1) 0 = z at *
          clear h hc hall
          go_wp2_with fail
          go_ret
          exact ⟨ret_bool (by rw [← HF.out]; first | rfl | (rw [hj0]; rfl)), rfl⟩
theorem pairFault_any (a b : Option Addr) (n m cap cbp : Nat) (zs ys : List Int) (w : World) (h : IR w a n cap zs) (k : IR w b m cbp ys) (hn : n ≤ 1048576) (hm : m ≤ 1048576) :
    Calls Try.prog 49 #[.slice a n cap, .slice b m cbp] w fun e w' => e = .returned (.int .i64 (if 400 < n ∨ 400 < m then 2 else if rightB zs = true ∧ rightB ys = true then 0 else 1)) ∧ w = w' := by
  by_cases h1 : 400 < n
  · rw [if_pos (Or.inl h1)]
    clear h k
    go_enter Try.func49, Try.ntmps49
    go_wp2_with fail
    go_ret
    exact ⟨rfl, rfl⟩
  · by_cases h2 : 400 < m
    · rw [if_pos (Or.inr h2)]
      clear h k
      go_enter Try.func49, Try.ntmps49
      go_wp2_with fail
      go_ret
      exact ⟨rfl, rfl⟩
    · rw [if_neg (by omega)]
      have H := Lib.hid h
      have K := Lib.hid k
      clear h k
      cases hr : rightB zs
      · rw [if_neg (by simp)]
        go_enter Try.func49, Try.ntmps49
        go_wp2_with fail
        refine (implPolyRight_any a n cap zs _ H.out hn).mono ?_
        rintro e w1 ⟨rfl, rfl⟩
        rw [hr]
        go_wp2_with fail
        go_ret
        exact ⟨rfl, rfl⟩
      · cases hr2 : rightB ys
        · rw [if_neg (by simp)]
          go_enter Try.func49, Try.ntmps49
          go_wp2_with fail
          refine (implPolyRight_any a n cap zs _ H.out hn).mono ?_
          rintro e w1 ⟨rfl, rfl⟩
          rw [hr]
          go_wp2_with fail
          refine (implPolyRight_any b m cbp ys _ K.out hm).mono ?_
          rintro e w1 ⟨rfl, rfl⟩
          rw [hr2]
          go_wp2_with fail
          go_ret
          exact ⟨rfl, rfl⟩
        · rw [if_pos ⟨rfl, rfl⟩]
          go_enter Try.func49, Try.ntmps49
          go_wp2_with fail
          refine (implPolyRight_any a n cap zs _ H.out hn).mono ?_
          rintro e w1 ⟨rfl, rfl⟩
          rw [hr]
          go_wp2_with fail
          refine (implPolyRight_any b m cbp ys _ K.out hm).mono ?_
          rintro e w1 ⟨rfl, rfl⟩
          rw [hr2]
          go_wp2_with fail
          go_ret
          exact ⟨rfl, rfl⟩
end Go.Proofs.Ytnlmbcdaolccbaa
/- What the program's Eval, PolyAdd and PolyMul answer. -/
namespace Go.Proofs.Ytnlmbcdaolccbaa
open Go.RowKit Go.PlainAid G IRow MGF
set_option linter.unusedVariables false
/-- A struct of two cells in its block, that may be written. -/
def Box2 (u : World) (b : Nat) (x y : Value) : Prop := b < u.heap.size ∧ u.cell? ⟨b, 0, none⟩ = some x ∧ u.cell? ⟨b, 1, none⟩ = some y ∧ u.frozen? ⟨b, 0, none⟩ = false ∧ u.frozen? ⟨b, 1, none⟩ = false
theorem Box2.grown {u v : World} {b : Nat} {x y : Value} (h : Box2 u b x y) {row : Option Nat} (hg : u.grownBy v row) (hne : some b ≠ row) : Box2 v b x y := by
  have hblk := hg.block b h.1 hne
  exact ⟨Nat.lt_of_lt_of_le h.1 hg.size, hg.cell h.2.1 hne, hg.cell h.2.2.1 hne, (World.frozen?_of_block (w := u) (a := ⟨b, 0, none⟩) hblk).trans h.2.2.2.1, (World.frozen?_of_block (w := u) (a := ⟨b, 1, none⟩) hblk).trans h.2.2.2.2⟩
theorem Box2.below {u v : World} {b : Nat} {x y : Value} (h : Box2 u b x y) (hb : Below u.heap.size u v) : Box2 v b x y := h.grown (fg_below (row := none) hb) (by simp)
theorem Box2.made (w : World) (x y : Value) (t : TypeId) : Box2 (w.alloc (.cells #[x, y] t)) w.heap.size x y :=
  ⟨by rw [World.size_alloc]; omega, World.cell?_alloc_new w #[x, y] t 0, World.cell?_alloc_new w #[x, y] t 1, World.frozen?_alloc_new w #[x, y] t 0, World.frozen?_alloc_new w #[x, y] t 1⟩
theorem w64_bi (x : B) : wrap64 (bi x) = bi x := by have := bi_range x; simp [wrap64]; omega
set_option maxRecDepth 100000 in
set_option maxHeartbeats 1600000 in
theorem implEval_any (a : Option Addr) (n cap : Nat) (zs : List Int) (x : Int) (w : World) (h : IR w a n cap zs) (hn : n ≤ 1048576) :
    Calls Try.prog 22 #[.slice a n cap, .int .i64 x] w fun e w' => e = .returned (.int .i64 (evalI zs x)) ∧ Below w.heap.size w w' := by
  cases hr : rightB zs
  · have HF : Hid (-1 = evalI zs x) := Lib.hid (by unfold evalI; rw [if_neg (by rw [hr]; simp)])
    have H := Lib.hid h
    clear h
    go_enter Try.func22, Try.ntmps22
    go_wp2_with fail
    refine (implPolyRight_any a n cap zs _ H.out hn).mono ?_
    rintro e w1 ⟨rfl, rfl⟩
    rw [hr]
    go_wp2_with fail
    go_ret
    exact ⟨ret_int HF.out, Below.refl _ _⟩
  · cases hb : byteB x
    · have HF : Hid (-1 = evalI zs x) := Lib.hid (by unfold evalI; rw [if_neg (by rw [hb]; simp)])
      have H := Lib.hid h
      clear h
      go_enter Try.func22, Try.ntmps22
      go_wp2_with fail
      refine (implPolyRight_any a n cap zs _ H.out hn).mono ?_
      rintro e w1 ⟨rfl, rfl⟩
      rw [hr]
      go_wp2_with fail
      refine (isByte_any x _).mono ?_
      rintro e w1 ⟨rfl, rfl⟩
      rw [hb]
      go_wp2_with fail
      go_ret
      exact ⟨ret_int HF.out, Below.refl _ _⟩
    · obtain ⟨p, rfl, hp60, hpr⟩ := (rightB_iff zs).1 hr
      obtain ⟨y, rfl⟩ : ∃ y : B, x = bi y := by
        unfold byteB at hb
        have := of_decide_eq_true hb
        exact byte_of this.1 this.2
      have HF : Hid (bi (ev p y) = evalI (pv p) (bi y)) := Lib.hid (evalI_pv hr y).symm
      have hb0 : Below w.heap.size w (w.alloc (Obj.cells Try.zeroCells86 86)) := (Below.refl _ _).alloc (Nat.le_refl _) _
      have HB0 := Lib.hid hb0
      have H := Lib.hid h
      have H1 := Lib.hid (h.below hb0)
      have HT := Lib.hid (trim_of_right hpr)
      have HFN := Lib.hid (fld_new w)
      have hmy := b_mod y
      have hwz := w64_bi (ev p y)
      clear h hb0 hpr
      go_enter Try.func22, Try.ntmps22
      go_wp2_with fail
      refine (implPolyRight_any a n cap (pv p) _ H.out hn).mono ?_
      rintro e w1 ⟨rfl, rfl⟩
      rw [hr]
      go_wp2_with fail
      refine (isByte_any (bi y) _).mono ?_
      rintro e w1 ⟨rfl, rfl⟩
      rw [hb]
      go_wp2_with fail
      refine (bytePolyOf_any w.heap.size a n cap p _ H1.out (by simp) hn).mono ?_
      rintro e w2 ⟨a', k', c', rfl, h2, hb2⟩
      rw [HT.out] at h2
      have hk : k' ≤ 1048576 := by have := h2.len; omega
      have H2 := Lib.hid h2
      have HF2 := Lib.hid (HFN.out.below hb2)
      have HB2 := Lib.hid (HB0.out.trans (hb2.mono (by simp)))
      have HSZ : Hid (w.heap.size < w2.heap.size) := Lib.hid HF2.out.lt
      clear h2 hb2
      unfold pvl
      go_wp2_with fail
      refine (at_any w.heap.size a' k' c' p y _ H2.out HF2.out hk).mono ?_
      rintro e w3 ⟨rfl, hf3⟩
      have HB3 := Lib.hid (HB2.out.grown hf3.grown (Nat.le_of_lt HSZ.out) (fun k e => by cases e; exact Nat.le_refl _))
      clear hf3
      go_wp2_with fail
      go_ret
      exact ⟨ret_int (by rw [w64_bi]; exact HF.out), HB3.out⟩
set_option maxRecDepth 100000 in
set_option maxHeartbeats 1600000 in
theorem implPolyAdd_any (a b : Option Addr) (n m cap cbp : Nat) (zs ys : List Int) (w : World) (h : IR w a n cap zs) (k : IR w b m cbp ys) (hn : n ≤ 1048576) (hm : m ≤ 1048576) :
    Calls Try.prog 9 #[.slice a n cap, .slice b m cbp] w (NewOut (polyAddR zs ys) w) := by
  have hl := h.len
  have hl2 := k.len
  have hb0 : Below w.heap.size w (w.alloc (Obj.cells #[Value.slice none 0 0, Value.int IntKind.i64 0] 27)) := (Below.refl _ _).alloc (Nat.le_refl _) _
  have hpf := pairFault_any a b n m cap cbp zs ys _ (h.below hb0) (k.below hb0) hn hm
  by_cases hsz : 400 < n ∨ 400 < m
  · have HF : Hid (polyAddR zs ys = ([], 2)) := Lib.hid (polyAddR_size (by omega))
    rw [if_pos hsz] at hpf
    have HPF := Lib.hid hpf
    clear h k hpf hsz hb0
    go_enter Try.func9, Try.ntmps9
    go_wp2_with fail
    refine HPF.out.mono ?_
    rintro e w1 ⟨rfl, rfl⟩
    go_wp2_with fail
    exact bodyPost_ret (v := .agg #[.slice none 0 0, .int .i64 2]) (by simp [results, Try.results9, go_sem]) rfl (ret_out HF.out (World.ownsRow_nil _ _ _ _) ((Below.refl _ _).alloc (Nat.le_refl _) _))
  · by_cases hr : rightB zs = true ∧ rightB ys = true
    · obtain ⟨p, rfl, hp60, hpr⟩ := (rightB_iff zs).1 hr.1
      obtain ⟨q, rfl, hq60, hqr⟩ := (rightB_iff ys).1 hr.2
      rw [pv_length] at hl hl2
      have HF : Hid (polyAddR (pv p) (pv q) = told (trim (addP p q))) := Lib.hid (polyAddR_pv (by rw [pv_length, pv_length]; omega) hr.1 hr.2)
      rw [if_neg hsz, if_pos hr] at hpf
      have HPF := Lib.hid hpf
      have hs1 : (w.alloc (Obj.cells #[Value.slice none 0 0, Value.int IntKind.i64 0] 27)).heap.size = w.heap.size + 1 := World.size_alloc _ _
      have hbx := Box2.made w (.slice none 0 0) (.int .i64 0) 27
      have hfn := fld_new (w.alloc (Obj.cells #[Value.slice none 0 0, Value.int IntKind.i64 0] 27))
      have hga := World.grownBy_alloc (w.alloc (Obj.cells #[Value.slice none 0 0, Value.int IntKind.i64 0] 27)) (Obj.cells Try.zeroCells86 86) none
      have hb1 := hb0.alloc (by rw [hs1]; omega) (Obj.cells Try.zeroCells86 86)
      have HB1 := Lib.hid hb1
      have HP1 := Lib.hid (h.below hb1)
      have HQ1 := Lib.hid (k.below hb1)
      have HBX := Lib.hid (hbx.grown hga (by simp))
      rw [hs1] at hfn
      have HFN := Lib.hid hfn
      have HTP := Lib.hid (trim_of_right hpr)
      have HTQ := Lib.hid (trim_of_right hqr)
      clear h k hpf hsz hb0 hb1 hbx hga hfn hr hpr hqr
      go_enter Try.func9, Try.ntmps9
      go_wp2_with fail
      refine HPF.out.mono ?_
      rintro e w1 ⟨rfl, rfl⟩
      go_wp2_with fail
      generalize (w.alloc (Obj.cells #[Value.slice none 0 0, Value.int IntKind.i64 0] 27)).alloc (Obj.cells Try.zeroCells86 86) = wf at *
      refine (bytePolyOf_any (w.heap.size + 1) a n cap p _ HP1.out HFN.out.lt hn).mono ?_
      rintro e w2 ⟨a2, k2, c2, rfl, h2, hb2⟩
      rw [HTP.out] at h2
      have HQ2 := Lib.hid (HQ1.out.below hb2)
      have HF2 := Lib.hid (HFN.out.below hb2)
      have HBX2 := Lib.hid (HBX.out.below hb2)
      have HB2 := Lib.hid (HB1.out.trans (hb2.mono HB1.out.size))
      have H2 := Lib.hid h2
      clear h2 hb2
      go_wp2_with fail
      refine (bytePolyOf_any (w.heap.size + 1) b m cbp q _ HQ2.out HF2.out.lt hm).mono ?_
      rintro e w3 ⟨a3, k3, c3, rfl, h3, hb3⟩
      rw [HTQ.out] at h3
      have H23 := Lib.hid (H2.out.below hb3)
      have HF3 := Lib.hid (HF2.out.below hb3)
      have HBX3 := Lib.hid (HBX2.out.below hb3)
      have HB3 := Lib.hid (HB2.out.trans (hb3.mono HB2.out.size))
      have H3 := Lib.hid h3
      clear h3 hb3
      have hk2 : k2 ≤ 524288 := by have := H23.out.len; omega
      have hk3 : k3 ≤ 524288 := by have := H3.out.len; omega
      go_wp2_with fail
      refine (plus_any (w.heap.size + 1) a2 a3 k2 k3 c2 c3 p q _ H23.out H3.out HF3.out hk2 hk3).mono ?_
      rintro e w4 ⟨a4, k4, c4, rfl, h4, hf4⟩
      have HBX4 := Lib.hid (HBX3.out.grown hf4.grown (by simp))
      have HB4 := Lib.hid (HB3.out.grown hf4.grown HB3.out.size (fun k e => by cases e; omega))
      have H4 := Lib.hid h4
      have hk4 : k4 ≤ 1048576 := by
        have h5 := h4.len
        have h6 := length_trim (addP p q)
        have h7 := length_addP p q
        omega
      clear h4 hf4
      go_wp2_with fail
      refine (polyOut_any (w.heap.size + 1) a4 k4 c4 _ _ H4.out hk4).mono ?_
      rintro e w5 ⟨a5, k5, c5, rfl, ho, hb5⟩
      rw [← HF.out] at ho
      rw [← HF.out]
      unfold polyV
      obtain ⟨hsz5, hc0, hc1, hz0, hz1⟩ := HBX4.out.below hb5
      have hsl : w.heap.size < w4.heap.size := HBX4.out.1
      have hne5 : ∀ g, (Value.slice a5 k5 c5).ownBlock = some g → g ≠ w.heap.size := fun g hg => by have := (ho.lt g hg).1; omega
      have HO := Lib.hid (own_mono (own_other (own_other ho hne5 ⟨w.heap.size, 0, none⟩ (.slice a5 k5 c5) rfl) hne5 ⟨w.heap.size, 1, none⟩ (.int .i64 (polyAddR (pv p) (pv q)).2) rfl) (Nat.le_of_lt hsl))
      have HB5 := Lib.hid (((HB4.out.trans (hb5.mono HB4.out.size)).setCell (p := ⟨w.heap.size, 0, none⟩) (Nat.le_refl _) (.slice a5 k5 c5)).setCell (p := ⟨w.heap.size, 1, none⟩) (Nat.le_refl _) (.int .i64 (polyAddR (pv p) (pv q)).2))
      obtain ⟨hr0, hr1⟩ := box_put (x := .slice a5 k5 c5) (y := .int .i64 (polyAddR (pv p) (pv q)).2) hc0 hc1
      have HR := Lib.hid (And.intro hr0 hr1)
      have HRR : Hid (polyAddR (pv p) (pv q) = ((polyAddR (pv p) (pv q)).1, (polyAddR (pv p) (pv q)).2)) := Lib.hid rfl
      clear ho hb5 hne5 hr0 hr1
      generalize (polyAddR (pv p) (pv q)).2 = rc at *
      go_wp2_with fail
      obtain ⟨hr0, hr1⟩ := HR.out
      exact bodyPost_ret (v := .agg #[.slice a5 k5 c5, .int .i64 rc]) (by simp [results, Try.results9, go_sem, hr0, hr1]) rfl (ret_out HRR.out HO.out HB5.out)
    · have HF : Hid (polyAddR zs ys = ([], 1)) := Lib.hid (polyAddR_form (by omega) hr)
      rw [if_neg hsz, if_neg hr] at hpf
      have HPF := Lib.hid hpf
      clear h k hpf hsz hb0 hr
      go_enter Try.func9, Try.ntmps9
      go_wp2_with fail
      refine HPF.out.mono ?_
      rintro e w1 ⟨rfl, rfl⟩
      go_wp2_with fail
      exact bodyPost_ret (v := .agg #[.slice none 0 0, .int .i64 1]) (by simp [results, Try.results9, go_sem]) rfl (ret_out HF.out (World.ownsRow_nil _ _ _ _) ((Below.refl _ _).alloc (Nat.le_refl _) _))
set_option maxRecDepth 100000 in
set_option maxHeartbeats 1600000 in
theorem implPolyMul_any (a b : Option Addr) (n m cap cbp : Nat) (zs ys : List Int) (w : World) (h : IR w a n cap zs) (k : IR w b m cbp ys) (hn : n ≤ 1048576) (hm : m ≤ 1048576) :
    Calls Try.prog 10 #[.slice a n cap, .slice b m cbp] w (NewOut (polyMulR zs ys) w) := by
  have hl := h.len
  have hl2 := k.len
  have hb0 : Below w.heap.size w (w.alloc (Obj.cells #[Value.slice none 0 0, Value.int IntKind.i64 0] 27)) := (Below.refl _ _).alloc (Nat.le_refl _) _
  have hpf := pairFault_any a b n m cap cbp zs ys _ (h.below hb0) (k.below hb0) hn hm
  by_cases hsz : 400 < n ∨ 400 < m
  · have HF : Hid (polyMulR zs ys = ([], 2)) := Lib.hid (polyMulR_size (by omega))
    rw [if_pos hsz] at hpf
    have HPF := Lib.hid hpf
    clear h k hpf hsz hb0
    go_enter Try.func10, Try.ntmps10
    go_wp2_with fail
    refine HPF.out.mono ?_
    rintro e w1 ⟨rfl, rfl⟩
    go_wp2_with fail
    exact bodyPost_ret (v := .agg #[.slice none 0 0, .int .i64 2]) (by simp [results, Try.results10, go_sem]) rfl (ret_out HF.out (World.ownsRow_nil _ _ _ _) ((Below.refl _ _).alloc (Nat.le_refl _) _))
  · by_cases hr : rightB zs = true ∧ rightB ys = true
    · obtain ⟨p, rfl, hp60, hpr⟩ := (rightB_iff zs).1 hr.1
      obtain ⟨q, rfl, hq60, hqr⟩ := (rightB_iff ys).1 hr.2
      rw [pv_length] at hl hl2
      have HF : Hid (polyMulR (pv p) (pv q) = told (trim (mulP p q))) := Lib.hid (polyMulR_pv (by rw [pv_length, pv_length]; omega) hr.1 hr.2)
      rw [if_neg hsz, if_pos hr] at hpf
      have HPF := Lib.hid hpf
      have hs1 : (w.alloc (Obj.cells #[Value.slice none 0 0, Value.int IntKind.i64 0] 27)).heap.size = w.heap.size + 1 := World.size_alloc _ _
      have hbx := Box2.made w (.slice none 0 0) (.int .i64 0) 27
      have hfn := fld_new (w.alloc (Obj.cells #[Value.slice none 0 0, Value.int IntKind.i64 0] 27))
      have hga := World.grownBy_alloc (w.alloc (Obj.cells #[Value.slice none 0 0, Value.int IntKind.i64 0] 27)) (Obj.cells Try.zeroCells86 86) none
      have hb1 := hb0.alloc (by rw [hs1]; omega) (Obj.cells Try.zeroCells86 86)
      have HB1 := Lib.hid hb1
      have HP1 := Lib.hid (h.below hb1)
      have HQ1 := Lib.hid (k.below hb1)
      have HBX := Lib.hid (hbx.grown hga (by simp))
      rw [hs1] at hfn
      have HFN := Lib.hid hfn
      have HTP := Lib.hid (trim_of_right hpr)
      have HTQ := Lib.hid (trim_of_right hqr)
      clear h k hpf hsz hb0 hb1 hbx hga hfn hr hpr hqr
      go_enter Try.func10, Try.ntmps10
      go_wp2_with fail
      refine HPF.out.mono ?_
      rintro e w1 ⟨rfl, rfl⟩
      go_wp2_with fail
      generalize (w.alloc (Obj.cells #[Value.slice none 0 0, Value.int IntKind.i64 0] 27)).alloc (Obj.cells Try.zeroCells86 86) = wf at *
      refine (bytePolyOf_any (w.heap.size + 1) a n cap p _ HP1.out HFN.out.lt hn).mono ?_
      rintro e w2 ⟨a2, k2, c2, rfl, h2, hb2⟩
      rw [HTP.out] at h2
      have HQ2 := Lib.hid (HQ1.out.below hb2)
      have HF2 := Lib.hid (HFN.out.below hb2)
      have HBX2 := Lib.hid (HBX.out.below hb2)
      have HB2 := Lib.hid (HB1.out.trans (hb2.mono HB1.out.size))
      have H2 := Lib.hid h2
      clear h2 hb2
      go_wp2_with fail
      refine (bytePolyOf_any (w.heap.size + 1) b m cbp q _ HQ2.out HF2.out.lt hm).mono ?_
      rintro e w3 ⟨a3, k3, c3, rfl, h3, hb3⟩
      rw [HTQ.out] at h3
      have H23 := Lib.hid (H2.out.below hb3)
      have HF3 := Lib.hid (HF2.out.below hb3)
      have HBX3 := Lib.hid (HBX2.out.below hb3)
      have HB3 := Lib.hid (HB2.out.trans (hb3.mono HB2.out.size))
      have H3 := Lib.hid h3
      clear h3 hb3
      have hk2 : k2 ≤ 524288 := by have := H23.out.len; omega
      have hk3 : k3 ≤ 524288 := by have := H3.out.len; omega
      go_wp2_with fail
      refine (ptimes_any (w.heap.size + 1) a2 a3 k2 k3 c2 c3 p q _ H23.out H3.out HF3.out hk2 hk3).mono ?_
      rintro e w4 ⟨a4, k4, c4, rfl, h4, hf4⟩
      have HBX4 := Lib.hid (HBX3.out.grown hf4.grown (by simp))
      have HB4 := Lib.hid (HB3.out.grown hf4.grown HB3.out.size (fun k e => by cases e; omega))
      have H4 := Lib.hid h4
      have hk4 : k4 ≤ 1048576 := by
        have h5 := h4.len
        have h6 := length_trim (mulP p q)
        have h7 := length_mulP p q
        omega
      clear h4 hf4
      go_wp2_with fail
      refine (polyOut_any (w.heap.size + 1) a4 k4 c4 _ _ H4.out hk4).mono ?_
      rintro e w5 ⟨a5, k5, c5, rfl, ho, hb5⟩
      rw [← HF.out] at ho
      rw [← HF.out]
      unfold polyV
      obtain ⟨hsz5, hc0, hc1, hz0, hz1⟩ := HBX4.out.below hb5
      have hsl : w.heap.size < w4.heap.size := HBX4.out.1
      have hne5 : ∀ g, (Value.slice a5 k5 c5).ownBlock = some g → g ≠ w.heap.size := fun g hg => by have := (ho.lt g hg).1; omega
      have HO := Lib.hid (own_mono (own_other (own_other ho hne5 ⟨w.heap.size, 0, none⟩ (.slice a5 k5 c5) rfl) hne5 ⟨w.heap.size, 1, none⟩ (.int .i64 (polyMulR (pv p) (pv q)).2) rfl) (Nat.le_of_lt hsl))
      have HB5 := Lib.hid (((HB4.out.trans (hb5.mono HB4.out.size)).setCell (p := ⟨w.heap.size, 0, none⟩) (Nat.le_refl _) (.slice a5 k5 c5)).setCell (p := ⟨w.heap.size, 1, none⟩) (Nat.le_refl _) (.int .i64 (polyMulR (pv p) (pv q)).2))
      obtain ⟨hr0, hr1⟩ := box_put (x := .slice a5 k5 c5) (y := .int .i64 (polyMulR (pv p) (pv q)).2) hc0 hc1
      have HR := Lib.hid (And.intro hr0 hr1)
      have HRR : Hid (polyMulR (pv p) (pv q) = ((polyMulR (pv p) (pv q)).1, (polyMulR (pv p) (pv q)).2)) := Lib.hid rfl
      clear ho hb5 hne5 hr0 hr1
      generalize (polyMulR (pv p) (pv q)).2 = rc at *
      go_wp2_with fail
      obtain ⟨hr0, hr1⟩ := HR.out
      exact bodyPost_ret (v := .agg #[.slice a5 k5 c5, .int .i64 rc]) (by simp [results, Try.results10, go_sem, hr0, hr1]) rfl (ret_out HRR.out HO.out HB5.out)
    · have HF : Hid (polyMulR zs ys = ([], 1)) := Lib.hid (polyMulR_form (by omega) hr)
      rw [if_neg hsz, if_neg hr] at hpf
      have HPF := Lib.hid hpf
      clear h k hpf hsz hb0 hr
      go_enter Try.func10, Try.ntmps10
      go_wp2_with fail
      refine HPF.out.mono ?_
      rintro e w1 ⟨rfl, rfl⟩
      go_wp2_with fail
      exact bodyPost_ret (v := .agg #[.slice none 0 0, .int .i64 1]) (by simp [results, Try.results10, go_sem]) rfl (ret_out HF.out (World.ownsRow_nil _ _ _ _) ((Below.refl _ _).alloc (Nat.le_refl _) _))
end Go.Proofs.Ytnlmbcdaolccbaa
