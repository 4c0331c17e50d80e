/- What the model's functions on polynomials answer. -/
import Derived.Test.YtfplfkebamgniaaSField2
import Derived.Test.YtfplfkebamgniaaHPoly
import Derived.StillTailTactics
namespace Go.Proofs.Ytfplfkebamgniaa
open Go.RowKit Go.PlainAid G MGF IRow
set_option linter.unusedVariables false
set_option maxRecDepth 100000 in
theorem specPolyRight_any (a : Option Addr) (n cap : Nat) (zs : List Int) (w : World) (h : IR w a n cap zs) (hn : n ≤ 1048576) :
    Calls Try.prog 48 #[.slice a n cap] w fun e w' => e = .returned (.bool (rightB zs)) ∧ w = w' := by
  have hl := h.len
  go_enter Try.func48, Try.ntmps48
  go_wp2_with fail
  go_loop [3] (fun i => ∃ j : Nat, j ≤ n ∧ j ≤ 61 ∧ i = .int .i64 j ∧ ∀ t, t < j → byteB (zs.getD t 0) = true) (fun i => n - (intOf i).toNat)
  case atStart => exact ⟨0, Nat.zero_le _, by omega, rfl, fun t ht => by omega⟩
  case round =>
    obtain ⟨j, hj, hj61, rfl, hby⟩ := hrel
    have HBY := Lib.hid hby
    clear hby
    by_cases hlt : j < n
    · by_cases h60 : j ≤ 60
      · obtain ⟨g, o, rfl, hg, hc⟩ := h.cells (by omega)
        have hck := hc j hlt
        have HG : Hid (byteB (zs.getD j 0) = true → ∀ t, t < j + 1 → byteB (zs.getD t 0) = true) := Lib.hid (fun h2 t ht => by
          by_cases htj : t = j
          · subst htj; exact h2
          · exact HBY.out t (by omega))
        have HN : Hid (byteB (zs.getD j 0) = false → false = rightB zs) := Lib.hid (fun h2 => by
          unfold rightB
          have : zs.all byteB = false := by
            rw [List.all_eq_false]
            exact ⟨zs.getD j 0, by rw [List.getD_eq_getElem?_getD, List.getElem?_eq_getElem (by omega)]; exact List.getElem_mem _, by rw [h2]; exact Bool.false_ne_true⟩
          rw [this]
          simp)
        generalize zs.getD j 0 = z at *
        clear hc h
        go_wp2_with fail
        refine (l02Byte_any z _).mono ?_
        rintro e w1 ⟨rfl, rfl⟩
        cases hb : byteB z
        · have HF := Lib.hid (HN.out hb)
          go_wp2_with fail
          go_ret
          exact ⟨ret_bool HF.out, rfl⟩
        · have HF := Lib.hid (HG.out hb)
          go_wp2_with fail
          go_round
          case rel => exact ⟨j + 1, by omega, by omega, by go_num, HF.out⟩
          case measure => simp [intOf]; omega
      · have HF : Hid (false = rightB zs) := Lib.hid (by unfold rightB; rw [decide_eq_false (by omega), Bool.false_and])
        clear h
        go_wp2_with fail
        go_ret
        exact ⟨ret_bool HF.out, rfl⟩
    · obtain rfl : j = n := by omega
      have hall : zs.all byteB = true := by
        rw [List.all_eq_true]
        intro z hz
        obtain ⟨t, ht, rfl⟩ := List.getElem_of_mem hz
        have := HBY.out t (by omega)
        rwa [List.getD_eq_getElem?_getD, List.getElem?_eq_getElem ht] at this
      by_cases h60 : j ≤ 60
      · by_cases h0 : j = 0
        · have HF : Hid (true = rightB zs) := Lib.hid (by unfold rightB; rw [decide_eq_true (by omega), hall, decide_eq_true (by omega)]; rfl)
          subst h0
          clear h hall
          go_wp2_with fail
          go_ret
          exact ⟨ret_bool HF.out, rfl⟩
        · obtain ⟨g, o, rfl, hg, hc⟩ := h.cells (by omega)
          have hck := hc (j - 1) (by omega)
          have HF : Hid ((!(zs.getD (j - 1) 0 == 0)) = rightB zs) := Lib.hid (by unfold rightB; rw [decide_eq_true (by omega), hall, decide_eq_false (by omega), hl]; rfl)
          have hw : IntKind.i64.wrap ((j : Int) - 1) = ((j - 1 : Nat) : Int) := by rw [IntWalk.i64_in _ (by omega)]; omega
          have hjj : (j - 1 : Nat) < j := by omega
          have hsub : (j : Int) - 1 = ((j - 1 : Nat) : Int) := by omega
          have hj0 : ((j : Int) == 0) = false := by rw [beq_eq_false_iff_ne]; omega
          generalize zs.getD (j - 1) 0 = z at *
          clear h hc hall
          go_wp2_with fail
          go_ret
          exact ⟨ret_bool (by rw [← HF.out]; first | rfl | (rw [hj0]; rfl)), rfl⟩
      · have HF : Hid (false = rightB zs) := Lib.hid (by unfold rightB; rw [decide_eq_false (by omega), Bool.false_and])
        clear h hall
        go_wp2_with fail
        go_ret
        exact ⟨ret_bool HF.out, rfl⟩
set_option maxRecDepth 100000 in
theorem l03Trim_any (a : Option Addr) (n cap : Nat) (p : List B) (w : World) (h : IR w a n cap (pv p)) (hn : n ≤ 1048576) :
    Calls Try.prog 106 #[.slice a n cap] w fun e w' => ∃ a' k c', e = .returned (.slice a' k c') ∧ w'.ownsRow w.heap.size 2 1 (.slice a' k c') k ((pv (trim p)).map (Value.int .i64)) ∧ Below w.heap.size w w' := by
  have hl : p.length = n := by have := h.len; rwa [pv_length] at this
  obtain ⟨i0, hi, hz0, hz1, hz2⟩ := info_parts infoI64
  go_enter Try.func106, Try.ntmps106
  go_wp2_with fail
  go_loop [3] (fun i => ∃ j : Nat, j ≤ n ∧ i = .int .i64 j ∧ ∀ t, j ≤ t → cf p t = 0) (fun i => (intOf i).toNat)
  case atStart => exact ⟨n, Nat.le_refl _, rfl, fun t ht => cf_past (by omega)⟩
  case round =>
    obtain ⟨j, hj, rfl, hby⟩ := hrel
    have HBY := Lib.hid hby
    clear hby
    by_cases h0 : j = 0
    · subst h0
      have ht := trim_take (p := p) (j := 0) (Nat.zero_le _) HBY.out (Or.inl rfl)
      have hr := h.take (Nat.zero_le n)
      rw [pv_take, ← ht] at hr
      have HR := Lib.hid hr
      have hnil := h.nil
      clear ht hr
      cases a with
      | none =>
        obtain rfl := hnil rfl
        obtain rfl : n = 0 := by have := h.le; omega
        clear h hnil
        go_wp2_with (at_builtin; refine append_ints rfl (.tmp 18) (.tmp 21) 30 rfl 2 i0 Try.underlying30 hi hz0 hz1 hz2 w.heap.size _ 0 [] rfl (own_empty (Nat.le_refl _)) _ _ _ _ rfl (HR.out.below ((Below.refl _ _).alloc (Nat.le_refl _) _)) (by omega) (by simp) ?_; intro v' w5 ho hg5; have HB5 : Hid (Below w.heap.size w w5) := (((Below.refl _ w).alloc (Nat.le_refl _) _).grown hg5 (by simp) (fun k hk => by cases hk; exact Nat.le_refl _)); clear hg5; rw [Nat.zero_add, List.nil_append] at ho; obtain ⟨a', c', rfl⟩ := own_shape ho; have HO := Lib.hid ho; clear ho)
        go_ret
        exact ⟨_, _, _, rfl, HO.out, HB5.out⟩
      | some ad =>
        clear h hnil
        go_wp2_with (at_builtin; refine append_ints rfl (.tmp 18) (.tmp 21) 30 rfl 2 i0 Try.underlying30 hi hz0 hz1 hz2 w.heap.size _ 0 [] rfl (own_empty (Nat.le_refl _)) _ _ _ _ rfl (HR.out.below ((Below.refl _ _).alloc (Nat.le_refl _) _)) (by omega) (by simp) ?_; intro v' w5 ho hg5; have HB5 : Hid (Below w.heap.size w w5) := (((Below.refl _ w).alloc (Nat.le_refl _) _).grown hg5 (by simp) (fun k hk => by cases hk; exact Nat.le_refl _)); clear hg5; rw [Nat.zero_add, List.nil_append] at ho; obtain ⟨a', c', rfl⟩ := own_shape ho; have HO := Lib.hid ho; clear ho)
        go_ret
        exact ⟨_, _, _, rfl, HO.out, HB5.out⟩
    · obtain ⟨g, o, rfl, hg, hc⟩ := h.cells (by omega)
      have hck := hc (j - 1) (by omega)
      rw [pv_getD] at hck
      have hbz := bi_zero_iff (cf p (j - 1))
      have hsub : (j : Int) - 1 = ((j - 1 : Nat) : Int) := by omega
      have hw : IntKind.i64.wrap ((j : Int) - 1) = ((j - 1 : Nat) : Int) := by rw [IntWalk.i64_in _ (by omega)]; omega
      by_cases hx : cf p (j - 1) = 0
      · have hxb : (bi (cf p (j - 1)) == 0) = true := by rw [hbz]; exact decide_eq_true hx
        have HN : Hid (∀ t, j - 1 ≤ t → cf p t = 0) := Lib.hid (fun t ht => by
          by_cases htj : t = j - 1
          · rw [htj]; exact hx
          · exact HBY.out t (by omega))
        generalize bi (cf p (j - 1)) = z at *
        clear hc h hbz hx
        go_wp2_with fail
        go_round
        case rel => exact ⟨j - 1, by omega, rfl, HN.out⟩
        case measure => simp [intOf]; omega
      · have hxb : (bi (cf p (j - 1)) == 0) = false := by rw [hbz]; exact decide_eq_false hx
        have ht := trim_take (p := p) (j := j) (by omega) HBY.out (Or.inr hx)
        have hr := h.take hj
        rw [pv_take, ← ht] at hr
        have HR := Lib.hid hr
        generalize bi (cf p (j - 1)) = z at *
        have hle := h.le
        clear hc h hbz hx ht hr
        go_wp2_with (at_builtin; refine append_ints rfl (.tmp 18) (.tmp 21) 30 rfl 2 i0 Try.underlying30 hi hz0 hz1 hz2 w.heap.size _ 0 [] rfl (own_empty (Nat.le_refl _)) _ _ _ _ rfl (HR.out.below ((Below.refl _ _).alloc (Nat.le_refl _) _)) (by omega) (by simp) ?_; intro v' w5 ho hg5; have HB5 : Hid (Below w.heap.size w w5) := (((Below.refl _ w).alloc (Nat.le_refl _) _).grown hg5 (by simp) (fun k hk => by cases hk; exact Nat.le_refl _)); clear hg5; rw [Nat.zero_add, List.nil_append] at ho; obtain ⟨a', c', rfl⟩ := own_shape ho; have HO := Lib.hid ho; clear ho)
        go_ret
        exact ⟨_, _, _, rfl, HO.out, HB5.out⟩
set_option maxRecDepth 100000 in
theorem l01Max_any (a b : Int) (w : World) :
    Calls Try.prog 105 #[.int .i64 a, .int .i64 b] w fun e w' => e = .returned (.int .i64 (max a b)) ∧ w = w' := by
  by_cases h : b < a
  · go_enter Try.func105, Try.ntmps105
    go_wp2_with fail
    go_ret
    exact ⟨ret_int (by omega), rfl⟩
  · go_enter Try.func105, Try.ntmps105
    go_wp2_with fail
    go_ret
    exact ⟨ret_int (by omega), rfl⟩
/-- A polynomial in new memory. -/
def NewPoly (p : List B) (w : World) (e : Ending) (w' : World) : Prop :=
  ∃ a k c, e = .returned (.slice a k c) ∧ w'.ownsRow w.heap.size 2 1 (.slice a k c) k ((pv p).map (Value.int .i64)) ∧ Below w.heap.size w w'
set_option maxRecDepth 100000 in
theorem l03Add_any (a b : Option Addr) (n m cap cbp : Nat) (p q : List B) (w : World) (h : IR w a n cap (pv p)) (k : IR w b m cbp (pv q)) (hn : n ≤ 524288) (hm : m ≤ 524288) :
    Calls Try.prog 88 #[.slice a n cap, .slice b m cbp] w (NewPoly (trim (addP p q)) w) := by
  have hl : p.length = n := by have := h.len; rwa [pv_length] at this
  have hl2 : q.length = m := by have := k.len; rwa [pv_length] at this
  obtain ⟨i0, hi, hz0, hz1, hz2⟩ := info_parts infoI64
  obtain ⟨L, hL⟩ : ∃ L, L = max n m := ⟨_, rfl⟩
  have hLi : max (n : Int) (m : Int) = (L : Int) := by omega
  have hnL : n ≤ L := by omega
  have hmL : m ≤ L := by omega
  have hLs : L ≤ 524288 := by omega
  have HL := Lib.hid hL
  have HLI : Hid (((max n m : Nat) : Int) = (L : Int)) := Lib.hid (by omega)
  clear hL
  go_enter Try.func88, Try.ntmps88
  go_wp2_with fail
  refine (l01Max_any n m _).mono ?_
  rintro e w1 ⟨rfl, rfl⟩
  rw [hLi]
  clear hLi
  go_wp2_with (at_make; refine wpList_make_full _ rfl (.tmp 12) (.tmp 12) 30 rfl w.heap.size 2 i0 (.int .i64 0) 1 Try.underlying30 hi hz0 hz1 .i64 .i64 _ _ L rfl rfl (by first | rfl | exact HLI.out | omega) (by first | rfl | exact HLI.out | omega) (by rw [hz2]; omega) (by unfold maxLen; omega) (Nat.le_refl _) ?_; intro w4 hown4 hg4; rw [madeZero, fl_zero] at hown4)
  have HB4 : Hid (Below w.heap.size w w4) := Lib.hid ((Below.refl _ w).grown hg4 (Nat.le_refl _) (fun k hk => by cases hk))
  clear hg4
  go_loopw [6] (fun i wr => ∃ k : Nat, k ≤ n ∧ i = .int .i64 k ∧ wr.ownsRow w.heap.size 2 1 (.slice (some ⟨w.heap.size, 0, none⟩) L L) L ((fl (fun t => if t < k then bi (cf p t) else 0) L).map (Value.int .i64)) ∧ Below w.heap.size w wr) (fun i _ => n - (intOf i).toNat)
  case atStart => exact ⟨0, Nat.zero_le _, rfl, by simpa using hown4, HB4.out⟩
  case round =>
    obtain ⟨j, hj, rfl, hown, hB⟩ := hrel
    by_cases hlt : j < n
    · obtain ⟨g, o, rfl, hg, hc⟩ := h.cells (by omega)
      have hck := (hB.cell (p := ⟨g, o + j, none⟩) hg).trans (hc j hlt)
      rw [pv_getD] at hck
      have hjL : j < L := by omega
      have hoc := own_cell hown hjL
      have hof := hown.frozenAt j
      have hs := own_stored hown j (bi (cf p j))
      rw [fl_set, fl_congr (g := fun t => if t < j + 1 then bi (cf p t) else 0) (fun i _ => by
        by_cases h1 : i = j
        · subst h1; simp
        · rw [if_neg h1]
          by_cases h2 : i < j
          · rw [if_pos h2, if_pos (by omega)]
          · rw [if_neg h2, if_neg (by omega)])] at hs
      have hb := hB.setCell (Nat.le_refl _) (p := ⟨w.heap.size, j, none⟩) (.int .i64 (bi (cf p j)))
      have HS := Lib.hid hs
      have HB := Lib.hid hb
      generalize bi (cf p j) = z at *
      clear hown hB hs hb hc
      go_wp2_with fail
      go_roundw
      case rel => exact ⟨j + 1, by omega, by go_num, HS.out, HB.out⟩
      case measure => simp [intOf]; omega
    · obtain rfl : j = n := by omega
      rw [fl_congr (g := fun t => bi (if t < 0 then cf p t ^^^ cf q t else cf p t)) (fun i _ => by
        rw [if_neg (Nat.not_lt_zero i)]
        by_cases h2 : i < j
        · rw [if_pos h2]
        · rw [if_neg h2, cf_past (by omega)]; rfl)] at hown
      have HO := Lib.hid hown
      have HB := Lib.hid hB
      clear hown hB h hown4
      go_wp2_with fail
      go_loopw [7] (fun i wr => ∃ k : Nat, k ≤ m ∧ i = .int .i64 k ∧ wr.ownsRow w.heap.size 2 1 (.slice (some ⟨w.heap.size, 0, none⟩) L L) L ((fl (fun t => bi (if t < k then cf p t ^^^ cf q t else cf p t)) L).map (Value.int .i64)) ∧ Below w.heap.size w wr) (fun i _ => m - (intOf i).toNat)
      case atStart => exact ⟨0, Nat.zero_le _, rfl, HO.out, HB.out⟩
      case round =>
        obtain ⟨i, hi', rfl, hown, hB⟩ := hrel
        by_cases hlt2 : i < m
        · obtain ⟨g, o, rfl, hg, hc⟩ := k.cells (by omega)
          have hck := (hB.cell (p := ⟨g, o + i, none⟩) hg).trans (hc i hlt2)
          rw [pv_getD] at hck
          have hjL : i < L := by omega
          have hoc := own_cell hown hjL
          rw [fl_getD _ hjL, if_neg (Nat.lt_irrefl i)] at hoc
          have hof := hown.frozenAt i
          have hxx := bi_xor (cf p i) (cf q i)
          have hs := own_stored hown i (bi (cf p i ^^^ cf q i))
          rw [fl_set, fl_congr (g := fun t => bi (if t < i + 1 then cf p t ^^^ cf q t else cf p t)) (fun t _ => by
            by_cases h1 : t = i
            · subst h1; simp
            · rw [if_neg h1]
              by_cases h2 : t < i
              · rw [if_pos h2, if_pos (by omega)]
              · rw [if_neg h2, if_neg (by omega)])] at hs
          have hb := hB.setCell (Nat.le_refl _) (p := ⟨w.heap.size, i, none⟩) (.int .i64 (bi (cf p i ^^^ cf q i)))
          have HS : Hid ((wr.drew.setCell ⟨w.heap.size, i, none⟩ (.int .i64 (bi (cf p i ^^^ cf q i)))).ownsRow w.heap.size 2 1 (.slice (some ⟨w.heap.size, 0, none⟩) L L) L ((fl (fun t => bi (if t < i + 1 then cf p t ^^^ cf q t else cf p t)) L).map (Value.int .i64))) := Lib.hid hs
          have HB2 : Hid (Below w.heap.size w (wr.drew.setCell ⟨w.heap.size, i, none⟩ (.int .i64 (bi (cf p i ^^^ cf q i))))) := Lib.hid (hB.drew.setCell (Nat.le_refl _) _)
          have hoc' : wr.drew.cell? ⟨w.heap.size, i, none⟩ = _ := hoc
          have hof' : wr.drew.frozen? ⟨w.heap.size, i, none⟩ = _ := hof
          generalize bi (cf p i ^^^ cf q i) = z at *
          generalize bi (cf p i) = x at *
          generalize bi (cf q i) = y at *
          clear hown hB hs hb hc
          go_wp2_with fail
          go_still_tail 12, (by kernel_rfl)
          change wpList _ _ _ _ _ wr.drew
          clear hoc hof hck
          generalize wr.drew = we at *
          go_wp2_with fail
          go_roundw
          case rel => exact ⟨i + 1, by omega, by go_num, HS.out, HB2.out⟩
          case measure => simp [intOf]; omega
        · obtain rfl : i = m := by omega
          have hLL : (addP p q).length = L := by rw [length_addP, hl, hl2]; exact HL.out.symm
          have e : fl (fun t => bi (if t < i then cf p t ^^^ cf q t else cf p t)) L = pv (addP p q) := by
            rw [pv_fl, hLL]
            refine fl_congr (fun t _ => ?_)
            rw [cf_addP]
            by_cases h2 : t < i
            · rw [if_pos h2]
            · rw [if_neg h2, cf_past (p := q) (by omega), xor0]
          rw [e] at hown
          have HR := Lib.hid (IR.own hown)
          have HB2 := Lib.hid hB
          clear hown hB
          go_wp2_with fail
          refine (l03Trim_any _ L L (addP p q) _ HR.out (by omega)).mono ?_
          rintro e w6 ⟨a', k', c', rfl, ho6, hb6⟩
          have HO6 := Lib.hid (own_mono ho6 HB2.out.size)
          have HB6 := Lib.hid (HB2.out.trans (hb6.mono HB2.out.size))
          clear ho6 hb6
          go_wp2_with fail
          go_ret
          exact ⟨_, _, _, rfl, HO6.out, HB6.out⟩
end Go.Proofs.Ytfplfkebamgniaa
