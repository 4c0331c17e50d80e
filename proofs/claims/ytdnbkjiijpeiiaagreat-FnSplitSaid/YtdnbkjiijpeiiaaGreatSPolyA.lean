/- What the model's functions on polynomials answer. -/
import Derived.Test.YtdnbkjiijpeiiaaGreatSFieldA
import Derived.Test.YtdnbkjiijpeiiaaGreatHPolyA
import Derived.StillTailTactics
namespace Go.Proofs.YtdnbkjiijpeiiaaGreat
open Go.RowKit Go.PlainAid G MGF IRow
set_option linter.unusedVariables false
set_option maxRecDepth 100000 in
theorem l03Trim_any (a : Option Addr) (n cap : Nat) (p : List B) (w : World) (h : IR w a n cap (pv p)) (hn : n ≤ 1048576) :
    Calls Tryz.prog 45 #[.slice a n cap] w fun e w' => ∃ a' k c', e = .returned (.slice a' k c') ∧ w'.ownsRow w.heap.size 2 1 (.slice a' k c') k ((pv (trim p)).map (Value.int .i64)) ∧ Below w.heap.size w w' := by
  have hl : p.length = n := by have := h.len; rwa [pv_length] at this
  obtain ⟨i0, hi, hz0, hz1, hz2⟩ := info_parts infoI64
  go_enter Tryz.func45, Tryz.ntmps45
  go_wp2_with fail
  go_loop [3] (fun i => ∃ j : Nat, j ≤ n ∧ i = .int .i64 j ∧ ∀ t, j ≤ t → cf p t = 0) (fun i => (intOf i).toNat)
  case atStart => exact ⟨n, Nat.le_refl _, rfl, fun t ht => cf_past (by omega)⟩
  case round =>
    obtain ⟨j, hj, rfl, hby⟩ := hrel
    have HBY := Lib.hid hby
    clear hby
    by_cases h0 : j = 0
    · subst h0
      have ht := trim_take (p := p) (j := 0) (Nat.zero_le _) HBY.out (Or.inl rfl)
      have hr := h.take (Nat.zero_le n)
      rw [pv_take, ← ht] at hr
      have HR := Lib.hid hr
      have hnil := h.nil
      clear ht hr
      cases a with
      | none =>
        obtain rfl := hnil rfl
        obtain rfl : n = 0 := by have := h.le; omega
        clear h hnil
        go_wp2_with (at_builtin; refine append_ints rfl (.tmp 18) (.tmp 21) 30 rfl 2 i0 Tryz.underlying30 hi hz0 hz1 hz2 w.heap.size _ 0 [] rfl (own_empty (Nat.le_refl _)) _ _ _ _ rfl (HR.out.below ((Below.refl _ _).alloc (Nat.le_refl _) _)) (by omega) (by simp) ?_; intro v' w5 ho hg5; have HB5 : Hid (Below w.heap.size w w5) := (((Below.refl _ w).alloc (Nat.le_refl _) _).grown hg5 (by simp) (fun k hk => by cases hk; exact Nat.le_refl _)); clear hg5; rw [Nat.zero_add, List.nil_append] at ho; obtain ⟨a', c', rfl⟩ := own_shape ho; have HO := Lib.hid ho; clear ho)
        go_ret
        exact ⟨_, _, _, rfl, HO.out, HB5.out⟩
      | some ad =>
        clear h hnil
        go_wp2_with (at_builtin; refine append_ints rfl (.tmp 18) (.tmp 21) 30 rfl 2 i0 Tryz.underlying30 hi hz0 hz1 hz2 w.heap.size _ 0 [] rfl (own_empty (Nat.le_refl _)) _ _ _ _ rfl (HR.out.below ((Below.refl _ _).alloc (Nat.le_refl _) _)) (by omega) (by simp) ?_; intro v' w5 ho hg5; have HB5 : Hid (Below w.heap.size w w5) := (((Below.refl _ w).alloc (Nat.le_refl _) _).grown hg5 (by simp) (fun k hk => by cases hk; exact Nat.le_refl _)); clear hg5; rw [Nat.zero_add, List.nil_append] at ho; obtain ⟨a', c', rfl⟩ := own_shape ho; have HO := Lib.hid ho; clear ho)
        go_ret
        exact ⟨_, _, _, rfl, HO.out, HB5.out⟩
    · obtain ⟨g, o, rfl, hg, hc⟩ := h.cells (by omega)
      have hck := hc (j - 1) (by omega)
      rw [pv_getD] at hck
      have hbz := bi_zero_iff (cf p (j - 1))
      have hsub : (j : Int) - 1 = ((j - 1 : Nat) : Int) := by omega
      have hw : IntKind.i64.wrap ((j : Int) - 1) = ((j - 1 : Nat) : Int) := by rw [IntWalk.i64_in _ (by omega)]; omega
      by_cases hx : cf p (j - 1) = 0
      · have hxb : (bi (cf p (j - 1)) == 0) = true := by rw [hbz]; exact decide_eq_true hx
        have HN : Hid (∀ t, j - 1 ≤ t → cf p t = 0) := Lib.hid (fun t ht => by
          by_cases htj : t = j - 1
          · rw [htj]; exact hx
          · exact HBY.out t (by omega))
        generalize bi (cf p (j - 1)) = z at *
        clear hc h hbz hx
        go_wp2_with fail
        go_round
        case rel => exact ⟨j - 1, by omega, rfl, HN.out⟩
        case measure => simp [intOf]; omega
      · have hxb : (bi (cf p (j - 1)) == 0) = false := by rw [hbz]; exact decide_eq_false hx
        have ht := trim_take (p := p) (j := j) (by omega) HBY.out (Or.inr hx)
        have hr := h.take hj
        rw [pv_take, ← ht] at hr
        have HR := Lib.hid hr
        generalize bi (cf p (j - 1)) = z at *
        have hle := h.le
        clear hc h hbz hx ht hr
        go_wp2_with (at_builtin; refine append_ints rfl (.tmp 18) (.tmp 21) 30 rfl 2 i0 Tryz.underlying30 hi hz0 hz1 hz2 w.heap.size _ 0 [] rfl (own_empty (Nat.le_refl _)) _ _ _ _ rfl (HR.out.below ((Below.refl _ _).alloc (Nat.le_refl _) _)) (by omega) (by simp) ?_; intro v' w5 ho hg5; have HB5 : Hid (Below w.heap.size w w5) := (((Below.refl _ w).alloc (Nat.le_refl _) _).grown hg5 (by simp) (fun k hk => by cases hk; exact Nat.le_refl _)); clear hg5; rw [Nat.zero_add, List.nil_append] at ho; obtain ⟨a', c', rfl⟩ := own_shape ho; have HO := Lib.hid ho; clear ho)
        go_ret
        exact ⟨_, _, _, rfl, HO.out, HB5.out⟩
set_option maxRecDepth 100000 in
theorem l01Max_any (a b : Int) (w : World) :
    Calls Tryz.prog 27 #[.int .i64 a, .int .i64 b] w fun e w' => e = .returned (.int .i64 (max a b)) ∧ w = w' := by
  by_cases h : b < a
  · go_enter Tryz.func27, Tryz.ntmps27
    go_wp2_with fail
    go_ret
    exact ⟨ret_int (by omega), rfl⟩
  · go_enter Tryz.func27, Tryz.ntmps27
    go_wp2_with fail
    go_ret
    exact ⟨ret_int (by omega), rfl⟩
/-- A polynomial in new memory. -/
def NewPoly (p : List B) (w : World) (e : Ending) (w' : World) : Prop :=
  ∃ a k c, e = .returned (.slice a k c) ∧ w'.ownsRow w.heap.size 2 1 (.slice a k c) k ((pv p).map (Value.int .i64)) ∧ Below w.heap.size w w'
set_option maxRecDepth 100000 in
theorem l03Add_any (a b : Option Addr) (n m cap cbp : Nat) (p q : List B) (w : World) (h : IR w a n cap (pv p)) (k : IR w b m cbp (pv q)) (hn : n ≤ 524288) (hm : m ≤ 524288) :
    Calls Tryz.prog 43 #[.slice a n cap, .slice b m cbp] w (NewPoly (trim (addP p q)) w) := by
  have hl : p.length = n := by have := h.len; rwa [pv_length] at this
  have hl2 : q.length = m := by have := k.len; rwa [pv_length] at this
  obtain ⟨i0, hi, hz0, hz1, hz2⟩ := info_parts infoI64
  obtain ⟨L, hL⟩ : ∃ L, L = max n m := ⟨_, rfl⟩
  have hLi : max (n : Int) (m : Int) = (L : Int) := by omega
  have hnL : n ≤ L := by omega
  have hmL : m ≤ L := by omega
  have hLs : L ≤ 524288 := by omega
  have HL := Lib.hid hL
  have HLI : Hid (((max n m : Nat) : Int) = (L : Int)) := Lib.hid (by omega)
  clear hL
  go_enter Tryz.func43, Tryz.ntmps43
  go_wp2_with fail
  refine (l01Max_any n m _).mono ?_
  rintro e w1 ⟨rfl, rfl⟩
  rw [hLi]
  clear hLi
  go_wp2_with (at_make; refine wpList_make_full _ rfl (.tmp 12) (.tmp 12) 30 rfl w.heap.size 2 i0 (.int .i64 0) 1 Tryz.underlying30 hi hz0 hz1 .i64 .i64 _ _ L rfl rfl (by first | rfl | exact HLI.out | omega) (by first | rfl | exact HLI.out | omega) (by rw [hz2]; omega) (by unfold maxLen; omega) (Nat.le_refl _) ?_; intro w4 hown4 hg4; rw [madeZero, fl_zero] at hown4)
  have HB4 : Hid (Below w.heap.size w w4) := Lib.hid ((Below.refl _ w).grown hg4 (Nat.le_refl _) (fun k hk => by cases hk))
  clear hg4
  go_loopw [6] (fun i wr => ∃ k : Nat, k ≤ n ∧ i = .int .i64 k ∧ wr.ownsRow w.heap.size 2 1 (.slice (some ⟨w.heap.size, 0, none⟩) L L) L ((fl (fun t => if t < k then bi (cf p t) else 0) L).map (Value.int .i64)) ∧ Below w.heap.size w wr) (fun i _ => n - (intOf i).toNat)
  case atStart => exact ⟨0, Nat.zero_le _, rfl, by simpa using hown4, HB4.out⟩
  case round =>
    obtain ⟨j, hj, rfl, hown, hB⟩ := hrel
    by_cases hlt : j < n
    · obtain ⟨g, o, rfl, hg, hc⟩ := h.cells (by omega)
      have hck := (hB.cell (p := ⟨g, o + j, none⟩) hg).trans (hc j hlt)
      rw [pv_getD] at hck
      have hjL : j < L := by omega
      have hoc := own_cell hown hjL
      have hof := hown.frozenAt j
      have hs := own_stored hown j (bi (cf p j))
      rw [fl_set, fl_congr (g := fun t => if t < j + 1 then bi (cf p t) else 0) (fun i _ => by
        by_cases h1 : i = j
        · subst h1; simp
        · rw [if_neg h1]
          by_cases h2 : i < j
          · rw [if_pos h2, if_pos (by omega)]
          · rw [if_neg h2, if_neg (by omega)])] at hs
      have hb := hB.setCell (Nat.le_refl _) (p := ⟨w.heap.size, j, none⟩) (.int .i64 (bi (cf p j)))
      have HS := Lib.hid hs
      have HB := Lib.hid hb
      generalize bi (cf p j) = z at *
      clear hown hB hs hb hc
      go_wp2_with fail
      go_roundw
      case rel => exact ⟨j + 1, by omega, by go_num, HS.out, HB.out⟩
      case measure => simp [intOf]; omega
    · obtain rfl : j = n := by omega
      rw [fl_congr (g := fun t => bi (if t < 0 then cf p t ^^^ cf q t else cf p t)) (fun i _ => by
        rw [if_neg (Nat.not_lt_zero i)]
        by_cases h2 : i < j
        · rw [if_pos h2]
        · rw [if_neg h2, cf_past (by omega)]; rfl)] at hown
      have HO := Lib.hid hown
      have HB := Lib.hid hB
      clear hown hB h hown4
      go_wp2_with fail
      go_loopw [7] (fun i wr => ∃ k : Nat, k ≤ m ∧ i = .int .i64 k ∧ wr.ownsRow w.heap.size 2 1 (.slice (some ⟨w.heap.size, 0, none⟩) L L) L ((fl (fun t => bi (if t < k then cf p t ^^^ cf q t else cf p t)) L).map (Value.int .i64)) ∧ Below w.heap.size w wr) (fun i _ => m - (intOf i).toNat)
      case atStart => exact ⟨0, Nat.zero_le _, rfl, HO.out, HB.out⟩
      case round =>
        obtain ⟨i, hi', rfl, hown, hB⟩ := hrel
        by_cases hlt2 : i < m
        · obtain ⟨g, o, rfl, hg, hc⟩ := k.cells (by omega)
          have hck := (hB.cell (p := ⟨g, o + i, none⟩) hg).trans (hc i hlt2)
          rw [pv_getD] at hck
          have hjL : i < L := by omega
          have hoc := own_cell hown hjL
          rw [fl_getD _ hjL, if_neg (Nat.lt_irrefl i)] at hoc
          have hof := hown.frozenAt i
          have hxx := bi_xor (cf p i) (cf q i)
          have hs := own_stored hown i (bi (cf p i ^^^ cf q i))
          rw [fl_set, fl_congr (g := fun t => bi (if t < i + 1 then cf p t ^^^ cf q t else cf p t)) (fun t _ => by
            by_cases h1 : t = i
            · subst h1; simp
            · rw [if_neg h1]
              by_cases h2 : t < i
              · rw [if_pos h2, if_pos (by omega)]
              · rw [if_neg h2, if_neg (by omega)])] at hs
          have hb := hB.setCell (Nat.le_refl _) (p := ⟨w.heap.size, i, none⟩) (.int .i64 (bi (cf p i ^^^ cf q i)))
          have HS : Hid ((wr.drew.setCell ⟨w.heap.size, i, none⟩ (.int .i64 (bi (cf p i ^^^ cf q i)))).ownsRow w.heap.size 2 1 (.slice (some ⟨w.heap.size, 0, none⟩) L L) L ((fl (fun t => bi (if t < i + 1 then cf p t ^^^ cf q t else cf p t)) L).map (Value.int .i64))) := Lib.hid hs
          have HB2 : Hid (Below w.heap.size w (wr.drew.setCell ⟨w.heap.size, i, none⟩ (.int .i64 (bi (cf p i ^^^ cf q i))))) := Lib.hid (hB.drew.setCell (Nat.le_refl _) _)
          have hoc' : wr.drew.cell? ⟨w.heap.size, i, none⟩ = _ := hoc
          have hof' : wr.drew.frozen? ⟨w.heap.size, i, none⟩ = _ := hof
          generalize bi (cf p i ^^^ cf q i) = z at *
          generalize bi (cf p i) = x at *
          generalize bi (cf q i) = y at *
          clear hown hB hs hb hc
          go_wp2_with fail
          go_still_tail 12, (by kernel_rfl)
          change wpList _ _ _ _ _ wr.drew
          clear hoc hof hck
          generalize wr.drew = we at *
          go_wp2_with fail
          go_roundw
          case rel => exact ⟨i + 1, by omega, by go_num, HS.out, HB2.out⟩
          case measure => simp [intOf]; omega
        · obtain rfl : i = m := by omega
          have hLL : (addP p q).length = L := by rw [length_addP, hl, hl2]; exact HL.out.symm
          have e : fl (fun t => bi (if t < i then cf p t ^^^ cf q t else cf p t)) L = pv (addP p q) := by
            rw [pv_fl, hLL]
            refine fl_congr (fun t _ => ?_)
            rw [cf_addP]
            by_cases h2 : t < i
            · rw [if_pos h2]
            · rw [if_neg h2, cf_past (p := q) (by omega), xor0]
          rw [e] at hown
          have HR := Lib.hid (IR.own hown)
          have HB2 := Lib.hid hB
          clear hown hB
          go_wp2_with fail
          refine (l03Trim_any _ L L (addP p q) _ HR.out (by omega)).mono ?_
          rintro e w6 ⟨a', k', c', rfl, ho6, hb6⟩
          have HO6 := Lib.hid (own_mono ho6 HB2.out.size)
          have HB6 := Lib.hid (HB2.out.trans (hb6.mono HB2.out.size))
          clear ho6 hb6
          go_wp2_with fail
          go_ret
          exact ⟨_, _, _, rfl, HO6.out, HB6.out⟩
end Go.Proofs.YtdnbkjiijpeiiaaGreat
/- What the model's Eval, PolyAdd and PolyMul answer. -/
namespace Go.Proofs.YtdnbkjiijpeiiaaGreat
open Go.RowKit Go.PlainAid G MGF IRow
set_option linter.unusedVariables false
set_option maxRecDepth 100000 in
theorem l03Eval_any (a : Option Addr) (n cap : Nat) (p : List B) (x : B) (w : World) (h : IR w a n cap (pv p)) (hn : n ≤ 1048576) :
    Calls Tryz.prog 63 #[.slice a n cap, .int .i64 (bi x)] w fun e w' => e = .returned (.int .i64 (bi (ev p x))) ∧ Below w.heap.size w w' := by
  have hl : p.length = n := by have := h.len; rwa [pv_length] at this
  have hw : IntKind.i64.wrap ((n : Int) - 1) = (n : Int) - 1 := by rw [IntWalk.i64_in _ (by omega)]
  go_enter Tryz.func63, Tryz.ntmps63
  go_wp2_with fail
  go_loopw [5, 6] (fun y i wr => ∃ j : Nat, j ≤ n ∧ i = .int .i64 ((j : Int) - 1) ∧ y = .int .i64 (bi (ev (p.drop j) x)) ∧ Below w.heap.size w wr) (fun _ i _ => (intOf i + 1).toNat)
  case atStart => exact ⟨n, Nat.le_refl _, rfl, by rw [List.drop_of_length_le (by omega)]; rfl, Below.refl _ _⟩
  case round =>
    obtain ⟨j, hj, rfl, rfl, hB⟩ := hrel
    by_cases h0 : j = 0
    · subst h0
      have HB := Lib.hid hB
      clear h hB
      go_wp2_with fail
      go_ret
      exact ⟨ret_int (by rw [List.drop_zero]), HB.out⟩
    · obtain ⟨i, rfl⟩ := Nat.exists_eq_succ_of_ne_zero h0
      obtain ⟨g, o, rfl, hg, hc⟩ := h.cells (by omega)
      have hck := (hB.cell (p := ⟨g, o + i, none⟩) hg).trans (hc i (by omega))
      rw [pv_getD] at hck
      have hE := ev_drop (p := p) (j := i) (by omega) x
      have hii : ((i + 1 : Nat) : Int) - 1 = (i : Int) := by omega
      have hcall := (l02MulB_any (ev (p.drop (i + 1)) x) x wr.drew).mono (fun e w' h => (⟨h.1, h.2.symm⟩ : e = Ending.returned (.int .i64 (bi (mul (ev (p.drop (i + 1)) x) x))) ∧ w' = wr.drew))
      have hxx := bi_xor (mul (ev (p.drop (i + 1)) x) x) (cf p i)
      rw [← hE] at hxx
      have HB := Lib.hid hB.drew
      generalize ev (p.drop (i + 1)) x = y at *
      generalize cf p i = z at *
      clear h hB hc hE
      rw [hii]
      have hin : i < n := by omega
      clear hii hw hl
      go_wp2_with fail
      go_still_tail 8, (by kernel_rfl)
      still_call hcall
      repeat still_step
      refine wpStill_nil ?_
      change wpList _ _ _ _ _ wr.drew
      clear hcall hck
      generalize wr.drew = we at *
      go_wp2_with fail
      go_roundw
      case rel => exact ⟨i, by omega, rfl, rfl, HB.out⟩
      case measure => simp [intOf] <;> omega
/-- What Eval answers. -/
def evalI (zs : List Int) (x : Int) : Int := if rightB zs = true ∧ byteB x = true then bi (ev (zs.map ib) (ib x)) else -1
theorem map_ib_pv (p : List B) : (pv p).map ib = p := by
  unfold pv
  rw [List.map_map]
  have : p.map (ib ∘ bi) = p.map id := List.map_congr_left (fun x _ => ib_bi x)
  rw [this, List.map_id]
theorem evalI_pv {p : List B} (h : rightB (pv p) = true) (x : B) : evalI (pv p) (bi x) = bi (ev p x) := by
  unfold evalI
  rw [if_pos ⟨h, byteB_bi x⟩, map_ib_pv, ib_bi]
/-- A polynomial, or a code, in new memory. -/
def NewOut (r : List Int × Int) (w : World) (e : Ending) (w' : World) : Prop :=
  ∃ a k c, e = .returned (polyV (.slice a k c) r.2) ∧ w'.ownsRow w.heap.size 2 1 (.slice a k c) k (r.1.map (Value.int .i64)) ∧ Below w.heap.size w w'
def told (p : List B) : List Int × Int := if 60 < p.length then ([], 9) else (pv p, 0)
theorem ret_out {r : List Int × Int} {zs : List Int} {c : Int} (h : r = (zs, c)) {w w' : World} {a : Option Addr} {k cap : Nat} (ho : w'.ownsRow w.heap.size 2 1 (.slice a k cap) k (zs.map (Value.int .i64))) (hb : Below w.heap.size w w') : NewOut r w (.returned (.agg #[.slice a k cap, .int .i64 c])) w' := by
  subst h
  exact ⟨a, k, cap, rfl, ho, hb⟩
def polyAddR (zs ys : List Int) : List Int × Int := if 400 < zs.length ∨ 400 < ys.length then ([], 2) else if rightB zs = true ∧ rightB ys = true then told (trim (addP (zs.map ib) (ys.map ib))) else ([], 1)
theorem polyAddR_len (zs ys : List Int) : (polyAddR zs ys).1.length ≤ 60 := by
  unfold polyAddR told
  split
  · exact Nat.zero_le _
  · split
    · split
      · exact Nat.zero_le _
      · rw [pv_length]; omega
    · exact Nat.zero_le _
theorem polyAddR_size {zs ys : List Int} (h : 400 < zs.length ∨ 400 < ys.length) : polyAddR zs ys = ([], 2) := by unfold polyAddR; rw [if_pos h]
theorem polyAddR_form {zs ys : List Int} (h : ¬ (400 < zs.length ∨ 400 < ys.length)) (h2 : ¬ (rightB zs = true ∧ rightB ys = true)) : polyAddR zs ys = ([], 1) := by unfold polyAddR; rw [if_neg h, if_neg h2]
theorem polyAddR_pv {p q : List B} (h : ¬ (400 < (pv p).length ∨ 400 < (pv q).length)) (h1 : rightB (pv p) = true) (h2 : rightB (pv q) = true) : polyAddR (pv p) (pv q) = told (trim (addP p q)) := by unfold polyAddR; rw [if_neg h, if_pos ⟨h1, h2⟩, map_ib_pv, map_ib_pv]
end Go.Proofs.YtdnbkjiijpeiiaaGreat
/- What the model's product of polynomials answers. -/
namespace Go.Proofs.YtdnbkjiijpeiiaaGreat
open Go.RowKit Go.PlainAid G MGF IRow
set_option linter.unusedVariables false
set_option maxRecDepth 100000 in
set_option maxHeartbeats 1600000 in
theorem l03Mul_any (a b : Option Addr) (n m cap cbp : Nat) (p q : List B) (w : World) (h : IR w a n cap (pv p)) (h' : IR w b m cbp (pv q)) (hn : n ≤ 524288) (hm : m ≤ 524288) :
    Calls Tryz.prog 44 #[.slice a n cap, .slice b m cbp] w (NewPoly (trim (mulP p q)) w) := by
  have hl : p.length = n := by have := h.len; rwa [pv_length] at this
  have hl2 : q.length = m := by have := h'.len; rwa [pv_length] at this
  obtain ⟨i0, hi, hz0, hz1, hz2⟩ := info_parts infoI64
  by_cases hn0 : n = 0
  · have hp : p = [] := List.eq_nil_of_length_eq_zero (by omega)
    have HT : Hid (trim (mulP p q) = []) := Lib.hid (by rw [hp]; rfl)
    subst hn0
    clear h h' hp
    go_enter Tryz.func44, Tryz.ntmps44
    go_wp2_with fail
    go_ret
    exact ⟨_, _, _, rfl, by rw [HT.out]; exact own_empty (Nat.le_refl _), (Below.refl _ _).alloc (Nat.le_refl _) _⟩
  · by_cases hm0 : m = 0
    · have hq : q = [] := List.eq_nil_of_length_eq_zero (by omega)
      have HT : Hid (trim (mulP p q) = []) := Lib.hid (by rw [hq]; exact trim_mul_nil p)
      subst hm0
      have hnb : ((n : Int) == 0) = false := by rw [beq_eq_false_iff_ne]; omega
      clear h h' hq
      go_enter Tryz.func44, Tryz.ntmps44
      go_wp2_with fail
      go_ret
      exact ⟨_, _, _, rfl, by rw [HT.out]; exact own_empty (Nat.le_refl _), (Below.refl _ _).alloc (Nat.le_refl _) _⟩
    · obtain ⟨g, o, rfl, hg, hc⟩ := h.cells (by omega)
      obtain ⟨g', o', rfl, hg', hc'⟩ := h'.cells (by omega)
      have hnb : ((n : Int) == 0) = false := by rw [beq_eq_false_iff_ne]; omega
      have hmb : ((m : Int) == 0) = false := by rw [beq_eq_false_iff_ne]; omega
      obtain ⟨L, hL⟩ : ∃ L, n + m = L + 1 := ⟨n + m - 1, by omega⟩
      have hLs : L ≤ 1048576 := by omega
      have HLI : Hid ((n : Int) + (m : Int) - 1 = (L : Int)) := Lib.hid (by omega)
      clear h h'
      go_enter Tryz.func44, Tryz.ntmps44
      go_wp2_with (at_make; refine wpList_make_full _ rfl (.tmp 22) (.tmp 22) 30 rfl w.heap.size 2 i0 (.int .i64 0) 1 Tryz.underlying30 hi hz0 hz1 .i64 .i64 _ _ L rfl rfl HLI.out HLI.out (by rw [hz2]; omega) (by unfold maxLen; omega) (Nat.le_refl _) ?_; intro w4 hown4 hg4; rw [madeZero, fl_zero] at hown4)
      have HB4 : Hid (Below w.heap.size w w4) := Lib.hid ((Below.refl _ w).grown hg4 (Nat.le_refl _) (fun k hk => by cases hk))
      clear hg4
      go_loopw [6] (fun i wr => ∃ k : Nat, k ≤ n ∧ i = .int .i64 k ∧ wr.ownsRow w.heap.size 2 1 (.slice (some ⟨w.heap.size, 0, none⟩) L L) L ((fl (fun t => bi (cf (mulP (p.take k) q) t)) L).map (Value.int .i64)) ∧ Below w.heap.size w wr) (fun i _ => n - (intOf i).toNat)
      case atStart => exact ⟨0, Nat.zero_le _, rfl, by rw [List.take_zero, mulP, fl_congr (g := fun _ => 0) (fun i _ => by rw [cf_nil]; rfl)]; exact hown4, HB4.out⟩
      case round =>
        obtain ⟨i, hii, rfl, hown, hB⟩ := hrel
        by_cases hlt : i < n
        · rw [fl_congr (g := fun t => bi (mid p q i 0 t)) (fun t _ => by rw [mid_zero])] at hown
          have HO := Lib.hid hown
          have HB := Lib.hid hB
          clear hown hB hown4
          go_wp2_with fail
          go_loopw [7] (fun v wr => ∃ k : Nat, k ≤ m ∧ v = .int .i64 k ∧ wr.ownsRow w.heap.size 2 1 (.slice (some ⟨w.heap.size, 0, none⟩) L L) L ((fl (fun t => bi (mid p q i k t)) L).map (Value.int .i64)) ∧ Below w.heap.size w wr) (fun v _ => m - (intOf v).toNat)
          case atStart => exact ⟨0, Nat.zero_le _, rfl, HO.out, HB.out⟩
          case round =>
            obtain ⟨k, hk, rfl, hown, hB⟩ := hrel
            by_cases hlt2 : k < m
            · have hck := (hB.cell (p := ⟨g, o + i, none⟩) hg).trans (hc i hlt)
              have hck' := (hB.cell (p := ⟨g', o' + k, none⟩) hg').trans (hc' k hlt2)
              rw [pv_getD] at hck hck'
              have hjL : i + k < L := by omega
              have hoc := own_cell hown hjL
              rw [fl_getD _ hjL] at hoc
              have hof := hown.frozenAt (i + k)
              have hxx := bi_xor (mid p q i k (i + k)) (mul (cf p i) (cf q k))
              have hs := own_stored hown (i + k) (bi (mid p q i k (i + k) ^^^ mul (cf p i) (cf q k)))
              rw [fl_set, fl_congr (g := fun t => bi (mid p q i (k + 1) t)) (fun t _ => by
                rw [← mid_next]
                by_cases h1 : t = i + k
                · rw [if_pos h1, if_pos h1]
                · rw [if_neg h1, if_neg h1])] at hs
              have hcall := (l02MulB_any (cf p i) (cf q k) wr.drew).mono (fun e w' h => (⟨h.1, h.2.symm⟩ : e = Ending.returned (.int .i64 (bi (mul (cf p i) (cf q k)))) ∧ w' = wr.drew))
              have HS : Hid ((wr.drew.setCell ⟨w.heap.size, i + k, none⟩ (.int .i64 (bi (mid p q i k (i + k) ^^^ mul (cf p i) (cf q k))))).ownsRow w.heap.size 2 1 (.slice (some ⟨w.heap.size, 0, none⟩) L L) L ((fl (fun t => bi (mid p q i (k + 1) t)) L).map (Value.int .i64))) := Lib.hid hs
              have HB2 : Hid (Below w.heap.size w (wr.drew.setCell ⟨w.heap.size, i + k, none⟩ (.int .i64 (bi (mid p q i k (i + k) ^^^ mul (cf p i) (cf q k)))))) := Lib.hid (hB.drew.setCell (Nat.le_refl _) _)
              have hoc' : wr.drew.cell? ⟨w.heap.size, i + k, none⟩ = _ := hoc
              have hof' : wr.drew.frozen? ⟨w.heap.size, i + k, none⟩ = _ := hof
              have hw : IntKind.i64.wrap ((i : Int) + (k : Int)) = (i : Int) + (k : Int) := by rw [IntWalk.i64_in _ (by omega)]
              have htn : ((i : Int) + (k : Int)).toNat = i + k := by omega
              have hp0 : (0 : Int) ≤ (i : Int) + (k : Int) := by omega
              have hp1 : (i : Int) + (k : Int) < (L : Int) := by omega
              generalize mid p q i k (i + k) ^^^ mul (cf p i) (cf q k) = z at *
              generalize mid p q i k (i + k) = u at *
              generalize mul (cf p i) (cf q k) = v at *
              generalize cf p i = x at *
              generalize cf q k = y at *
              clear hown hB hs HO HB
              go_wp2_with fail
              go_still_tail 21, (by kernel_rfl)
              still_call hcall
              repeat still_step
              refine wpStill_nil ?_
              change wpList _ _ _ _ _ wr.drew
              clear hoc hof hck hck' hcall
              generalize wr.drew = we at *
              go_wp2_with fail
              go_roundw
              case rel => exact ⟨k + 1, by omega, by go_num, HS.out, HB2.out⟩
              case measure => simp [intOf] <;> omega
            · obtain rfl : k = m := by omega
              have e : fl (fun t => bi (mid p q i k t)) L = fl (fun t => bi (cf (mulP (p.take (i + 1)) q) t)) L := fl_congr (fun t _ => by
                have := mid_end (p := p) (q := q) (i := i) (by omega) t
                rw [hl2] at this
                rw [this])
              rw [e] at hown
              have HS := Lib.hid hown
              have HB2 := Lib.hid hB
              clear hown hB e
              go_wp2_with fail
              go_roundw
              case rel => exact ⟨i + 1, by omega, by go_num, HS.out, HB2.out⟩
              case measure => simp [intOf] <;> omega
        · obtain rfl : i = n := by omega
          rw [← hl, mulP_take_all] at hown
          obtain ⟨r, hr1, hr2, hr3⟩ := mul_made (p := p) (q := q) (L := L) (by omega)
          rw [hr1] at hown
          have HR := Lib.hid (IR.own hown)
          have HB2 := Lib.hid hB
          have HT := Lib.hid hr3
          clear hown hB hown4 hr1 hr3 hL HLI
          go_wp2_with fail
          refine (l03Trim_any _ L L r _ HR.out (by omega)).mono ?_
          rintro e w6 ⟨a', k', c', rfl, ho6, hb6⟩
          rw [HT.out] at ho6
          have HO6 := Lib.hid (own_mono ho6 HB2.out.size)
          have HB6 := Lib.hid (HB2.out.trans (hb6.mono HB2.out.size))
          clear ho6 hb6
          go_wp2_with fail
          go_ret
          exact ⟨_, _, _, rfl, HO6.out, HB6.out⟩
end Go.Proofs.YtdnbkjiijpeiiaaGreat
/- What the model's PolyMul answers. -/
namespace Go.Proofs.YtdnbkjiijpeiiaaGreat
open Go.RowKit Go.PlainAid G MGF IRow
set_option linter.unusedVariables false
def polyMulR (zs ys : List Int) : List Int × Int := if 400 < zs.length ∨ 400 < ys.length then ([], 2) else if rightB zs = true ∧ rightB ys = true then told (trim (mulP (zs.map ib) (ys.map ib))) else ([], 1)
theorem polyMulR_len (zs ys : List Int) : (polyMulR zs ys).1.length ≤ 60 := by
  unfold polyMulR told
  split
  · exact Nat.zero_le _
  · split
    · split
      · exact Nat.zero_le _
      · rw [pv_length]; omega
    · exact Nat.zero_le _
theorem polyMulR_size {zs ys : List Int} (h : 400 < zs.length ∨ 400 < ys.length) : polyMulR zs ys = ([], 2) := by unfold polyMulR; rw [if_pos h]
theorem polyMulR_form {zs ys : List Int} (h : ¬ (400 < zs.length ∨ 400 < ys.length)) (h2 : ¬ (rightB zs = true ∧ rightB ys = true)) : polyMulR zs ys = ([], 1) := by unfold polyMulR; rw [if_neg h, if_neg h2]
theorem polyMulR_pv {p q : List B} (h : ¬ (400 < (pv p).length ∨ 400 < (pv q).length)) (h1 : rightB (pv p) = true) (h2 : rightB (pv q) = true) : polyMulR (pv p) (pv q) = told (trim (mulP p q)) := by unfold polyMulR; rw [if_neg h, if_pos ⟨h1, h2⟩, map_ib_pv, map_ib_pv]
end Go.Proofs.YtdnbkjiijpeiiaaGreat
