/- What the model's functions on polynomials answer. -/
import Derived.Test.YtdnbkjiijpeiiaaDoorSFieldA
import Derived.Test.YtdnbkjiijpeiiaaDoorHPolyA
import Derived.StillTailTactics
namespace Go.Proofs.YtdnbkjiijpeiiaaDoor
open Go.RowKit Go.PlainAid G MGF IRow
set_option linter.unusedVariables false
set_option maxRecDepth 100000 in
theorem l03Trim_any (a : Option Addr) (n cap : Nat) (p : List B) (w : World) (h : IR w a n cap (pv p)) (hn : n ≤ 1048576) :
    Calls Tryd.prog 75 #[.slice a n cap] w fun e w' => ∃ a' k c', e = .returned (.slice a' k c') ∧ w'.ownsRow w.heap.size 2 1 (.slice a' k c') k ((pv (trim p)).map (Value.int .i64)) ∧ Below w.heap.size w w' := by
  have hl : p.length = n := by have := h.len; rwa [pv_length] at this
  obtain ⟨i0, hi, hz0, hz1, hz2⟩ := info_parts infoI64
  go_enter Tryd.func75, Tryd.ntmps75
  go_wp2_with fail
  go_loop [3] (fun i => ∃ j : Nat, j ≤ n ∧ i = .int .i64 j ∧ ∀ t, j ≤ t → cf p t = 0) (fun i => (intOf i).toNat)
  case atStart => exact ⟨n, Nat.le_refl _, rfl, fun t ht => cf_past (by omega)⟩
  case round =>
    obtain ⟨j, hj, rfl, hby⟩ := hrel
    have HBY := Lib.hid hby
    clear hby
    by_cases h0 : j = 0
    · subst h0
      have ht := trim_take (p := p) (j := 0) (Nat.zero_le _) HBY.out (Or.inl rfl)
      have hr := h.take (Nat.zero_le n)
      rw [pv_take, ← ht] at hr
      have HR := Lib.hid hr
      have hnil := h.nil
      clear ht hr
      cases a with
      | none =>
        obtain rfl := hnil rfl
        obtain rfl : n = 0 := by have := h.le; omega
        clear h hnil
        go_wp2_with (at_builtin; refine append_ints rfl (.tmp 18) (.tmp 21) 73 rfl 2 i0 Tryd.underlying73 hi hz0 hz1 hz2 w.heap.size _ 0 [] rfl (own_empty (Nat.le_refl _)) _ _ _ _ rfl (HR.out.below ((Below.refl _ _).alloc (Nat.le_refl _) _)) (by omega) (by simp) ?_; intro v' w5 ho hg5; have HB5 : Hid (Below w.heap.size w w5) := (((Below.refl _ w).alloc (Nat.le_refl _) _).grown hg5 (by simp) (fun k hk => by cases hk; exact Nat.le_refl _)); clear hg5; rw [Nat.zero_add, List.nil_append] at ho; obtain ⟨a', c', rfl⟩ := own_shape ho; have HO := Lib.hid ho; clear ho)
        go_ret
        exact ⟨_, _, _, rfl, HO.out, HB5.out⟩
      | some ad =>
        clear h hnil
        go_wp2_with (at_builtin; refine append_ints rfl (.tmp 18) (.tmp 21) 73 rfl 2 i0 Tryd.underlying73 hi hz0 hz1 hz2 w.heap.size _ 0 [] rfl (own_empty (Nat.le_refl _)) _ _ _ _ rfl (HR.out.below ((Below.refl _ _).alloc (Nat.le_refl _) _)) (by omega) (by simp) ?_; intro v' w5 ho hg5; have HB5 : Hid (Below w.heap.size w w5) := (((Below.refl _ w).alloc (Nat.le_refl _) _).grown hg5 (by simp) (fun k hk => by cases hk; exact Nat.le_refl _)); clear hg5; rw [Nat.zero_add, List.nil_append] at ho; obtain ⟨a', c', rfl⟩ := own_shape ho; have HO := Lib.hid ho; clear ho)
        go_ret
        exact ⟨_, _, _, rfl, HO.out, HB5.out⟩
    · obtain ⟨g, o, rfl, hg, hc⟩ := h.cells (by omega)
      have hck := hc (j - 1) (by omega)
      rw [pv_getD] at hck
      have hbz := bi_zero_iff (cf p (j - 1))
      have hsub : (j : Int) - 1 = ((j - 1 : Nat) : Int) := by omega
      have hw : IntKind.i64.wrap ((j : Int) - 1) = ((j - 1 : Nat) : Int) := by rw [IntWalk.i64_in _ (by omega)]; omega
      by_cases hx : cf p (j - 1) = 0
      · have hxb : (bi (cf p (j - 1)) == 0) = true := by rw [hbz]; exact decide_eq_true hx
        have HN : Hid (∀ t, j - 1 ≤ t → cf p t = 0) := Lib.hid (fun t ht => by
          by_cases htj : t = j - 1
          · rw [htj]; exact hx
          · exact HBY.out t (by omega))
        generalize bi (cf p (j - 1)) = z at *
        clear hc h hbz hx
        go_wp2_with fail
        go_round
        case rel => exact ⟨j - 1, by omega, rfl, HN.out⟩
        case measure => simp [intOf]; omega
      · have hxb : (bi (cf p (j - 1)) == 0) = false := by rw [hbz]; exact decide_eq_false hx
        have ht := trim_take (p := p) (j := j) (by omega) HBY.out (Or.inr hx)
        have hr := h.take hj
        rw [pv_take, ← ht] at hr
        have HR := Lib.hid hr
        generalize bi (cf p (j - 1)) = z at *
        have hle := h.le
        clear hc h hbz hx ht hr
        go_wp2_with (at_builtin; refine append_ints rfl (.tmp 18) (.tmp 21) 73 rfl 2 i0 Tryd.underlying73 hi hz0 hz1 hz2 w.heap.size _ 0 [] rfl (own_empty (Nat.le_refl _)) _ _ _ _ rfl (HR.out.below ((Below.refl _ _).alloc (Nat.le_refl _) _)) (by omega) (by simp) ?_; intro v' w5 ho hg5; have HB5 : Hid (Below w.heap.size w w5) := (((Below.refl _ w).alloc (Nat.le_refl _) _).grown hg5 (by simp) (fun k hk => by cases hk; exact Nat.le_refl _)); clear hg5; rw [Nat.zero_add, List.nil_append] at ho; obtain ⟨a', c', rfl⟩ := own_shape ho; have HO := Lib.hid ho; clear ho)
        go_ret
        exact ⟨_, _, _, rfl, HO.out, HB5.out⟩
/-- A polynomial in new memory. -/
def NewPoly (p : List B) (w : World) (e : Ending) (w' : World) : Prop :=
  ∃ a k c, e = .returned (.slice a k c) ∧ w'.ownsRow w.heap.size 2 1 (.slice a k c) k ((pv p).map (Value.int .i64)) ∧ Below w.heap.size w w'
end Go.Proofs.YtdnbkjiijpeiiaaDoor
/- What the model's Eval, PolyAdd and PolyMul answer. -/
namespace Go.Proofs.YtdnbkjiijpeiiaaDoor
open Go.RowKit Go.PlainAid G MGF IRow
set_option linter.unusedVariables false
set_option maxRecDepth 100000 in
theorem l03Eval_any (a : Option Addr) (n cap : Nat) (p : List B) (x : B) (w : World) (h : IR w a n cap (pv p)) (hn : n ≤ 1048576) :
    Calls Tryd.prog 71 #[.slice a n cap, .int .i64 (bi x)] w fun e w' => e = .returned (.int .i64 (bi (ev p x))) ∧ Below w.heap.size w w' := by
  have hl : p.length = n := by have := h.len; rwa [pv_length] at this
  have hw : IntKind.i64.wrap ((n : Int) - 1) = (n : Int) - 1 := by rw [IntWalk.i64_in _ (by omega)]
  go_enter Tryd.func71, Tryd.ntmps71
  go_wp2_with fail
  go_loopw [5, 6] (fun y i wr => ∃ j : Nat, j ≤ n ∧ i = .int .i64 ((j : Int) - 1) ∧ y = .int .i64 (bi (ev (p.drop j) x)) ∧ Below w.heap.size w wr) (fun _ i _ => (intOf i + 1).toNat)
  case atStart => exact ⟨n, Nat.le_refl _, rfl, by rw [List.drop_of_length_le (by omega)]; rfl, Below.refl _ _⟩
  case round =>
    obtain ⟨j, hj, rfl, rfl, hB⟩ := hrel
    by_cases h0 : j = 0
    · subst h0
      have HB := Lib.hid hB
      clear h hB
      go_wp2_with fail
      go_ret
      exact ⟨ret_int (by rw [List.drop_zero]), HB.out⟩
    · obtain ⟨i, rfl⟩ := Nat.exists_eq_succ_of_ne_zero h0
      obtain ⟨g, o, rfl, hg, hc⟩ := h.cells (by omega)
      have hck := (hB.cell (p := ⟨g, o + i, none⟩) hg).trans (hc i (by omega))
      rw [pv_getD] at hck
      have hE := ev_drop (p := p) (j := i) (by omega) x
      have hii : ((i + 1 : Nat) : Int) - 1 = (i : Int) := by omega
      have hcall := (l02MulB_any (ev (p.drop (i + 1)) x) x wr.drew).mono (fun e w' h => (⟨h.1, h.2.symm⟩ : e = Ending.returned (.int .i64 (bi (mul (ev (p.drop (i + 1)) x) x))) ∧ w' = wr.drew))
      have hxx := bi_xor (mul (ev (p.drop (i + 1)) x) x) (cf p i)
      rw [← hE] at hxx
      have HB := Lib.hid hB.drew
      generalize ev (p.drop (i + 1)) x = y at *
      generalize cf p i = z at *
      clear h hB hc hE
      rw [hii]
      have hin : i < n := by omega
      clear hii hw hl
      go_wp2_with fail
      go_still_tail 8, (by kernel_rfl)
      still_call hcall
      repeat still_step
      refine wpStill_nil ?_
      change wpList _ _ _ _ _ wr.drew
      clear hcall hck
      generalize wr.drew = we at *
      go_wp2_with fail
      go_roundw
      case rel => exact ⟨i, by omega, rfl, rfl, HB.out⟩
      case measure => simp [intOf] <;> omega
/-- What Eval answers. -/
def evalI (zs : List Int) (x : Int) : Int := if rightB zs = true ∧ byteB x = true then bi (ev (zs.map ib) (ib x)) else -1
theorem map_ib_pv (p : List B) : (pv p).map ib = p := by
  unfold pv
  rw [List.map_map]
  have : p.map (ib ∘ bi) = p.map id := List.map_congr_left (fun x _ => ib_bi x)
  rw [this, List.map_id]
theorem evalI_pv {p : List B} (h : rightB (pv p) = true) (x : B) : evalI (pv p) (bi x) = bi (ev p x) := by
  unfold evalI
  rw [if_pos ⟨h, byteB_bi x⟩, map_ib_pv, ib_bi]
/-- A polynomial, or a code, in new memory. -/
def NewOut (r : List Int × Int) (w : World) (e : Ending) (w' : World) : Prop :=
  ∃ a k c, e = .returned (polyV (.slice a k c) r.2) ∧ w'.ownsRow w.heap.size 2 1 (.slice a k c) k (r.1.map (Value.int .i64)) ∧ Below w.heap.size w w'
def told (p : List B) : List Int × Int := if 60 < p.length then ([], 9) else (pv p, 0)
theorem ret_out {r : List Int × Int} {zs : List Int} {c : Int} (h : r = (zs, c)) {w w' : World} {a : Option Addr} {k cap : Nat} (ho : w'.ownsRow w.heap.size 2 1 (.slice a k cap) k (zs.map (Value.int .i64))) (hb : Below w.heap.size w w') : NewOut r w (.returned (.agg #[.slice a k cap, .int .i64 c])) w' := by
  subst h
  exact ⟨a, k, cap, rfl, ho, hb⟩
def polyAddR (zs ys : List Int) : List Int × Int := if 400 < zs.length ∨ 400 < ys.length then ([], 2) else if rightB zs = true ∧ rightB ys = true then told (trim (addP (zs.map ib) (ys.map ib))) else ([], 1)
theorem polyAddR_len (zs ys : List Int) : (polyAddR zs ys).1.length ≤ 60 := by
  unfold polyAddR told
  split
  · exact Nat.zero_le _
  · split
    · split
      · exact Nat.zero_le _
      · rw [pv_length]; omega
    · exact Nat.zero_le _
theorem polyAddR_size {zs ys : List Int} (h : 400 < zs.length ∨ 400 < ys.length) : polyAddR zs ys = ([], 2) := by unfold polyAddR; rw [if_pos h]
theorem polyAddR_form {zs ys : List Int} (h : ¬ (400 < zs.length ∨ 400 < ys.length)) (h2 : ¬ (rightB zs = true ∧ rightB ys = true)) : polyAddR zs ys = ([], 1) := by unfold polyAddR; rw [if_neg h, if_neg h2]
theorem polyAddR_pv {p q : List B} (h : ¬ (400 < (pv p).length ∨ 400 < (pv q).length)) (h1 : rightB (pv p) = true) (h2 : rightB (pv q) = true) : polyAddR (pv p) (pv q) = told (trim (addP p q)) := by unfold polyAddR; rw [if_neg h, if_pos ⟨h1, h2⟩, map_ib_pv, map_ib_pv]
end Go.Proofs.YtdnbkjiijpeiiaaDoor
/- What the model's product of polynomials answers. -/
namespace Go.Proofs.YtdnbkjiijpeiiaaDoor
open Go.RowKit Go.PlainAid G MGF IRow
set_option linter.unusedVariables false
end Go.Proofs.YtdnbkjiijpeiiaaDoor
/- What the model's PolyMul answers. -/
namespace Go.Proofs.YtdnbkjiijpeiiaaDoor
open Go.RowKit Go.PlainAid G MGF IRow
set_option linter.unusedVariables false
def polyMulR (zs ys : List Int) : List Int × Int := if 400 < zs.length ∨ 400 < ys.length then ([], 2) else if rightB zs = true ∧ rightB ys = true then told (trim (mulP (zs.map ib) (ys.map ib))) else ([], 1)
theorem polyMulR_len (zs ys : List Int) : (polyMulR zs ys).1.length ≤ 60 := by
  unfold polyMulR told
  split
  · exact Nat.zero_le _
  · split
    · split
      · exact Nat.zero_le _
      · rw [pv_length]; omega
    · exact Nat.zero_le _
theorem polyMulR_size {zs ys : List Int} (h : 400 < zs.length ∨ 400 < ys.length) : polyMulR zs ys = ([], 2) := by unfold polyMulR; rw [if_pos h]
theorem polyMulR_form {zs ys : List Int} (h : ¬ (400 < zs.length ∨ 400 < ys.length)) (h2 : ¬ (rightB zs = true ∧ rightB ys = true)) : polyMulR zs ys = ([], 1) := by unfold polyMulR; rw [if_neg h, if_neg h2]
theorem polyMulR_pv {p q : List B} (h : ¬ (400 < (pv p).length ∨ 400 < (pv q).length)) (h1 : rightB (pv p) = true) (h2 : rightB (pv q) = true) : polyMulR (pv p) (pv q) = told (trim (mulP p q)) := by unfold polyMulR; rw [if_neg h, if_pos ⟨h1, h2⟩, map_ib_pv, map_ib_pv]
end Go.Proofs.YtdnbkjiijpeiiaaDoor
