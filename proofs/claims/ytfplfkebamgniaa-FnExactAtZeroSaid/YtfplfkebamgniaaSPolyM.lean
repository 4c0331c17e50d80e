/- What the model's product of polynomials answers. -/
import Derived.Test.YtfplfkebamgniaaSPoly
namespace Go.Proofs.Ytfplfkebamgniaa
open Go.RowKit Go.PlainAid G MGF IRow
set_option linter.unusedVariables false
set_option maxRecDepth 100000 in
set_option maxHeartbeats 1600000 in
theorem l03Mul_any (a b : Option Addr) (n m cap cbp : Nat) (p q : List B) (w : World) (h : IR w a n cap (pv p)) (h' : IR w b m cbp (pv q)) (hn : n ≤ 524288) (hm : m ≤ 524288) :
    Calls Try.prog 89 #[.slice a n cap, .slice b m cbp] w (NewPoly (trim (mulP p q)) w) := by
  have hl : p.length = n := by have := h.len; rwa [pv_length] at this
  have hl2 : q.length = m := by have := h'.len; rwa [pv_length] at this
  obtain ⟨i0, hi, hz0, hz1, hz2⟩ := info_parts infoI64
  by_cases hn0 : n = 0
  · have hp : p = [] := List.eq_nil_of_length_eq_zero (by omega)
    have HT : Hid (trim (mulP p q) = []) := Lib.hid (by rw [hp]; rfl)
    subst hn0
    clear h h' hp
    go_enter Try.func89, Try.ntmps89
    go_wp2_with fail
    go_ret
    exact ⟨_, _, _, rfl, by rw [HT.out]; exact own_empty (Nat.le_refl _), (Below.refl _ _).alloc (Nat.le_refl _) _⟩
  · by_cases hm0 : m = 0
    · have hq : q = [] := List.eq_nil_of_length_eq_zero (by omega)
      have HT : Hid (trim (mulP p q) = []) := Lib.hid (by rw [hq]; exact trim_mul_nil p)
      subst hm0
      have hnb : ((n : Int) == 0) = false := by rw [beq_eq_false_iff_ne]; omega
      clear h h' hq
      go_enter Try.func89, Try.ntmps89
      go_wp2_with fail
      go_ret
      exact ⟨_, _, _, rfl, by rw [HT.out]; exact own_empty (Nat.le_refl _), (Below.refl _ _).alloc (Nat.le_refl _) _⟩
    · obtain ⟨g, o, rfl, hg, hc⟩ := h.cells (by omega)
      obtain ⟨g', o', rfl, hg', hc'⟩ := h'.cells (by omega)
      have hnb : ((n : Int) == 0) = false := by rw [beq_eq_false_iff_ne]; omega
      have hmb : ((m : Int) == 0) = false := by rw [beq_eq_false_iff_ne]; omega
      obtain ⟨L, hL⟩ : ∃ L, n + m = L + 1 := ⟨n + m - 1, by omega⟩
      have hLs : L ≤ 1048576 := by omega
      have HLI : Hid ((n : Int) + (m : Int) - 1 = (L : Int)) := Lib.hid (by omega)
      clear h h'
      go_enter Try.func89, Try.ntmps89
      go_wp2_with (at_make; refine wpList_make_full _ rfl (.tmp 22) (.tmp 22) 30 rfl w.heap.size 2 i0 (.int .i64 0) 1 Try.underlying30 hi hz0 hz1 .i64 .i64 _ _ L rfl rfl HLI.out HLI.out (by rw [hz2]; omega) (by unfold maxLen; omega) (Nat.le_refl _) ?_; intro w4 hown4 hg4; rw [madeZero, fl_zero] at hown4)
      have HB4 : Hid (Below w.heap.size w w4) := Lib.hid ((Below.refl _ w).grown hg4 (Nat.le_refl _) (fun k hk => by cases hk))
      clear hg4
      go_loopw [6] (fun i wr => ∃ k : Nat, k ≤ n ∧ i = .int .i64 k ∧ wr.ownsRow w.heap.size 2 1 (.slice (some ⟨w.heap.size, 0, none⟩) L L) L ((fl (fun t => bi (cf (mulP (p.take k) q) t)) L).map (Value.int .i64)) ∧ Below w.heap.size w wr) (fun i _ => n - (intOf i).toNat)
      case atStart => exact ⟨0, Nat.zero_le _, rfl, by rw [List.take_zero, mulP, fl_congr (g := fun _ => 0) (fun i _ => by rw [cf_nil]; rfl)]; exact hown4, HB4.out⟩
      case round =>
        obtain ⟨i, hii, rfl, hown, hB⟩ := hrel
        by_cases hlt : i < n
        · rw [fl_congr (g := fun t => bi (mid p q i 0 t)) (fun t _ => by rw [mid_zero])] at hown
          have HO := Lib.hid hown
          have HB := Lib.hid hB
          clear hown hB hown4
          go_wp2_with fail
          go_loopw [7] (fun v wr => ∃ k : Nat, k ≤ m ∧ v = .int .i64 k ∧ wr.ownsRow w.heap.size 2 1 (.slice (some ⟨w.heap.size, 0, none⟩) L L) L ((fl (fun t => bi (mid p q i k t)) L).map (Value.int .i64)) ∧ Below w.heap.size w wr) (fun v _ => m - (intOf v).toNat)
          case atStart => exact ⟨0, Nat.zero_le _, rfl, HO.out, HB.out⟩
          case round =>
            obtain ⟨k, hk, rfl, hown, hB⟩ := hrel
            by_cases hlt2 : k < m
            · have hck := (hB.cell (p := ⟨g, o + i, none⟩) hg).trans (hc i hlt)
              have hck' := (hB.cell (p := ⟨g', o' + k, none⟩) hg').trans (hc' k hlt2)
              rw [pv_getD] at hck hck'
              have hjL : i + k < L := by omega
              have hoc := own_cell hown hjL
              rw [fl_getD _ hjL] at hoc
              have hof := hown.frozenAt (i + k)
              have hxx := bi_xor (mid p q i k (i + k)) (mul (cf p i) (cf q k))
              have hs := own_stored hown (i + k) (bi (mid p q i k (i + k) ^^^ mul (cf p i) (cf q k)))
              rw [fl_set, fl_congr (g := fun t => bi (mid p q i (k + 1) t)) (fun t _ => by
                rw [← mid_next]
                by_cases h1 : t = i + k
                · rw [if_pos h1, if_pos h1]
                · rw [if_neg h1, if_neg h1])] at hs
              have hcall := (l02MulB_any (cf p i) (cf q k) wr.drew).mono (fun e w' h => (⟨h.1, h.2.symm⟩ : e = Ending.returned (.int .i64 (bi (mul (cf p i) (cf q k)))) ∧ w' = wr.drew))
              have HS : Hid ((wr.drew.setCell ⟨w.heap.size, i + k, none⟩ (.int .i64 (bi (mid p q i k (i + k) ^^^ mul (cf p i) (cf q k))))).ownsRow w.heap.size 2 1 (.slice (some ⟨w.heap.size, 0, none⟩) L L) L ((fl (fun t => bi (mid p q i (k + 1) t)) L).map (Value.int .i64))) := Lib.hid hs
              have HB2 : Hid (Below w.heap.size w (wr.drew.setCell ⟨w.heap.size, i + k, none⟩ (.int .i64 (bi (mid p q i k (i + k) ^^^ mul (cf p i) (cf q k)))))) := Lib.hid (hB.drew.setCell (Nat.le_refl _) _)
              have hoc' : wr.drew.cell? ⟨w.heap.size, i + k, none⟩ = _ := hoc
              have hof' : wr.drew.frozen? ⟨w.heap.size, i + k, none⟩ = _ := hof
              have hw : IntKind.i64.wrap ((i : Int) + (k : Int)) = (i : Int) + (k : Int) := by rw [IntWalk.i64_in _ (by omega)]
              have htn : ((i : Int) + (k : Int)).toNat = i + k := by omega
              have hp0 : (0 : Int) ≤ (i : Int) + (k : Int) := by omega
              have hp1 : (i : Int) + (k : Int) < (L : Int) := by omega
              generalize mid p q i k (i + k) ^^^ mul (cf p i) (cf q k) = z at *
              generalize mid p q i k (i + k) = u at *
              generalize mul (cf p i) (cf q k) = v at *
              generalize cf p i = x at *
              generalize cf q k = y at *
              clear hown hB hs HO HB
              go_wp2_with fail
              go_still_tail 21, (by kernel_rfl)
              still_call hcall
              repeat still_step
              refine wpStill_nil ?_
              change wpList _ _ _ _ _ wr.drew
              clear hoc hof hck hck' hcall
              generalize wr.drew = we at *
              go_wp2_with fail
              go_roundw
              case rel => exact ⟨k + 1, by omega, by go_num, HS.out, HB2.out⟩
              case measure => simp [intOf] <;> omega
            · obtain rfl : k = m := by omega
              have e : fl (fun t => bi (mid p q i k t)) L = fl (fun t => bi (cf (mulP (p.take (i + 1)) q) t)) L := fl_congr (fun t _ => by
                have := mid_end (p := p) (q := q) (i := i) (by omega) t
                rw [hl2] at this
                rw [this])
              rw [e] at hown
              have HS := Lib.hid hown
              have HB2 := Lib.hid hB
              clear hown hB e
              go_wp2_with fail
              go_roundw
              case rel => exact ⟨i + 1, by omega, by go_num, HS.out, HB2.out⟩
              case measure => simp [intOf] <;> omega
        · obtain rfl : i = n := by omega
          rw [← hl, mulP_take_all] at hown
          obtain ⟨r, hr1, hr2, hr3⟩ := mul_made (p := p) (q := q) (L := L) (by omega)
          rw [hr1] at hown
          have HR := Lib.hid (IR.own hown)
          have HB2 := Lib.hid hB
          have HT := Lib.hid hr3
          clear hown hB hown4 hr1 hr3 hL HLI
          go_wp2_with fail
          refine (l03Trim_any _ L L r _ HR.out (by omega)).mono ?_
          rintro e w6 ⟨a', k', c', rfl, ho6, hb6⟩
          rw [HT.out] at ho6
          have HO6 := Lib.hid (own_mono ho6 HB2.out.size)
          have HB6 := Lib.hid (HB2.out.trans (hb6.mono HB2.out.size))
          clear ho6 hb6
          go_wp2_with fail
          go_ret
          exact ⟨_, _, _, rfl, HO6.out, HB6.out⟩
end Go.Proofs.Ytfplfkebamgniaa
