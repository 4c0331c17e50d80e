/- The program's polynomials: trimmed, a list of bytes as one, a list of its own. -/
import Derived.Test.YtfplfkebamgniaaBRow
import Derived.Test.YtfplfkebamgniaaFldOps
import Derived.Test.YtfplfkebamgniaaSPoly2
namespace Go.Proofs.Ytfplfkebamgniaa
open Go.RowKit Go.PlainAid G IRow MGF
set_option linter.unusedVariables false
set_option maxRecDepth 100000 in
theorem trimmed_any (f : Nat) (a : Option Addr) (n cap : Nat) (p : List B) (w : World) (h : BR f w a n cap p) (hn : n ≤ 1048576) :
    Calls Try.prog 102 #[.pointer (some ⟨f, 0, none⟩), .slice a n cap] w fun e w' => ∃ k, e = .returned (pvl f (.slice a k cap)) ∧ BR f w' a k cap (trim p) ∧ Below w.heap.size w w' := by
  have hl := h.len
  have hb0 : Below w.heap.size w (w.alloc (Obj.cells #[Value.pointer none, Value.slice none 0 0] 90)) := (Below.refl _ _).alloc (Nat.le_refl _) _
  have H0 := Lib.hid h
  replace h := h.below hb0
  clear hb0
  unfold pvl
  go_enter Try.func102, Try.ntmps102
  go_wp2_with fail
  go_loop [6] (fun i => ∃ j : Nat, j ≤ n ∧ i = .int .i64 j ∧ ∀ t, j ≤ t → cf p t = 0) (fun i => (intOf i).toNat)
  case atStart => exact ⟨n, Nat.le_refl _, rfl, fun t ht => cf_past (by omega)⟩
  case round =>
    obtain ⟨j, hj, rfl, hby⟩ := hrel
    have HBY := Lib.hid hby
    clear hby
    by_cases h0 : j = 0
    · subst h0
      have ht := trim_take (p := p) (j := 0) (Nat.zero_le _) HBY.out (Or.inl rfl)
      have hr := H0.out.take (Nat.zero_le n)
      rw [← ht] at hr
      have HR := Lib.hid hr
      have hnil := h.nil
      clear ht hr
      cases a with
      | none =>
        obtain rfl := hnil rfl
        obtain rfl : n = 0 := by have := h.le; omega
        clear h hnil
        go_wp2_with fail
        exact bodyPost_ret (v := .agg #[.pointer (some ⟨f, 0, none⟩), .slice none 0 0]) (by simp [results, Try.results102, go_sem]) rfl ⟨_, rfl, HR.out.below ((Below.refl _ _).alloc (Nat.le_refl _) _), (Below.refl _ _).alloc (Nat.le_refl _) _⟩
      | some ad =>
        clear h hnil
        go_wp2_with fail
        exact bodyPost_ret (v := .agg #[.pointer (some ⟨f, 0, none⟩), .slice (some ad) 0 cap]) (by simp [results, Try.results102, go_sem]) rfl ⟨_, rfl, HR.out.below ((Below.refl _ _).alloc (Nat.le_refl _) _), (Below.refl _ _).alloc (Nat.le_refl _) _⟩
    · obtain ⟨g, o, rfl, hg, hne, hc⟩ := h.cells (by omega)
      have hck := hc (j - 1) (by omega)
      have hbz := bi_zero_iff (cf p (j - 1))
      have hsub : (j : Int) - 1 = ((j - 1 : Nat) : Int) := by omega
      have hw : IntKind.i64.wrap ((j : Int) - 1) = ((j - 1 : Nat) : Int) := by rw [IntWalk.i64_in _ (by omega)]; omega
      by_cases hx : cf p (j - 1) = 0
      · have hxb : (bi (cf p (j - 1)) == 0) = true := by rw [hbz]; exact decide_eq_true hx
        have HN : Hid (∀ t, j - 1 ≤ t → cf p t = 0) := Lib.hid (fun t ht => by
          by_cases htj : t = j - 1
          · rw [htj]; exact hx
          · exact HBY.out t (by omega))
        generalize bi (cf p (j - 1)) = z at *
        clear hc h hbz hx
        go_wp2_with fail
        go_round
        case rel => exact ⟨j - 1, by omega, rfl, HN.out⟩
        case measure => simp [intOf]; omega
      · have hxb : (bi (cf p (j - 1)) == 0) = false := by rw [hbz]; exact decide_eq_false hx
        have ht := trim_take (p := p) (j := j) (by omega) HBY.out (Or.inr hx)
        have hr := H0.out.take hj
        rw [← ht] at hr
        have HR := Lib.hid hr
        generalize bi (cf p (j - 1)) = z at *
        have hle := h.le
        clear hc h hbz hx ht hr
        go_wp2_with fail
        exact bodyPost_ret (v := .agg #[.pointer (some ⟨f, 0, none⟩), .slice _ j cap]) (by simp [results, Try.results102, go_sem]) rfl ⟨_, rfl, HR.out.below ((Below.refl _ _).alloc (Nat.le_refl _) _), (Below.refl _ _).alloc (Nat.le_refl _) _⟩
end Go.Proofs.Ytfplfkebamgniaa
