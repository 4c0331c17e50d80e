/- Where an item of a name stands; what is handed back beside a code. -/
import Derived.Test.YtnoefpkhbllmiaaGreatBookE
namespace Go.Proofs.YtnoefpkhbllmiaaGreat
open Go.RowKit Go.PlainAid G IRow
set_option linter.unusedVariables false
/-- Where an item of a name stands, or would stand. -/
def atI (is : List Im) (nm : ByteArray) : Nat := is.findIdx (fun x => !ltS x.nm nm)
theorem atI_eq {is : List Im} {nm : ByteArray} {k : Nat} (hk : k ≤ is.length) (ha : ∀ i, i < k → ltS (is.getD i imD).nm nm = true) (he : k = is.length ∨ ltS (is.getD k imD).nm nm = false) : atI is nm = k := by
  unfold atI
  rcases Nat.lt_or_ge k is.length with h | h
  · rw [List.findIdx_eq h]
    have e : is.getD k imD = is[k] := by simp [List.getD, List.getElem?_eq_getElem h]
    refine ⟨?_, fun j hj => ?_⟩
    · rcases he with he | he
      · omega
      · rw [e] at he; rw [he]; rfl
    · have h2 := ha j hj
      have e2 : is.getD j imD = is[j] := by simp [List.getD, List.getElem?_eq_getElem (show j < is.length by omega)]
      rw [e2] at h2
      rw [h2]; rfl
  · obtain rfl : k = is.length := by omega
    rw [List.findIdx_eq_length]
    intro x hx
    obtain ⟨i, hi, rfl⟩ := List.mem_iff_getElem.1 hx
    have h2 := ha i hi
    have e2 : is.getD i imD = is[i] := by simp [List.getD, List.getElem?_eq_getElem hi]
    rw [e2] at h2
    rw [h2]; rfl
theorem atI_le (is : List Im) (nm : ByteArray) : atI is nm ≤ is.length := List.findIdx_le_length
theorem lss_str (a b : ByteArray) (W : World) : (binOp .lss 9 (.string a) (.string b)).run Tryz.prog W = .ok (.bool (ltS a b)) W := by
  simp only [binOp]
  rfl
set_option maxRecDepth 100000 in
theorem l07At_any (a : Option Addr) (n cap : Nat) (is : List Im) (nm : ByteArray) (w : World) (h : ImR w a n cap is) (hn : n ≤ 1048576) :
    Calls Tryz.prog 60 #[.slice a n cap, .string nm] w fun e w' => e = .returned (.int .i64 (atI is nm : Nat)) ∧ w = w' := by
  have hl : is.length = n := h.len
  go_enter Tryz.func60, Tryz.ntmps60
  go_wp2_with fail
  go_loop [5] (fun i => ∃ k : Nat, k ≤ n ∧ i = .int .i64 k ∧ Hid (∀ i, i < k → ltS (is.getD i imD).nm nm = true)) (fun i => n - (intOf i).toNat)
  case atStart => exact ⟨0, Nat.zero_le _, rfl, Lib.hid (fun i hi => absurd hi (Nat.not_lt_zero _))⟩
  case round =>
    obtain ⟨k, hk, rfl, HA⟩ := hrel
    by_cases hlt : k < n
    · obtain ⟨g, o, rfl, hg, t0, t1, t2⟩ := h.at hlt
      have hin : 0 ≤ (k : Int) ∧ (k : Int) < (n : Int) := by omega
      cases hv : ltS (is.getD k imD).nm nm
      · have HF := Lib.hid (atI_eq (by omega) HA.out (.inr hv))
        have hlx : Op.bytesLess (is.getD k imD).nm.toList nm.toList = false := hv
        clear hv h
        generalize (is.getD k imD).nm = pm at *
        go_wp2_with fail
        go_ret
        exact ⟨ret_int (by rw [HF.out]), rfl⟩
      · have HA2 : Hid (∀ i, i < k + 1 → ltS (is.getD i imD).nm nm = true) := Lib.hid (fun i hi => by
          by_cases e : i = k
          · rw [e]; exact hv
          · exact HA.out i (by omega))
        have hlx : Op.bytesLess (is.getD k imD).nm.toList nm.toList = true := hv
        clear hv h
        generalize (is.getD k imD).nm = pm at *
        go_wp2_with fail
        go_round
        case rel => exact ⟨k + 1, by omega, by go_num, HA2⟩
        case measure => simp [intOf]; omega
    · obtain rfl : n = k := by omega
      have HF := Lib.hid (atI_eq (by omega) HA.out (.inl hl.symm))
      go_wp2_with fail
      go_ret
      exact ⟨ret_int (by rw [HF.out]), rfl⟩
theorem l07Ill_any (c : Int) (w : World) :
    Calls Tryz.prog 21 #[.int .i64 c] w fun e w' => e = .returned (.agg #[.int .i64 0, .int .i64 0, .int .i64 0, .int .i64 0, .slice none 0 0, .slice none 0 0, .int .i64 c]) ∧ Below w.heap.size w w' := by
  go_enter Tryz.func21, Tryz.ntmps21
  go_wp2_with fail
  exact bodyPost_ret (v := .agg #[.int .i64 0, .int .i64 0, .int .i64 0, .int .i64 0, .slice none 0 0, .slice none 0 0, .int .i64 c]) (by simp [results, Tryz.results21, go_sem]) rfl ⟨rfl, by repeat' (first | exact Below.refl _ _ | refine Below.alloc ?_ (by first | exact Nat.le_refl _ | (simp; done) | (simp; omega)) _ | refine Below.setCell ?_ (by first | exact Nat.le_refl _ | (simp; done) | (simp; omega)) _)⟩
end Go.Proofs.YtnoefpkhbllmiaaGreat
