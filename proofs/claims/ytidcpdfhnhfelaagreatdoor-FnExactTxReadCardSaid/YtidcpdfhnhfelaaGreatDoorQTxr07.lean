/- Texts put together: what the law uses of them. -/
import Derived.Maps.AppendAt
import Derived.StillTailTactics
import Derived.Deep.RegionHeld3
import Derived.Laws.BytesArg
import Derived.PlainAid
import Derived.KernelRfl
import Derived.Lib.Hide
import Derived.Test.YtidcpdfhnhfelaaGreatDoorQTxr00
import Derived.Test.YtidcpdfhnhfelaaGreatDoorQTxr01
import Derived.Test.YtidcpdfhnhfelaaGreatDoorQTxr06
/- Rows of structs: how a struct of k cells stands in memory; rows of them that can be read, and the call's own. Nothing of the program stands here. -/
namespace Go.Proofs.YtidcpdfhnhfelaaGreatDoor.IRow
open Go.RowKit
/-- How a value of a struct stands in memory: k cells. -/
structure Enc (α : Type) where
  k : Nat
  cells : α → List Value
  len : ∀ x, (cells x).length = k
  one : ∀ x, ∀ v ∈ cells x, v.oneCell' = true
def Enc.flat {α : Type} (E : Enc α) : List α → List Value
  | [] => []
  | p :: ps => E.cells p ++ E.flat ps
theorem Enc.flat_length {α : Type} (E : Enc α) (ps : List α) : (E.flat ps).length = ps.length * E.k := by
  induction ps with
  | nil => simp [Enc.flat]
  | cons p ps ih => simp only [Enc.flat, List.length_append, List.length_cons, ih, E.len, Nat.succ_mul]; omega
theorem Enc.flat_append {α : Type} (E : Enc α) (ps qs : List α) : E.flat (ps ++ qs) = E.flat ps ++ E.flat qs := by
  induction ps with
  | nil => rfl
  | cons q ps ih => simp only [List.cons_append, Enc.flat, ih, List.append_assoc]
theorem Enc.flat_at {α : Type} (E : Enc α) (d : α) (ps : List α) : ∀ i j, i < ps.length → j < E.k → (E.flat ps)[i * E.k + j]? = (E.cells (ps.getD i d))[j]? := by
  induction ps with
  | nil => intro i j h; simp at h
  | cons p ps ih =>
    intro i j h hj
    have hl := E.len p
    cases i with
    | zero => simp only [Enc.flat, Nat.zero_mul, Nat.zero_add, List.getD_cons_zero]; rw [List.getElem?_append_left (by omega)]
    | succ i =>
      have := ih i j (by simpa using h) hj
      simp only [Enc.flat, List.getD_cons_succ]
      rw [← this, List.getElem?_append_right (by rw [Nat.succ_mul]; omega)]
      congr 1
      rw [Nat.succ_mul]
      omega
/-- A row of structs that can be read. -/
structure SR {α : Type} (E : Enc α) (d : α) (w : World) (a : Option Addr) (n cap : Nat) (ps : List α) : Prop where
  len : ps.length = n
  le : n ≤ cap
  nil : a = none → cap = 0
  cells : 0 < n → ∃ g o, a = some ⟨g, o, none⟩ ∧ g < w.heap.size ∧ ∀ i, i < n → ∀ j v, (E.cells (ps.getD i d))[j]? = some v → w.cell? ⟨g, o + i * E.k + j, none⟩ = some v
theorem SR.grown {α : Type} {E : Enc α} {d : α} {w w' : World} {row : Option Nat} {a : Option Addr} {n cap : Nat} {ps : List α} (h : SR E d w a n cap ps) (hg : w.grownBy w' row) (hne : 0 < n → ∀ g o, a = some ⟨g, o, .none⟩ → some g ≠ row) : SR E d w' a n cap ps := by
  refine ⟨h.len, h.le, h.nil, fun hn => ?_⟩
  obtain ⟨g, o, ha, hgl, hc⟩ := h.cells hn
  exact ⟨g, o, ha, Nat.lt_of_lt_of_le hgl hg.size, fun i hi j v hj => hg.cell (hc i hi j v hj) (hne hn g o ha)⟩
theorem SR.below {α : Type} {E : Enc α} {d : α} {w w' : World} {a : Option Addr} {n cap : Nat} {ps : List α} (h : SR E d w a n cap ps) (hb : Below w.heap.size w w') : SR E d w' a n cap ps :=
  h.grown (row := .none) ⟨hb.os, hb.tape, hb.output, hb.size, fun k hk _ => hb.block k hk⟩ (fun _ g o _ => by simp)
theorem SR.own {α : Type} {E : Enc α} {d : α} {w : World} {base n cap : Nat} {a : Option Addr} {e : TypeId} {ps : List α} (hk : 0 < E.k) (h : w.ownsRow base e E.k (.slice a n cap) n (E.flat ps)) : SR E d w a n cap ps := by
  have hl : ps.length = n := by have := h.1; rw [E.flat_length] at this; exact Nat.eq_of_mul_eq_mul_right hk this
  have hle : n ≤ cap ∧ (a = .none → cap = 0) := by
    rcases h.2 with ⟨hv, h0⟩ | ⟨g, c, cur, hv, _, _, hnc, _⟩
    · simp only [Value.slice.injEq] at hv
      obtain ⟨rfl, rfl, rfl⟩ := hv
      exact ⟨Nat.le_refl _, fun _ => rfl⟩
    · simp only [Value.slice.injEq] at hv
      obtain ⟨rfl, _, rfl⟩ := hv
      exact ⟨hnc, fun h => by cases h⟩
  refine ⟨hl, hle.1, hle.2, fun hn => ?_⟩
  obtain ⟨g, cap', hv, hb, hg⟩ := h.form hn
  simp only [Value.slice.injEq] at hv
  obtain ⟨rfl, _, rfl⟩ := hv
  refine ⟨g, 0, rfl, hg, fun i hi j v hj => ?_⟩
  have hjk : j < E.k := by
    by_cases hj2 : j < E.k
    · exact hj2
    · rw [List.getElem?_eq_none (by rw [E.len]; omega)] at hj; cases hj
  have hlt : i * E.k + j < n * E.k := by
    have : i * E.k + E.k ≤ n * E.k := by rw [← Nat.succ_mul]; exact Nat.mul_le_mul_right _ hi
    omega
  rw [Nat.zero_add, h.cellAt (i * E.k + j) (by omega), E.flat_at d ps i j (by omega) hjk, hj]
/-- The cells of a row, as append wants them. -/
theorem SR.news {α : Type} {E : Enc α} {d : α} {w : World} {a : Option Addr} {n cap : Nat} {ps : List α} (h : SR E d w a n cap ps) : ∀ ad, a = some ad → ∀ j u, (E.flat ps)[j]? = some u → w.cell? (ad.add j) = some u := by
  intro ad ha j u hu
  have hl := h.len
  have hj : j < (E.flat ps).length := by
    by_cases hj : j < (E.flat ps).length
    · exact hj
    · rw [List.getElem?_eq_none (by omega)] at hu; cases hu
  rw [E.flat_length] at hj
  have hk : 0 < E.k := by
    rcases Nat.eq_zero_or_pos E.k with h0 | h0
    · rw [h0] at hj; omega
    · exact h0
  have hn : 0 < n := by
    rcases Nat.eq_zero_or_pos n with h0 | h0
    · rw [hl, h0] at hj; omega
    · exact h0
  obtain ⟨g, o, ha', hg, hc⟩ := h.cells hn
  rw [ha] at ha'
  cases ha'
  have e1 : (⟨g, o, .none⟩ : Addr).add j = ⟨g, o + j, .none⟩ := by unfold Addr.add; split <;> simp_all
  have hd : j / E.k < ps.length := Nat.div_lt_of_lt_mul (by rw [Nat.mul_comm]; exact hj)
  have hm := Nat.mod_lt j hk
  have hj2 : j / E.k * E.k + j % E.k = j := Nat.div_add_mod' j E.k
  have := E.flat_at d ps (j / E.k) (j % E.k) hd hm
  rw [hj2, hu] at this
  have h2 := hc (j / E.k) (by omega) (j % E.k) u this.symm
  rw [e1]
  rw [Nat.add_assoc, hj2] at h2
  exact h2
theorem Enc.flat_one {α : Type} (E : Enc α) (ps : List α) : ∀ v ∈ E.flat ps, v.oneCell' = true := by
  induction ps with
  | nil => intro v hv; simp [Enc.flat] at hv
  | cons p ps ih =>
    intro v hv
    simp only [Enc.flat, List.mem_append] at hv
    exact hv.elim (E.one p v) (ih v)
end Go.Proofs.YtidcpdfhnhfelaaGreatDoor.IRow
/- Rows of parts: a number and a text each. -/
namespace Go.Proofs.YtidcpdfhnhfelaaGreatDoor
open Go.RowKit G MGF IRow
set_option linter.unusedVariables false
end Go.Proofs.YtidcpdfhnhfelaaGreatDoor
/- Rows of parts that are written: lists; and the laws' texts for marks. -/
namespace Go.Proofs.YtidcpdfhnhfelaaGreatDoor
open Go.RowKit Go.PlainAid G MGF IRow
set_option linter.unusedVariables false
/-- The digits of a number, ahead of a text. -/
def mkd : Nat → Nat → ByteArray → ByteArray
  | 0, _, out => out
  | f + 1, k, out => if k = 0 then out else mkd f (k / 10) (strOfNums [48 + ((k % 10 : Nat) : Int)] ++ out)
theorem mkd_zero : ∀ (f : Nat) (out : ByteArray), mkd f 0 out = out
  | 0, _ => rfl
  | f + 1, _ => by unfold mkd; rw [if_pos rfl]
theorem mkd_succ {f k : Nat} (out : ByteArray) (h : k ≠ 0) : mkd (f + 1) k out = mkd f (k / 10) (strOfNums [48 + ((k % 10 : Nat) : Int)] ++ out) := by rw [mkd, if_neg h]
def mkt (k : Nat) : ByteArray := ⟨#[109]⟩ ++ mkd 64 k ByteArray.empty
set_option maxRecDepth 100000 in
set_option maxHeartbeats 1600000 in
theorem markText_any (k : Nat) (w : World) (hk : 0 < k) (hk1 : k < 9223372036854775808) :
    Calls Tryz.prog 76 #[.int .i64 (k : Int)] w fun e w' => e = .returned (.string (mkt k)) ∧ Below w.heap.size w w' := by
  have hk0 : decide (k = 0) = false := decide_eq_false (by omega)
  go_enter Tryz.func76, Tryz.ntmps76
  go_wp2_with fail
  go_loopw [0, 3] (fun i v wr => ∃ (f j : Nat) (out : ByteArray), i = .int .i64 (j : Int) ∧ v = .string out ∧ Hid (mkd f j out = mkd 64 k ByteArray.empty) ∧ Hid (j < 2 ^ f) ∧ out.size + f = 64 ∧ j ≤ k ∧ Below w.heap.size w wr) (fun i _ _ => (intOf i).toNat)
  case atStart => exact ⟨64, k, ByteArray.empty, rfl, rfl, Lib.hid rfl, Lib.hid (by omega), rfl, Nat.le_refl _, Below.refl _ _⟩
  case round =>
    obtain ⟨f, j, out, rfl, rfl, HM, HF, hsf, hjk, hbw⟩ := hrel
    by_cases h0 : j = 0
    · subst h0
      have HS : Hid (mkt k = ⟨#[109]⟩ ++ out) := Lib.hid (by unfold mkt; rw [← HM.out, mkd_zero])
      have HB := Lib.hid hbw
      have hs1 : (⟨#[109]⟩ : ByteArray).size = 1 := rfl
      have hsm : ¬ 9223372036854775807 < (⟨#[109]⟩ : ByteArray).size + out.size := by omega
      clear hbw
      go_wp2_with fail
      go_ret
      exact ⟨ret_string HS.out.symm, HB.out⟩
    · obtain ⟨f, rfl⟩ : ∃ f', f = f' + 1 := ⟨f - 1, by
        have := HF.out
        rcases Nat.eq_zero_or_pos f with h | h
        · subst h; omega
        · omega⟩
      have HN : Hid (mkd f (j / 10) (strOfNums [48 + ((j % 10 : Nat) : Int)] ++ out) = mkd 64 k ByteArray.empty) := Lib.hid (by rw [← mkd_succ out h0]; exact HM.out)
      have HF2 : Hid (j / 10 < 2 ^ f) := Lib.hid (by have := HF.out; rw [Nat.pow_succ] at this; omega)
      have HB := Lib.hid hbw
      have hp : 0 < j := by omega
      obtain ⟨x, hx⟩ : ∃ x, x = j % 10 := ⟨_, rfl⟩
      have hcv := conv_block (P := Tryz.prog) (w := wr.alloc (.cells #[.int .u8 (48 + (x : Int))] 5)) 149 9 5 5 Tryz.underlying149 Tryz.underlying5 Tryz.underlying9 wr.heap.size 1 1 [48 + (x : Int)] (0, 0) (by show (wr.heap.push _)[wr.heap.size]? = _; simp) rfl
      rw [← hx] at HN
      have hmod : (j : Int).tmod 10 = (x : Int) := by rw [hx]; first | rfl | exact (Int.ofNat_tmod j 10).symm
      have hdiv : (j : Int).tdiv 10 = ((j / 10 : Nat) : Int) := by first | rfl | exact (Int.ofNat_tdiv j 10).symm
      have hx9 : x ≤ 9 := by omega
      have hs1 : (strOfNums [48 + (x : Int)]).size = 1 := by rw [strOfNums_size]; rfl
      have hsm : ¬ 9223372036854775807 < (strOfNums [48 + (x : Int)]).size + out.size := by omega
      have HSA : Hid ((strOfNums [48 + (x : Int)] ++ out).size + f = 64) := Lib.hid (by rw [ByteArray.size_append, hs1]; omega)
      have hle : j / 10 ≤ k := by omega
      have hlt : j / 10 < j := by omega
      have HX := Lib.hid hx
      have HBA := Lib.hid (hbw.alloc hbw.size (.cells #[.int .u8 (48 + (x : Int))] 5))
      clear hx hbw h0 hs1
      generalize strOfNums [48 + (x : Int)] = dg at *
      go_wp2_with fail
      go_roundw
      case rel => exact ⟨f, j / 10, _, by first | rfl | simp, rfl, HN, HF2, HSA.out, hle, HBA.out⟩
      case measure => simp [intOf]; omega
end Go.Proofs.YtidcpdfhnhfelaaGreatDoor
/- What the laws' own functions on parts answer. -/
namespace Go.Proofs.YtidcpdfhnhfelaaGreatDoor
open Go.RowKit Go.PlainAid G MGF IRow
set_option linter.unusedVariables false
end Go.Proofs.YtidcpdfhnhfelaaGreatDoor

