/- Scripts: the fault of one, the program's; the model's: a text split, a word's letters, a number. -/
import Derived.Test.YtomojokamaibaaaScD
namespace Go.Proofs.Ytomojokamaibaaa
open Go.RowKit Go.PlainAid G MGF IRow Sc M2
set_option linter.unusedVariables false
set_option maxRecDepth 100000 in
set_option maxHeartbeats 1600000 in
theorem implScriptFault_any (s : ByteArray) (w : World) (hs : s.size ≤ 1048576) :
    Calls Try.prog 5 #[.string s] w fun e w' => e = .returned (.agg #[.string ⟨#[]⟩, .int .i64 (faultL s).1, .int .i64 (faultL s).2]) ∧ Below w.heap.size w w' := by
  obtain ⟨W, hW⟩ : ∃ W, W = w.alloc (.cells #[.string ⟨#[]⟩, .int .i64 0, .int .i64 0] 23) := ⟨_, rfl⟩
  have HB0 := Lib.hid (show Below w.heap.size w W by rw [hW]; exact (Below.refl _ _).alloc (Nat.le_refl _) _)
  have HX := Lib.hid (show BoxC W w.heap.size [.string ⟨#[]⟩, .int .i64 0, .int .i64 0] by rw [hW]; exact BoxC.made _ _ _)
  go_enter Try.func5, Try.ntmps5
  go_upto_region 1 with fail
  rw [← hW]
  clear hW
  go_wp2_with fail
  refine (linesIn_any s W hs).mono ?_
  rintro e w1 ⟨v, rfl, hb⟩
  have HB1 := Lib.hid (HB0.out.trans (hb.mono HB0.out.size))
  have HX1 := Lib.hid (HX.out.below hb)
  clear hb HX HB0
  obtain ⟨fl, fc, hf⟩ : ∃ fl fc, faultL s = (fl, fc) := ⟨_, _, rfl⟩
  rw [hf]
  go_upto_region 2 with fail
  obtain ⟨W2, hW2⟩ : ∃ W2, W2 = w1.alloc (.cells #[.string ⟨#[]⟩, .int .i64 fl, .int .i64 fc] 23) := ⟨_, rfl⟩
  have HX2 := Lib.hid (show BoxC W2 w.heap.size [.string ⟨#[]⟩, .int .i64 0, .int .i64 0] by rw [hW2]; exact HX1.out.alloc _)
  have HX9 := Lib.hid (show BoxC W2 w1.heap.size [.string ⟨#[]⟩, .int .i64 fl, .int .i64 fc] by rw [hW2]; exact BoxC.made _ _ _)
  have HB2 := Lib.hid (show Below w.heap.size w W2 by rw [hW2]; exact HB1.out.alloc HB1.out.size _)
  rw [← hW2]
  clear hW2
  have y0 := HX9.out.cell 0 _ rfl
  have y1 := HX9.out.cell 1 _ rfl
  have y2 := HX9.out.cell 2 _ rfl
  have x0 := HX2.out.cell 0 _ rfl
  have x1 := HX2.out.cell 1 _ rfl
  have x2 := HX2.out.cell 2 _ rfl
  have f0 := HX2.out.free 0
  have f1 := HX2.out.free 1
  have f2 := HX2.out.free 2
  have HY := Lib.hid (((HX2.out.set (j := 0) (by decide) (.string ⟨#[]⟩)).set (j := 1) (by simp) (.int .i64 fl)).set (j := 2) (by simp) (.int .i64 fc))
  have HYB := Lib.hid (((HB2.out.setCell (p := ⟨w.heap.size, 0, none⟩) (Nat.le_refl _) (.string ⟨#[]⟩)).setCell (p := ⟨w.heap.size, 1, none⟩) (Nat.le_refl _) (.int .i64 fl)).setCell (p := ⟨w.heap.size, 2, none⟩) (Nat.le_refl _) (.int .i64 fc))
  have r0 := HY.out.cell 0 _ rfl
  have r1 := HY.out.cell 1 _ rfl
  have r2 := HY.out.cell 2 _ rfl
  go_wp2_with fail
  refine bodyPost_ret (v := .agg #[.string ⟨#[]⟩, .int .i64 fl, .int .i64 fc]) (by simp [results, Try.results5, go_sem, r0, r1, r2]) rfl ?_
  exact ⟨by rw [hf], HYB.out⟩
set_option maxRecDepth 100000 in
set_option maxHeartbeats 1600000 in
theorem split_any (s : ByteArray) (c : Int) (w : World) (hs : s.size ≤ 1048576) :
    Calls Try.prog 9 #[.string s, .int .u8 c] w fun e w' => ∃ v, e = .returned v ∧ w'.ownsRow w.heap.size 9 txE.k v (wordsL s c).length (txE.flat (wordsL s c)) ∧ Below w.heap.size w w' := by
  obtain ⟨i0, hi, hz0, hz1, hz2⟩ := info_parts infoTxt
  obtain ⟨W, hW⟩ : ∃ W, W = w.alloc (.cells #[] 9) := ⟨_, rfl⟩
  have HB0 := Lib.hid (show Below w.heap.size w W by rw [hW]; exact (Below.refl _ _).alloc (Nat.le_refl _) _)
  have HO0 := Lib.hid (show W.ownsRow w.heap.size 9 txE.k (.slice (some ⟨w.heap.size, 0, none⟩) 0 0) 0 (txE.flat []) by rw [hW]; exact own_empty (Nat.le_refl _))
  have hb := PlainAid.get_bt s
  go_enter Try.func9, Try.ntmps9
  go_upto_region 2 with fail
  rw [← hW]
  clear hW
  go_wp2_with fail
  go_loopw [5, 6, 7] (fun v f i wr => ∃ (k : Nat), k ≤ s.size ∧ f = .int .i64 ((cutTo s c k).2 : Nat) ∧ i = .int .i64 k ∧ Hid (wr.ownsRow w.heap.size 9 txE.k v (cutTo s c k).1.length (txE.flat (cutTo s c k).1)) ∧ Hid (Below w.heap.size w wr)) (fun _ _ i _ => s.size - (intOf i).toNat)
  case atStart => exact ⟨0, Nat.zero_le _, rfl, rfl, HO0, HB0⟩
  case round =>
    obtain ⟨k, hk, rfl, rfl, HOR, HB⟩ := hrel
    clear HO0 HB0
    have hfr := cut_from s c k
    have hll := cut_len s c k
    obtain ⟨an, cn, rfl⟩ := own_shape HOR.out
    by_cases hlt : k < s.size
    · by_cases hx : bt s k = c
      · have HN := Lib.hid (cut_hit hx)
        have hxe : (bt s k == c) = true := by rw [hx]; simp
        have hll2 : (cutTo s c k).1.length ≤ 1048576 := by omega
        generalize hfe : (cutTo s c k).2 = fr at *
        generalize (cutTo s c k).1 = ls at *
        have hpi : (k : Int) ≤ s.size := by omega
        have hfp : (fr : Int) ≤ k := by omega
        have hf0 : 0 ≤ (fr : Int) := by omega
        have hsl := fun W => run_slice_string (P := Try.prog) (w := W) 9 s .i64 .i64 (fr : Int) (k : Int) Try.underlying9 hf0 hfp hpi
        rw [Int.toNat_natCast, Int.toNat_natCast] at hsl
        generalize s.extract fr k = piece at *
        have hw1 : IntKind.i64.wrap ((k : Int) + 1) = (k : Int) + 1 := IntWalk.i64_in _ (by omega)
        have hown := HOR.out
        have hsz := HB.out.size
        clear hfe
        go_wp2_with (at_builtin; refine append_enc txE rfl (.tmp 20) (.tmp 25) 33 rfl 9 i0 (.string ByteArray.empty) 16 Try.underlying33 hi hz0 hz1 hz2 (by rfl) (by decide) (by decide) w.heap.size (.slice an ls.length cn) ls.length ls (by rfl) hown piece _ (by rfl) _ (by rfl) hsz hll2 ?_; intro v' w4 hown4 hg4 _; have HO4 := Lib.hid hown4; have HB4 := Lib.hid (below_grow HB.out HOR.out (Nat.le_refl _) hg4 hsz); clear hown4 hg4 hown)
        go_roundw
        case rel => exact ⟨k + 1, by omega, by rw [HN.out]; go_num, by go_num, Lib.hid (by rw [HN.out]; simpa using HO4.out), HB4⟩
        case measure => simp [intOf]; omega
      · have HN := Lib.hid (cut_miss hx)
        have hxe : (bt s k == c) = false := by simpa using hx
        generalize hfe : (cutTo s c k).2 = fr at *
        generalize hle : (cutTo s c k).1 = ls at *
        go_wp2_with fail
        go_roundw
        case rel => exact ⟨k + 1, by omega, by rw [HN.out, hfe], by go_num, Lib.hid (by rw [HN.out, hle]; exact HOR.out), HB⟩
        case measure => simp [intOf]; omega
    · obtain rfl : k = s.size := by omega
      have HR := Lib.hid (show wordsL s c = (cutTo s c s.size).1 ++ [s.extract (cutTo s c s.size).2 s.size] from rfl)
      have hll2 : (cutTo s c s.size).1.length ≤ 1048576 := by omega
      generalize (cutTo s c s.size).2 = fr at *
      generalize (cutTo s c s.size).1 = ls at *
      have hf0 : 0 ≤ (fr : Int) := by omega
      have hfp : (fr : Int) ≤ s.size := by omega
      have hsl := fun W => run_slice_string_l (P := Try.prog) W 9 s Try.underlying9 .i64 (fr : Int) hf0 hfp
      rw [Int.toNat_natCast] at hsl
      generalize s.extract fr s.size = rs at *
      have hown := HOR.out
      have hsz := HB.out.size
      go_wp2_with (at_builtin; refine append_enc txE rfl (.tmp 29) (.tmp 33) 33 rfl 9 i0 (.string ByteArray.empty) 16 Try.underlying33 hi hz0 hz1 hz2 (by rfl) (by decide) (by decide) w.heap.size (.slice an ls.length cn) ls.length ls (by rfl) hown rs _ (by rfl) _ (by rfl) hsz hll2 ?_; intro v' w4 hown4 hg4 _; have HO4 := Lib.hid hown4; have HB4 := Lib.hid (below_grow HB.out HOR.out (Nat.le_refl _) hg4 hsz); clear hown4 hg4 hown)
      go_ret
      exact ⟨_, rfl, by rw [HR.out]; simpa using HO4.out, HB4.out⟩
/-- What the model tells of a number. -/
def numM (s : ByteArray) : Int := if s.size ≠ 0 ∧ numOk s = true then numV s s.size else -1
theorem numM_yes {s : ByteArray} (h0 : s.size ≠ 0) (h : numOk s = true) : numM s = numV s s.size := if_pos ⟨h0, h⟩
theorem numM_no {s : ByteArray} (h : s.size = 0 ∨ numOk s = false) : numM s = -1 := if_neg (by rcases h with h | h <;> simp [h])
set_option maxRecDepth 100000 in
set_option maxHeartbeats 1600000 in
theorem l11Num_any (s : ByteArray) (w : World) (hs : s.size ≤ 1048576) :
    Calls Try.prog 15 #[.string s] w fun e w' => e = .returned (.int .i64 (numM s)) ∧ w = w' := by
  have hb := PlainAid.get_bt s
  by_cases hz : s.size = 0
  · have HF := Lib.hid (numM_no (.inl hz))
    go_enter Try.func15, Try.ntmps15
    go_wp2_with fail
    go_ret
    exact ⟨ret_int HF.out.symm, rfl⟩
  · have hz1 : ¬ s.size < 1 := by omega
    have hz1i : ¬ (s.size : Int) < 1 := by omega
    have hz1d : decide ((s.size : Int) < 1) = false := decide_eq_false hz1i
    by_cases hbad : 9 < s.size ∨ 1 < s.size ∧ bt s 0 = 48
    · have HF := Lib.hid (numM_no (.inr (numOk_not hbad)))
      by_cases h9 : 9 < s.size
      · go_enter Try.func15, Try.ntmps15
        go_wp2_with fail
        go_ret
        exact ⟨ret_int HF.out.symm, rfl⟩
      · have h1 : 1 < s.size := by omega
        have h0 : bt s 0 = 48 := by omega
        have h9i : decide ((9 : Int) < (s.size : Int)) = false := decide_eq_false (by omega)
        have h9j : ¬ (9 : Int) < (s.size : Int) := by omega
        go_enter Try.func15, Try.ntmps15
        go_wp2_with fail
        go_ret
        exact ⟨ret_int HF.out.symm, rfl⟩
    · have h9 : s.size ≤ 9 := by omega
      have h9i : decide ((9 : Int) < (s.size : Int)) = false := decide_eq_false (by omega)
      have h9j : ¬ (9 : Int) < (s.size : Int) := by omega
      have HE := Lib.hid (numOk_of h9 (fun h => hbad (.inr h)))
      by_cases h1 : 1 < s.size
      · have h0 : ¬ bt s 0 = 48 := fun h => hbad (.inr ⟨h1, h⟩)
        clear hbad
        go_enter Try.func15, Try.ntmps15
        go_wp2_with fail
        go_loop [3, 4] (fun v i => ∃ k : Nat, k ≤ s.size ∧ v = .int .i64 (numV s k) ∧ i = .int .i64 k ∧ digsTo s k = true) (fun _ i => s.size - (intOf i).toNat)
        case atStart => exact ⟨0, Nat.zero_le _, rfl, rfl, rfl⟩
        case round =>
          obtain ⟨k, hk, rfl, rfl, hdg⟩ := hrel
          have HD := Lib.hid hdg
          by_cases hlt : k < s.size
          · have hnv := numV_le hdg (by omega)
            clear hdg
            cases hdb : digB (bt s k)
            · have HF : Hid (numM s = -1) := Lib.hid (numM_no (.inr (by rw [HE.out]; exact digs_false hlt hdb)))
              have hd2 := digB_false.1 hdb
              by_cases hlo : bt s k < 48
              · go_wp2_with fail
                go_ret
                exact ⟨ret_int HF.out.symm, rfl⟩
              · have hhi : 57 < bt s k := by omega
                go_wp2_with fail
                go_ret
                exact ⟨ret_int HF.out.symm, rfl⟩
            · have HN : Hid (digsTo s (k + 1) = true) := Lib.hid (by unfold digsTo; rw [HD.out, hdb]; rfl)
              have HV : Hid (numV s (k + 1) = 10 * numV s k + (bt s k - 48)) := Lib.hid rfl
              have hd2 := digB_true.1 hdb
              have hlo : ¬ bt s k < 48 := by omega
              have hhi : ¬ 57 < bt s k := by omega
              have hw8 : IntKind.u8.wrap (bt s k - 48) = bt s k - 48 := by rw [IntKind.wrap_u8]; omega
              have hw64 : IntKind.i64.wrap (bt s k - 48) = bt s k - 48 := IntWalk.i64_in _ (by omega)
              have hwm : IntKind.i64.wrap (10 * numV s k) = 10 * numV s k := IntWalk.i64_in _ (by omega)
              have hws : IntKind.i64.wrap (10 * numV s k + (bt s k - 48)) = 10 * numV s k + (bt s k - 48) := IntWalk.i64_in _ (by omega)
              generalize numV s k = nv at *
              go_wp2_with fail
              go_round
              case rel => exact ⟨k + 1, by omega, by rw [HV.out], by go_num, HN.out⟩
              case measure => simp [intOf]; omega
          · obtain rfl : k = s.size := by omega
            clear hdg
            have HF : Hid (numM s = numV s s.size) := Lib.hid (numM_yes hz (by rw [HE.out]; exact HD.out))
            go_wp2_with fail
            go_ret
            exact ⟨ret_int HF.out.symm, rfl⟩
      · clear hbad
        go_enter Try.func15, Try.ntmps15
        go_wp2_with fail
        go_loop [3, 4] (fun v i => ∃ k : Nat, k ≤ s.size ∧ v = .int .i64 (numV s k) ∧ i = .int .i64 k ∧ digsTo s k = true) (fun _ i => s.size - (intOf i).toNat)
        case atStart => exact ⟨0, Nat.zero_le _, rfl, rfl, rfl⟩
        case round =>
          obtain ⟨k, hk, rfl, rfl, hdg⟩ := hrel
          have HD := Lib.hid hdg
          by_cases hlt : k < s.size
          · have hnv := numV_le hdg (by omega)
            clear hdg
            cases hdb : digB (bt s k)
            · have HF : Hid (numM s = -1) := Lib.hid (numM_no (.inr (by rw [HE.out]; exact digs_false hlt hdb)))
              have hd2 := digB_false.1 hdb
              by_cases hlo : bt s k < 48
              · go_wp2_with fail
                go_ret
                exact ⟨ret_int HF.out.symm, rfl⟩
              · have hhi : 57 < bt s k := by omega
                go_wp2_with fail
                go_ret
                exact ⟨ret_int HF.out.symm, rfl⟩
            · have HN : Hid (digsTo s (k + 1) = true) := Lib.hid (by unfold digsTo; rw [HD.out, hdb]; rfl)
              have HV : Hid (numV s (k + 1) = 10 * numV s k + (bt s k - 48)) := Lib.hid rfl
              have hd2 := digB_true.1 hdb
              have hlo : ¬ bt s k < 48 := by omega
              have hhi : ¬ 57 < bt s k := by omega
              have hw8 : IntKind.u8.wrap (bt s k - 48) = bt s k - 48 := by rw [IntKind.wrap_u8]; omega
              have hw64 : IntKind.i64.wrap (bt s k - 48) = bt s k - 48 := IntWalk.i64_in _ (by omega)
              have hwm : IntKind.i64.wrap (10 * numV s k) = 10 * numV s k := IntWalk.i64_in _ (by omega)
              have hws : IntKind.i64.wrap (10 * numV s k + (bt s k - 48)) = 10 * numV s k + (bt s k - 48) := IntWalk.i64_in _ (by omega)
              generalize numV s k = nv at *
              go_wp2_with fail
              go_round
              case rel => exact ⟨k + 1, by omega, by rw [HV.out], by go_num, HN.out⟩
              case measure => simp [intOf]; omega
          · obtain rfl : k = s.size := by omega
            clear hdg
            have HF : Hid (numM s = numV s s.size) := Lib.hid (numM_yes hz (by rw [HE.out]; exact HD.out))
            go_wp2_with fail
            go_ret
            exact ⟨ret_int HF.out.symm, rfl⟩
end Go.Proofs.Ytomojokamaibaaa
