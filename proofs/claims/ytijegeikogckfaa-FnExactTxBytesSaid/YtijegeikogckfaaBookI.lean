/- Deeds that are done together, in bytes: what the model's TxBytes answers. -/
import Derived.Test.YtijegeikogckfaaBookH
import Derived.Test.YtijegeikogckfaaBookC
import Derived.Test.YtijegeikogckfaaRowDeed
namespace Go.Proofs.Ytijegeikogckfaa
open Go.RowKit Go.PlainAid G IRow MNum MJoin MCrc
set_option linter.unusedVariables false
/-- The first k deeds, in bytes, behind how many there are. -/
def txTo (ds : List Dd) (k : Nat) : ByteArray := (ds.take k).foldl (fun t d => t ++ deedTx d) (numS (ds.length : Int))
theorem txTo_zero (ds : List Dd) : txTo ds 0 = numS (ds.length : Int) := rfl
theorem txTo_succ {ds : List Dd} {k : Nat} (h : k < ds.length) : txTo ds (k + 1) = txTo ds k ++ deedTx (ds.getD k ddD) := by
  unfold txTo
  have e : ds.take (k + 1) = ds.take k ++ [ds.getD k ddD] := by
    rw [show ds.getD k ddD = ds[k] by simp [List.getD, List.getElem?_eq_getElem h]]
    exact (List.take_append_getElem h).symm
  rw [e, List.foldl_append]
  rfl
def txOk (ds : List Dd) : Bool := decide (1 ≤ ds.length ∧ ds.length ≤ 10) && allTo' (fun i => deedOf (ds.getD i ddD)) ds.length
/-- The bytes of deeds that are done together. -/
def txS (ds : List Dd) : ByteArray := if txOk ds = true then putTextS (sealS (txTo ds ds.length)) else ⟨#[]⟩
theorem txS_no {ds : List Dd} (h : txOk ds = false) : txS ds = ⟨#[]⟩ := by unfold txS; rw [if_neg (by rw [h]; decide)]
theorem txS_yes {ds : List Dd} (h : txOk ds = true) : txS ds = putTextS (sealS (txTo ds ds.length)) := by unfold txS; rw [if_pos h]
theorem deedT_size {q0 q1 q2 q3 q4 q5 : Int} {q6 q7 : ByteArray} {q8 : Int} {q9 : ByteArray} (h : deedB q0 q1 q2 q3 q4 q5 q6 q7 q8 q9 = true) : (deedT q0 q1 q2 q3 q4 q5 q6 q7 q8 q9).size ≤ 200 := by
  have a0 := (numS_size q0).2
  have a1 := (numS_size q1).2
  have a2 := (numS_size q2).2
  have a3 := (numS_size q3).2
  have a4 := (numS_size q4).2
  have a5 := (numS_size q5).2
  have a8 := (numS_size q8).2
  have pt : ∀ t : ByteArray, t.size ≤ 20 → (putTextS t).size ≤ 30 := fun t ht => by
    rw [putTextS_short (by omega), ByteArray.size_append]
    have := (numS_size (t.size : Int)).2
    omega
  unfold deedT
  rcases deedB_bounds h with ⟨rfl, _⟩ | ⟨rfl, _, h6, h7⟩ | ⟨rfl, ⟨_, h7⟩, _, _, h9⟩ | ⟨rfl, _, h7⟩
  · simp only [if_pos, ByteArray.size_append]; omega
  · have := pt q6 (by omega)
    rw [if_neg (by decide), if_pos rfl]
    simp only [ByteArray.size_append]; omega
  · have := pt q7 (by omega)
    have := pt q9 (by omega)
    rw [if_neg (by decide), if_neg (by decide), if_pos rfl]
    simp only [ByteArray.size_append]; omega
  · have := pt q7 (by omega)
    rw [if_neg (by decide), if_neg (by decide), if_neg (by decide)]
    simp only [ByteArray.size_append]; omega
set_option maxRecDepth 100000 in
set_option maxHeartbeats 3200000 in
theorem specTxBytes_any (a : Option Addr) (n cap : Nat) (ds : List Dd) (w : World) (h : DdR w a n cap ds) (hn : n ≤ 1048576) (hs : ∀ t, t < n → (ds.getD t ddD).lk.size ≤ maxLen ∧ (ds.getD t ddD).nm.size ≤ maxLen ∧ (ds.getD t ddD).bd.size ≤ maxLen) :
    Calls Try.prog 19 #[.slice a n cap] w fun e w' => e = .returned (.string (txS ds)) ∧ Below w.heap.size w w' := by
  have hl : ds.length = n := h.len
  have HS := Lib.hid hs
  clear hs
  by_cases h1 : 1 ≤ n
  · by_cases h2 : n ≤ 10
    · have hz := (numS_size (n : Int)).2
      go_enter Try.func19, Try.ntmps19
      go_wp2_with fail
      refine (specPutNum_any (n : Int) _ (i64_in (by omega) (by omega))).mono ?_
      rintro e w1 ⟨rfl, hb⟩
      have HB1 := Lib.hid hb
      clear hb
      go_wp2_with fail
      go_loopw [3, 4] (fun t i wr => ∃ k : Nat, k ≤ n ∧ i = .int .i64 k ∧ t = .string (txTo ds k) ∧ (txTo ds k).size ≤ 10 + 200 * k ∧ Hid (allTo' (fun i => deedOf (ds.getD i ddD)) k = true) ∧ Below w.heap.size w wr) (fun _ i _ => n - (intOf i).toNat)
      case atStart => exact ⟨0, Nat.zero_le _, rfl, by rw [txTo_zero, hl], by rw [txTo_zero, hl]; omega, Lib.hid rfl, HB1.out⟩
      case round =>
        obtain ⟨k, hk, rfl, rfl, hsz, HA, hB⟩ := hrel
        clear HB1
        have HB := Lib.hid hB
        by_cases hlt : k < n
        · obtain ⟨g, o, rfl, hg, t0, t1, t2, t3, t4, t5, t6, t7, t8, t9⟩ := h.at hlt
          have hin : 0 ≤ (k : Int) ∧ (k : Int) < (n : Int) := by omega
          have hgw : g < wr.heap.size := Nat.lt_of_lt_of_le hg hB.size
          have x0 := (hB.cell (p := ⟨g, o + k * 10, none⟩) hg).trans t0
          have x1 := (hB.cell (p := ⟨g, o + k * 10 + 1, none⟩) hg).trans t1
          have x2 := (hB.cell (p := ⟨g, o + k * 10 + 2, none⟩) hg).trans t2
          have x3 := (hB.cell (p := ⟨g, o + k * 10 + 3, none⟩) hg).trans t3
          have x4 := (hB.cell (p := ⟨g, o + k * 10 + 4, none⟩) hg).trans t4
          have x5 := (hB.cell (p := ⟨g, o + k * 10 + 5, none⟩) hg).trans t5
          have x6 := (hB.cell (p := ⟨g, o + k * 10 + 6, none⟩) hg).trans t6
          have x7 := (hB.cell (p := ⟨g, o + k * 10 + 7, none⟩) hg).trans t7
          have x8 := (hB.cell (p := ⟨g, o + k * 10 + 8, none⟩) hg).trans t8
          have x9 := (hB.cell (p := ⟨g, o + k * 10 + 9, none⟩) hg).trans t9
          have hsj := HS.out k hlt
          have HST := Lib.hid (txTo_succ (ds := ds) (k := k) (by omega))
          have HD : Hid (deedOf (ds.getD k ddD) = deedB (ds.getD k ddD).kd (ds.getD k ddD).gn (ds.getD k ddD).nd (ds.getD k ddD).mn (ds.getD k ddD).ck (ds.getD k ddD).no (ds.getD k ddD).lk (ds.getD k ddD).nm (ds.getD k ddD).tm (ds.getD k ddD).bd) := Lib.hid rfl
          have HTX : Hid (deedTx (ds.getD k ddD) = deedT (ds.getD k ddD).kd (ds.getD k ddD).gn (ds.getD k ddD).nd (ds.getD k ddD).mn (ds.getD k ddD).ck (ds.getD k ddD).no (ds.getD k ddD).lk (ds.getD k ddD).nm (ds.getD k ddD).tm (ds.getD k ddD).bd) := Lib.hid rfl
          generalize (ds.getD k ddD).kd = q0 at *
          generalize (ds.getD k ddD).gn = q1 at *
          generalize (ds.getD k ddD).nd = q2 at *
          generalize (ds.getD k ddD).mn = q3 at *
          generalize (ds.getD k ddD).ck = q4 at *
          generalize (ds.getD k ddD).no = q5 at *
          generalize (ds.getD k ddD).lk = q6 at *
          generalize (ds.getD k ddD).nm = q7 at *
          generalize (ds.getD k ddD).tm = q8 at *
          generalize (ds.getD k ddD).bd = q9 at *
          generalize htk : txTo ds k = tk at *
          have HTK := Lib.hid htk
          have HX := Lib.hid (And.intro x0 (And.intro x1 (And.intro x2 (And.intro x3 (And.intro x4 (And.intro x5 (And.intro x6 (And.intro x7 (And.intro x8 x9)))))))))
          clear htk hB t0 t1 t2 t3 t4 t5 t6 t7 t8 t9
          go_wp2_with fail
          refine (specDeedRight_any q0 q1 q2 q3 q4 q5 q6 q7 q8 q9 _ hsj.1 hsj.2.1 hsj.2.2).mono ?_
          rintro e w5 ⟨rfl, hb⟩
          have HB5 := Lib.hid (HB.out.trans (hb.mono HB.out.size))
          obtain ⟨y0, y1, y2, y3, y4, y5, y6, y7, y8, y9⟩ := HX.out
          have z0 := (hb.cell (p := ⟨g, o + k * 10, none⟩) hgw).trans y0
          have z1 := (hb.cell (p := ⟨g, o + k * 10 + 1, none⟩) hgw).trans y1
          have z2 := (hb.cell (p := ⟨g, o + k * 10 + 2, none⟩) hgw).trans y2
          have z3 := (hb.cell (p := ⟨g, o + k * 10 + 3, none⟩) hgw).trans y3
          have z4 := (hb.cell (p := ⟨g, o + k * 10 + 4, none⟩) hgw).trans y4
          have z5 := (hb.cell (p := ⟨g, o + k * 10 + 5, none⟩) hgw).trans y5
          have z6 := (hb.cell (p := ⟨g, o + k * 10 + 6, none⟩) hgw).trans y6
          have z7 := (hb.cell (p := ⟨g, o + k * 10 + 7, none⟩) hgw).trans y7
          have z8 := (hb.cell (p := ⟨g, o + k * 10 + 8, none⟩) hgw).trans y8
          have z9 := (hb.cell (p := ⟨g, o + k * 10 + 9, none⟩) hgw).trans y9
          clear hb x0 y0 x1 y1 x2 y2 x3 y3 x4 y4 x5 y5 x6 y6 x7 y7 x8 y8 x9 y9
          cases hv : deedB q0 q1 q2 q3 q4 q5 q6 q7 q8 q9
          · have HF := Lib.hid (txS_no (ds := ds) (by unfold txOk; rw [hl, allTo'_no hlt (by rw [HD.out]; exact hv), Bool.and_false])).symm
            go_wp2_with fail
            go_ret
            exact ⟨ret_string HF.out, HB5.out⟩
          · have hz5 := deedT_size hv
            have HA2 := Lib.hid (allTo'_succ HA.out (by rw [HD.out]; exact hv))
            have HV := Lib.hid hv
            clear hv
            go_wp2_with fail
            refine (l07Deed_any q0 q1 q2 q3 q4 q5 q6 q7 q8 q9 _ HV.out).mono ?_
            rintro e w6 ⟨rfl, hb⟩
            have HB6 := Lib.hid (HB5.out.trans (hb.mono HB5.out.size))
            have HTT : Hid (txTo ds (k + 1) = tk ++ deedT q0 q1 q2 q3 q4 q5 q6 q7 q8 q9) := Lib.hid (by rw [HST.out, HTX.out])
            clear hb z0 z1 z2 z3 z4 z5 z6 z7 z8 z9 HTX HST
            generalize deedT q0 q1 q2 q3 q4 q5 q6 q7 q8 q9 = dt at *
            have hadd : ∀ u : World, (Op.stringOp .add tk dt).run Try.prog u = .ok (.string (tk ++ dt)) u := fun u => run_string_add_sum u _ _ (by omega)
            have hns : (tk ++ dt).size ≤ 10 + 200 * (k + 1) := by rw [ByteArray.size_append]; omega
            rw [← HTT.out] at hns
            go_wp2_with fail
            go_roundw
            case rel => exact ⟨k + 1, by omega, by go_num, by rw [HTT.out], hns, HA2, HB6.out⟩
            case measure => simp [intOf] <;> omega
        · obtain rfl : n = k := by omega
          have HOK : Hid (txOk ds = true) := Lib.hid (by unfold txOk; rw [hl, decide_eq_true ⟨h1, h2⟩, HA.out]; rfl)
          have HF := Lib.hid (txS_yes HOK.out).symm
          rw [hl] at HF
          have hss : (sealS (txTo ds n)).size ≤ maxLen := by rw [sealS_yes (by omega), ByteArray.size_append, crc4_size]; unfold maxLen; omega
          have HSS := Lib.hid hss
          have HSM : Hid ((txTo ds n).size ≤ maxLen) := Lib.hid (by unfold maxLen; omega)
          clear hss hB h
          go_wp2_with fail
          refine (specSeal_any _ _ HSM.out).mono ?_
          rintro e w5 ⟨rfl, hb⟩
          have HB5 := Lib.hid (HB.out.trans (hb.mono HB.out.size))
          clear hb
          go_wp2_with fail
          refine (specPutText_any _ _ HSS.out).mono ?_
          rintro e w6 ⟨rfl, hb⟩
          have HB6 := Lib.hid (HB5.out.trans (hb.mono HB5.out.size))
          clear hb
          go_wp2_with fail
          go_ret
          exact ⟨ret_string HF.out, HB6.out⟩
    · have HF := Lib.hid (txS_no (ds := ds) (by unfold txOk; rw [hl, decide_eq_false (by omega)]; rfl)).symm
      go_enter Try.func19, Try.ntmps19
      go_wp2_with fail
      go_ret
      exact ⟨ret_string HF.out, Below.refl _ _⟩
  · have HF := Lib.hid (txS_no (ds := ds) (by unfold txOk; rw [hl, decide_eq_false (by omega)]; rfl)).symm
    go_enter Try.func19, Try.ntmps19
    go_wp2_with fail
    go_ret
    exact ⟨ret_string HF.out, Below.refl _ _⟩
end Go.Proofs.Ytijegeikogckfaa
