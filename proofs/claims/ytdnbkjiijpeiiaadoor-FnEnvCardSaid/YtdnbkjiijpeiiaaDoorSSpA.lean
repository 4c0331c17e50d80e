/- The model's secrets and needs; its rows of polynomials. -/
import Derived.Test.YtdnbkjiijpeiiaaDoorMParts2
import Derived.Test.YtdnbkjiijpeiiaaDoorSPointsA
import Derived.Test.YtdnbkjiijpeiiaaDoorSplB
namespace Go.Proofs.YtdnbkjiijpeiiaaDoor
open Go.RowKit Go.PlainAid G MGF IRow
set_option linter.unusedVariables false
theorem l04Secret_any (t : ByteArray) (w : World) (ht : t.size ≤ maxLen) :
    Calls Tryd.prog 46 #[.string t] w fun e w' => e = .returned (.bool (secB t)) ∧ w = w' := by
  unfold maxLen at ht
  by_cases h1 : 1 ≤ t.size
  · by_cases h2 : t.size ≤ 16
    · have HF : Hid (true = secB t) := Lib.hid (by unfold secB; rw [decide_eq_true ⟨h1, h2⟩])
      go_enter Tryd.func46, Tryd.ntmps46
      go_wp2
      go_ret
      exact ⟨ret_bool (by rw [← HF.out]; simp; omega), rfl⟩
    · have HF : Hid (false = secB t) := Lib.hid (by unfold secB; rw [decide_eq_false (by omega)])
      go_enter Tryd.func46, Tryd.ntmps46
      go_wp2
      go_ret
      exact ⟨ret_bool (by rw [← HF.out]; simp; omega), rfl⟩
  · have HF : Hid (false = secB t) := Lib.hid (by unfold secB; rw [decide_eq_false (by omega)])
    have h0 : t.size = 0 := by omega
    go_enter Tryd.func46, Tryd.ntmps46
    go_wp2
    go_ret
    exact ⟨ret_bool HF.out, rfl⟩
theorem specNeeds_any (t : ByteArray) (n : Int) (w : World) (ht : t.size ≤ maxLen) :
    Calls Tryd.prog 60 #[.string t, .int .i64 n] w fun e w' => e = .returned (.int .i64 (needsI t n)) ∧ w = w' := by
  have HT := Lib.hid ht
  cases hs : secB t
  · have HF : Hid (-1 = needsI t n) := Lib.hid (needsI_no (by rw [hs]; simp)).symm
    unfold maxLen at ht
    go_enter Tryd.func60, Tryd.ntmps60
    go_wp2_with fail
    refine (l04Secret_any t _ HT.out).mono ?_
    rintro e w1 ⟨rfl, rfl⟩
    rw [hs]
    go_wp2_with fail
    go_ret
    exact ⟨ret_int HF.out, rfl⟩
  · cases hn : needB n
    · have HF : Hid (-1 = needsI t n) := Lib.hid (needsI_no (by rw [hn]; simp)).symm
      have HN : Hid (decide (1 ≤ n ∧ n ≤ 10) = false) := Lib.hid hn
      unfold maxLen at ht
      go_enter Tryd.func60, Tryd.ntmps60
      go_wp2_with fail
      refine (l04Secret_any t _ HT.out).mono ?_
      rintro e w1 ⟨rfl, rfl⟩
      rw [hs]
      go_wp2_with fail
      refine (l02Is_any n 1 10 _).mono ?_
      rintro e w1 ⟨rfl, rfl⟩
      rw [HN.out]
      go_wp2_with fail
      go_ret
      exact ⟨ret_int HF.out, rfl⟩
    · have HF := Lib.hid (needsI_yes hs hn).symm
      have HN : Hid (decide (1 ≤ n ∧ n ≤ 10) = true) := Lib.hid hn
      obtain ⟨hb0, hb1⟩ := needs_bound hs hn
      obtain ⟨hn1, hn2⟩ := needB_iff.1 hn
      obtain ⟨hs1, hs2⟩ := secB_iff.1 hs
      clear ht
      go_enter Tryd.func60, Tryd.ntmps60
      go_wp2_with fail
      refine (l04Secret_any t _ HT.out).mono ?_
      rintro e w1 ⟨rfl, rfl⟩
      rw [hs]
      go_wp2_with fail
      refine (l02Is_any n 1 10 _).mono ?_
      rintro e w1 ⟨rfl, rfl⟩
      rw [HN.out]
      go_wp2_with fail
      go_ret
      exact ⟨ret_int HF.out, rfl⟩
/-- A row of polynomials. -/
structure PS (w : World) (a : Option Addr) (n cap : Nat) (g : Nat → List B) : Prop where
  le : n ≤ cap
  nil : a = none → cap = 0
  cells : 0 < n → ∃ gb o, a = some ⟨gb, o, none⟩ ∧ gb < w.heap.size ∧ ∀ i, i < n → ∃ b k c, w.cell? ⟨gb, o + i, none⟩ = some (.slice b k c) ∧ IR w b k c (pv (g i))
theorem PS.below {w w' : World} {a : Option Addr} {n cap : Nat} {g : Nat → List B} (h : PS w a n cap g) (hb : Below w.heap.size w w') : PS w' a n cap g := by
  refine ⟨h.le, h.nil, fun hn => ?_⟩
  obtain ⟨gb, o, ha, hl, hc⟩ := h.cells hn
  refine ⟨gb, o, ha, Nat.lt_of_lt_of_le hl hb.size, fun i hi => ?_⟩
  obtain ⟨b, k, c, hv, hk⟩ := hc i hi
  exact ⟨b, k, c, (hb.cell (p := ⟨gb, o + i, none⟩) hl).trans hv, hk.below hb⟩
theorem PS.own {w : World} {base n cap : Nat} {a : Option Addr} {e : TypeId} {vs : List Value} {g : Nat → List B} (h : w.ownsRow base e 1 (.slice a n cap) n vs) (hv : ∀ i, i < n → ∃ b k c, vs.getD i undef = .slice b k c ∧ IR w b k c (pv (g i))) : PS w a n cap g := by
  have hl : vs.length = n := by have := h.1; simpa using this
  have hle : n ≤ cap ∧ (a = .none → cap = 0) := by
    rcases h.2 with ⟨hv, h0⟩ | ⟨g, c, cur, hv, _, _, hnc, _⟩
    · simp only [Value.slice.injEq] at hv
      obtain ⟨rfl, rfl, rfl⟩ := hv
      exact ⟨Nat.le_refl _, fun _ => rfl⟩
    · simp only [Value.slice.injEq] at hv
      obtain ⟨rfl, _, rfl⟩ := hv
      exact ⟨hnc, fun h => by cases h⟩
  refine ⟨hle.1, hle.2, fun hn => ?_⟩
  obtain ⟨g, cap', hv', hb, hg⟩ := h.form hn
  simp only [Value.slice.injEq] at hv'
  obtain ⟨rfl, _, rfl⟩ := hv'
  refine ⟨g, 0, rfl, hg, fun i hi => ?_⟩
  obtain ⟨b, k, c, h1, h2⟩ := hv i hi
  refine ⟨b, k, c, ?_, h2⟩
  rw [← h1, Nat.zero_add, h.cellAt i (by omega)]
  simp [List.getD, List.getElem?_eq_getElem (show i < vs.length by omega)]
theorem infoInts : (Tryd.prog.info? 73).map (fun i => (i.zero, i.size, i.bytes)) = some (some (Value.slice none 0 0), 1, 24) := by kernel_rfl
/-- A byte's own draws, one by one. -/
def rowQ (s d : List B) (k i t : Nat) : List B := cf s i :: (rowD d k i).take t
theorem rowQ_zero (s d : List B) (k i : Nat) : rowQ s d k i 0 = [cf s i] := rfl
theorem rowQ_succ (s d : List B) {k i t : Nat} (ht : t < k) (hl : i * k + k ≤ d.length) : rowQ s d k i (t + 1) = rowQ s d k i t ++ [cf d (i * k + t)] := by
  unfold rowQ
  have hlen : t < (rowD d k i).length := by unfold rowD; rw [List.length_take, List.length_drop]; omega
  have e : (rowD d k i)[t] = cf d (i * k + t) := by
    simp only [rowD, List.getElem_take, List.getElem_drop]
    unfold cf
    rw [getD_mem _ (show i * k + t < d.length by omega)]
  rw [← List.take_append_getElem hlen, e]
  rfl
theorem rowQ_all (s d : List B) (k i : Nat) : trim (rowQ s d k i k) = polyT s d k i := by
  unfold rowQ polyT
  rw [List.take_of_length_le (rowD_le d k i)]
end Go.Proofs.YtdnbkjiijpeiiaaDoor
/- The model's polynomials of a secret. -/
namespace Go.Proofs.YtdnbkjiijpeiiaaDoor
open Go.RowKit Go.PlainAid G MGF IRow
set_option linter.unusedVariables false
theorem IR.grown0 {w w' : World} {row : Option Nat} {a : Option Addr} {n cap : Nat} {zs : List Int} (h : IR w a n cap zs) (hg : w.grownBy w' row) (hne : 0 < n → ∀ g o, a = some ⟨g, o, .none⟩ → some g ≠ row) : IR w' a n cap zs := by
  refine ⟨h.len, h.le, h.nil, fun hn => ?_⟩
  obtain ⟨g, o, ha, hgl, hc⟩ := h.cells hn
  exact ⟨g, o, ha, Nat.lt_of_lt_of_le hgl hg.size, fun i hi => hg.cell (hc i hi) (hne hn g o ha)⟩
set_option maxRecDepth 100000 in
set_option maxHeartbeats 3200000 in
theorem l04Polys_any (s d : ByteArray) (need : Int) (w : World) (hn1 : 1 ≤ need) (hn2 : need ≤ 10) (hs : s.size ≤ 16) (hdr : s.size * kOf need ≤ d.size) (hd : d.size ≤ 8000) :
    Calls Tryd.prog 70 #[.string s, .int .i64 need, .string d] w fun e w' => ∃ a c, e = .returned (.slice a s.size c) ∧ PS w' a s.size c (fun i => polyT (tb s) (tb d) (kOf need) i) ∧ Below w.heap.size w w' := by
  obtain ⟨k, hk⟩ : ∃ k, k = kOf need := ⟨_, rfl⟩
  obtain rfl : need = (k : Int) + 1 := by rw [hk]; unfold kOf; omega
  rw [← hk] at hdr ⊢
  clear hk
  have hk9 : k ≤ 9 := by omega
  have hemp := own_empty (w := w) (e := 73) (Nat.le_refl _)
  have HB0 : Hid (Below w.heap.size w (w.alloc (.cells #[] 73))) := Lib.hid ((Below.refl _ _).alloc (Nat.le_refl _) _)
  have HE := Lib.hid hemp
  clear hemp
  obtain ⟨i0, hi, hz0, hz1, hz2⟩ := info_parts infoInts
  obtain ⟨j0, ji, jz0, jz1, jz2⟩ := info_parts infoI64
  go_enter Tryd.func70, Tryd.ntmps70
  go_wp2_with fail
  go_loopw [7, 8, 9] (fun v at' i wr => ∃ (j m : Nat) (vs : List Value), j ≤ s.size ∧ Hid (m = j * k) ∧ i = .int .i64 j ∧ at' = .int .i64 (m : Int) ∧ wr.ownsRow w.heap.size 73 1 v j vs ∧ (∀ t, t < j → ∃ b q c, vs.getD t undef = .slice b q c ∧ IR wr b q c (pv (polyT (tb s) (tb d) k t)) ∧ (0 < q → ∀ g o, b = some ⟨g, o, none⟩ → some g ≠ v.ownBlock)) ∧ Below w.heap.size w wr) (fun _ _ i _ => s.size - (intOf i).toNat)
  case atStart => exact ⟨0, 0, [], Nat.zero_le _, Lib.hid (by simp), rfl, rfl, HE.out, fun t ht => absurd ht (by omega), HB0.out⟩
  case round =>
    obtain ⟨j, m, vs, hj, HM, rfl, rfl, hown, hps, hbw⟩ := hrel
    generalize wr = wo at *
    by_cases hlt : j < s.size
    · have hjk : j * k + k ≤ s.size * k := by rw [← Nat.succ_mul]; exact Nat.mul_le_mul_right k hlt
      have hbs := tb_cf s hlt
      have HOWN := Lib.hid hown
      have HPS := Lib.hid hps
      have HBW := Lib.hid hbw
      have hl1 := lit_one wo (cf (tb s) j) 2
      rw [hbs] at hl1
      have HL1 : Hid ((wo.alloc (.cells #[.int .i64 (s[j].toNat : Int)] 2)).ownsRow wo.heap.size 2 1 (.slice (some ⟨wo.heap.size, 0, none⟩) 1 1) 1 ((pv (rowQ (tb s) (tb d) k j 0)).map (Value.int .i64))) := Lib.hid hl1
      have HBL : Hid (Below wo.heap.size wo (wo.alloc (.cells #[.int .i64 (s[j].toNat : Int)] 2))) := Lib.hid ((Below.refl _ _).alloc (Nat.le_refl _) _)
      have hy0 : 0 ≤ (s[j].toNat : Int) ∧ (s[j].toNat : Int) ≤ 255 := by rw [← hbs]; exact bi_range _
      obtain ⟨hy0, hy1⟩ := hy0
      clear hown hps hbw hl1 hbs
      go_wp2_with fail
      go_loopw [8, 10, 11] (fun at' v t' wx => ∃ t m : Nat, t ≤ k ∧ Hid (m = j * k + t) ∧ t' = .int .i64 ((t : Int) + 1) ∧ at' = .int .i64 (m : Int) ∧ wx.ownsRow wo.heap.size 2 1 v (t + 1) ((pv (rowQ (tb s) (tb d) k j t)).map (Value.int .i64)) ∧ Below wo.heap.size wo wx) (fun _ _ t' _ => (k + 1 - (intOf t').toNat))
      case atStart => exact ⟨0, m, Nat.zero_le _, Lib.hid (by rw [HM.out]; omega), rfl, rfl, HL1.out, HBL.out⟩
      case round =>
        clear HM
        obtain ⟨t, m, ht, HM, rfl, rfl, hown, hbx⟩ := hrel
        by_cases htk : t < k
        · have hmd : m < d.size := by have := HM.out; omega
          have hdb := tb_cf d hmd
          have HDB := Lib.hid hdb
          have HQ : Hid (rowQ (tb s) (tb d) k j (t + 1) = rowQ (tb s) (tb d) k j t ++ [cf (tb d) m]) := Lib.hid (by rw [HM.out]; exact rowQ_succ _ _ htk (by rw [tb_length]; omega))
          have HO := Lib.hid hown
          have HBX := Lib.hid hbx
          have hszx := hbx.size
          have hx0 : 0 ≤ (d[m].toNat : Int) ∧ (d[m].toNat : Int) ≤ 255 := by rw [← hdb]; exact bi_range _
          clear hbx hdb hjk
          obtain ⟨hx0, hx1⟩ := hx0
          go_wp2_with (at_builtin; refine append_one_at rfl (.tmp 29) (.tmp 34) 73 rfl 2 j0 (.int .i64 0) 8 Tryd.underlying73 ji jz0 jz1 jz2 rfl wo.heap.size _ _ _ rfl hown (.int .i64 (d[m].toNat : Int)) _ rfl rfl hszx (by unfold maxLen; omega) (by omega) ?_; intro v' w4 hown4 hg4 _; have HO4 := Lib.hid hown4; have HB4 := Lib.hid (below_grow HBX.out HO.out (Nat.le_refl _) hg4 hszx); clear hown4 hg4 hown)
          go_roundw
          case rel => exact ⟨t + 1, m + 1, by omega, Lib.hid (by have := HM.out; omega), by go_num, by go_num, by rw [HQ.out, pv, List.map_append, List.map_append, List.map_cons, List.map_nil, List.map_cons, List.map_nil, HDB.out]; exact HO4.out, HB4.out⟩
          case measure => simp [intOf]; omega
        · obtain rfl : t = k := by omega
          obtain ⟨ar, cr, rfl⟩ := own_shape hown
          have HIR := Lib.hid (IR.own hown)
          have HBX := Lib.hid hbx
          clear hown hbx
          go_wp2_with fail
          refine (l03Trim_any ar (t + 1) cr _ _ HIR.out (by omega)).mono ?_
          rintro e w5 ⟨a5, k5, c5, rfl, ho5, hb5⟩
          have hbo := HBX.out.trans (hb5.mono HBX.out.size)
          have hown5 := own_below HOWN.out hbo
          have hsz5 : w.heap.size ≤ w5.heap.size := Nat.le_trans HBW.out.size hbo.size
          have HO5 := Lib.hid hown5
          have HT5 := Lib.hid ho5
          have HBO := Lib.hid hbo
          have hx5 : wr.heap.size ≤ w5.heap.size := hb5.size
          have hxo : wo.heap.size ≤ wr.heap.size := HBX.out.size
          clear ho5 hb5 hbo
          go_wp2_with (at_builtin; refine append_one_at rfl (.tmp 38) (.tmp 41) 103 rfl 73 i0 (Value.slice none 0 0) 24 Tryd.underlying103 hi hz0 hz1 hz2 rfl w.heap.size _ _ _ rfl hown5 (Value.slice a5 k5 c5) _ rfl rfl hsz5 (by unfold maxLen; omega) (by omega) ?_; intro v' w6 hown6 hg6 hv6; have HO6 := Lib.hid hown6; have HG6 := Lib.hid hg6; have HV6 := Lib.hid hv6; have HB6 := Lib.hid (below_grow (HBW.out.trans (HBO.out.mono HBW.out.size)) HO5.out (Nat.le_refl _) hg6 hsz5); clear hown6 hg6 hv6 hown5)
          have HN : Hid (∀ u, u < j + 1 → ∃ b q c, (vs ++ [Value.slice a5 k5 c5]).getD u undef = .slice b q c ∧ IR w6 b q c (pv (polyT (tb s) (tb d) t u)) ∧ (0 < q → ∀ g o, b = some ⟨g, o, none⟩ → some g ≠ v'.ownBlock)) := Lib.hid (fun u hu => by
            have hvl : vs.length = j := by have := HOWN.out.1; simpa using this
            rw [getD_snoc (by rw [hvl]; omega), hvl]
            have hlo := HOWN.out.lt
            by_cases h1 : u < j
            · obtain ⟨b, q, c, e1, e2, e3⟩ := HPS.out u h1
              rw [if_pos h1]
              refine ⟨b, q, c, e1, IR.grown0 (e2.below HBO.out) HG6.out e3, fun hq g o e e4 => ?_⟩
              rcases HV6.out with h4 | ⟨g4, h4, h5⟩
              · exact e3 hq g o e (e4.trans h4)
              · obtain ⟨g', o', e', hg', _⟩ := e2.cells hq
                rw [e] at e'
                cases e'
                rw [h4] at e4
                simp only [Option.some.injEq] at e4
                omega
            · rw [if_neg h1]
              obtain rfl : u = j := by omega
              refine ⟨a5, k5, c5, rfl, ?_, fun _ g o e e4 => ?_⟩
              · have h2 := IR.own HT5.out
                rw [rowQ_all] at h2
                exact h2.grown HG6.out (fun g o e h3 => by
                  have h4 := (HT5.out.lt g (by rw [e]; rfl)).1
                  have h5 := (hlo g h3.symm).2
                  omega)
              · have h4 := HT5.out.lt g (by rw [e]; rfl)
                rcases HV6.out with h6 | ⟨g4, h6, h7⟩
                · have h5 := (hlo g (e4.trans h6).symm).2
                  omega
                · rw [h6] at e4
                  simp only [Option.some.injEq] at e4
                  omega)
          go_roundw
          case rel => exact ⟨j + 1, m, vs ++ [Value.slice a5 k5 c5], by omega, Lib.hid (by rw [HM.out, Nat.succ_mul]), by go_num, rfl, HO6.out, HN.out, HB6.out⟩
          case measure => simp [intOf]; omega
    · obtain rfl : j = s.size := by omega
      obtain ⟨ar, cr, rfl⟩ := own_shape hown
      have HR := Lib.hid (PS.own (g := fun i => polyT (tb s) (tb d) k i) hown (fun i hi => by obtain ⟨b, q, c, e1, e2, _⟩ := hps i hi; exact ⟨b, q, c, e1, e2⟩))
      have HBB := Lib.hid hbw
      clear hown hps hbw
      go_wp2_with fail
      go_ret
      exact ⟨ar, cr, rfl, HR.out, HBB.out⟩
end Go.Proofs.YtdnbkjiijpeiiaaDoor
