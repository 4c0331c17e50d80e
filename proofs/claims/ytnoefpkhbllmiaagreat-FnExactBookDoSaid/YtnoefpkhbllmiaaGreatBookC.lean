/- What the model's BookRight answers. -/
import Derived.Test.YtnoefpkhbllmiaaGreatBookB
import Derived.Test.YtnoefpkhbllmiaaGreatTillZ
namespace Go.Proofs.YtnoefpkhbllmiaaGreat
open Go.RowKit Go.PlainAid G
set_option linter.unusedVariables false
def tAt (ts : List Tm) (i : Nat) : Bool := termB (ts.getD i tmD).no (ts.getD i tmD).lk && decide ((ts.getD i tmD).no = (i : Int) + 1)
def iAt (n : Nat) (is : List Im) (i : Nat) : Bool := itemB (is.getD i imD).nm (is.getD i imD).tm (is.getD i imD).bd && decide ((is.getD i imD).tm ≤ (n : Int)) && (decide (i = 0) || ltS (is.getD (i - 1) imD).nm (is.getD i imD).nm)
def allTo' (f : Nat → Bool) (k : Nat) : Bool := (List.range k).all f
theorem allTo'_succ {f : Nat → Bool} {k : Nat} (h : allTo' f k = true) (h1 : f k = true) : allTo' f (k + 1) = true := by
  unfold allTo' at h ⊢
  rw [List.range_succ, List.all_append, h]
  simp [h1]
theorem allTo'_no {f : Nat → Bool} {k n : Nat} (hk : k < n) (h : f k = false) : allTo' f n = false := by
  unfold allTo'
  rw [List.all_eq_false]
  exact ⟨k, List.mem_range.2 hk, by rw [h]; decide⟩
theorem allTo'_iff {f : Nat → Bool} {n : Nat} : allTo' f n = true ↔ ∀ i, i < n → f i = true := by
  unfold allTo'
  rw [List.all_eq_true]
  exact ⟨fun h i hi => h i (List.mem_range.2 hi), fun h i hi => h i (List.mem_range.1 hi)⟩
theorem geq_str (a b : ByteArray) (W : World) : (binOp .geq 9 (.string a) (.string b)).run Tryz.prog W = .ok (.bool (!(ltS a b))) W := by
  simp only [binOp]
  rfl
/-- A book is right. -/
def bookB (b : Bk) : Bool := zeroB b.c0 b.c1 b.c2 b.c3 b.ts.length b.is.length || (confB b.c0 b.c1 b.c2 b.c3 && decide (1 ≤ b.ts.length ∧ b.ts.length ≤ 5) && decide (b.is.length ≤ 8) && allTo' (tAt b.ts) b.ts.length && allTo' (iAt b.ts.length b.is) b.is.length)
set_option maxRecDepth 100000 in
set_option maxHeartbeats 3200000 in
theorem specBookRight_any (b : Bk) (a1 a2 : Option Addr) (n1 n2 a3 a4 : Nat) (w : World) (h : BkR w a1 n1 a3 a2 n2 a4 b.ts b.is) (hn1 : n1 ≤ 1048576) (hn2 : n2 ≤ 1048576) (hs1 : ∀ t, t < n1 → (b.ts.getD t tmD).lk.size ≤ maxLen) (hs2 : ∀ t, t < n2 → (b.is.getD t imD).nm.size ≤ maxLen ∧ (b.is.getD t imD).bd.size ≤ maxLen) :
    Calls Tryz.prog 19 #[.agg #[.int .i64 b.c0, .int .i64 b.c1, .int .i64 b.c2, .int .i64 b.c3, .slice a1 n1 a3, .slice a2 n2 a4]] w fun e w' => e = .returned (.bool (bookB b)) ∧ Below w.heap.size w w' := by
  obtain ⟨c0, c1, c2, c3, ts, is⟩ := b
  dsimp only at h hs1 hs2 ⊢
  have hl1 : ts.length = n1 := h.t.len
  have hl2 : is.length = n2 := h.i.len
  have HS1 := Lib.hid hs1
  have HS2 := Lib.hid hs2
  have HD : Hid (bookB ⟨c0, c1, c2, c3, ts, is⟩ = (zeroB c0 c1 c2 c3 n1 n2 || (confB c0 c1 c2 c3 && decide (1 ≤ n1 ∧ n1 ≤ 5) && decide (n2 ≤ 8) && allTo' (tAt ts) n1 && allTo' (iAt n1 is) n2))) := Lib.hid (by unfold bookB; dsimp only; rw [hl1, hl2])
  generalize bookB ⟨c0, c1, c2, c3, ts, is⟩ = R at *
  obtain ⟨W, hW⟩ : ∃ W, W = w.alloc (.cells #[.int .i64 c0, .int .i64 c1, .int .i64 c2, .int .i64 c3, .slice a1 n1 a3, .slice a2 n2 a4] 40) := ⟨_, rfl⟩
  have hb0 : Below w.heap.size w W := by rw [hW]; exact (Below.refl _ _).alloc (Nat.le_refl _) _
  have hA : BoxC W (w.heap.size) [.int .i64 c0, .int .i64 c1, .int .i64 c2, .int .i64 c3, .slice a1 n1 a3, .slice a2 n2 a4] := by rw [hW]; exact BoxC.made _ _ _
  clear hs1 hs2 hl1 hl2
  have HR := Lib.hid h
  clear h
  have hmx : Tryz.prog.follows .mixedOrders = true := by kernel_rfl
  cases hz : zeroB c0 c1 c2 c3 n1 n2
  · cases hc : confB c0 c1 c2 c3
    · have HF : Hid (false = R) := Lib.hid (by rw [HD.out, hz, hc]; simp)
      clear HD
      go_enter Tryz.func19, Tryz.ntmps19
      go_wp2_with fail
      rw [← hW]
      clear hW
      refine (l07Zero_any c0 c1 c2 c3 a1 a2 n1 n2 a3 a4 _).mono ?_
      rintro e w1 ⟨rfl, hb⟩
      rw [hz]
      have hA1 := hA.below hb
      have HB1 := Lib.hid (hb0.trans (hb.mono hb0.size))
      have x0 := hA1.cell 0 _ rfl
      have x1 := hA1.cell 1 _ rfl
      have x2 := hA1.cell 2 _ rfl
      have x3 := hA1.cell 3 _ rfl
      have x4 := hA1.cell 4 _ rfl
      clear hb hA hb0 hA1
      go_wp2_with fail
      refine (l07Conf_any c0 c1 c2 c3 _).mono ?_
      rintro e w2 ⟨rfl, hb⟩
      rw [hc]
      have HB2 := Lib.hid (HB1.out.trans (hb.mono HB1.out.size))
      clear hb x0 x1 x2 x3 x4
      go_wp2_with fail
      go_ret
      exact ⟨ret_bool HF.out, HB2.out⟩
    · by_cases hn : 1 ≤ n1
      · by_cases hn5 : n1 ≤ 5
        · by_cases h8 : n2 ≤ 8
          · go_enter Tryz.func19, Tryz.ntmps19
            go_wp2_with fail
            rw [← hW]
            clear hW
            refine (l07Zero_any c0 c1 c2 c3 a1 a2 n1 n2 a3 a4 _).mono ?_
            rintro e w1 ⟨rfl, hb⟩
            rw [hz]
            have hA1 := hA.below hb
            have HB1 := Lib.hid (hb0.trans (hb.mono hb0.size))
            have x0 := hA1.cell 0 _ rfl
            have x1 := hA1.cell 1 _ rfl
            have x2 := hA1.cell 2 _ rfl
            have x3 := hA1.cell 3 _ rfl
            have x4 := hA1.cell 4 _ rfl
            have HA1 := Lib.hid hA1
            clear hb hA hb0 hA1
            go_wp2_with fail
            refine (l07Conf_any c0 c1 c2 c3 _).mono ?_
            rintro e w2 ⟨rfl, hb⟩
            rw [hc]
            have HB2 := Lib.hid (HB1.out.trans (hb.mono HB1.out.size))
            have hA2 := HA1.out.below hb
            have HA2 := Lib.hid hA2
            have x5 := hA2.cell 5 _ rfl
            clear hb x0 x1 x2 x3 x4 hA2
            go_wp2_with fail
            clear x5
            have HREL : Hid (BoxC w2 w.heap.size [.int .i64 c0, .int .i64 c1, .int .i64 c2, .int .i64 c3, .slice a1 n1 a3, .slice a2 n2 a4] ∧ Below w.heap.size w w2) := Lib.hid ⟨HA2.out, HB2.out⟩
            clear HA1 HB1 HA2 HB2
            go_loopw [4] (fun i wr => ∃ k : Nat, k ≤ n1 ∧ i = .int .i64 k ∧ Hid (allTo' (tAt ts) k = true) ∧ Hid (BoxC wr w.heap.size [.int .i64 c0, .int .i64 c1, .int .i64 c2, .int .i64 c3, .slice a1 n1 a3, .slice a2 n2 a4] ∧ Below w.heap.size w wr)) (fun i _ => n1 - (intOf i).toNat)
            case atStart => exact ⟨0, Nat.zero_le _, rfl, Lib.hid rfl, HREL⟩
            case round =>
              obtain ⟨k, hk, rfl, HT, HB⟩ := hrel
              clear HREL
              have x4 := HB.out.1.cell 4 _ rfl
              by_cases hlt : k < n1
              · have hRt := (HR.out.below HB.out.2).t
                obtain ⟨g, o, rfl, hg, t0, t1⟩ := hRt.at hlt
                have hin : 0 ≤ (k : Int) ∧ (k : Int) < (n1 : Int) := by omega
                have hsz := HS1.out k hlt
                have HTA : Hid (tAt ts k = (termB (ts.getD k tmD).no (ts.getD k tmD).lk && decide ((ts.getD k tmD).no = (k : Int) + 1))) := Lib.hid rfl
                generalize (ts.getD k tmD).no = no at *
                generalize (ts.getD k tmD).lk = lk at *
                have T0 := Lib.hid t0
                have hk1 : IntKind.i64.wrap ((k : Int) + 1) = (k : Int) + 1 := IntWalk.i64_in _ (by omega)
                clear hRt
                go_wp2_with fail
                refine (l07Term_any no lk _ hsz).mono ?_
                rintro e w5 ⟨rfl, hb⟩
                have HB5 := Lib.hid (And.intro (HB.out.1.below hb) (HB.out.2.trans (hb.mono HB.out.2.size)))
                have y4 := HB5.out.1.cell 4 _ rfl
                have y0 := (hb.cell (p := ⟨g, o + k * 2, none⟩) hg).trans T0.out
                clear hb x4 t0 t1 T0
                cases hv : termB no lk
                · have HF : Hid (false = R) := Lib.hid (by rw [HD.out, allTo'_no hlt (by rw [HTA.out, hv]; rfl)]; simp [hz])
                  clear HD
                  go_wp2_with fail
                  go_ret
                  exact ⟨ret_bool HF.out, HB5.out.2⟩
                · by_cases hno : no = (k : Int) + 1
                  · have HT2 : Hid (allTo' (tAt ts) (k + 1) = true) := Lib.hid (allTo'_succ HT.out (by rw [HTA.out, hv, decide_eq_true hno]; rfl))
                    have hno2 : (no != (k : Int) + 1) = false := by rw [hno]; simp
                    go_wp2_with fail
                    go_roundw
                    case rel => exact ⟨k + 1, by omega, by go_num, HT2, HB5⟩
                    case measure => simp [intOf]; omega
                  · have HF : Hid (false = R) := Lib.hid (by rw [HD.out, allTo'_no hlt (by rw [HTA.out, hv, decide_eq_false hno]; rfl)]; simp [hz])
                    have hno2 : (no != (k : Int) + 1) = true := by simpa using hno
                    clear HD
                    go_wp2_with fail
                    go_ret
                    exact ⟨ret_bool HF.out, HB5.out.2⟩
              · obtain rfl : n1 = k := by omega
                have x5 := HB.out.1.cell 5 _ rfl
                clear x4
                have HREL := HB
                go_wp2_with fail
                clear x5 hlt
                go_loopw [5] (fun i wr => ∃ k : Nat, k ≤ n2 ∧ i = .int .i64 k ∧ Hid (allTo' (iAt n1 is) k = true) ∧ Hid (BoxC wr w.heap.size [.int .i64 c0, .int .i64 c1, .int .i64 c2, .int .i64 c3, .slice a1 n1 a3, .slice a2 n2 a4] ∧ Below w.heap.size w wr)) (fun i _ => n2 - (intOf i).toNat)
                case atStart => exact ⟨0, Nat.zero_le _, rfl, Lib.hid rfl, HREL⟩
                case round =>
                  clear HREL HB
                  obtain ⟨k, hk, rfl, HI, HB⟩ := hrel
                  have x5 := HB.out.1.cell 5 _ rfl
                  by_cases hlt : k < n2
                  · have hRi := (HR.out.below HB.out.2).i
                    obtain ⟨g, o, rfl, hg, t0, t1, t2⟩ := hRi.at hlt
                    have hin : 0 ≤ (k : Int) ∧ (k : Int) < (n2 : Int) := by omega
                    have hsz := HS2.out k hlt
                    have HIA : Hid (iAt n1 is k = (itemB (is.getD k imD).nm (is.getD k imD).tm (is.getD k imD).bd && decide ((is.getD k imD).tm ≤ (n1 : Int)) && (decide (k = 0) || ltS (is.getD (k - 1) imD).nm (is.getD k imD).nm))) := Lib.hid rfl
                    have HP : Hid (0 < k → ∀ u : World, Below w.heap.size w u → u.cell? ⟨g, o + (k - 1) * 3, none⟩ = some (.string (is.getD (k - 1) imD).nm)) := Lib.hid (fun h0 u hu => by
                      obtain ⟨g', o', hge, _, p0, _⟩ := (HR.out.below hu).i.at (show k - 1 < n2 by omega)
                      simp only [Option.some.injEq, Addr.mk.injEq, and_true] at hge
                      obtain ⟨rfl, rfl⟩ := hge
                      exact p0)
                    have HQ : Hid (∀ u : World, Below w.heap.size w u → u.cell? ⟨g, o + k * 3, none⟩ = some (.string (is.getD k imD).nm) ∧ u.cell? ⟨g, o + k * 3 + 1, none⟩ = some (.int .i64 (is.getD k imD).tm) ∧ u.cell? ⟨g, o + k * 3 + 2, none⟩ = some (.string (is.getD k imD).bd)) := Lib.hid (fun u hu => by
                      obtain ⟨g', o', hge, _, p0, p1, p2⟩ := (HR.out.below hu).i.at hlt
                      simp only [Option.some.injEq, Addr.mk.injEq, and_true] at hge
                      obtain ⟨rfl, rfl⟩ := hge
                      exact ⟨p0, p1, p2⟩)
                    generalize (is.getD (k - 1) imD).nm = pm at *
                    generalize (is.getD k imD).nm = nm at *
                    generalize (is.getD k imD).tm = tm at *
                    generalize (is.getD k imD).bd = bd at *
                    have hFn := HB.out
                    have HC : Hid (∀ u : World, (BoxC u w.heap.size [.int .i64 c0, .int .i64 c1, .int .i64 c2, .int .i64 c3, .slice a1 n1 a3, .slice (some ⟨g, o, none⟩) n2 a4] ∧ Below w.heap.size w u) → u.cell? ⟨w.heap.size, 5, none⟩ = some (.slice (some ⟨g, o, none⟩) n2 a4) ∧ u.cell? ⟨g, o + k * 3, none⟩ = some (.string nm) ∧ u.cell? ⟨g, o + k * 3 + 1, none⟩ = some (.int .i64 tm) ∧ u.cell? ⟨g, o + k * 3 + 2, none⟩ = some (.string bd)) := Lib.hid (fun u hu => ⟨hu.1.cell 5 _ rfl, HQ.out u hu.2⟩)
                    clear hRi HQ HB
                    cases hv : itemB nm tm bd
                    · skip
                      have HF : Hid (false = R) := Lib.hid (by rw [HD.out, allTo'_no hlt (by rw [HIA.out, hv]; rfl)]; simp [hz])
                      clear HD HP
                      go_wp2_with fail
                      refine TillZ.region (t := 3) hmx (fun _ => True) ?_
                      refine TillZ.take (i := 2) (v := .int .i64 (k : Int)) rfl rfl rfl (by kernel_rfl) (by kernel_rfl) (by kernel_rfl) (by kernel_rfl) trivial (fun u _ => by go_simp) ?_
                      simp only [Act.put, List.getElem_toArray, List.getElem_cons_zero, List.getElem_cons_succ, List.setIfInBounds_toArray, List.set_cons_zero, List.set_cons_succ]
                      refine TillZ.value (i := 0) (v := .pointer (some ⟨w.heap.size, 5, none⟩)) (by kernel_rfl) rfl rfl rfl (by go_simp) trivial ?_
                      simp only [Act.put, List.getElem_toArray, List.getElem_cons_zero, List.getElem_cons_succ, List.setIfInBounds_toArray, List.set_cons_zero, List.set_cons_succ]
                      refine TillZ.value (i := 1) (v := .slice (some ⟨g, o, none⟩) n2 a4) (by kernel_rfl) rfl rfl rfl (by go_simp) trivial ?_
                      simp only [Act.put, List.getElem_toArray, List.getElem_cons_zero, List.getElem_cons_succ, List.setIfInBounds_toArray, List.set_cons_zero, List.set_cons_succ]
                      refine TillZ.hand (v := .pointer (some ⟨g, o + k * 3, none⟩)) (by kernel_rfl) rfl rfl (by go_simp) ?_
                      simp only [Act.put, List.getElem_toArray, List.getElem_cons_zero, List.getElem_cons_succ, List.setIfInBounds_toArray, List.set_cons_zero, List.set_cons_succ]
                      refine TillZ.any_value (i := 4) (v := .agg #[.string nm, .int .i64 tm, .string bd]) (by kernel_rfl) rfl rfl (by go_simp) ?_
                      simp only [Act.put, List.getElem_toArray, List.getElem_cons_zero, List.getElem_cons_succ, List.setIfInBounds_toArray, List.set_cons_zero, List.set_cons_succ]
                      refine TillZ.any_call (i := 5) (f := 40) (args := #[.agg #[.string nm, .int .i64 tm, .string bd]]) (by kernel_rfl) rfl rfl (by go_simp) ?_
                      refine Calls.mono (l07Item_any nm tm bd _ hsz.1 hsz.2) ?_
                      rintro e w5 ⟨rfl, hb⟩
                      rw [hv]
                      refine ⟨_, rfl, ?_⟩
                      simp only [Act.put, List.getElem_toArray, List.getElem_cons_zero, List.getElem_cons_succ, List.setIfInBounds_toArray, List.set_cons_zero, List.set_cons_succ]
                      have hG := And.intro (hFn.1.drew.below hb) (hFn.2.drew.trans (hb.mono hFn.2.size))
                      clear x5 t0 t1 t2 hFn hb
                      obtain ⟨y5, y0, y1, y2⟩ := HC.out _ hG
                      refine TillZ.any_value (i := 6) (v := .bool true) (by kernel_rfl) rfl rfl (by go_simp) ?_
                      simp only [Act.put, List.getElem_toArray, List.getElem_cons_zero, List.getElem_cons_succ, List.setIfInBounds_toArray, List.set_cons_zero, List.set_cons_succ]
                      refine TillZ.any_value (i := 7) (v := .bool true) (by kernel_rfl) rfl rfl (by go_simp) ?_
                      simp only [Act.put, List.getElem_toArray, List.getElem_cons_zero, List.getElem_cons_succ, List.setIfInBounds_toArray, List.set_cons_zero, List.set_cons_succ]
                      refine TillZ.still (m := 8) rfl (by kernel_rfl) (by kernel_rfl) ?_
                      dsimp only [List.drop]
                      iterate 8 (with_reducible refine TillZ.no (by kernel_rfl) ?_; simp only [Act.put, List.getElem_toArray, List.getElem_cons_zero, List.getElem_cons_succ, List.setIfInBounds_toArray, List.set_cons_zero, List.set_cons_succ])
                      iterate 2 (with_reducible refine TillZ.step (by kernel_rfl) (fun K hK => ?_); go_simp; refine hK _ ?_; clear hK K)
                      iterate 18 (with_reducible refine TillZ.no (by kernel_rfl) ?_; simp only [Act.put, List.getElem_toArray, List.getElem_cons_zero, List.getElem_cons_succ, List.setIfInBounds_toArray, List.set_cons_zero, List.set_cons_succ])
                      iterate 1 (with_reducible refine TillZ.step (by kernel_rfl) (fun K hK => ?_); go_simp; refine hK _ ?_; clear hK K)
                      with_reducible refine wpStill_nil ?_
                      go_wp2_with fail
                      go_ret
                      exact ⟨ret_bool HF.out, hG.2⟩
                    · by_cases htm : tm ≤ (n1 : Int)
                      · have htm3 : decide ((n1 : Int) < tm) = false := decide_eq_false (by omega)
                        by_cases h0 : k = 0
                        · skip
                          have HI2 : Hid (allTo' (iAt n1 is) (k + 1) = true) := Lib.hid (allTo'_succ HI.out (by rw [HIA.out, hv, decide_eq_true htm, decide_eq_true h0]; rfl))
                          have hk0 : decide (0 < k) = false := decide_eq_false (by omega)
                          clear HP h0
                          go_wp2_with fail
                          refine TillZ.region (t := 3) hmx (fun _ => True) ?_
                          refine TillZ.take (i := 2) (v := .int .i64 (k : Int)) rfl rfl rfl (by kernel_rfl) (by kernel_rfl) (by kernel_rfl) (by kernel_rfl) trivial (fun u _ => by go_simp) ?_
                          simp only [Act.put, List.getElem_toArray, List.getElem_cons_zero, List.getElem_cons_succ, List.setIfInBounds_toArray, List.set_cons_zero, List.set_cons_succ]
                          refine TillZ.value (i := 0) (v := .pointer (some ⟨w.heap.size, 5, none⟩)) (by kernel_rfl) rfl rfl rfl (by go_simp) trivial ?_
                          simp only [Act.put, List.getElem_toArray, List.getElem_cons_zero, List.getElem_cons_succ, List.setIfInBounds_toArray, List.set_cons_zero, List.set_cons_succ]
                          refine TillZ.value (i := 1) (v := .slice (some ⟨g, o, none⟩) n2 a4) (by kernel_rfl) rfl rfl rfl (by go_simp) trivial ?_
                          simp only [Act.put, List.getElem_toArray, List.getElem_cons_zero, List.getElem_cons_succ, List.setIfInBounds_toArray, List.set_cons_zero, List.set_cons_succ]
                          refine TillZ.hand (v := .pointer (some ⟨g, o + k * 3, none⟩)) (by kernel_rfl) rfl rfl (by go_simp) ?_
                          simp only [Act.put, List.getElem_toArray, List.getElem_cons_zero, List.getElem_cons_succ, List.setIfInBounds_toArray, List.set_cons_zero, List.set_cons_succ]
                          refine TillZ.any_value (i := 4) (v := .agg #[.string nm, .int .i64 tm, .string bd]) (by kernel_rfl) rfl rfl (by go_simp) ?_
                          simp only [Act.put, List.getElem_toArray, List.getElem_cons_zero, List.getElem_cons_succ, List.setIfInBounds_toArray, List.set_cons_zero, List.set_cons_succ]
                          refine TillZ.any_call (i := 5) (f := 40) (args := #[.agg #[.string nm, .int .i64 tm, .string bd]]) (by kernel_rfl) rfl rfl (by go_simp) ?_
                          refine Calls.mono (l07Item_any nm tm bd _ hsz.1 hsz.2) ?_
                          rintro e w5 ⟨rfl, hb⟩
                          rw [hv]
                          refine ⟨_, rfl, ?_⟩
                          simp only [Act.put, List.getElem_toArray, List.getElem_cons_zero, List.getElem_cons_succ, List.setIfInBounds_toArray, List.set_cons_zero, List.set_cons_succ]
                          have hG := And.intro (hFn.1.drew.below hb) (hFn.2.drew.trans (hb.mono hFn.2.size))
                          clear x5 t0 t1 t2 hFn hb
                          obtain ⟨y5, y0, y1, y2⟩ := HC.out _ hG
                          refine TillZ.any_value (i := 6) (v := .bool false) (by kernel_rfl) rfl rfl (by go_simp) ?_
                          simp only [Act.put, List.getElem_toArray, List.getElem_cons_zero, List.getElem_cons_succ, List.setIfInBounds_toArray, List.set_cons_zero, List.set_cons_succ]
                          refine TillZ.any_value (i := 7) (v := .bool false) (by kernel_rfl) rfl rfl (by go_simp) ?_
                          simp only [Act.put, List.getElem_toArray, List.getElem_cons_zero, List.getElem_cons_succ, List.setIfInBounds_toArray, List.set_cons_zero, List.set_cons_succ]
                          refine TillZ.still (m := 8) rfl (by kernel_rfl) (by kernel_rfl) ?_
                          dsimp only [List.drop]
                          iterate 13 (with_reducible refine TillZ.step (by kernel_rfl) (fun K hK => ?_); go_simp; refine hK _ ?_; clear hK K)
                          iterate 14 (with_reducible refine TillZ.no (by kernel_rfl) ?_; simp only [Act.put, List.getElem_toArray, List.getElem_cons_zero, List.getElem_cons_succ, List.setIfInBounds_toArray, List.set_cons_zero, List.set_cons_succ])
                          iterate 2 (with_reducible refine TillZ.step (by kernel_rfl) (fun K hK => ?_); go_simp; refine hK _ ?_; clear hK K)
                          with_reducible refine wpStill_nil ?_
                          go_wp2_with fail
                          go_roundw
                          case rel => exact ⟨k + 1, by omega, by go_num, HI2, Lib.hid hG⟩
                          case measure => simp [intOf]; omega
                        · have HP2 := Lib.hid (fun (u : World) (hu : BoxC u w.heap.size [.int .i64 c0, .int .i64 c1, .int .i64 c2, .int .i64 c3, .slice a1 n1 a3, .slice (some ⟨g, o, none⟩) n2 a4] ∧ Below w.heap.size w u) => HP.out (by omega) u hu.2)
                          have hk1 : IntKind.i64.wrap ((k : Int) - 1) = ((k - 1 : Nat) : Int) := by rw [IntWalk.i64_in _ (by omega)]; omega
                          have hin2 : 0 ≤ ((k - 1 : Nat) : Int) ∧ ((k - 1 : Nat) : Int) < (n2 : Int) := by omega
                          have hk0 : decide (0 < k) = true := decide_eq_true (by omega)
                          have hge := geq_str pm nm
                          obtain ⟨km, hkm⟩ : ∃ km, km = k - 1 := ⟨_, rfl⟩
                          rw [← hkm] at HP2 hk1 hin2
                          clear HP hkm
                          cases hl : ltS pm nm
                          · skip
                            have HF : Hid (false = R) := Lib.hid (by rw [HD.out, allTo'_no hlt (by rw [HIA.out, hl, decide_eq_false h0, Bool.or_self, Bool.and_false])]; simp [hz])
                            rw [hl] at hge
                            clear HD
                            go_wp2_with fail
                            refine TillZ.region (t := 3) hmx (fun _ => True) ?_
                            refine TillZ.take (i := 2) (v := .int .i64 (k : Int)) rfl rfl rfl (by kernel_rfl) (by kernel_rfl) (by kernel_rfl) (by kernel_rfl) trivial (fun u _ => by go_simp) ?_
                            simp only [Act.put, List.getElem_toArray, List.getElem_cons_zero, List.getElem_cons_succ, List.setIfInBounds_toArray, List.set_cons_zero, List.set_cons_succ]
                            refine TillZ.value (i := 0) (v := .pointer (some ⟨w.heap.size, 5, none⟩)) (by kernel_rfl) rfl rfl rfl (by go_simp) trivial ?_
                            simp only [Act.put, List.getElem_toArray, List.getElem_cons_zero, List.getElem_cons_succ, List.setIfInBounds_toArray, List.set_cons_zero, List.set_cons_succ]
                            refine TillZ.value (i := 1) (v := .slice (some ⟨g, o, none⟩) n2 a4) (by kernel_rfl) rfl rfl rfl (by go_simp) trivial ?_
                            simp only [Act.put, List.getElem_toArray, List.getElem_cons_zero, List.getElem_cons_succ, List.setIfInBounds_toArray, List.set_cons_zero, List.set_cons_succ]
                            refine TillZ.hand (v := .pointer (some ⟨g, o + k * 3, none⟩)) (by kernel_rfl) rfl rfl (by go_simp) ?_
                            simp only [Act.put, List.getElem_toArray, List.getElem_cons_zero, List.getElem_cons_succ, List.setIfInBounds_toArray, List.set_cons_zero, List.set_cons_succ]
                            refine TillZ.any_value (i := 4) (v := .agg #[.string nm, .int .i64 tm, .string bd]) (by kernel_rfl) rfl rfl (by go_simp) ?_
                            simp only [Act.put, List.getElem_toArray, List.getElem_cons_zero, List.getElem_cons_succ, List.setIfInBounds_toArray, List.set_cons_zero, List.set_cons_succ]
                            refine TillZ.any_call (i := 5) (f := 40) (args := #[.agg #[.string nm, .int .i64 tm, .string bd]]) (by kernel_rfl) rfl rfl (by go_simp) ?_
                            refine Calls.mono (l07Item_any nm tm bd _ hsz.1 hsz.2) ?_
                            rintro e w5 ⟨rfl, hb⟩
                            rw [hv]
                            refine ⟨_, rfl, ?_⟩
                            simp only [Act.put, List.getElem_toArray, List.getElem_cons_zero, List.getElem_cons_succ, List.setIfInBounds_toArray, List.set_cons_zero, List.set_cons_succ]
                            have hG := And.intro (hFn.1.drew.below hb) (hFn.2.drew.trans (hb.mono hFn.2.size))
                            clear x5 t0 t1 t2 hFn hb
                            obtain ⟨y5, y0, y1, y2⟩ := HC.out _ hG
                            have z0 := HP2.out _ hG
                            refine TillZ.any_value (i := 6) (v := .bool false) (by kernel_rfl) rfl rfl (by go_simp) ?_
                            simp only [Act.put, List.getElem_toArray, List.getElem_cons_zero, List.getElem_cons_succ, List.setIfInBounds_toArray, List.set_cons_zero, List.set_cons_succ]
                            refine TillZ.any_value (i := 7) (v := .bool false) (by kernel_rfl) rfl rfl (by go_simp) ?_
                            simp only [Act.put, List.getElem_toArray, List.getElem_cons_zero, List.getElem_cons_succ, List.setIfInBounds_toArray, List.set_cons_zero, List.set_cons_succ]
                            refine TillZ.still (m := 8) rfl (by kernel_rfl) (by kernel_rfl) ?_
                            dsimp only [List.drop]
                            iterate 29 (with_reducible refine TillZ.step (by kernel_rfl) (fun K hK => ?_); go_simp; refine hK _ ?_; clear hK K)
                            with_reducible refine wpStill_nil ?_
                            go_wp2_with fail
                            go_ret
                            exact ⟨ret_bool HF.out, hG.2⟩
                          · skip
                            have HI2 : Hid (allTo' (iAt n1 is) (k + 1) = true) := Lib.hid (allTo'_succ HI.out (by rw [HIA.out, hv, decide_eq_true htm, hl, Bool.or_true]; rfl))
                            rw [hl] at hge
                            go_wp2_with fail
                            refine TillZ.region (t := 3) hmx (fun _ => True) ?_
                            refine TillZ.take (i := 2) (v := .int .i64 (k : Int)) rfl rfl rfl (by kernel_rfl) (by kernel_rfl) (by kernel_rfl) (by kernel_rfl) trivial (fun u _ => by go_simp) ?_
                            simp only [Act.put, List.getElem_toArray, List.getElem_cons_zero, List.getElem_cons_succ, List.setIfInBounds_toArray, List.set_cons_zero, List.set_cons_succ]
                            refine TillZ.value (i := 0) (v := .pointer (some ⟨w.heap.size, 5, none⟩)) (by kernel_rfl) rfl rfl rfl (by go_simp) trivial ?_
                            simp only [Act.put, List.getElem_toArray, List.getElem_cons_zero, List.getElem_cons_succ, List.setIfInBounds_toArray, List.set_cons_zero, List.set_cons_succ]
                            refine TillZ.value (i := 1) (v := .slice (some ⟨g, o, none⟩) n2 a4) (by kernel_rfl) rfl rfl rfl (by go_simp) trivial ?_
                            simp only [Act.put, List.getElem_toArray, List.getElem_cons_zero, List.getElem_cons_succ, List.setIfInBounds_toArray, List.set_cons_zero, List.set_cons_succ]
                            refine TillZ.hand (v := .pointer (some ⟨g, o + k * 3, none⟩)) (by kernel_rfl) rfl rfl (by go_simp) ?_
                            simp only [Act.put, List.getElem_toArray, List.getElem_cons_zero, List.getElem_cons_succ, List.setIfInBounds_toArray, List.set_cons_zero, List.set_cons_succ]
                            refine TillZ.any_value (i := 4) (v := .agg #[.string nm, .int .i64 tm, .string bd]) (by kernel_rfl) rfl rfl (by go_simp) ?_
                            simp only [Act.put, List.getElem_toArray, List.getElem_cons_zero, List.getElem_cons_succ, List.setIfInBounds_toArray, List.set_cons_zero, List.set_cons_succ]
                            refine TillZ.any_call (i := 5) (f := 40) (args := #[.agg #[.string nm, .int .i64 tm, .string bd]]) (by kernel_rfl) rfl rfl (by go_simp) ?_
                            refine Calls.mono (l07Item_any nm tm bd _ hsz.1 hsz.2) ?_
                            rintro e w5 ⟨rfl, hb⟩
                            rw [hv]
                            refine ⟨_, rfl, ?_⟩
                            simp only [Act.put, List.getElem_toArray, List.getElem_cons_zero, List.getElem_cons_succ, List.setIfInBounds_toArray, List.set_cons_zero, List.set_cons_succ]
                            have hG := And.intro (hFn.1.drew.below hb) (hFn.2.drew.trans (hb.mono hFn.2.size))
                            clear x5 t0 t1 t2 hFn hb
                            obtain ⟨y5, y0, y1, y2⟩ := HC.out _ hG
                            have z0 := HP2.out _ hG
                            refine TillZ.any_value (i := 6) (v := .bool false) (by kernel_rfl) rfl rfl (by go_simp) ?_
                            simp only [Act.put, List.getElem_toArray, List.getElem_cons_zero, List.getElem_cons_succ, List.setIfInBounds_toArray, List.set_cons_zero, List.set_cons_succ]
                            refine TillZ.any_value (i := 7) (v := .bool false) (by kernel_rfl) rfl rfl (by go_simp) ?_
                            simp only [Act.put, List.getElem_toArray, List.getElem_cons_zero, List.getElem_cons_succ, List.setIfInBounds_toArray, List.set_cons_zero, List.set_cons_succ]
                            refine TillZ.still (m := 8) rfl (by kernel_rfl) (by kernel_rfl) ?_
                            dsimp only [List.drop]
                            iterate 29 (with_reducible refine TillZ.step (by kernel_rfl) (fun K hK => ?_); go_simp; refine hK _ ?_; clear hK K)
                            with_reducible refine wpStill_nil ?_
                            go_wp2_with fail
                            go_roundw
                            case rel => exact ⟨k + 1, by omega, by go_num, HI2, Lib.hid hG⟩
                            case measure => simp [intOf]; omega
                      · skip
                        have HF : Hid (false = R) := Lib.hid (by rw [HD.out, allTo'_no hlt (by rw [HIA.out, hv, decide_eq_false htm]; rfl)]; simp [hz])
                        have htm2 : (n1 : Int) < tm := by omega
                        clear HD HP
                        go_wp2_with fail
                        refine TillZ.region (t := 3) hmx (fun _ => True) ?_
                        refine TillZ.take (i := 2) (v := .int .i64 (k : Int)) rfl rfl rfl (by kernel_rfl) (by kernel_rfl) (by kernel_rfl) (by kernel_rfl) trivial (fun u _ => by go_simp) ?_
                        simp only [Act.put, List.getElem_toArray, List.getElem_cons_zero, List.getElem_cons_succ, List.setIfInBounds_toArray, List.set_cons_zero, List.set_cons_succ]
                        refine TillZ.value (i := 0) (v := .pointer (some ⟨w.heap.size, 5, none⟩)) (by kernel_rfl) rfl rfl rfl (by go_simp) trivial ?_
                        simp only [Act.put, List.getElem_toArray, List.getElem_cons_zero, List.getElem_cons_succ, List.setIfInBounds_toArray, List.set_cons_zero, List.set_cons_succ]
                        refine TillZ.value (i := 1) (v := .slice (some ⟨g, o, none⟩) n2 a4) (by kernel_rfl) rfl rfl rfl (by go_simp) trivial ?_
                        simp only [Act.put, List.getElem_toArray, List.getElem_cons_zero, List.getElem_cons_succ, List.setIfInBounds_toArray, List.set_cons_zero, List.set_cons_succ]
                        refine TillZ.hand (v := .pointer (some ⟨g, o + k * 3, none⟩)) (by kernel_rfl) rfl rfl (by go_simp) ?_
                        simp only [Act.put, List.getElem_toArray, List.getElem_cons_zero, List.getElem_cons_succ, List.setIfInBounds_toArray, List.set_cons_zero, List.set_cons_succ]
                        refine TillZ.any_value (i := 4) (v := .agg #[.string nm, .int .i64 tm, .string bd]) (by kernel_rfl) rfl rfl (by go_simp) ?_
                        simp only [Act.put, List.getElem_toArray, List.getElem_cons_zero, List.getElem_cons_succ, List.setIfInBounds_toArray, List.set_cons_zero, List.set_cons_succ]
                        refine TillZ.any_call (i := 5) (f := 40) (args := #[.agg #[.string nm, .int .i64 tm, .string bd]]) (by kernel_rfl) rfl rfl (by go_simp) ?_
                        refine Calls.mono (l07Item_any nm tm bd _ hsz.1 hsz.2) ?_
                        rintro e w5 ⟨rfl, hb⟩
                        rw [hv]
                        refine ⟨_, rfl, ?_⟩
                        simp only [Act.put, List.getElem_toArray, List.getElem_cons_zero, List.getElem_cons_succ, List.setIfInBounds_toArray, List.set_cons_zero, List.set_cons_succ]
                        have hG := And.intro (hFn.1.drew.below hb) (hFn.2.drew.trans (hb.mono hFn.2.size))
                        clear x5 t0 t1 t2 hFn hb
                        obtain ⟨y5, y0, y1, y2⟩ := HC.out _ hG
                        refine TillZ.any_value (i := 6) (v := .bool false) (by kernel_rfl) rfl rfl (by go_simp) ?_
                        simp only [Act.put, List.getElem_toArray, List.getElem_cons_zero, List.getElem_cons_succ, List.setIfInBounds_toArray, List.set_cons_zero, List.set_cons_succ]
                        refine TillZ.any_value (i := 7) (v := .bool false) (by kernel_rfl) rfl rfl (by go_simp) ?_
                        simp only [Act.put, List.getElem_toArray, List.getElem_cons_zero, List.getElem_cons_succ, List.setIfInBounds_toArray, List.set_cons_zero, List.set_cons_succ]
                        refine TillZ.still (m := 8) rfl (by kernel_rfl) (by kernel_rfl) ?_
                        dsimp only [List.drop]
                        iterate 10 (with_reducible refine TillZ.step (by kernel_rfl) (fun K hK => ?_); go_simp; refine hK _ ?_; clear hK K)
                        iterate 18 (with_reducible refine TillZ.no (by kernel_rfl) ?_; simp only [Act.put, List.getElem_toArray, List.getElem_cons_zero, List.getElem_cons_succ, List.setIfInBounds_toArray, List.set_cons_zero, List.set_cons_succ])
                        iterate 1 (with_reducible refine TillZ.step (by kernel_rfl) (fun K hK => ?_); go_simp; refine hK _ ?_; clear hK K)
                        with_reducible refine wpStill_nil ?_
                        go_wp2_with fail
                        go_ret
                        exact ⟨ret_bool HF.out, hG.2⟩
                  · obtain rfl : n2 = k := by omega
                    have HF : Hid (true = R) := Lib.hid (by rw [HD.out, hc, HT.out, HI.out, decide_eq_true ⟨hn, hn5⟩, decide_eq_true h8]; simp)
                    clear HD
                    go_wp2_with fail
                    go_ret
                    exact ⟨ret_bool HF.out, HB.out.2⟩
          · skip
            have HF : Hid (false = R) := Lib.hid (by rw [HD.out, hz, decide_eq_false h8]; simp)
            go_enter Tryz.func19, Tryz.ntmps19
            go_wp2_with fail
            rw [← hW]
            clear hW HD
            refine (l07Zero_any c0 c1 c2 c3 a1 a2 n1 n2 a3 a4 _).mono ?_
            rintro e w1 ⟨rfl, hb⟩
            rw [hz]
            have hA1 := hA.below hb
            have HB1 := Lib.hid (hb0.trans (hb.mono hb0.size))
            have x0 := hA1.cell 0 _ rfl
            have x1 := hA1.cell 1 _ rfl
            have x2 := hA1.cell 2 _ rfl
            have x3 := hA1.cell 3 _ rfl
            have x4 := hA1.cell 4 _ rfl
            have HA1 := Lib.hid hA1
            clear hb hA hb0 hA1
            go_wp2_with fail
            refine (l07Conf_any c0 c1 c2 c3 _).mono ?_
            rintro e w2 ⟨rfl, hb⟩
            rw [hc]
            have HB2 := Lib.hid (HB1.out.trans (hb.mono HB1.out.size))
            have x5 := (HA1.out.below hb).cell 5 _ rfl
            clear hb x0 x1 x2 x3 x4
            go_wp2_with fail
            go_ret
            exact ⟨ret_bool HF.out, HB2.out⟩
        · skip
          have HF : Hid (false = R) := Lib.hid (by rw [HD.out, hz, decide_eq_false (show ¬ (1 ≤ n1 ∧ n1 ≤ 5) by omega)]; simp)
          go_enter Tryz.func19, Tryz.ntmps19
          go_wp2_with fail
          rw [← hW]
          clear hW HD
          refine (l07Zero_any c0 c1 c2 c3 a1 a2 n1 n2 a3 a4 _).mono ?_
          rintro e w1 ⟨rfl, hb⟩
          rw [hz]
          have hA1 := hA.below hb
          have HB1 := Lib.hid (hb0.trans (hb.mono hb0.size))
          have x0 := hA1.cell 0 _ rfl
          have x1 := hA1.cell 1 _ rfl
          have x2 := hA1.cell 2 _ rfl
          have x3 := hA1.cell 3 _ rfl
          have x4 := hA1.cell 4 _ rfl
          have HA1 := Lib.hid hA1
          clear hb hA hb0 hA1
          go_wp2_with fail
          refine (l07Conf_any c0 c1 c2 c3 _).mono ?_
          rintro e w2 ⟨rfl, hb⟩
          rw [hc]
          have HB2 := Lib.hid (HB1.out.trans (hb.mono HB1.out.size))
          have x5 := (HA1.out.below hb).cell 5 _ rfl
          clear hb x0 x1 x2 x3 x4
          go_wp2_with fail
          go_ret
          exact ⟨ret_bool HF.out, HB2.out⟩
      · skip
        have HF : Hid (false = R) := Lib.hid (by rw [HD.out, hz, decide_eq_false (show ¬ (1 ≤ n1 ∧ n1 ≤ 5) by omega)]; simp)
        go_enter Tryz.func19, Tryz.ntmps19
        go_wp2_with fail
        rw [← hW]
        clear hW HD
        refine (l07Zero_any c0 c1 c2 c3 a1 a2 n1 n2 a3 a4 _).mono ?_
        rintro e w1 ⟨rfl, hb⟩
        rw [hz]
        have hA1 := hA.below hb
        have HB1 := Lib.hid (hb0.trans (hb.mono hb0.size))
        have x0 := hA1.cell 0 _ rfl
        have x1 := hA1.cell 1 _ rfl
        have x2 := hA1.cell 2 _ rfl
        have x3 := hA1.cell 3 _ rfl
        have x4 := hA1.cell 4 _ rfl
        have HA1 := Lib.hid hA1
        clear hb hA hb0 hA1
        go_wp2_with fail
        refine (l07Conf_any c0 c1 c2 c3 _).mono ?_
        rintro e w2 ⟨rfl, hb⟩
        rw [hc]
        have HB2 := Lib.hid (HB1.out.trans (hb.mono HB1.out.size))
        have x5 := (HA1.out.below hb).cell 5 _ rfl
        clear hb x0 x1 x2 x3 x4
        go_wp2_with fail
        go_ret
        exact ⟨ret_bool HF.out, HB2.out⟩
  · skip
    have HF : Hid (true = R) := Lib.hid (by rw [HD.out, hz]; simp)
    go_enter Tryz.func19, Tryz.ntmps19
    go_wp2_with fail
    rw [← hW]
    clear hW HD
    refine (l07Zero_any c0 c1 c2 c3 a1 a2 n1 n2 a3 a4 _).mono ?_
    rintro e w1 ⟨rfl, hb⟩
    rw [hz]
    have HB1 := Lib.hid (hb0.trans (hb.mono hb0.size))
    clear hb hA hb0
    go_wp2_with fail
    go_ret
    exact ⟨ret_bool HF.out, HB1.out⟩
end Go.Proofs.YtnoefpkhbllmiaaGreat
