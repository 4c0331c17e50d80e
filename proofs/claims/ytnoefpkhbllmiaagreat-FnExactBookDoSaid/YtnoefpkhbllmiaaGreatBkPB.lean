/- A right book: what the program's functions answer. -/
import Derived.Test.YtnoefpkhbllmiaaGreatBookC
import Derived.Test.YtnoefpkhbllmiaaGreatBkPA
import Derived.Test.YtnoefpkhbllmiaaGreatBkL
namespace Go.Proofs.YtnoefpkhbllmiaaGreat
open Go.RowKit Go.PlainAid G IRow
set_option linter.unusedVariables false
set_option maxRecDepth 100000 in
theorem bookZero_any (c0 c1 c2 c3 : Int) (a1 a2 : Option Addr) (n1 n2 a3 a4 : Nat) (w : World) :
    Calls Tryz.prog 44 #[.agg #[.int .i64 c0, .int .i64 c1, .int .i64 c2, .int .i64 c3, .slice a1 n1 a3, .slice a2 n2 a4]] w fun e w' => e = .returned (.bool (zeroB c0 c1 c2 c3 n1 n2)) ∧ Below w.heap.size w w' := by
  have HB : Hid (Below w.heap.size w (w.alloc (.cells #[.int .i64 c0, .int .i64 c1, .int .i64 c2, .int .i64 c3, .slice a1 n1 a3, .slice a2 n2 a4] 40))) := Lib.hid ((Below.refl _ _).alloc (Nat.le_refl _) _)
  have HE := eql_conf c0 c1 c2 c3
  have HZ : Hid (zeroB c0 c1 c2 c3 n1 n2 = (decide (c0 = 0 ∧ c1 = 0 ∧ c2 = 0 ∧ c3 = 0) && decide (n1 = 0) && decide (n2 = 0))) := Lib.hid rfl
  generalize decide (c0 = 0 ∧ c1 = 0 ∧ c2 = 0 ∧ c3 = 0) = z at HE HZ
  cases z
  · have HF : Hid (false = zeroB c0 c1 c2 c3 n1 n2) := Lib.hid (by rw [HZ.out]; rfl)
    clear HZ
    go_enter Tryz.func44, Tryz.ntmps44
    go_wp2_with fail
    go_ret
    exact ⟨ret_bool HF.out, HB.out⟩
  · by_cases h1 : n1 = 0
    · subst h1
      by_cases h2 : n2 = 0
      · subst h2
        have HF : Hid (true = zeroB c0 c1 c2 c3 0 0) := Lib.hid (by rw [HZ.out]; rfl)
        clear HZ
        go_enter Tryz.func44, Tryz.ntmps44
        go_wp2_with fail
        go_ret
        exact ⟨ret_bool HF.out, HB.out⟩
      · have HF : Hid (false = zeroB c0 c1 c2 c3 0 n2) := Lib.hid (by rw [HZ.out, decide_eq_false h2, Bool.and_false])
        have h3 : ((n2 : Int) == 0) = false := by rw [beq_eq_false_iff_ne]; omega
        clear HZ
        go_enter Tryz.func44, Tryz.ntmps44
        go_wp2_with fail
        go_ret
        exact ⟨ret_bool HF.out, HB.out⟩
    · have HF : Hid (false = zeroB c0 c1 c2 c3 n1 n2) := Lib.hid (by rw [HZ.out, decide_eq_false h1, Bool.and_false, Bool.false_and])
      clear HZ
      go_enter Tryz.func44, Tryz.ntmps44
      go_wp2_with fail
      go_ret
      exact ⟨ret_bool HF.out, HB.out⟩
set_option maxRecDepth 100000 in
theorem termsRight_any (a : Option Addr) (n cap : Nat) (ts : List Tm) (w : World) (h : TmR w a n cap ts) (hn : n ≤ 1048576) (hs : ∀ t, t < n → (ts.getD t tmD).lk.size ≤ maxLen) :
    Calls Tryz.prog 46 #[.slice a n cap] w fun e w' => e = .returned (.bool (decide (1 ≤ n ∧ n ≤ 5) && allTo' (tAt ts) n)) ∧ Below w.heap.size w w' := by
  have HS := Lib.hid hs
  have HR := Lib.hid h
  clear hs h
  by_cases h1 : 1 ≤ n
  · by_cases h5 : n ≤ 5
    · have HD : Hid (decide (1 ≤ n ∧ n ≤ 5) = true) := Lib.hid (decide_eq_true ⟨h1, h5⟩)
      go_enter Tryz.func46, Tryz.ntmps46
      go_wp2_with fail
      go_loopw [15] (fun i wr => ∃ k : Nat, k ≤ n ∧ i = .int .i64 k ∧ Hid (allTo' (tAt ts) k = true) ∧ Hid (Below w.heap.size w wr)) (fun i _ => n - (intOf i).toNat)
      case atStart => exact ⟨0, Nat.zero_le _, rfl, Lib.hid rfl, Lib.hid (Below.refl _ _)⟩
      case round =>
        obtain ⟨k, hk, rfl, HT, HB⟩ := hrel
        by_cases hlt : k < n
        · obtain ⟨g, o, rfl, hg, t0, t1⟩ := TmR.at (SR.below HR.out HB.out) hlt
          have hin : 0 ≤ (k : Int) ∧ (k : Int) < (n : Int) := by omega
          have hsz := HS.out k hlt
          have HTA : Hid (tAt ts k = (termB (ts.getD k tmD).no (ts.getD k tmD).lk && decide ((ts.getD k tmD).no = (k : Int) + 1))) := Lib.hid rfl
          generalize (ts.getD k tmD).no = no at *
          generalize (ts.getD k tmD).lk = lk at *
          have hk1 : IntKind.i64.wrap ((k : Int) + 1) = (k : Int) + 1 := IntWalk.i64_in _ (by omega)
          have hk2 : IntKind.i64.wrap (k : Int) = (k : Int) := IntWalk.i64_in _ (by omega)
          obtain ⟨V, hV⟩ : ∃ V, V = wr.alloc (.cells #[.int .i64 no, .string lk] 45) := ⟨_, rfl⟩
          have hbv : Below w.heap.size w V := by rw [hV]; exact HB.out.alloc HB.out.size _
          have hA : BoxC V wr.heap.size [.int .i64 no, .string lk] := by rw [hV]; exact BoxC.made _ _ _
          go_wp2_with fail
          rw [← hV]
          clear hV
          refine (implTerm_any no lk _ hsz).mono ?_
          rintro e w5 ⟨rfl, hb⟩
          have HB5 := Lib.hid (hbv.trans (hb.mono hbv.size))
          have y0 := (hA.below hb).cell 0 _ rfl
          clear hb hbv hA t0 t1 HB
          cases hv : termB no lk
          · have HF : Hid (allTo' (tAt ts) n = false) := Lib.hid (allTo'_no hlt (by rw [HTA.out, hv]; rfl))
            go_wp2_with fail
            go_ret
            exact ⟨ret_bool (by rw [HF.out, Bool.and_false]), HB5.out⟩
          · by_cases hno : no = (k : Int) + 1
            · have HT2 : Hid (allTo' (tAt ts) (k + 1) = true) := Lib.hid (allTo'_succ HT.out (by rw [HTA.out, hv, decide_eq_true hno]; rfl))
              have hno2 : (no != (k : Int) + 1) = false := by rw [hno]; simp
              go_wp2_with fail
              go_roundw
              case rel => exact ⟨k + 1, by omega, by go_num, HT2, HB5⟩
              case measure => simp [intOf]; omega
            · have HF : Hid (allTo' (tAt ts) n = false) := Lib.hid (allTo'_no hlt (by rw [HTA.out, hv, decide_eq_false hno]; rfl))
              have hno2 : (no != (k : Int) + 1) = true := by simpa using hno
              go_wp2_with fail
              go_ret
              exact ⟨ret_bool (by rw [HF.out, Bool.and_false]), HB5.out⟩
        · obtain rfl : n = k := by omega
          go_wp2_with fail
          go_ret
          exact ⟨ret_bool (by rw [HD.out, HT.out]; rfl), HB.out⟩
    · have HF : Hid (decide (1 ≤ n ∧ n ≤ 5) = false) := Lib.hid (decide_eq_false (by omega))
      go_enter Tryz.func46, Tryz.ntmps46
      go_wp2_with fail
      go_ret
      exact ⟨ret_bool (by first | rfl | (rw [HF.out]; rfl)), by first | exact Below.refl _ _ | exact (Below.refl _ _).alloc (Nat.le_refl _) _⟩
  · have HF : Hid (decide (1 ≤ n ∧ n ≤ 5) = false) := Lib.hid (decide_eq_false (by omega))
    go_enter Tryz.func46, Tryz.ntmps46
    go_wp2_with fail
    go_ret
    exact ⟨ret_bool (by first | rfl | (rw [HF.out]; rfl)), by first | exact Below.refl _ _ | exact (Below.refl _ _).alloc (Nat.le_refl _) _⟩
set_option maxRecDepth 100000 in
theorem itemsRight_any (a : Option Addr) (n cap m : Nat) (is : List Im) (w : World) (h : ImR w a n cap is) (hn : n ≤ 1048576) (hm : m ≤ 1048576) (hs : ∀ t, t < n → (is.getD t imD).nm.size ≤ maxLen ∧ (is.getD t imD).bd.size ≤ maxLen) :
    Calls Tryz.prog 47 #[.slice a n cap, .int .i64 m] w fun e w' => e = .returned (.bool (decide (n ≤ 8) && allTo' (iAt m is) n)) ∧ Below w.heap.size w w' := by
  have HS := Lib.hid hs
  have HR := Lib.hid h
  clear hs h
  by_cases h8 : n ≤ 8
  · have HD : Hid (decide (n ≤ 8) = true) := Lib.hid (decide_eq_true h8)
    go_enter Tryz.func47, Tryz.ntmps47
    go_wp2_with fail
    go_loopw [12] (fun i wr => ∃ k : Nat, k ≤ n ∧ i = .int .i64 k ∧ Hid (allTo' (iAt m is) k = true) ∧ Hid (Below w.heap.size w wr)) (fun i _ => n - (intOf i).toNat)
    case atStart => exact ⟨0, Nat.zero_le _, rfl, Lib.hid rfl, Lib.hid (Below.refl _ _)⟩
    case round =>
      obtain ⟨k, hk, rfl, HI, HB⟩ := hrel
      by_cases hlt : k < n
      · obtain ⟨g, o, rfl, hg, t0, t1, t2⟩ := ImR.at (SR.below HR.out HB.out) hlt
        have hin : 0 ≤ (k : Int) ∧ (k : Int) < (n : Int) := by omega
        have hsz := HS.out k hlt
        have HIA : Hid (iAt m is k = (itemB (is.getD k imD).nm (is.getD k imD).tm (is.getD k imD).bd && decide ((is.getD k imD).tm ≤ (m : Int)) && (decide (k = 0) || ltS (is.getD (k - 1) imD).nm (is.getD k imD).nm))) := Lib.hid rfl
        generalize (is.getD k imD).nm = nm at *
        generalize (is.getD k imD).tm = tm at *
        generalize (is.getD k imD).bd = bd at *
        have hk2 : IntKind.i64.wrap (m : Int) = (m : Int) := IntWalk.i64_in _ (by omega)
        obtain ⟨V, hV⟩ : ∃ V, V = wr.alloc (.cells #[.string nm, .int .i64 tm, .string bd] 46) := ⟨_, rfl⟩
        have hbv : Below w.heap.size w V := by rw [hV]; exact HB.out.alloc HB.out.size _
        have hA : BoxC V wr.heap.size [.string nm, .int .i64 tm, .string bd] := by rw [hV]; exact BoxC.made _ _ _
        go_wp2_with fail
        rw [← hV]
        clear hV
        refine (implItem_any nm tm bd _ hsz.1 hsz.2).mono ?_
        rintro e w5 ⟨rfl, hb⟩
        have HB5 := Lib.hid (hbv.trans (hb.mono hbv.size))
        have y0 := (hA.below hb).cell 0 _ rfl
        have y1 := (hA.below hb).cell 1 _ rfl
        clear hb hbv hA t0 t1 t2 HB
        cases hv : itemB nm tm bd
        · have HF : Hid (allTo' (iAt m is) n = false) := Lib.hid (allTo'_no hlt (by rw [HIA.out, hv]; rfl))
          go_wp2_with fail
          go_ret
          exact ⟨ret_bool (by rw [HF.out, Bool.and_false]), HB5.out⟩
        · by_cases htm : tm ≤ (m : Int)
          · have htm2 : ¬ (m : Int) < tm := by omega
            by_cases h0 : k = 0
            · have HI2 : Hid (allTo' (iAt m is) (k + 1) = true) := Lib.hid (allTo'_succ HI.out (by rw [HIA.out, hv, decide_eq_true htm, decide_eq_true h0]; rfl))
              subst h0
              go_wp2_with fail
              go_region
              go_wp2_with fail
              go_roundw
              case rel => exact ⟨0 + 1, by omega, by go_num, HI2, Lib.hid HB5.out.drew⟩
              case measure => simp [intOf]; omega
            · have hk0 : 0 < k := by omega
              have hk1 : IntKind.i64.wrap ((k : Int) - 1) = ((k - 1 : Nat) : Int) := by rw [IntWalk.i64_in _ (by omega)]; omega
              have hin2 : 0 ≤ ((k - 1 : Nat) : Int) ∧ ((k - 1 : Nat) : Int) < (n : Int) := by omega
              obtain ⟨g', o', hge, _, p0, _⟩ := ImR.at (SR.below HR.out HB5.out) (show k - 1 < n by omega)
              simp only [Option.some.injEq, Addr.mk.injEq, and_true] at hge
              obtain ⟨rfl, rfl⟩ := hge
              have hle := leq_str nm (is.getD (k - 1) imD).nm
              generalize (is.getD (k - 1) imD).nm = pm at *
              obtain ⟨km, hkm⟩ : ∃ km, km = k - 1 := ⟨_, rfl⟩
              rw [← hkm] at p0 hk1 hin2
              clear hkm
              cases hl : ltS pm nm
              · have HF : Hid (allTo' (iAt m is) n = false) := Lib.hid (allTo'_no hlt (by rw [HIA.out, hl, decide_eq_false h0, Bool.or_self, Bool.and_false]))
                rw [hl] at hle
                go_wp2_with fail
                go_region
                go_wp2_with fail
                go_ret
                exact ⟨ret_bool (by rw [HF.out, Bool.and_false]), HB5.out.drew⟩
              · have HI2 : Hid (allTo' (iAt m is) (k + 1) = true) := Lib.hid (allTo'_succ HI.out (by rw [HIA.out, hv, decide_eq_true htm, hl, Bool.or_true]; rfl))
                rw [hl] at hle
                go_wp2_with fail
                go_region
                go_wp2_with fail
                go_roundw
                case rel => exact ⟨k + 1, by omega, by go_num, HI2, Lib.hid HB5.out.drew⟩
                case measure => simp [intOf]; omega
          · have HF : Hid (allTo' (iAt m is) n = false) := Lib.hid (allTo'_no hlt (by rw [HIA.out, hv, decide_eq_false htm]; rfl))
            have htm2 : (m : Int) < tm := by omega
            go_wp2_with fail
            go_ret
            exact ⟨ret_bool (by rw [HF.out, Bool.and_false]), HB5.out⟩
      · obtain rfl : n = k := by omega
        go_wp2_with fail
        go_ret
        exact ⟨ret_bool (by rw [HD.out, HI.out]; rfl), HB.out⟩
  · have HF : Hid (decide (n ≤ 8) = false) := Lib.hid (decide_eq_false (by omega))
    go_enter Tryz.func47, Tryz.ntmps47
    go_wp2_with fail
    go_ret
    exact ⟨ret_bool (by first | rfl | (rw [HF.out]; rfl)), by first | exact Below.refl _ _ | exact (Below.refl _ _).alloc (Nat.le_refl _) _⟩
end Go.Proofs.YtnoefpkhbllmiaaGreat
