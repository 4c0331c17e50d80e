/- What the program's EnvRead answers. -/
import Derived.Test.YtdnbkjiijpeiiaaDoorEnvC
import Derived.Defers
namespace Go.Proofs.YtdnbkjiijpeiiaaDoor
open Go.RowKit Go.PlainAid G MGet MGF IRow MNum MJoin
set_option linter.unusedVariables false
theorem sco {w : World} {h i j : Nat} {v : Value} (hne : j ≠ i) : (w.setCell ⟨h, j, none⟩ v).cell? ⟨h, i, none⟩ = w.cell? ⟨h, i, none⟩ := World.cell?_setCell_other _ _ _ _ (by simp [hne])
theorem put5 {w : World} {h : Nat} {v0 v1 v2 v3 v4 o0 o1 o2 o3 o4 : Value} (h0 : w.cell? ⟨h, 0, none⟩ = some o0) (h1 : w.cell? ⟨h, 1, none⟩ = some o1) (h2 : w.cell? ⟨h, 2, none⟩ = some o2) (h3 : w.cell? ⟨h, 3, none⟩ = some o3) (h4 : w.cell? ⟨h, 4, none⟩ = some o4) : (((((w.setCell ⟨h, 0, none⟩ v0).setCell ⟨h, 1, none⟩ v1).setCell ⟨h, 2, none⟩ v2).setCell ⟨h, 3, none⟩ v3).setCell ⟨h, 4, none⟩ v4).cell? ⟨h, 0, none⟩ = some v0 ∧ (((((w.setCell ⟨h, 0, none⟩ v0).setCell ⟨h, 1, none⟩ v1).setCell ⟨h, 2, none⟩ v2).setCell ⟨h, 3, none⟩ v3).setCell ⟨h, 4, none⟩ v4).cell? ⟨h, 1, none⟩ = some v1 ∧ (((((w.setCell ⟨h, 0, none⟩ v0).setCell ⟨h, 1, none⟩ v1).setCell ⟨h, 2, none⟩ v2).setCell ⟨h, 3, none⟩ v3).setCell ⟨h, 4, none⟩ v4).cell? ⟨h, 2, none⟩ = some v2 ∧ (((((w.setCell ⟨h, 0, none⟩ v0).setCell ⟨h, 1, none⟩ v1).setCell ⟨h, 2, none⟩ v2).setCell ⟨h, 3, none⟩ v3).setCell ⟨h, 4, none⟩ v4).cell? ⟨h, 3, none⟩ = some v3 ∧ (((((w.setCell ⟨h, 0, none⟩ v0).setCell ⟨h, 1, none⟩ v1).setCell ⟨h, 2, none⟩ v2).setCell ⟨h, 3, none⟩ v3).setCell ⟨h, 4, none⟩ v4).cell? ⟨h, 4, none⟩ = some v4 :=
  ⟨((sco (by decide)).trans ((sco (by decide)).trans ((sco (by decide)).trans ((sco (by decide)).trans (World.cell?_setCell_same _ _ _ h0))))), ((sco (by decide)).trans ((sco (by decide)).trans ((sco (by decide)).trans (World.cell?_setCell_same _ _ _ ((sco (by decide)).trans h1))))), ((sco (by decide)).trans ((sco (by decide)).trans (World.cell?_setCell_same _ _ _ ((sco (by decide)).trans ((sco (by decide)).trans h2))))), ((sco (by decide)).trans (World.cell?_setCell_same _ _ _ ((sco (by decide)).trans ((sco (by decide)).trans ((sco (by decide)).trans h3))))), (World.cell?_setCell_same _ _ _ ((sco (by decide)).trans ((sco (by decide)).trans ((sco (by decide)).trans ((sco (by decide)).trans h4)))))⟩
theorem put6 {w : World} {h : Nat} {v0 v1 v2 v3 v4 v5 o0 o1 o2 o3 o4 o5 : Value} (h0 : w.cell? ⟨h, 0, none⟩ = some o0) (h1 : w.cell? ⟨h, 1, none⟩ = some o1) (h2 : w.cell? ⟨h, 2, none⟩ = some o2) (h3 : w.cell? ⟨h, 3, none⟩ = some o3) (h4 : w.cell? ⟨h, 4, none⟩ = some o4) (h5 : w.cell? ⟨h, 5, none⟩ = some o5) : ((((((w.setCell ⟨h, 0, none⟩ v0).setCell ⟨h, 1, none⟩ v1).setCell ⟨h, 2, none⟩ v2).setCell ⟨h, 3, none⟩ v3).setCell ⟨h, 4, none⟩ v4).setCell ⟨h, 5, none⟩ v5).cell? ⟨h, 0, none⟩ = some v0 ∧ ((((((w.setCell ⟨h, 0, none⟩ v0).setCell ⟨h, 1, none⟩ v1).setCell ⟨h, 2, none⟩ v2).setCell ⟨h, 3, none⟩ v3).setCell ⟨h, 4, none⟩ v4).setCell ⟨h, 5, none⟩ v5).cell? ⟨h, 1, none⟩ = some v1 ∧ ((((((w.setCell ⟨h, 0, none⟩ v0).setCell ⟨h, 1, none⟩ v1).setCell ⟨h, 2, none⟩ v2).setCell ⟨h, 3, none⟩ v3).setCell ⟨h, 4, none⟩ v4).setCell ⟨h, 5, none⟩ v5).cell? ⟨h, 2, none⟩ = some v2 ∧ ((((((w.setCell ⟨h, 0, none⟩ v0).setCell ⟨h, 1, none⟩ v1).setCell ⟨h, 2, none⟩ v2).setCell ⟨h, 3, none⟩ v3).setCell ⟨h, 4, none⟩ v4).setCell ⟨h, 5, none⟩ v5).cell? ⟨h, 3, none⟩ = some v3 ∧ ((((((w.setCell ⟨h, 0, none⟩ v0).setCell ⟨h, 1, none⟩ v1).setCell ⟨h, 2, none⟩ v2).setCell ⟨h, 3, none⟩ v3).setCell ⟨h, 4, none⟩ v4).setCell ⟨h, 5, none⟩ v5).cell? ⟨h, 4, none⟩ = some v4 ∧ ((((((w.setCell ⟨h, 0, none⟩ v0).setCell ⟨h, 1, none⟩ v1).setCell ⟨h, 2, none⟩ v2).setCell ⟨h, 3, none⟩ v3).setCell ⟨h, 4, none⟩ v4).setCell ⟨h, 5, none⟩ v5).cell? ⟨h, 5, none⟩ = some v5 :=
  ⟨((sco (by decide)).trans ((sco (by decide)).trans ((sco (by decide)).trans ((sco (by decide)).trans ((sco (by decide)).trans (World.cell?_setCell_same _ _ _ h0)))))), ((sco (by decide)).trans ((sco (by decide)).trans ((sco (by decide)).trans ((sco (by decide)).trans (World.cell?_setCell_same _ _ _ ((sco (by decide)).trans h1)))))), ((sco (by decide)).trans ((sco (by decide)).trans ((sco (by decide)).trans (World.cell?_setCell_same _ _ _ ((sco (by decide)).trans ((sco (by decide)).trans h2)))))), ((sco (by decide)).trans ((sco (by decide)).trans (World.cell?_setCell_same _ _ _ ((sco (by decide)).trans ((sco (by decide)).trans ((sco (by decide)).trans h3)))))), ((sco (by decide)).trans (World.cell?_setCell_same _ _ _ ((sco (by decide)).trans ((sco (by decide)).trans ((sco (by decide)).trans ((sco (by decide)).trans h4)))))), (World.cell?_setCell_same _ _ _ ((sco (by decide)).trans ((sco (by decide)).trans ((sco (by decide)).trans ((sco (by decide)).trans ((sco (by decide)).trans h5))))))⟩
theorem own_kept {w w' : World} {base h b n c : Nat} {e : TypeId} {size : Nat} {xs : List Value} (k : w.ownsRow base e size (.slice (some ⟨h, 0, none⟩) n c) n xs) (hg : w.grownBy w' (some b)) (hne : h ≠ b) : w'.ownsRow base e size (.slice (some ⟨h, 0, none⟩) n c) n xs :=
  k.kept hg (.inr (fun h2 => by simp only [Value.ownBlock, Option.some.injEq] at h2; exact hne h2))
theorem below_kept {B : Nat} {a w w' : World} {b : Nat} (h : Below B a w) (hg : w.grownBy w' (some b)) (hB : B ≤ w.heap.size) (hb : B ≤ b) : Below B a w' :=
  h.grown hg hB (fun k hk => by cases hk; exact hb)
/-- An envelope, or a panic with ErrSyntax. -/
def EnvOr (u : ByteArray) (w : World) (e : Ending) (w' : World) : Prop :=
  (if rdOk u = true then e = .returned (.agg #[.int .i64 (rdEnv u).g, .int .i64 (rdEnv u).n, .int .i64 (rdEnv u).m, .int .i64 (rdEnv u).x, .string (rdEnv u).t]) else e = .panicked [{ v := errV 3, recovered := false }]) ∧ Below w.heap.size w w'
theorem or_bad {u : ByteArray} {w w' : World} (h : rdOk u = false) (hb : Below w.heap.size w w') : EnvOr u w (.panicked [{ v := errV 3, recovered := false }]) w' := ⟨by rw [if_neg (by rw [h]; decide)], hb⟩
theorem or_ok {u : ByteArray} {w w' : World} (h : rdOk u = true) (hb : Below w.heap.size w w') : EnvOr u w (.returned (.agg #[.int .i64 (e1 u).1, .int .i64 (e2 u).1, .int .i64 (e3 u).1, .int .i64 (e4 u).1, .string (e5 u).1])) w' := ⟨by rw [if_pos h]; rfl, hb⟩
theorem rdOk_is {u : ByteArray} {p : Nat} {b : Bool} (h5 : (e5 u).2.2 = false) (hp : (e5 u).2.1 = p) (hb : envB (e1 u).1 (e2 u).1 (e3 u).1 (e4 u).1 (e5 u).1 = b) : rdOk u = (decide (p = u.size) && b) := by unfold rdOk; rw [h5, hp, hb]; rfl
theorem txt_fits {u : ByteArray} {a : Nat} (hu : u.size ≤ 8000) : (txtS u a).1.size ≤ 8000 := by
  unfold txtS
  split
  · exact Nat.zero_le _
  · split
    · exact Nat.zero_le _
    · split
      · exact Nat.zero_le _
      · dsimp only
        rw [ByteArray.size_extract]
        omega
theorem e5_fits {u : ByteArray} (hu : u.size ≤ 8000) : (e5 u).1.size ≤ maxLen := by
  unfold e5 sT
  split
  · exact Nat.le_trans (txt_fits hu) (by unfold maxLen; omega)
  · exact Nat.zero_le _
set_option maxRecDepth 100000 in
set_option maxHeartbeats 3200000 in
theorem envIn_any (u : ByteArray) (w : World) (hu : u.size ≤ 8000) :
    Calls Tryd.prog 34 #[.string u] w (EnvOr u w) := by
  obtain ⟨W, hW⟩ : ∃ W, W = (w.alloc (.cells #[.int .i64 0, .int .i64 0, .int .i64 0, .int .i64 0, .string ⟨#[]⟩] 24)).alloc (.cells #[.string u, .int .i64 0] 83) := ⟨_, rfl⟩
  obtain ⟨h, hh⟩ : ∃ h, h = w.heap.size := ⟨_, rfl⟩
  have hR0 : RB W (h + 1) u ((0 : Nat) : Int) := by rw [hW, hh]; exact ⟨by simp, by simp, by simp, by simp⟩
  have hO0 : W.ownsRow h 24 5 (.slice (some ⟨h, 0, none⟩) 1 1) 1 [.int .i64 0, .int .i64 0, .int .i64 0, .int .i64 0, .string ⟨#[]⟩] := by
    rw [hW, hh]
    exact own_below (World.ownsRow_lit w #[.int .i64 0, .int .i64 0, .int .i64 0, .int .i64 0, .string ⟨#[]⟩] 1 (Nat.le_refl _) (by decide) rfl) ((Below.refl _ _).alloc (Nat.le_refl _) _)
  have hB0 : Below w.heap.size w W := by rw [hW]; exact ((Below.refl _ _).alloc (Nat.le_refl _) _).alloc (by simp) _
  have HR0 := Lib.hid hR0
  have HO0 := Lib.hid hO0
  have HB0 := Lib.hid hB0
  have HHE : Hid (h = w.heap.size) := Lib.hid hh
  have hne : h ≠ h + 1 := by omega
  have hwle : w.heap.size ≤ h + 1 := by omega
  have HE5 : Hid ((e5 u).1.size ≤ maxLen) := Lib.hid (e5_fits hu)
  clear hR0 hO0 hB0
  go_enter Tryd.func34, Tryd.ntmps34
  go_wp2_with fail
  rw [← hW, ← hh]
  clear hW hh
  by_cases hc : (rdS u 0 10 0 0).2.2 = 0
  · skip
    obtain ⟨hy, hq, hp1⟩ := sN_yes (u := u) (q := (0, false)) hc
    have hq1 : (e1 u).2.2 = false := hq.trans rfl
    have HY := Lib.hid hy
    clear hc hy hq
    refine (num_ok (h + 1) u 0 (e1 u).2.1 (e1 u).1 _ HR0.out hu (Nat.zero_le _) HY.out).mono ?_
    rintro e w1 ⟨rfl, hr, hg⟩
    have HR1 := Lib.hid hr
    have HO1 := Lib.hid (own_kept HO0.out hg hne)
    have HB1 := Lib.hid (below_kept HB0.out hg HB0.out.size hwle)
    clear hr hg HY
    go_wp2_with fail
    by_cases hc : (rdS u (e1 u).2.1 10 0 0).2.2 = 0
    · skip
      obtain ⟨hy, hq, hp2⟩ := sN_yes (u := u) (q := (e1 u).2) hc
      have hq2 : (e2 u).2.2 = false := hq.trans hq1
      have HY := Lib.hid hy
      clear hc hy hq
      refine (num_ok (h + 1) u (e1 u).2.1 (e2 u).2.1 (e2 u).1 _ HR1.out hu hp1 HY.out).mono ?_
      rintro e w2 ⟨rfl, hr, hg⟩
      have HR2 := Lib.hid hr
      have HO2 := Lib.hid (own_kept HO1.out hg hne)
      have HB2 := Lib.hid (below_kept HB1.out hg HB1.out.size hwle)
      clear hr hg HY
      go_wp2_with fail
      by_cases hc : (rdS u (e2 u).2.1 10 0 0).2.2 = 0
      · skip
        obtain ⟨hy, hq, hp3⟩ := sN_yes (u := u) (q := (e2 u).2) hc
        have hq3 : (e3 u).2.2 = false := hq.trans hq2
        have HY := Lib.hid hy
        clear hc hy hq
        refine (num_ok (h + 1) u (e2 u).2.1 (e3 u).2.1 (e3 u).1 _ HR2.out hu hp2 HY.out).mono ?_
        rintro e w3 ⟨rfl, hr, hg⟩
        have HR3 := Lib.hid hr
        have HO3 := Lib.hid (own_kept HO2.out hg hne)
        have HB3 := Lib.hid (below_kept HB2.out hg HB2.out.size hwle)
        clear hr hg HY
        go_wp2_with fail
        by_cases hc : (rdS u (e3 u).2.1 10 0 0).2.2 = 0
        · skip
          obtain ⟨hy, hq, hp4⟩ := sN_yes (u := u) (q := (e3 u).2) hc
          have hq4 : (e4 u).2.2 = false := hq.trans hq3
          have HY := Lib.hid hy
          clear hc hy hq
          refine (num_ok (h + 1) u (e3 u).2.1 (e4 u).2.1 (e4 u).1 _ HR3.out hu hp3 HY.out).mono ?_
          rintro e w4 ⟨rfl, hr, hg⟩
          have HR4 := Lib.hid hr
          have HO4 := Lib.hid (own_kept HO3.out hg hne)
          have HB4 := Lib.hid (below_kept HB3.out hg HB3.out.size hwle)
          clear hr hg HY
          go_wp2_with fail
          by_cases hc : (txtS u (e4 u).2.1).2.2 = 0
          · skip
            obtain ⟨hy, hq, hp5⟩ := sT_yes (u := u) (q := (e4 u).2) hc
            have hq5 : (e5 u).2.2 = false := hq.trans hq4
            have HY := Lib.hid hy
            clear hc hy hq
            refine (text_ok (h + 1) u (e4 u).2.1 (e5 u).2.1 (e5 u).1 _ HR4.out hu hp4 HY.out).mono ?_
            rintro e w5 ⟨rfl, hr, hg⟩
            have HR5 := Lib.hid hr
            have HO5 := Lib.hid (own_kept HO4.out hg hne)
            have HB5 := Lib.hid (below_kept HB4.out hg HB4.out.size hwle)
            clear hr hg HY
            have hRc := HR5.out.c1
            obtain ⟨b, hbB⟩ : ∃ b, envB (e1 u).1 (e2 u).1 (e3 u).1 (e4 u).1 (e5 u).1 = b := ⟨_, rfl⟩
            have HOK := Lib.hid (rdOk_is hq5 rfl hbB)
            have HBB := Lib.hid hbB
            have HOR : Hid (rdOk u = true → ∀ w', Below w.heap.size w w' → EnvOr u w (.returned (.agg #[.int .i64 (e1 u).1, .int .i64 (e2 u).1, .int .i64 (e3 u).1, .int .i64 (e4 u).1, .string (e5 u).1])) w') := Lib.hid (fun h w' hb => or_ok h hb)
            have hRI := implEnvRight_any (e1 u).1 (e2 u).1 (e3 u).1 (e4 u).1 (e5 u).1
            clear hq1 hq2 hq3 hq4 hq5 hp1 hp2 hp3 hp4 HR0 HR1 HR2 HR3 HR4 HO0 HO1 HO2 HO3 HO4 HB0 HB1 HB2 HB3 HB4
            generalize (e5 u).2.1 = p at *
            generalize (e1 u).1 = g at *
            generalize (e2 u).1 = n at *
            generalize (e3 u).1 = m at *
            generalize (e4 u).1 = x at *
            generalize (e5 u).1 = t at *
            have HRI := Lib.hid hRI
            clear hRI hbB
            have HBE : Hid (Below w.heap.size w (w5.alloc (.cells #[.int .i64 g, .int .i64 n, .int .i64 m, .int .i64 x, .string t] 24))) := Lib.hid (HB5.out.alloc HB5.out.size _)
            have HOE := Lib.hid (HO5.out.alloc (.cells #[.int .i64 g, .int .i64 n, .int .i64 m, .int .i64 x, .string t] 24))
            have hzR : h + 1 < w5.heap.size := HR5.out.lt
            by_cases hps : p = u.size
            · skip
              have HOK2 : Hid (rdOk u = b) := Lib.hid (HOK.out.trans (by rw [decide_eq_true hps, Bool.true_and]))
              have hpe : ((p : Int) == (u.size : Int)) = true := by rw [hps]; exact beq_self_eq_true _
              clear HOK hps
              go_wp2_with fail
              refine (HRI.out _ HE5.out).mono ?_
              rintro e w6 ⟨rfl, hb⟩
              have d0 : w6.cell? ⟨w5.heap.size, 0, none⟩ = some (.int .i64 g) := (hb.cell (p := ⟨w5.heap.size, 0, none⟩) (by simp)).trans (by simp)
              have d1 : w6.cell? ⟨w5.heap.size, 1, none⟩ = some (.int .i64 n) := (hb.cell (p := ⟨w5.heap.size, 1, none⟩) (by simp)).trans (by simp)
              have d2 : w6.cell? ⟨w5.heap.size, 2, none⟩ = some (.int .i64 m) := (hb.cell (p := ⟨w5.heap.size, 2, none⟩) (by simp)).trans (by simp)
              have d3 : w6.cell? ⟨w5.heap.size, 3, none⟩ = some (.int .i64 x) := (hb.cell (p := ⟨w5.heap.size, 3, none⟩) (by simp)).trans (by simp)
              have d4 : w6.cell? ⟨w5.heap.size, 4, none⟩ = some (.string t) := (hb.cell (p := ⟨w5.heap.size, 4, none⟩) (by simp)).trans (by simp)
              have HO6 := Lib.hid (own_below HOE.out hb)
              have HB6 := Lib.hid (HBE.out.trans (hb.mono HBE.out.size))
              clear hb hpe hRc
              rw [HBB.out]
              cases b
              · go_wp2_with fail
                refine (must_no _).mono ?_
                rintro e w7 ⟨rfl, rfl⟩
                go_wp2_with fail
                exact ⟨rfl, or_bad HOK2.out HB6.out⟩
              · go_wp2_with fail
                refine (must_yes _).mono ?_
                rintro e w7 ⟨rfl, rfl⟩
                have q0 : w6.cell? ⟨h, 0, none⟩ = some (.int .i64 0) := by rw [HO6.out.cellAt 0 (by decide)]; rfl
                have q1 : w6.cell? ⟨h, 1, none⟩ = some (.int .i64 0) := by rw [HO6.out.cellAt 1 (by decide)]; rfl
                have q2 : w6.cell? ⟨h, 2, none⟩ = some (.int .i64 0) := by rw [HO6.out.cellAt 2 (by decide)]; rfl
                have q3 : w6.cell? ⟨h, 3, none⟩ = some (.int .i64 0) := by rw [HO6.out.cellAt 3 (by decide)]; rfl
                have q4 : w6.cell? ⟨h, 4, none⟩ = some (.string ⟨#[]⟩) := by rw [HO6.out.cellAt 4 (by decide)]; rfl
                have f0 := HO6.out.frozenAt 0
                have f1 := HO6.out.frozenAt 1
                have f2 := HO6.out.frozenAt 2
                have f3 := HO6.out.frozenAt 3
                have f4 := HO6.out.frozenAt 4
                have HP := Lib.hid (put5 (v0 := .int .i64 g) (v1 := .int .i64 n) (v2 := .int .i64 m) (v3 := .int .i64 x) (v4 := .string t) q0 q1 q2 q3 q4)
                have hhle : w.heap.size ≤ h := by have := HHE.out; omega
                have HB7 := Lib.hid (((((HB6.out.setCell (p := ⟨h, 0, none⟩) hhle (.int .i64 g)).setCell (p := ⟨h, 1, none⟩) hhle (.int .i64 n)).setCell (p := ⟨h, 2, none⟩) hhle (.int .i64 m)).setCell (p := ⟨h, 3, none⟩) hhle (.int .i64 x)).setCell (p := ⟨h, 4, none⟩) hhle (.string t))
                go_wp2_with fail
                obtain ⟨r0, r1, r2, r3, r4⟩ := HP.out
                exact bodyPost_ret (v := .agg #[.int .i64 g, .int .i64 n, .int .i64 m, .int .i64 x, .string t]) (by simp [results, Tryd.results34, go_sem, r0, r1, r2, r3, r4]) rfl (HOR.out HOK2.out _ HB7.out)
            · skip
              have HOK2 : Hid (rdOk u = false) := Lib.hid (HOK.out.trans (by rw [decide_eq_false hps, Bool.false_and]))
              have hpe : ((p : Int) == (u.size : Int)) = false := by rw [beq_eq_false_iff_ne]; omega
              clear HOK hps
              go_wp2_with fail
              refine (must_no _).mono ?_
              rintro e w7 ⟨rfl, rfl⟩
              go_wp2_with fail
              exact ⟨rfl, or_bad HOK2.out HBE.out⟩
          · skip
            have hb5 : (e5 u).2.2 = true := by unfold e5; rw [sT_no (u := u) (q := (e4 u).2) hc]
            have HBAD := Lib.hid (rdOk_bad hb5)
            clear hb5
            refine (text_bad (h + 1) u (e4 u).2.1 _ HR4.out hu hp4 hc).mono ?_
            rintro e w5 ⟨rfl, hb⟩
            have HB := Lib.hid (HB4.out.trans (hb.mono HB4.out.size))
            clear hb hc
            go_wp2_with fail
            exact ⟨rfl, or_bad HBAD.out HB.out⟩
        · skip
          have hb4 : (e4 u).2.2 = true := by unfold e4; rw [sN_no (u := u) (q := (e3 u).2) hc]
          have hb5 : (e5 u).2.2 = true := by unfold e5; exact sT_bad hb4
          have HBAD := Lib.hid (rdOk_bad hb5)
          clear hb4 hb5
          refine (num_bad (h + 1) u (e3 u).2.1 _ HR3.out hu hp3 hc).mono ?_
          rintro e w4 ⟨rfl, hb⟩
          have HB := Lib.hid (HB3.out.trans (hb.mono HB3.out.size))
          clear hb hc
          go_wp2_with fail
          exact ⟨rfl, or_bad HBAD.out HB.out⟩
      · skip
        have hb3 : (e3 u).2.2 = true := by unfold e3; rw [sN_no (u := u) (q := (e2 u).2) hc]
        have hb4 : (e4 u).2.2 = true := by unfold e4; exact sN_bad hb3
        have hb5 : (e5 u).2.2 = true := by unfold e5; exact sT_bad hb4
        have HBAD := Lib.hid (rdOk_bad hb5)
        clear hb3 hb4 hb5
        refine (num_bad (h + 1) u (e2 u).2.1 _ HR2.out hu hp2 hc).mono ?_
        rintro e w3 ⟨rfl, hb⟩
        have HB := Lib.hid (HB2.out.trans (hb.mono HB2.out.size))
        clear hb hc
        go_wp2_with fail
        exact ⟨rfl, or_bad HBAD.out HB.out⟩
    · skip
      have hb2 : (e2 u).2.2 = true := by unfold e2; rw [sN_no (u := u) (q := (e1 u).2) hc]
      have hb3 : (e3 u).2.2 = true := by unfold e3; exact sN_bad hb2
      have hb4 : (e4 u).2.2 = true := by unfold e4; exact sN_bad hb3
      have hb5 : (e5 u).2.2 = true := by unfold e5; exact sT_bad hb4
      have HBAD := Lib.hid (rdOk_bad hb5)
      clear hb2 hb3 hb4 hb5
      refine (num_bad (h + 1) u (e1 u).2.1 _ HR1.out hu hp1 hc).mono ?_
      rintro e w2 ⟨rfl, hb⟩
      have HB := Lib.hid (HB1.out.trans (hb.mono HB1.out.size))
      clear hb hc
      go_wp2_with fail
      exact ⟨rfl, or_bad HBAD.out HB.out⟩
  · skip
    have hb1 : (e1 u).2.2 = true := by unfold e1; rw [sN_no (u := u) (q := (0, false)) hc]
    have hb2 : (e2 u).2.2 = true := by unfold e2; exact sN_bad hb1
    have hb3 : (e3 u).2.2 = true := by unfold e3; exact sN_bad hb2
    have hb4 : (e4 u).2.2 = true := by unfold e4; exact sN_bad hb3
    have hb5 : (e5 u).2.2 = true := by unfold e5; exact sT_bad hb4
    have HBAD := Lib.hid (rdOk_bad hb5)
    clear hb1 hb2 hb3 hb4 hb5
    refine (num_bad (h + 1) u 0 _ HR0.out hu (Nat.zero_le _) hc).mono ?_
    rintro e w1 ⟨rfl, hb⟩
    have HB := Lib.hid (HB0.out.trans (hb.mono HB0.out.size))
    clear hb hc
    go_wp2_with fail
    exact ⟨rfl, or_bad HBAD.out HB.out⟩
end Go.Proofs.YtdnbkjiijpeiiaaDoor
