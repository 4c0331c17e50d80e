/- What the program's Hide is asked for; a curve that is moved. -/
import Derived.Test.YtdnbkjiijpeiiaaGreatSplC
import Derived.Test.YtdnbkjiijpeiiaaGreatSplB
import Derived.Test.YtdnbkjiijpeiiaaGreatFnPointsA
import Derived.Deep.RegionHeld3
namespace Go.Proofs.YtdnbkjiijpeiiaaGreat
open Go.RowKit Go.PlainAid G MGF IRow
set_option linter.unusedVariables false
set_option maxRecDepth 100000 in
set_option maxHeartbeats 3200000 in
theorem hideFault_any (s o d : ByteArray) (need : Int) (a : Option Addr) (n cap : Nat) (zs : List Int) (w : World) (hs : s.size ≤ maxLen) (ho : o.size ≤ maxLen) (hd : d.size ≤ maxLen) (h : IR w a n cap zs) (hn : n ≤ 1048576) :
    Calls Tryz.prog 29 #[.string s, .string o, .int .i64 need, .slice a n cap, .string d] w fun e w' => e = .returned (.int .i64 (hideC s o need zs d)) ∧ Below w.heap.size w w' := by
  have HS := Lib.hid hs
  have HO := Lib.hid ho
  have HD := Lib.hid hd
  have hlen : zs.length = n := h.len
  have HI := Lib.hid h
  unfold maxLen at hs ho hd
  clear h
  by_cases h1 : 8000 < s.size
  · skip
    have HF : Hid (2 = hideC s o need zs d) := Lib.hid (hideC_size (by omega)).symm
    clear hlen
    go_enter Tryz.func29, Tryz.ntmps29
    go_wp2_with fail
    refine (tooLong_any s _ HS.out).mono ?_
    rintro e w1 ⟨rfl, rfl⟩
    rw [decide_eq_true h1]
    go_wp2_with fail
    go_ret
    exact ⟨ret_int HF.out, Below.refl _ _⟩
  · skip
    by_cases h2 : 8000 < o.size
    · skip
      have HF : Hid (2 = hideC s o need zs d) := Lib.hid (hideC_size (by omega)).symm
      clear hlen
      go_enter Tryz.func29, Tryz.ntmps29
      go_wp2_with fail
      refine (tooLong_any s _ HS.out).mono ?_
      rintro e w1 ⟨rfl, rfl⟩
      rw [decide_eq_false h1]
      go_wp2_with fail
      refine (tooLong_any o _ HO.out).mono ?_
      rintro e w1 ⟨rfl, rfl⟩
      rw [decide_eq_true h2]
      go_wp2_with fail
      go_ret
      exact ⟨ret_int HF.out, Below.refl _ _⟩
    · skip
      by_cases h3 : 400 < n
      · skip
        have HF : Hid (2 = hideC s o need zs d) := Lib.hid (hideC_size (by omega)).symm
        clear hlen
        go_enter Tryz.func29, Tryz.ntmps29
        go_wp2_with fail
        refine (tooLong_any s _ HS.out).mono ?_
        rintro e w1 ⟨rfl, rfl⟩
        rw [decide_eq_false h1]
        go_wp2_with fail
        refine (tooLong_any o _ HO.out).mono ?_
        rintro e w1 ⟨rfl, rfl⟩
        rw [decide_eq_false h2]
        go_wp2_with fail
        go_ret
        exact ⟨ret_int HF.out, Below.refl _ _⟩
      · skip
        by_cases h4 : 8000 < d.size
        · skip
          have HF : Hid (2 = hideC s o need zs d) := Lib.hid (hideC_size (by omega)).symm
          clear hlen
          go_enter Tryz.func29, Tryz.ntmps29
          go_wp2_with fail
          refine (tooLong_any s _ HS.out).mono ?_
          rintro e w1 ⟨rfl, rfl⟩
          rw [decide_eq_false h1]
          go_wp2_with fail
          refine (tooLong_any o _ HO.out).mono ?_
          rintro e w1 ⟨rfl, rfl⟩
          rw [decide_eq_false h2]
          go_wp2_with fail
          refine (tooLong_any d _ HD.out).mono ?_
          rintro e w1 ⟨rfl, rfl⟩
          rw [decide_eq_true h4]
          go_wp2_with fail
          go_ret
          exact ⟨ret_int HF.out, Below.refl _ _⟩
        · skip
          have hno : ¬ (8000 < s.size ∨ 8000 < o.size ∨ 400 < zs.length ∨ 8000 < d.size) := by omega
          cases hsb : secB s
          · skip
            have HF : Hid (1 = hideC s o need zs d) := Lib.hid (hideC_form hno (by rw [hsb]; simp)).symm
            clear hno hlen
            go_enter Tryz.func29, Tryz.ntmps29
            go_wp2_with fail
            refine (tooLong_any s _ HS.out).mono ?_
            rintro e w1 ⟨rfl, rfl⟩
            rw [decide_eq_false h1]
            go_wp2_with fail
            refine (tooLong_any o _ HO.out).mono ?_
            rintro e w1 ⟨rfl, rfl⟩
            rw [decide_eq_false h2]
            go_wp2_with fail
            refine (tooLong_any d _ HD.out).mono ?_
            rintro e w1 ⟨rfl, rfl⟩
            rw [decide_eq_false h4]
            go_wp2_with fail
            refine (secretRight_any s _ HS.out).mono ?_
            rintro e w1 ⟨rfl, rfl⟩
            rw [hsb]
            go_wp2_with fail
            go_ret
            exact ⟨ret_int HF.out, Below.refl _ _⟩
          · skip
            cases hob : secB o
            · skip
              have HF : Hid (1 = hideC s o need zs d) := Lib.hid (hideC_form hno (by rw [hob]; simp)).symm
              clear hno hlen
              go_enter Tryz.func29, Tryz.ntmps29
              go_wp2_with fail
              refine (tooLong_any s _ HS.out).mono ?_
              rintro e w1 ⟨rfl, rfl⟩
              rw [decide_eq_false h1]
              go_wp2_with fail
              refine (tooLong_any o _ HO.out).mono ?_
              rintro e w1 ⟨rfl, rfl⟩
              rw [decide_eq_false h2]
              go_wp2_with fail
              refine (tooLong_any d _ HD.out).mono ?_
              rintro e w1 ⟨rfl, rfl⟩
              rw [decide_eq_false h4]
              go_wp2_with fail
              refine (secretRight_any s _ HS.out).mono ?_
              rintro e w1 ⟨rfl, rfl⟩
              rw [hsb]
              go_wp2_with fail
              refine (secretRight_any o _ HO.out).mono ?_
              rintro e w1 ⟨rfl, rfl⟩
              rw [hob]
              go_wp2_with fail
              go_ret
              exact ⟨ret_int HF.out, Below.refl _ _⟩
            · skip
              by_cases h5 : s.size = o.size
              · skip
                have H5 := Lib.hid h5
                have hq : ((s.size : Int) == (o.size : Int)) = true := by rw [h5]; simp
                clear h5
                cases hnb : needB need
                · skip
                  have HF : Hid (1 = hideC s o need zs d) := Lib.hid (hideC_form hno (by rw [hnb]; simp)).symm
                  clear hno hlen
                  go_enter Tryz.func29, Tryz.ntmps29
                  go_wp2_with fail
                  refine (tooLong_any s _ HS.out).mono ?_
                  rintro e w1 ⟨rfl, rfl⟩
                  rw [decide_eq_false h1]
                  go_wp2_with fail
                  refine (tooLong_any o _ HO.out).mono ?_
                  rintro e w1 ⟨rfl, rfl⟩
                  rw [decide_eq_false h2]
                  go_wp2_with fail
                  refine (tooLong_any d _ HD.out).mono ?_
                  rintro e w1 ⟨rfl, rfl⟩
                  rw [decide_eq_false h4]
                  go_wp2_with fail
                  refine (secretRight_any s _ HS.out).mono ?_
                  rintro e w1 ⟨rfl, rfl⟩
                  rw [hsb]
                  go_wp2_with fail
                  refine (secretRight_any o _ HO.out).mono ?_
                  rintro e w1 ⟨rfl, rfl⟩
                  rw [hob]
                  go_wp2_with fail
                  refine (needRight_any need _).mono ?_
                  rintro e w1 ⟨rfl, rfl⟩
                  rw [hnb]
                  go_wp2_with fail
                  go_ret
                  exact ⟨ret_int HF.out, Below.refl _ _⟩
                · skip
                  obtain ⟨hn1, hn2⟩ := needB_iff.1 hnb
                  by_cases h6 : need ≤ n
                  · skip
                    have HF : Hid (1 = hideC s o need zs d) := Lib.hid (hideC_form hno (fun h => by have h7 := (xsB_iff zs (need - 1)).1 h.2.2.2.2; obtain ⟨ys, hy, hl2, _⟩ := h7; rw [hy, pv_length] at hlen; omega)).symm
                    clear hno hlen
                    go_enter Tryz.func29, Tryz.ntmps29
                    go_wp2_with fail
                    refine (tooLong_any s _ HS.out).mono ?_
                    rintro e w1 ⟨rfl, rfl⟩
                    rw [decide_eq_false h1]
                    go_wp2_with fail
                    refine (tooLong_any o _ HO.out).mono ?_
                    rintro e w1 ⟨rfl, rfl⟩
                    rw [decide_eq_false h2]
                    go_wp2_with fail
                    refine (tooLong_any d _ HD.out).mono ?_
                    rintro e w1 ⟨rfl, rfl⟩
                    rw [decide_eq_false h4]
                    go_wp2_with fail
                    refine (secretRight_any s _ HS.out).mono ?_
                    rintro e w1 ⟨rfl, rfl⟩
                    rw [hsb]
                    go_wp2_with fail
                    refine (secretRight_any o _ HO.out).mono ?_
                    rintro e w1 ⟨rfl, rfl⟩
                    rw [hob]
                    go_wp2_with fail
                    refine (needRight_any need _).mono ?_
                    rintro e w1 ⟨rfl, rfl⟩
                    rw [hnb]
                    go_wp2_with fail
                    go_ret
                    exact ⟨ret_int HF.out, Below.refl _ _⟩
                  · skip
                    have hxe : xsB zs (need - 1) = xsB zs 20 := by unfold xsB; rw [decide_eq_true (show (zs.length : Int) ≤ need - 1 by omega), decide_eq_true (show (zs.length : Int) ≤ 20 by omega)]
                    cases hxb : xsB zs 20
                    · skip
                      have HF : Hid (1 = hideC s o need zs d) := Lib.hid (hideC_form hno (by rw [hxe, hxb]; simp)).symm
                      clear hno hlen
                      go_enter Tryz.func29, Tryz.ntmps29
                      go_wp2_with fail
                      refine (tooLong_any s _ HS.out).mono ?_
                      rintro e w1 ⟨rfl, rfl⟩
                      rw [decide_eq_false h1]
                      go_wp2_with fail
                      refine (tooLong_any o _ HO.out).mono ?_
                      rintro e w1 ⟨rfl, rfl⟩
                      rw [decide_eq_false h2]
                      go_wp2_with fail
                      refine (tooLong_any d _ HD.out).mono ?_
                      rintro e w1 ⟨rfl, rfl⟩
                      rw [decide_eq_false h4]
                      go_wp2_with fail
                      refine (secretRight_any s _ HS.out).mono ?_
                      rintro e w1 ⟨rfl, rfl⟩
                      rw [hsb]
                      go_wp2_with fail
                      refine (secretRight_any o _ HO.out).mono ?_
                      rintro e w1 ⟨rfl, rfl⟩
                      rw [hob]
                      go_wp2_with fail
                      refine (needRight_any need _).mono ?_
                      rintro e w1 ⟨rfl, rfl⟩
                      rw [hnb]
                      go_wp2_with fail
                      refine (placesRight_any a n cap zs _ HI.out hn).mono ?_
                      rintro e w1 ⟨rfl, hb⟩
                      rw [hxb]
                      have HB := Lib.hid hb
                      clear hb
                      go_wp2_with fail
                      go_ret
                      exact ⟨ret_int HF.out, HB.out⟩
                    · skip
                      have hall : secB s = true ∧ secB o = true ∧ s.size = o.size ∧ needB need = true ∧ xsB zs (need - 1) = true := ⟨hsb, hob, H5.out, hnb, hxe.trans hxb⟩
                      clear hxe
                      by_cases h8 : (d.size : Int) < needsI s need
                      all_goals
                        obtain ⟨c, HF⟩ : ∃ c, Hid (c = hideC s o need zs d) := ⟨_, Lib.hid rfl⟩
                        have HC := HF.out
                        first | rw [hideC_draws hno hall h8] at HC | rw [hideC_ok hno hall h8] at HC
                        subst HC
                        clear hno hall hlen
                        go_enter Tryz.func29, Tryz.ntmps29
                        go_wp2_with fail
                        refine (tooLong_any s _ HS.out).mono ?_
                        rintro e w1 ⟨rfl, rfl⟩
                        rw [decide_eq_false h1]
                        go_wp2_with fail
                        refine (tooLong_any o _ HO.out).mono ?_
                        rintro e w1 ⟨rfl, rfl⟩
                        rw [decide_eq_false h2]
                        go_wp2_with fail
                        refine (tooLong_any d _ HD.out).mono ?_
                        rintro e w1 ⟨rfl, rfl⟩
                        rw [decide_eq_false h4]
                        go_wp2_with fail
                        refine (secretRight_any s _ HS.out).mono ?_
                        rintro e w1 ⟨rfl, rfl⟩
                        rw [hsb]
                        go_wp2_with fail
                        refine (secretRight_any o _ HO.out).mono ?_
                        rintro e w1 ⟨rfl, rfl⟩
                        rw [hob]
                        go_wp2_with fail
                        refine (needRight_any need _).mono ?_
                        rintro e w1 ⟨rfl, rfl⟩
                        rw [hnb]
                        go_wp2_with fail
                        refine (placesRight_any a n cap zs _ HI.out hn).mono ?_
                        rintro e w1 ⟨rfl, hb⟩
                        rw [hxb]
                        have HB := Lib.hid hb
                        clear hb
                        go_wp2_with fail
                        refine (implNeeds_any s need _ HS.out).mono ?_
                        rintro e w2 ⟨rfl, rfl⟩
                        generalize needsI s need = nd at *
                        go_wp2_with fail
                        go_ret
                        exact ⟨ret_int HF.out, HB.out⟩
              · skip
                have hq : ((s.size : Int) == (o.size : Int)) = false := by rw [beq_eq_false_iff_ne]; omega
                have HF : Hid (1 = hideC s o need zs d) := Lib.hid (hideC_form hno (fun h => h5 h.2.2.1)).symm
                clear hno hlen h5
                go_enter Tryz.func29, Tryz.ntmps29
                go_wp2_with fail
                refine (tooLong_any s _ HS.out).mono ?_
                rintro e w1 ⟨rfl, rfl⟩
                rw [decide_eq_false h1]
                go_wp2_with fail
                refine (tooLong_any o _ HO.out).mono ?_
                rintro e w1 ⟨rfl, rfl⟩
                rw [decide_eq_false h2]
                go_wp2_with fail
                refine (tooLong_any d _ HD.out).mono ?_
                rintro e w1 ⟨rfl, rfl⟩
                rw [decide_eq_false h4]
                go_wp2_with fail
                refine (secretRight_any s _ HS.out).mono ?_
                rintro e w1 ⟨rfl, rfl⟩
                rw [hsb]
                go_wp2_with fail
                refine (secretRight_any o _ HO.out).mono ?_
                rintro e w1 ⟨rfl, rfl⟩
                rw [hob]
                go_wp2_with fail
                go_ret
                exact ⟨ret_int HF.out, Below.refl _ _⟩
end Go.Proofs.YtdnbkjiijpeiiaaGreat
/- A curve that is moved by a multiple of a polynomial. -/
namespace Go.Proofs.YtdnbkjiijpeiiaaGreat
open Go.RowKit Go.PlainAid G MGF IRow
set_option linter.unusedVariables false
theorem BR.same0 {f : Nat} {w u : World} {a : Option Addr} {n cap : Nat} {p : List B} (h : BR f w a n cap p) (hk : 0 < n → ∀ g o, a = some ⟨g, o, none⟩ → u.heap[g]? = w.heap[g]?) : BR f u a n cap p := by
  refine ⟨h.len, h.le, h.nil, fun hn => ?_⟩
  obtain ⟨g, o, ha, hgl, hne, hc⟩ := h.cells hn
  have hb := hk hn g o ha
  have hcell : ∀ i, i < n → u.cell? ⟨g, o + i, none⟩ = some (.int .u8 (bi (cf p i))) := fun i hi => (World.cell?_of_block (a := ⟨g, o + i, none⟩) hb).trans (hc i hi)
  exact ⟨g, o, ha, World.block_lt_of_cell? u _ (hcell 0 hn), hne, hcell⟩
theorem Cv.at {f : Nat} {D : Nat → Prop} {w u : World} {gf : Nat} {lb : Array Value} {fn : B → B} (h : Cv f D w (.func (.func gf) #[] lb) fn) (hu : FAt w f u) (x : B) :
    Calls Tryz.prog gf (#[.int .u8 (bi x)] ++ lb) u fun e u' => e = .returned (.int .u8 (bi (fn x))) ∧ FAt u f u' := by
  obtain ⟨gf', lb', hv, _, hc⟩ := h.is
  cases hv
  exact hc u hu.fld (fun k hd => hu.grown.block k (h.lt k hd).1 (fun e => (h.lt k hd).2 (by simpa using e))) x
set_option maxRecDepth 100000 in
set_option maxHeartbeats 3200000 in
theorem movedIn_any (f b0 b1 b2 b3 : Nat) (a : Option Addr) (k cap : Nat) (p : List B) (D : Nat → Prop) (gf : Nat) (lb : Array Value) (fn : B → B) (y x : B) (w : World) (hF : Fld w f) (hC : Cv f D w (.func (.func gf) #[] lb) fn)
    (c0 : w.cell? ⟨b0, 0, none⟩ = some (.pointer (some ⟨f, 0, none⟩))) (c1 : w.cell? ⟨b1, 0, none⟩ = some (.func (.func gf) #[] lb)) (c2 : w.cell? ⟨b2, 0, none⟩ = some (.int .u8 (bi y)))
    (c3 : w.cell? ⟨b3, 0, none⟩ = some (.pointer (some ⟨f, 0, none⟩))) (c4 : w.cell? ⟨b3, 1, none⟩ = some (.slice a k cap)) (n0 : b0 ≠ f) (n1 : b1 ≠ f) (n2 : b2 ≠ f) (n3 : b3 ≠ f) (hR : BR f w a k cap p) (hk : k ≤ 1048576) :
    Calls Tryz.prog 60 #[.int .u8 (bi x), .pointer (some ⟨b0, 0, none⟩), .pointer (some ⟨b1, 0, none⟩), .pointer (some ⟨b2, 0, none⟩), .pointer (some ⟨b3, 0, none⟩)] w fun e w' => e = .returned (.int .u8 (bi (fn x ^^^ mul y (ev p x)))) ∧ FAt w f w' := by
  have HC : Hid (∀ u, FAt w f u → (FAt w f u ∧ u.cell? ⟨b0, 0, none⟩ = some (.pointer (some ⟨f, 0, none⟩)) ∧ u.cell? ⟨b1, 0, none⟩ = some (.func (.func gf) #[] lb) ∧ u.cell? ⟨b2, 0, none⟩ = some (.int .u8 (bi y)) ∧ u.cell? ⟨b3, 0, none⟩ = some (.pointer (some ⟨f, 0, none⟩)) ∧ u.cell? ⟨b3, 1, none⟩ = some (.slice a k cap))) :=
    Lib.hid (fun u hu => ⟨hu, hu.cell c0 n0, hu.cell c1 n1, hu.cell c2 n2, hu.cell c3 n3, hu.cell c4 n3⟩)
  have HR : Hid (∀ u, FAt w f u → BR f u a k cap p) := Lib.hid (fun u hu => hu.br hR)
  have HCALL : Hid (∀ u, FAt w f u → Calls Tryz.prog gf (#[.int .u8 (bi x)] ++ lb) u fun e u' => e = .returned (.int .u8 (bi (fn x))) ∧ FAt u f u') := Lib.hid (fun u hu => hC.at hu x)
  obtain ⟨gf', lb', hv, heg, _⟩ := hC.is
  cases hv
  have hFn := (FAt.start hF).drew
  clear c0 c1 c2 c3 c4 hR hF n0 n1 n2 n3 hC
  obtain ⟨z, hz⟩ : ∃ z, z = fn x := ⟨_, rfl⟩
  rw [← hz] at HCALL ⊢
  clear hz
  obtain ⟨q, hq⟩ : ∃ q, q = ev p x := ⟨_, rfl⟩
  rw [← hq]
  have HQ := Lib.hid hq
  clear hq
  have hat : ∀ u, FAt w f u → Calls Tryz.prog 62 #[.agg #[.pointer (some ⟨f, 0, none⟩), .slice a k cap], .int .u8 (bi x)] u fun e w' => e = .returned (.int .u8 (bi q)) ∧ FAt u f w' := fun u hu => by
    have := at_any f a k cap p x u (HR.out _ hu) hu.fld hk
    unfold pvl at this
    rwa [← HQ.out] at this
  have HAT := Lib.hid hat
  clear hat HR
  go_enter Tryz.func60, Tryz.ntmps60
  go_wp2_with fail
  go_region_held3 (fun u => FAt w f u ∧ u.cell? ⟨b0, 0, none⟩ = some (.pointer (some ⟨f, 0, none⟩)) ∧ u.cell? ⟨b1, 0, none⟩ = some (.func (.func gf) #[] lb) ∧ u.cell? ⟨b2, 0, none⟩ = some (.int .u8 (bi y)) ∧ u.cell? ⟨b3, 0, none⟩ = some (.pointer (some ⟨f, 0, none⟩)) ∧ u.cell? ⟨b3, 1, none⟩ = some (.slice a k cap)) (exact HC.out _ hFn)
    (first
      | (go_at_call 62; refine Calls.mono (HAT.out _ hFn) ?_; rintro e w1 ⟨rfl, hf1⟩; have hFn := hFn.step hf1)
      | (go_at_call 61; refine Calls.mono (times_any f y q _ hFn.fld) ?_; rintro e w1 ⟨rfl, hf1, hg1⟩; have hFn := hFn.step (FAt.of hf1 hg1))
      | (go_at_call 31; refine Calls.mono (ringPlus_any f z (mul y q) _) ?_; rintro e w1 ⟨rfl, rfl⟩)
      | (with_reducible refine Calls.mono (HCALL.out _ hFn) ?_; rintro e w1 ⟨rfl, hf1⟩; have hFn := hFn.step hf1))
  all_goals
    go_wp2_with fail
    go_ret
    exact ⟨rfl, hFn⟩
set_option maxRecDepth 100000 in
set_option maxHeartbeats 3200000 in
theorem moved_any (f : Nat) (D : Nat → Prop) (v : Value) (fn : B → B) (y : B) (a : Option Addr) (k cap : Nat) (p : List B) (w : World) (hf : f < w.heap.size) (hC : Cv f D w v fn) (hR : BR f w a k cap p) (hk : k ≤ 1048576) :
    Calls Tryz.prog 33 #[.pointer (some ⟨f, 0, none⟩), v, .int .u8 (bi y), .agg #[.pointer (some ⟨f, 0, none⟩), .slice a k cap]] w fun e w' => ∃ v' D', e = .returned v' ∧ Cv f D' w' v' (fun x => fn x ^^^ mul y (ev p x)) ∧ Below w.heap.size w w' := by
  obtain ⟨gf, lb, hv, heg, hcl⟩ := hC.is
  subst hv
  obtain ⟨w0, hw0⟩ : ∃ u, u = w.alloc (Obj.cells #[Value.pointer (some ⟨f, 0, none⟩)] 67) := ⟨_, rfl⟩
  obtain ⟨w1, hw1⟩ : ∃ u, u = w0.alloc (Obj.cells #[Value.func (.func gf) #[] lb] 79) := ⟨_, rfl⟩
  obtain ⟨w2, hw2⟩ : ∃ u, u = w1.alloc (Obj.cells #[Value.int .u8 (bi y)] 5) := ⟨_, rfl⟩
  obtain ⟨w3, hw3⟩ : ∃ u, u = w2.alloc (Obj.cells #[Value.pointer (some ⟨f, 0, none⟩), Value.slice a k cap] 76) := ⟨_, rfl⟩
  have s0 : w0.heap.size = w.heap.size + 1 := by rw [hw0]; exact World.size_alloc _ _
  have s1 : w1.heap.size = w.heap.size + 2 := by rw [hw1, World.size_alloc, s0]
  have s2 : w2.heap.size = w.heap.size + 3 := by rw [hw2, World.size_alloc, s1]
  have s3 : w3.heap.size = w.heap.size + 4 := by rw [hw3, World.size_alloc, s2]
  have b0 : Below w.heap.size w w0 := by rw [hw0]; exact (Below.refl _ _).alloc (Nat.le_refl _) _
  have b1 : Below w0.heap.size w0 w1 := by rw [hw1]; exact (Below.refl _ _).alloc (Nat.le_refl _) _
  have b2 : Below w1.heap.size w1 w2 := by rw [hw2]; exact (Below.refl _ _).alloc (Nat.le_refl _) _
  have b3 : Below w2.heap.size w2 w3 := by rw [hw3]; exact (Below.refl _ _).alloc (Nat.le_refl _) _
  have b13 : Below w1.heap.size w1 w3 := b2.trans (b3.mono b2.size)
  have b03 : Below w0.heap.size w0 w3 := b1.trans (b13.mono b1.size)
  have bw3 : Below w.heap.size w w3 := b0.trans (b03.mono b0.size)
  have c0 : w3.cell? ⟨w.heap.size, 0, none⟩ = some (.pointer (some ⟨f, 0, none⟩)) := (b03.cell (p := ⟨w.heap.size, 0, none⟩) (by show w.heap.size < _; omega)).trans (by rw [hw0]; exact cell_one _ _ _)
  have c1 : w3.cell? ⟨w.heap.size + 1, 0, none⟩ = some (.func (.func gf) #[] lb) := (b13.cell (p := ⟨w.heap.size + 1, 0, none⟩) (by show w.heap.size + 1 < _; omega)).trans (by rw [hw1, ← s0]; exact cell_one _ _ _)
  have c2 : w3.cell? ⟨w.heap.size + 2, 0, none⟩ = some (.int .u8 (bi y)) := (b3.cell (p := ⟨w.heap.size + 2, 0, none⟩) (by show w.heap.size + 2 < _; omega)).trans (by rw [hw2, ← s1]; exact cell_one _ _ _)
  have hpp := PBox.made w2 (some ⟨f, 0, none⟩) a k cap 76
  rw [← hw3, s2] at hpp
  obtain ⟨c3, c4, _, _⟩ := hpp.cells
  have hC3 := hC.below bw3
  have hR3 := hR.below bw3
  have HX := Lib.hid (And.intro c0 (And.intro c1 (And.intro c2 (And.intro c3 c4))))
  have HW0 := Lib.hid hw0
  have HW1 := Lib.hid hw1
  have HW2 := Lib.hid hw2
  have HW3 := Lib.hid hw3
  have HS := Lib.hid s3
  have HS' := Lib.hid (And.intro s0 (And.intro s1 s2))
  have HBW := Lib.hid bw3
  clear c0 c1 c2 c3 c4 hw0 hw1 hw2 hw3 s0 s1 s2 s3 b0 b1 b2 b3 b13 b03 bw3 hpp hcl hC
  go_enter Tryz.func33, Tryz.ntmps33
  go_wp2_with fail
  go_ret
  rw [← HW0.out, ← HW1.out, ← HW2.out, ← HW3.out]
  have hs3 := HS.out
  obtain ⟨x0, x1, x2, x3, x4⟩ := HX.out
  refine ⟨_, fun g => D g ∨ (w.heap.size ≤ g ∧ g < w.heap.size + 4) ∨ (0 < k ∧ ∃ o, a = some ⟨g, o, none⟩), rfl, ⟨fun g hg => ?_, _, _, rfl, enters_of Tryz.func60 (by kernel_rfl) rfl, fun u hF hu x => ?_⟩, HBW.out⟩
  · rcases hg with h1 | h1 | ⟨h1, o, h2⟩
    · exact hC3.lt g h1
    · exact ⟨by omega, by omega⟩
    · obtain ⟨g', o', ha, hg', hne, _⟩ := hR3.cells h1
      rw [h2] at ha
      cases ha
      exact ⟨hg', hne⟩
  · have hcl : ∀ (b o : Nat) (v : Value), w.heap.size ≤ b → b < w.heap.size + 4 → w3.cell? ⟨b, o, none⟩ = some v → u.cell? ⟨b, o, none⟩ = some v := fun b o v h1 h2 hc =>
      (World.cell?_of_block (a := ⟨b, o, none⟩) (hu b (.inr (.inl ⟨h1, h2⟩)))).trans hc
    have hCu : Cv f D u (.func (.func gf) #[] lb) fn := by
      obtain ⟨gf', lb', hv, he, hc⟩ := hC3.is
      refine ⟨fun g hg => ⟨?_, (hC3.lt g hg).2⟩, gf', lb', hv, he, fun v hv2 hk2 x => hc v hv2 (fun g hg => (hk2 g hg).trans (hu g (.inl hg))) x⟩
      have h1 := hu g (.inl hg)
      have h2 := (hC3.lt g hg).1
      rw [Array.getElem?_eq_getElem h2] at h1
      exact (Array.getElem?_eq_some_iff.1 h1).1
    have hRu := hR3.same0 (u := u) (fun h0 g o e => hu g (.inr (.inr ⟨h0, o, e⟩)))
    exact movedIn_any f w.heap.size (w.heap.size + 1) (w.heap.size + 2) (w.heap.size + 3) a k cap p D gf lb fn y x u hF hCu (hcl _ _ _ (by omega) (by omega) x0) (hcl _ _ _ (by omega) (by omega) x1) (hcl _ _ _ (by omega) (by omega) x2) (hcl _ _ _ (by omega) (by omega) x3) (hcl _ _ _ (by omega) (by omega) x4) (by omega) (by omega) (by omega) (by omega) hRu hk
end Go.Proofs.YtdnbkjiijpeiiaaGreat
