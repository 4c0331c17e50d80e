/- What the program's Hide answers. -/
import Derived.Test.YtdnbkjiijpeiiaaGreatSplF
import Derived.Test.YtdnbkjiijpeiiaaGreatHShA
import Derived.Deep.QuietTactic
import Derived.BigQuiet
import Derived.Deep.Cut
namespace Go.Proofs.YtdnbkjiijpeiiaaGreat
open Go.RowKit Go.PlainAid G MGF IRow
set_option linter.unusedVariables false
/-- 'append(s, x...)', s the call's own, x any row of bytes. -/
theorem append_bytes {P : Program} {w : World} {ops : Array Oper} {rest : List Oper} {o : Oper} {a : Act} {Q : Exit → Act → World → Prop} (hgd : o.guard = none) (s x : Operand) (t : TypeId)
    (ho : o.op = .call { callee := .builtin .append, args := #[s, x], argTypes := #[t, t] })
    (e : TypeId) (i : TypeInfo) (ht : P.underlying t = some (.slice e)) (hi : P.info? e = some i) (hz : i.zero = some (.int .u8 0)) (hsize : i.size = 1) (hby : i.bytes = 1)
    (base : Nat) (v : Value) (n : Nat) (xs : List Value) (hs : a.eval s = v) (hown : w.ownsRow base e 1 v n xs)
    (f : Nat) (ao : Option Addr) (m c : Nat) (p : List B) (hx : a.eval x = .slice ao m c) (hr : BR f w ao m c p) (hn : n + m ≤ 16777216) (hbase : base ≤ w.heap.size)
    (h : ∀ v' w', w'.ownsRow base e 1 v' (n + m) (xs ++ (pv p).map (Value.int .u8)) → w.grownBy w' v.ownBlock → wpList P ops Q rest (a.put o.dst v') w') : wpList P ops Q (o :: rest) a w := by
  have hpl := hr.len
  cases ao with
  | none =>
    have hc := hr.nil rfl
    have hm : m = 0 := by have := hr.le; omega
    subst hc hm
    have hz0 : p = [] := List.eq_nil_of_length_eq_zero hpl
    subst hz0
    exact wpList_append_own_none hgd s x t ho base e i 1 ht hi v n xs hs hown hx (h v w (by simpa [pv] using hown) (World.grownBy.refl _ _))
  | some ad =>
    refine wpList_append_own w hgd s x t ho base e i (.int .u8 0) 1 1 ht hi hz hsize hby rfl (by decide) v n xs hs hown ad m c ((pv p).map (Value.int .u8)) hx (by rw [List.length_map, pv_length, hpl, Nat.mul_one]) ?_
      (fun u hu => by obtain ⟨z, _, rfl⟩ := List.mem_map.1 hu; rfl) (by unfold maxLen; omega) (by omega) hbase (fun v' w' h1 h2 _ => h v' w' h1 h2)
    intro j u hu
    have hj : 0 < ((pv p).map (Value.int .u8)).length := by
      cases hh : (pv p).map (Value.int .u8) with
      | nil => rw [hh] at hu; simp at hu
      | cons a b => simp
    obtain ⟨ad', ha, hc⟩ := hr.src hj
    cases ha
    exact hc j u hu
theorem hideL_succ (s o d xs : List B) (k i : Nat) : hideL s o d xs k (i + 1) = hideL s o d xs k i ++ hideAt s o d xs k i := rfl
set_option maxRecDepth 100000 in
set_option maxHeartbeats 6400000 in
theorem implHide_any (s o d : ByteArray) (need : Int) (a : Option Addr) (n cap : Nat) (zs : List Int) (w : World) (hs : s.size ≤ maxLen) (ho : o.size ≤ maxLen) (hd : d.size ≤ maxLen) (h : IR w a n cap zs) (hn : n ≤ 1048576) :
    Calls Tryz.prog 8 #[.string s, .string o, .int .i64 need, .slice a n cap, .string d] w (NewSecret (hideR s o need zs d) w) := by
  have hlen : zs.length = n := h.len
  have hb0 : Below w.heap.size w (w.alloc (Obj.cells #[Value.string ByteArray.empty, Value.int IntKind.i64 0] 34)) := (Below.refl _ _).alloc (Nat.le_refl _) _
  have HBX := Lib.hid (Box2.made w (.string ByteArray.empty) (.int .i64 0) 34)
  have H := Lib.hid (h.below hb0)
  have HB0 := Lib.hid hb0
  clear h hb0
  by_cases h0 : hideC s o need zs d = 0
  · have HR0 := Lib.hid (hideR_yes h0)
    obtain ⟨ys, hOk⟩ := hideC_zero h0
    have hn1 := hOk.n1
    have hn2 := hOk.n2
    have hs16 := hOk.s2
    have hdr := hOk.dr
    have hd8 := hOk.d8
    have hyl := hOk.len
    have HSO := Lib.hid hOk.so
    have hys := hOk.xs
    subst hys
    have hyn : ys.length = n := by rw [← hlen, pv_length]
    have HYE : Hid ((pv ys).map ib = ys) := Lib.hid (map_ib_pv ys)
    rw [HYE.out] at HR0
    have HY0 := Lib.hid hOk.ne
    obtain ⟨k, hk⟩ : ∃ k, k = kOf need := ⟨_, rfl⟩
    have HKN : Hid (need = ((k + 1 : Nat) : Int)) := Lib.hid (by rw [hk]; unfold kOf; omega)
    rw [← hk] at HR0 hyl hdr
    have HK := Lib.hid hk
    have hk9 : k ≤ 9 := by have := HKN.out; omega
    have HC0 := Lib.hid h0
    have HPR : Hid (∀ j, Right (hideP (tb s) (tb o) (tb d) ys k j)) := Lib.hid (fun j => hideP_right _ _ _ _ _ _)
    have HPL : Hid (∀ j, (hideP (tb s) (tb o) (tb d) ys k j).length ≤ k + 1) := Lib.hid (fun j => hideP_len _ _ _ _ _ _ hyl)
    have HPE : Hid (∀ j x, ev (polyT (tb s) (tb d) k j) x ^^^ mul (cf (tb s) j ^^^ cf (tb o) j) (ev (vanS ys n) x) = ev (hideP (tb s) (tb o) (tb d) ys k j) x) := Lib.hid (fun j x => by rw [hideP_ev, mul_comm, hyn])
    have HHL : Hid (∀ j, hideL (tb s) (tb o) (tb d) ys k (j + 1) = hideL (tb s) (tb o) (tb d) ys k j ++ (List.range k).map fun t => cf (hideP (tb s) (tb o) (tb d) ys k j) (t + 1)) := Lib.hid (fun j => hideL_succ _ _ _ _ _ _)
    have hvk : (vanS ys n).length ≤ 21 := by have := vanS_length ys n; omega
    have HVK := Lib.hid hvk
    obtain ⟨i0, hi, hz0, hz1, hz2⟩ := info_parts infoU8
    have hn20 : n ≤ 20 := by omega
    clear hOk hk h0 hyl hyn hlen hvk
    go_enter Tryz.func8, Tryz.ntmps8
    go_wp2_with fail
    refine (hideFault_any s o d need a n cap (pv ys) _ hs ho hd H.out hn).mono ?_
    rintro e w1 ⟨rfl, hb⟩
    rw [HC0.out]
    have HFN := Lib.hid (fld_new w1)
    have hbA : Below w1.heap.size w1 (w1.alloc (Obj.cells Tryz.zeroCells64 64)) := (Below.refl _ _).alloc (Nat.le_refl _) _
    have HI := Lib.hid ((H.out.below hb).below hbA)
    have HB1 := Lib.hid (HB0.out.trans (hb.mono HB0.out.size))
    have HBA := Lib.hid (HB1.out.trans (hbA.mono HB1.out.size))
    have HBXA := Lib.hid ((HBX.out.below hb).below hbA)
    have HFB : Hid (w.heap.size < w1.heap.size) := Lib.hid (HBX.out.below hb).1
    have HNE : Hid (0 < n → ∀ g o, a = some ⟨g, o, none⟩ → g ≠ w1.heap.size) := Lib.hid (fun h0 g o e => by
      obtain ⟨g', o', ha, hg, _⟩ := (H.out.below hb).cells h0
      rw [e] at ha
      cases ha
      omega)
    clear hb hbA
    go_wp2_with fail
    generalize w1.alloc (Obj.cells Tryz.zeroCells64 64) = wf at *
    refine (vanish_any w1.heap.size a n cap ys _ HI.out HFN.out hn20 HY0.out HNE.out).mono ?_
    rintro e w2 ⟨a2, k2, c2, rfl, h2, hf2⟩
    have hk2 : k2 ≤ 21 := by have := h2.len; have := HVK.out; omega
    have hfr : some w.heap.size ≠ some w1.heap.size := by have := HFB.out; simp; omega
    have hpb := PBox.made w2 (some ⟨w1.heap.size, 0, none⟩) a2 k2 c2 76
    have hbg : Below w2.heap.size w2 (w2.alloc (Obj.cells #[Value.pointer (some ⟨w1.heap.size, 0, none⟩), Value.slice a2 k2 c2] 76)) := (Below.refl _ _).alloc (Nat.le_refl _) _
    have hB2 : Below w.heap.size w w2 := HBA.out.grown hf2.grown HBA.out.size (fun g e => by cases e; exact Nat.le_of_lt HFB.out)
    have HB3 := Lib.hid (hB2.trans (hbg.mono hB2.size))
    have HBX3 := Lib.hid ((HBXA.out.grown hf2.grown hfr).below hbg)
    have HF3 := Lib.hid (hf2.fld.below hbg)
    have HV3 := Lib.hid (h2.below hbg)
    have HPB3 := Lib.hid hpb
    have HL2 : Hid (w1.heap.size < w2.heap.size) := Lib.hid hf2.fld.lt
    clear h2 hf2 hpb hbg hB2 hfr
    unfold pvl
    go_wp2_with fail
    generalize w2.alloc (Obj.cells #[Value.pointer (some ⟨w1.heap.size, 0, none⟩), Value.slice a2 k2 c2] 76) = w3 at *
    refine (curvesOf_any w1.heap.size s d need _ HF3.out.lt hn1 hn2 hs16 (by rw [← HK.out]; exact hdr) hd8).mono ?_
    rintro e wc ⟨ac, cc, rfl, hcv, hb3⟩
    rw [← HK.out] at hcv
    have HFC := Lib.hid (HF3.out.below hb3)
    have HCV := Lib.hid hcv
    have HBXC := Lib.hid (HBX3.out.below hb3)
    have HBC := Lib.hid (HB3.out.trans (hb3.mono HB3.out.size))
    have HVC := Lib.hid (HV3.out.below hb3)
    have HPBC := Lib.hid (HPB3.out.below hb3)
    have hfl : w1.heap.size < wc.heap.size := HFC.out.lt
    have hgl : w2.heap.size < wc.heap.size := HPBC.out.lt
    obtain ⟨f, hf⟩ : ∃ f, f = w1.heap.size := ⟨_, rfl⟩
    obtain ⟨gB, hgB⟩ : ∃ g, g = w2.heap.size := ⟨_, rfl⟩
    have HWF : Hid (w.heap.size < f) := Lib.hid (by rw [hf]; exact HFB.out)
    have hgf : some gB ≠ some f := by have := HL2.out; simp; omega
    simp only [← hf] at HFC HCV HVC HPBC hfl ⊢
    simp only [← hgB] at HPBC hgl ⊢
    have HGF := Lib.hid hgf
    clear hcv hb3 hf hgB hgf hdr hd8 HF3 HV3 HPB3 HBX3 HB3 HL2 HBXA HBA HB1 HI HFN HFB HNE HY0 HYE hn20
    go_wp2_with fail
    go_loopw [14, 35] (fun v i wr => ∃ j m : Nat, j ≤ s.size ∧ Hid (m = j * k) ∧ m ≤ 200 ∧ i = .int .i64 (j : Int) ∧ wr.ownsRow wc.heap.size 5 1 v m ((pv (hideL (tb s) (tb o) (tb d) ys k j)).map (Value.int .u8)) ∧ FAt wc f wr) (fun _ i _ => s.size - (intOf i).toNat)
    case atStart => exact ⟨0, 0, Nat.zero_le _, Lib.hid (by simp), by omega, rfl, World.ownsRow_nil _ _ _ _, FAt.start HFC.out⟩
    case round =>
      generalize wr = wo at *
      obtain ⟨j, m, hj, HM, hm2, rfl, hown, hfw⟩ := hrel
      by_cases hlt : j < s.size
      · have hlo : j < o.size := by have := HSO.out; omega
        obtain ⟨gb, oo, hae, hg, hne, hc⟩ := (HCV.out.grown hfw.grown).cells (by omega)
        obtain ⟨v, D, hv, hcv⟩ := hc j hlt
        obtain ⟨gf, lb, hvf, _, _⟩ := hcv.is
        subst hvf
        subst hae
        have hjs : (j : Int) < (s.size : Int) := by omega
        have hjo : (j : Int) < (o.size : Int) := by omega
        have HPLUS : Hid (∀ u : World, Calls Tryz.prog 31 #[.pointer (some ⟨f, 0, none⟩), .int .u8 ((s[j]'hlt).toNat : Int), .int .u8 ((o[j]'hlo).toNat : Int)] u fun e w' => e = .returned (.int .u8 (bi (cf (tb s) j ^^^ cf (tb o) j))) ∧ w' = u) := Lib.hid (fun u => by
          have := (ringPlus_any f (cf (tb s) j) (cf (tb o) j) u).mono (fun e w' h => (⟨h.1, h.2.symm⟩ : e = Ending.returned (.int .u8 (bi (cf (tb s) j ^^^ cf (tb o) j))) ∧ w' = u))
          rw [tb_cf s hlt, tb_cf o hlo] at this
          exact this)
        have HPJ := Lib.hid (HPE.out j)
        have HPRJ := Lib.hid (HPR.out j)
        have HPLJ := Lib.hid (HPL.out j)
        have HLJ := Lib.hid (HHL.out j)
        generalize cf (tb s) j ^^^ cf (tb o) j = q at *
        generalize hideP (tb s) (tb o) (tb d) ys k j = Pj at *
        have HCJ := Lib.hid hcv
        have HO := Lib.hid hown
        have HFW := Lib.hid hfw
        clear hc hcv hown hfw hne hg
        go_wp2_with fail
        go_quiet ((go_at_call 31; exact Calls.quiet_of_same (HPLUS.out _)))
        have hbq := below_drewN (Below.refl wo.heap.size wo) nq
        have hown5 := own_below HO.out hbq
        have hfw5 := HFW.out.below hbq
        have hcv5 := HCJ.out.below hbq
        have HVW := Lib.hid (hfw5.br HVC.out)
        obtain ⟨hq0, hq1, _, _⟩ := (HPBC.out.grown hfw5.grown HGF.out).cells
        have HO5 := Lib.hid hown5
        have HFW5 := Lib.hid hfw5
        have HCV5 := Lib.hid hcv5
        clear hbq hown5 hfw5 hcv5 HO HFW HCJ
        generalize wo.drewN nq = w5 at *
        go_wp2_with fail
        refine (moved_any f D (.func (.func gf) #[] lb) _ q a2 k2 c2 (vanS ys n) _ HFW5.out.fld.lt HCV5.out HVW.out (by omega)).mono ?_
        rintro e w6 ⟨v6, D6, rfl, hcv6, hb6⟩
        obtain ⟨gf6, lb6, hvf6, _, _⟩ := hcv6.is
        subst hvf6
        have HO6 := Lib.hid (own_below HO5.out hb6)
        have HFW6 := Lib.hid (HFW5.out.below hb6)
        have hdo := drawsOf_any f (k + 1) D6 gf6 lb6 _ Pj w6 HFW6.out.fld hcv6 (by omega) (by omega) HPRJ.out HPLJ.out HPJ.out
        rw [← HKN.out, Nat.add_sub_cancel] at hdo
        have HDO := Lib.hid hdo
        clear hdo hcv6 hb6 hq0 hq1
        go_wp2_with fail
        refine HDO.out.mono ?_
        rintro e w7 ⟨a7, rfl, h7, hf7⟩
        have hown7 := hf7.own HO6.out hfl
        have HF7 := Lib.hid (HFW6.out.step hf7)
        have H7 := Lib.hid h7
        have HO7 := Lib.hid hown7
        have hsz7 : wc.heap.size ≤ w7.heap.size := HF7.out.grown.size
        clear h7 hf7
        go_wp2_with (at_builtin; refine append_bytes rfl (.tmp 47) (.tmp 53) 22 rfl 5 i0 Tryz.underlying22 hi hz0 hz1 hz2 wc.heap.size _ _ _ rfl hown7 f _ _ _ _ rfl H7.out (by omega) hsz7 ?_; intro v' w8 hown8 hg8; have HO8 := Lib.hid hown8; have HF8 := Lib.hid (HF7.out.row hg8 (fun g hg => (HO7.out.lt g hg).1) hfl); clear hown8 hg8 hown7)
        have hjk : j * k ≤ 15 * 9 := Nat.mul_le_mul (by omega) hk9
        have hmm2 : m + k ≤ 200 := by have := HM.out; omega
        have HMJ : Hid (m + k = (j + 1) * k) := Lib.hid (by rw [HM.out, Nat.succ_mul])
        clear hjk
        go_roundw
        case rel => exact ⟨j + 1, m + k, by omega, HMJ, hmm2, by go_num, by rw [HLJ.out, pv, List.map_append, List.map_append]; exact HO8.out, HF8.out⟩
        case measure => simp [intOf]; omega
      · obtain rfl : j = s.size := by omega
        have hcv : (convert 22 9 u14).run Tryz.prog wo = .ok (.string (tx (hideL (tb s) (tb o) (tb d) ys k s.size))) wo := conv_owned (P := Tryz.prog) 22 9 5 Tryz.underlying22 Tryz.underlying5 Tryz.underlying9 wc.heap.size _ _ _ hown
        have HBq := Lib.hid (HBC.out.grown hfw.grown HBC.out.size (fun g e => by cases e; exact Nat.le_of_lt HWF.out))
        obtain ⟨hlt0, hc0, hc1, hz0', hz1'⟩ := HBXC.out.grown hfw.grown (by have := HWF.out; simp; omega)
        obtain ⟨hr0, hr1⟩ := box_put (x := .string (tx (hideL (tb s) (tb o) (tb d) ys k s.size))) (y := .int .i64 0) hc0 hc1
        have HR' := Lib.hid (And.intro hr0 hr1)
        have HB2 := Lib.hid ((HBq.out.setCell (p := ⟨w.heap.size, 0, none⟩) (Nat.le_refl _) (.string (tx (hideL (tb s) (tb o) (tb d) ys k s.size)))).setCell (p := ⟨w.heap.size, 1, none⟩) (Nat.le_refl _) (.int .i64 0))
        clear hown hfw hr0 hr1 hlt0
        go_wp2_with fail
        obtain ⟨hr0, hr1⟩ := HR'.out
        exact bodyPost_ret (v := .agg #[.string (tx (hideL (tb s) (tb o) (tb d) ys k s.size)), .int .i64 0]) (by simp [results, Tryz.results8, go_sem, hr0, hr1]) rfl (ret_secret (t := (tx (hideL (tb s) (tb o) (tb d) ys k s.size))) HR0.out HB2.out)
  · obtain ⟨c, hc⟩ : ∃ c, c = hideC s o need zs d := ⟨_, rfl⟩
    rw [← hc] at h0
    have HF := Lib.hid (hideR_no hc.symm h0)
    have hcb : (c != 0) = true := by rw [bne_iff_ne]; exact h0
    have hcb2 : (c == 0) = false := by rw [beq_eq_false_iff_ne]; exact h0
    have HC := Lib.hid hc
    clear hc h0 hlen
    go_enter Tryz.func8, Tryz.ntmps8
    go_wp2_with fail
    refine (hideFault_any s o d need a n cap zs _ hs ho hd H.out hn).mono ?_
    rintro e w1 ⟨rfl, hb⟩
    rw [← HC.out]
    obtain ⟨hlt, hc0, hc1, hz0', hz1'⟩ := HBX.out.below hb
    obtain ⟨hr0, hr1⟩ := box_put (x := .string ⟨#[]⟩) (y := .int .i64 c) hc0 hc1
    have HR' := Lib.hid (And.intro hr0 hr1)
    have HB2 := Lib.hid (((HB0.out.trans (hb.mono HB0.out.size)).setCell (p := ⟨w.heap.size, 0, none⟩) (Nat.le_refl _) (.string ⟨#[]⟩)).setCell (p := ⟨w.heap.size, 1, none⟩) (Nat.le_refl _) (.int .i64 c))
    clear hb hr0 hr1 hlt
    go_wp2_with fail
    obtain ⟨hr0, hr1⟩ := HR'.out
    exact bodyPost_ret (v := .agg #[.string ⟨#[]⟩, .int .i64 c]) (by simp [results, Tryz.results8, go_sem, hr0, hr1]) rfl (ret_secret (t := ⟨#[]⟩) HF.out HB2.out)
end Go.Proofs.YtdnbkjiijpeiiaaGreat
