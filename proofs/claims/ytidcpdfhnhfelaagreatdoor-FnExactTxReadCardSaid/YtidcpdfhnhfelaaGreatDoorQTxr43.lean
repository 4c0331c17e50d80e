/- Texts put together: what the law uses of them. -/
import Derived.Deep.Cut
import Derived.Test.YtidcpdfhnhfelaaGreatDoorQTxr19
import Derived.Test.YtidcpdfhnhfelaaGreatDoorQTxr41
import Derived.Test.YtidcpdfhnhfelaaGreatDoorQTxr42
import Derived.Test.YtidcpdfhnhfelaaGreatDoorQTxr00
/- The model's l07Tx. -/
namespace Go.Proofs.YtidcpdfhnhfelaaGreatDoor
open Go.RowKit Go.PlainAid G MGet MGF IRow MNum MJoin
set_option linter.unusedVariables false
theorem sT_fits {u : ByteArray} {q : Plc} (hu : u.size ≤ 8000) : (sT u q).1.size ≤ maxLen := by
  unfold sT
  split
  · exact Nat.le_trans (txt_fits (u := u) (a := q.1) hu) (by unfold maxLen; omega)
  · exact Nat.zero_le _
theorem rdDeed_fits {u : ByteArray} {q : Plc} (hu : u.size ≤ 8000) : (rdDeed u q).1.lk.size ≤ maxLen ∧ (rdDeed u q).1.nm.size ≤ maxLen ∧ (rdDeed u q).1.bd.size ≤ maxLen := by
  have h0 : (⟨#[]⟩ : ByteArray).size ≤ maxLen := Nat.zero_le _
  unfold rdDeed rcRest rcConf rcTerm rcPut rcDel rcNone
  repeat' split
  all_goals exact ⟨by first | exact h0 | exact sT_fits hu, by first | exact h0 | exact sT_fits hu, by first | exact h0 | exact sT_fits hu⟩
theorem SB.grown {w w' : World} {b : Nat} {u : ByteArray} {p : Int} {k : Bool} {row : Option Nat} (h : SB w b u p k) (hg : w.grownBy w' row) (hr : some b ≠ row) : SB w' b u p k := by
  have h1 := hg.block b h.lt hr
  exact ⟨Nat.lt_of_lt_of_le h.lt hg.size, (World.cell?_of_block (a := ⟨b, 0, none⟩) h1).trans h.c0, (World.cell?_of_block (a := ⟨b, 1, none⟩) h1).trans h.c1, (World.cell?_of_block (a := ⟨b, 2, none⟩) h1).trans h.c2, (World.frozen?_of_block (a := ⟨b, 1, none⟩) h1).trans h.f1, (World.frozen?_of_block (a := ⟨b, 2, none⟩) h1).trans h.f2⟩
def TxOr (u : ByteArray) (w : World) (e : Ending) (w' : World) : Prop :=
  ∃ a n c, e = .returned (.tuple #[.slice a n c, .bool (decide (rdTx u ≠ []))]) ∧ (rdTx u ≠ [] → w'.ownsRow w.heap.size 110 ddE.k (.slice a n c) n (ddE.flat (rdTx u))) ∧ Below w.heap.size w w'
set_option maxRecDepth 100000 in
set_option maxHeartbeats 6400000 in
theorem specTx_any (u : ByteArray) (w : World) (hu : u.size ≤ 8000) :
    Calls Tryz.prog 23 #[.string u] w (TxOr u w) := by
  obtain ⟨W, hW⟩ : ∃ W, W = w.alloc (.cells #[.string u, .int .i64 0, .bool false] 103) := ⟨_, rfl⟩
  obtain ⟨b, hb0⟩ : ∃ b, b = w.heap.size := ⟨_, rfl⟩
  have HR0 := Lib.hid (show SB W b u (((0 : Nat) : Int)) false by rw [hW, hb0]; exact ⟨by simp, by simp, by simp, by simp, by simp, by simp⟩)
  have HB0 : Hid (Below w.heap.size w W) := Lib.hid (by rw [hW]; exact (Below.refl _ _).alloc (Nat.le_refl _) _)
  have hbb : w.heap.size ≤ b := by omega
  have HWS := Lib.hid (show w.heap.size ≤ W.heap.size from HB0.out.size)
  go_enter Tryz.func23, Tryz.ntmps23
  go_wp2_with fail
  rw [← hW, ← hb0]
  clear hW hb0
  obtain ⟨n, q1, he⟩ : ∃ n q1, sN u ((0, false) : Plc) = (n, q1) := ⟨_, _, rfl⟩
  have HE := Lib.hid he
  have hq1 : q1.1 ≤ u.size := by have := sN_le (u := u) (q := (0, false)) (Nat.zero_le _); rw [he] at this; exact this
  clear he
  refine (srcNum_any b u (0, false) _ HR0.out hu (Nat.zero_le _)).mono ?_
  rintro e w1 ⟨rfl, hr, hg⟩
  rw [HE.out] at hr ⊢
  dsimp only at hr ⊢
  have HR1 := Lib.hid hr
  have HB1 := Lib.hid (below_kept HB0.out hg HWS.out hbb)
  clear hr hg HR0 HB0 HWS
  go_wp2_with fail
  refine (l02IsOk_any _ _ _ _).mono ?_
  rintro e w2 ⟨rfl, rfl⟩
  by_cases hn : 1 ≤ n ∧ n ≤ 10
  · rw [decide_eq_true hn]
    obtain ⟨hn1, hn2⟩ := hn
    have hq1m : q1.2 = false := by
      by_cases hc : (rdS u 0 10 0 0).2.2 = 0
      · obtain ⟨n', p', he', _, _⟩ := sN_step hc
        have := HE.out.symm.trans he'
        injection this with _ h2
        rw [h2]
      · have := HE.out.symm.trans (sN_no (u := u) (q := (0, false)) hc)
        injection this with h2 _
        omega
    obtain ⟨V, hV⟩ : ∃ V, V = w1.alloc (.cells #[] 110) := ⟨_, rfl⟩
    obtain ⟨B, hB⟩ : ∃ B, B = w1.heap.size := ⟨_, rfl⟩
    have hbV : Below w1.heap.size w1 V := by rw [hV]; exact (Below.refl _ _).alloc (Nat.le_refl _) _
    have HO1 := Lib.hid (show V.ownsRow B 110 ddE.k (.slice (some ⟨B, 0, none⟩) 0 0) 0 (ddE.flat []) by rw [hV, hB]; exact own_made0 ddE w1 110 (Nat.le_refl _))
    have hbB : b < B := by rw [hB]; exact HR1.out.lt
    have HRV := Lib.hid (HR1.out.below hbV)
    have HBV := Lib.hid (HB1.out.trans (hbV.mono HB1.out.size))
    have hBV : B ≤ V.heap.size := by rw [hB]; exact hbV.size
    have HRm := Lib.hid (show SB V b u (q1.1 : Int) false by rw [← hq1m]; exact HRV.out)
    clear hbV HR1 HB1 HRV
    obtain ⟨ti, hi, hz, hsy, hy⟩ := info_parts infoDeed
    go_wp2_with fail
    rw [← hV, ← hB]
    clear hV hB
    go_loopw [6, 7] (fun v i wr => ∃ (j : Nat) (a : Option Addr) (c : Nat), v = .slice a j c ∧ i = .int .i64 j ∧ (j : Int) ≤ n ∧ Hid (okTo u q1 j = true) ∧ Hid (SB wr b u ((plAt u q1 j).1 : Int) false) ∧ Hid ((plAt u q1 j).2 = false) ∧ Hid ((plAt u q1 j).1 ≤ u.size) ∧ Hid (wr.ownsRow B 110 ddE.k (.slice a j c) j (ddE.flat (ddsTo u q1 j))) ∧ Hid (Below w.heap.size w wr) ∧ B ≤ wr.heap.size) (fun _ i _ => n.toNat - (intOf i).toNat)
    case atStart => exact ⟨0, some ⟨B, 0, none⟩, 0, rfl, rfl, by omega, rfl, HRm.out, hq1m, hq1, HO1.out, HBV.out, hBV⟩
    case round =>
      obtain ⟨j, a, c, rfl, rfl, hj, HOK, HRj, HPF, HPL, HOj, HBj, hsz⟩ := hrel
      clear HRm HO1 HBV
      by_cases hlt : (j : Int) < n
      · obtain ⟨pj, hpj⟩ : ∃ pj, plAt u q1 j = (pj, false) := ⟨_, Prod.ext rfl HPF.out⟩
        have HPJ := Lib.hid hpj
        rw [hpj] at HRj HPL
        dsimp only at HRj HPL
        clear hpj HPF
        go_wp2_with fail
        refine (srcDeed_any b u (pj, false) _ HRj.out hu HPL.out).mono ?_
        rintro e w3 ⟨rfl, hr, hg⟩
        have HFT := Lib.hid (rdDeed_fits (u := u) (q := (pj, false)) hu)
        have HLE := Lib.hid (rdDeed_le (u := u) (q := (pj, false)) HPL.out)
        obtain ⟨D, r1, m, hrd⟩ : ∃ D r1 m, rdDeed u (pj, false) = (D, (r1, m)) := ⟨_, _, _, rfl⟩
        rw [hrd] at hr HFT HLE ⊢
        dsimp only at hr HFT HLE ⊢
        have HRD := Lib.hid hrd
        unfold ddV
        obtain ⟨X, hX⟩ : ∃ X, X = w3.alloc (.cells #[.int .i64 D.kd, .int .i64 D.gn, .int .i64 D.nd, .int .i64 D.mn, .int .i64 D.ck, .int .i64 D.no, .string D.lk, .string D.nm, .int .i64 D.tm, .string D.bd] 110) := ⟨_, rfl⟩
        obtain ⟨x, hx⟩ : ∃ x, x = w3.heap.size := ⟨_, rfl⟩
        have hbX : Below w3.heap.size w3 X := by rw [hX]; exact (Below.refl _ _).alloc (Nat.le_refl _) _
        have HXX := Lib.hid (show BoxC X x [.int .i64 D.kd, .int .i64 D.gn, .int .i64 D.nd, .int .i64 D.mn, .int .i64 D.ck, .int .i64 D.no, .string D.lk, .string D.nm, .int .i64 D.tm, .string D.bd] by rw [hX, hx]; exact BoxC.made _ _ _)
        have HRX := Lib.hid (hr.below hbX)
        have HO3 := HOj.out.kept hg (Or.inr (fun e => by have := (HOj.out.lt b e).1; omega))
        have HOX := Lib.hid (own_below HO3 hbX)
        have HB3 := below_kept HBj.out hg HBj.out.size hbb
        have HBX := Lib.hid (HB3.trans (hbX.mono HB3.size))
        have hszX : B ≤ X.heap.size := Nat.le_trans (Nat.le_trans hsz hg.size) hbX.size
        clear hr hg hrd hbX HO3 HB3 HRj HOj HBj hsz
        have g0 := HRX.out.c0
        have g1 := HRX.out.c1
        have g2 := HRX.out.c2
        have x0 := HXX.out.cell 0 _ rfl
        have x1 := HXX.out.cell 1 _ rfl
        have x2 := HXX.out.cell 2 _ rfl
        have x3 := HXX.out.cell 3 _ rfl
        have x4 := HXX.out.cell 4 _ rfl
        have x5 := HXX.out.cell 5 _ rfl
        have x6 := HXX.out.cell 6 _ rfl
        have x7 := HXX.out.cell 7 _ rfl
        have x8 := HXX.out.cell 8 _ rfl
        have x9 := HXX.out.cell 9 _ rfl
        go_upto_region 10 with fail
        rw [← hX, ← hx]
        clear hX hx
        cases m
        · go_wp2_with fail
          refine (specDeedRight_any D.kd D.gn D.nd D.mn D.ck D.no D.lk D.nm D.tm D.bd _ HFT.out.1 HFT.out.2.1 HFT.out.2.2).mono ?_
          rintro e w4 ⟨rfl, hb⟩
          have HX4 := Lib.hid (HXX.out.below hb)
          have HR4 := Lib.hid (HRX.out.below hb)
          have HO4 := Lib.hid (own_below HOX.out hb)
          have HB4 := Lib.hid (HBX.out.trans (hb.mono HBX.out.size))
          have hsz4 : B ≤ w4.heap.size := Nat.le_trans hszX hb.size
          clear hb HXX HRX HOX HBX hszX g0 g1 g2 x0 x1 x2 x3 x4 x5 x6 x7 x8 x9
          obtain ⟨ob, hob⟩ : ∃ ob, deedB D.kd D.gn D.nd D.mn D.ck D.no D.lk D.nm D.tm D.bd = ob := ⟨_, rfl⟩
          have HOB := Lib.hid (show okDeed u (pj, false) = ob by unfold okDeed; rw [HRD.out]; exact hob)
          rw [hob]
          clear hob
          cases ob
          · have HRT : Hid (rdTx u = []) := Lib.hid (rdTx_no (by rw [HE.out]; dsimp only; rintro ⟨_, _, hk, _⟩; rw [okTo_no (n := n.toNat) (i := j) (by rw [HPJ.out]; exact HOB.out) (by omega)] at hk; cases hk))
            go_wp2_with fail
            go_ret2
            exact ⟨none, 0, 0, by rw [HRT.out]; rfl, fun h => absurd HRT.out h, HB4.out⟩
          · skip
            have HAB : Hid (Below w4.heap.size w4 (w4.alloc (.cells #[.int .i64 D.kd, .int .i64 D.gn, .int .i64 D.nd, .int .i64 D.mn, .int .i64 D.ck, .int .i64 D.no, .string D.lk, .string D.nm, .int .i64 D.tm, .string D.bd] 110))) := Lib.hid ((Below.refl _ _).alloc (Nat.le_refl _) _)
            have HXL : Hid (SR ddE ddD (w4.alloc (.cells #[.int .i64 D.kd, .int .i64 D.gn, .int .i64 D.nd, .int .i64 D.mn, .int .i64 D.ck, .int .i64 D.no, .string D.lk, .string D.nm, .int .i64 D.tm, .string D.bd] 110)) (some ⟨w4.heap.size, 0, none⟩) 1 1 [D]) := Lib.hid (SR.own (by decide) (World.ownsRow_lit w4 #[.int .i64 D.kd, .int .i64 D.gn, .int .i64 D.nd, .int .i64 D.mn, .int .i64 D.ck, .int .i64 D.no, .string D.lk, .string D.nm, .int .i64 D.tm, .string D.bd] 1 (Nat.le_refl _) (by decide) rfl))
            have HR5 := Lib.hid (HR4.out.below HAB.out)
            have HO5 := Lib.hid (own_below HO4.out HAB.out)
            have HB5 := Lib.hid (HB4.out.trans (HAB.out.mono HB4.out.size))
            have hsz5 : B ≤ (w4.alloc (.cells #[.int .i64 D.kd, .int .i64 D.gn, .int .i64 D.nd, .int .i64 D.mn, .int .i64 D.ck, .int .i64 D.no, .string D.lk, .string D.nm, .int .i64 D.tm, .string D.bd] 110)).heap.size := Nat.le_trans hsz4 HAB.out.size
            have hj1 : j ≤ 1048576 := by omega
            have hk0 : 0 < ddE.k := by decide
            have h24 : (104 : Nat) ≤ 1024 := by decide
            have hm1 : 1 ≤ 1048576 := by decide
            have HNB : Hid (∀ q, (Value.slice a j c).ownBlock = some q → B ≤ q) := Lib.hid (fun q hq => (HO4.out.lt q hq).1)
            have x0 := HX4.out.cell 0 _ rfl
            have x1 := HX4.out.cell 1 _ rfl
            have x2 := HX4.out.cell 2 _ rfl
            have x3 := HX4.out.cell 3 _ rfl
            have x4 := HX4.out.cell 4 _ rfl
            have x5 := HX4.out.cell 5 _ rfl
            have x6 := HX4.out.cell 6 _ rfl
            have x7 := HX4.out.cell 7 _ rfl
            have x8 := HX4.out.cell 8 _ rfl
            have x9 := HX4.out.cell 9 _ rfl
            clear HR4 HO4 HB4
            go_wp2_with (at_builtin; refine append_wl ddE ddD rfl _ _ 63 rfl 110 ti _ 104 Tryz.underlying63 hi hz hsy hy rfl hk0 h24 B _ j (ddsTo u q1 j) rfl HO5.out _ 1 1 [D] rfl HXL.out hsz5 hj1 hm1 ?_; intro v3 u3 O3 G3; have HO6 := Lib.hid O3; have HR6 := Lib.hid (HR5.out.grown G3 (fun e => by have := HNB.out _ e.symm; omega)); have HB6 := Lib.hid (HB5.out.grown G3 HB5.out.size (fun q hq => by have := HNB.out q hq; omega)); have hsz6 : B ≤ u3.heap.size := Nat.le_trans hsz5 G3.size; obtain ⟨a5, c5, rfl⟩ := own_shape O3; clear O3 G3)
            refine ⟨⟨j + 1, a5, c5, rfl, by go_num, by omega, by unfold Hid; rw [okTo_succ, HOK.out, HPJ.out, HOB.out]; rfl, ?_, ?_, ?_, ?_, HB6.out, hsz6⟩, by simp [intOf]; omega⟩
            · unfold Hid
              show SB _ b u (((rdDeed u (plAt u q1 j)).2.1 : Nat) : Int) false
              rw [HPJ.out, HRD.out]
              exact HR6.out
            · unfold Hid
              show (rdDeed u (plAt u q1 j)).2.2 = false
              rw [HPJ.out, HRD.out]
            · unfold Hid
              show (rdDeed u (plAt u q1 j)).2.1 ≤ _
              rw [HPJ.out, HRD.out]
              exact HLE.out
            · unfold Hid
              rw [ddsTo_succ]
              unfold ddAt
              rw [HPJ.out, HRD.out]
              exact HO6.out
        · have HRT : Hid (rdTx u = []) := Lib.hid (rdTx_no (by rw [HE.out]; dsimp only; rintro ⟨_, _, hk, _⟩; rw [okTo_no (n := n.toNat) (i := j) (by rw [HPJ.out]; exact okDeed_bad (by rw [HRD.out])) (by omega)] at hk; cases hk))
          go_wp2_with fail
          go_ret2
          exact ⟨none, 0, 0, by rw [HRT.out]; rfl, fun h => absurd HRT.out h, HBX.out⟩
      · have hjn : n = (j : Int) := by omega
        have HTN : Hid (n.toNat = j) := Lib.hid (by omega)
        have g0 := HRj.out.c0
        have g1 := HRj.out.c1
        have g2 := HRj.out.c2
        go_wp2_with fail
        go_region
        have HOd := Lib.hid (own_below HOj.out (Below.refl _ _).drew)
        have HBd := Lib.hid HBj.out.drew
        go_wp2_with fail
        go_ret2
        by_cases hps : (plAt u q1 j).1 = u.size
        · have HRT : Hid (rdTx u = ddsTo u q1 j) := Lib.hid (by
            rw [rdTx_yes (by rw [HE.out]; dsimp only; rw [HTN.out]; exact ⟨hn1, hn2, HOK.out, hps⟩), HE.out]
            dsimp only
            rw [HTN.out])
          have hne : ddsTo u q1 j ≠ [] := fun h0 => by have := ddsTo_length u q1 j; rw [h0] at this; simp at this; omega
          have hpe : (((plAt u q1 j).1 : Int) == (u.size : Int)) = true := by rw [hps]; exact beq_self_eq_true _
          refine ⟨a, j, c, ?_, fun _ => ?_, HBd.out⟩
          · rw [HRT.out, decide_eq_true hne, ← hpe]
            rfl
          · rw [HRT.out]
            exact own_mono HOd.out (by omega)
        · have HRT : Hid (rdTx u = []) := Lib.hid (rdTx_no (by rw [HE.out]; dsimp only; rw [HTN.out]; rintro ⟨_, _, _, hk⟩; exact hps hk))
          have hpe : (((plAt u q1 j).1 : Int) == (u.size : Int)) = false := by rw [beq_eq_false_iff_ne]; omega
          refine ⟨a, j, c, ?_, fun h => absurd HRT.out h, HBd.out⟩
          rw [HRT.out]
          show Ending.returned (.tuple #[.slice a j c, .bool (((plAt u q1 j).1 : Int) == (u.size : Int))]) = _
          rw [hpe]
          rfl
  · rw [decide_eq_false hn]
    have HRT : Hid (rdTx u = []) := Lib.hid (rdTx_no (by rw [HE.out]; dsimp only; rintro ⟨h1, h2, _⟩; exact hn ⟨h1, h2⟩))
    clear hn
    go_wp2_with fail
    go_ret2
    exact ⟨none, 0, 0, by rw [HRT.out]; rfl, fun h => absurd HRT.out h, HB1.out⟩
end Go.Proofs.YtidcpdfhnhfelaaGreatDoor

