/- Texts put together: what the law uses of them. -/
import Derived.Deep.Cut
import Derived.Test.YtidcpdfhnhfelaaGreatDoorQRpl20
import Derived.Test.YtidcpdfhnhfelaaGreatDoorQRpl29
import Derived.Test.YtidcpdfhnhfelaaGreatDoorQRpl31
import Derived.Test.YtidcpdfhnhfelaaGreatDoorQRpl00
/- What the law on TxRead wants: how many rows, how long. -/
namespace Go.Proofs.YtidcpdfhnhfelaaGreatDoor
open Go.RowKit Go.PlainAid G MGet MGF IRow MNum MJoin
set_option linter.unusedVariables false
theorem rdTx_len (u : ByteArray) : (rdTx u).length ≤ 10 := by
  unfold rdTx
  split
  · rename_i h
    rw [ddsTo_length]
    omega
  · exact Nat.zero_le _
theorem rdPart_len (t : ByteArray) : (rdPart t).length ≤ 10 := by
  unfold rdPart
  split
  · exact rdTx_len _
  · exact Nat.zero_le _
theorem txF_ten (s : ByteArray) : ∀ (f p i : Nat), ((txF s f p).getD i []).length ≤ 10
  | 0, _, i => by simp [txF, List.getD]
  | f + 1, p, i => by
    unfold txF
    split
    · split
      · simp [List.getD]
      · cases i with
        | zero => exact rdPart_len _
        | succ i => exact txF_ten s f _ i
    · simp [List.getD]
theorem txF_len (s : ByteArray) : ∀ (f p : Nat), (txF s f p).length ≤ f
  | 0, _ => Nat.le_refl _
  | f + 1, p => by
    unfold txF
    split
    · split
      · exact Nat.zero_le _
      · exact Nat.succ_le_succ (txF_len s f _)
    · exact Nat.zero_le _
theorem txRd_len (s : ByteArray) : (txRd s).length ≤ 8001 := by
  by_cases h : 8000 < s.size
  · have : txRd s = [] := txF_no (by rw [getT_size h]; decide)
    rw [this]
    exact Nat.zero_le _
  · exact Nat.le_trans (txF_len s _ _) (by omega)
theorem SS.info {w : World} {B : Nat} {v : Value} {rs : List Rw} {s : ByteArray} (h : SS w B v rs) (hm : rs.map Rw.l = txRd s) : rs.length = (txRd s).length ∧ SSL w B v rs (fun i => (txRd s).getD i []) ∧ ∀ i, i < (txRd s).length → (rs.getD i rwD).n ≤ 10 := by
  have hl : rs.length = (txRd s).length := by rw [← hm, List.length_map]
  have he : ∀ i, i < rs.length → (txRd s).getD i [] = (rs.getD i rwD).l := fun i hi => by
    rw [← hm]
    simp [List.getD, List.getElem?_map, List.getElem?_eq_getElem hi]
  refine ⟨hl, h.rows.to he, fun i hi => ?_⟩
  have h1 := DdR.olen (h.row i (by omega))
  rw [← h1, ← he i (by omega)]
  exact txF_ten s _ _ i
end Go.Proofs.YtidcpdfhnhfelaaGreatDoor

/- What the program's Replay answers. -/
namespace Go.Proofs.YtidcpdfhnhfelaaGreatDoor
open Go.RowKit Go.PlainAid G MGet MGF IRow MNum MJoin
set_option linter.unusedVariables false
set_option maxRecDepth 100000 in
set_option maxHeartbeats 3200000 in
theorem implReplay_any (s : ByteArray) (w : World) (hs : s.size ≤ maxLen) (hg : ET w) :
    Calls Tryz.prog 12 #[.string s] w (NewBook (bkOf s).c0 (bkOf s).c1 (bkOf s).c2 (bkOf s).c3 (bkOf s).ts (bkOf s).is w) := by
  have HTL := Lib.hid (txRd_len s)
  obtain ⟨R, hR⟩ : ∃ R, R = rpS bk0 (txRd s) := ⟨_, rfl⟩
  have HBO : Hid (R.1 = bkOf s) := Lib.hid (by rw [hR]; rfl)
  have HRR := Lib.hid hR
  clear hR
  obtain ⟨W, hW⟩ : ∃ W, W = w.alloc (.cells #[.int .i64 0, .int .i64 0, .int .i64 0, .int .i64 0, .slice none 0 0, .slice none 0 0] 32) := ⟨_, rfl⟩
  have HB0 : Hid (Below w.heap.size w W) := Lib.hid (by rw [hW]; exact (Below.refl _ _).alloc (Nat.le_refl _) _)
  have HZ0 : Hid (BoxC W w.heap.size [.int .i64 0, .int .i64 0, .int .i64 0, .int .i64 0, .slice none 0 0, .slice none 0 0]) := Lib.hid (by rw [hW]; exact BoxC.made w #[.int .i64 0, .int .i64 0, .int .i64 0, .int .i64 0, .slice none 0 0, .slice none 0 0] 32)
  have HE0 := Lib.hid (hg.below HB0.out)
  go_enter Tryz.func12, Tryz.ntmps12
  go_wp2_with fail
  rw [← hW]
  clear hW
  refine (implTxRead_any s W hs HE0.out).mono ?_
  rintro e w1 ⟨va, n, vc, rs, rfl, hn, hS, hm, hb⟩
  obtain ⟨hl, hSS, _⟩ := hS.info hm
  have HNL := Lib.hid (show (txRd s).length = n from (hn.trans hl).symm)
  have HRL := Lib.hid (show rs.length = n from hn.symm)
  have HSS := Lib.hid hSS
  have HB1 := Lib.hid (HB0.out.trans (hb.mono HB0.out.size))
  have HZ1 := Lib.hid (HZ0.out.below hb)
  clear hS hm hb hSS hn hl
  go_wp2_with fail
  have hcon := replayed_any va n vc W.heap.size rs (txRd s) w1 HRL.out HNL.out (by have := HTL.out; have := HNL.out; omega) HSS.out (txRd_right s)
  rw [← HRR.out] at hcon
  obtain ⟨rb, rk⟩ := R
  dsimp only at hcon HBO
  have hbo := HBO.out
  subst hbo
  clear HRR HBO HTL HNL HRL
  generalize bkOf s = b at *
  refine hcon.mono ?_
  clear hcon
  rintro e w2 ⟨a1, n1, a3, a2, n2, a4, rfl, ho, hb⟩
  have HO2 := Lib.hid (ho.mono HB1.out.size)
  have HB2 := Lib.hid (HB1.out.trans (hb.mono HB1.out.size))
  have HZ2 := Lib.hid (HZ1.out.below hb)
  have HNF : Hid (w1.heap.size ≤ w2.heap.size ∧ w.heap.size < w1.heap.size) := Lib.hid ⟨hb.size, HZ1.out.lt⟩
  have HOF := Lib.hid ho
  clear ho hb HSS HB1 HZ1
  go_upto_region 2 with fail
  obtain ⟨V, hV⟩ : ∃ V, V = w2.alloc (.cells #[.int .i64 b.c0, .int .i64 b.c1, .int .i64 b.c2, .int .i64 b.c3, .slice a1 n1 a3, .slice a2 n2 a4] 32) := ⟨_, rfl⟩
  have hAB : Below w2.heap.size w2 V := by rw [hV]; exact (Below.refl _ _).alloc (Nat.le_refl _) _
  have HVX := Lib.hid (show BoxC V w2.heap.size [.int .i64 b.c0, .int .i64 b.c1, .int .i64 b.c2, .int .i64 b.c3, .slice a1 n1 a3, .slice a2 n2 a4] by rw [hV]; exact BoxC.made _ _ _)
  rw [← hV]
  clear hV
  have hZV := HZ2.out.below hAB
  have HOV := Lib.hid (HOF.out.below hAB)
  have HBV := Lib.hid (HB2.out.trans (hAB.mono HB2.out.size))
  clear hAB HB2 HZ2 HO2 HOF
  have z0 := hZV.cell 0 _ rfl
  have z1 := hZV.cell 1 _ rfl
  have z2 := hZV.cell 2 _ rfl
  have z3 := hZV.cell 3 _ rfl
  have z4 := hZV.cell 4 _ rfl
  have z5 := hZV.cell 5 _ rfl
  have f0 := hZV.free 0
  have f1 := hZV.free 1
  have f2 := hZV.free 2
  have f3 := hZV.free 3
  have f4 := hZV.free 4
  have f5 := hZV.free 5
  obtain ⟨hY, hG⟩ := box_put6 hZV (.int .i64 b.c0) (.int .i64 b.c1) (.int .i64 b.c2) (.int .i64 b.c3) (.slice a1 n1 a3) (.slice a2 n2 a4)
  obtain ⟨Y, hYd⟩ : ∃ Y, Y = (((((V.setCell ⟨w.heap.size, 0, none⟩ (.int .i64 b.c0)).setCell ⟨w.heap.size, 1, none⟩ (.int .i64 b.c1)).setCell ⟨w.heap.size, 2, none⟩ (.int .i64 b.c2)).setCell ⟨w.heap.size, 3, none⟩ (.int .i64 b.c3)).setCell ⟨w.heap.size, 4, none⟩ (.slice a1 n1 a3)).setCell ⟨w.heap.size, 5, none⟩ (.slice a2 n2 a4) := ⟨_, rfl⟩
  rw [← hYd] at hY hG
  have HYO := Lib.hid (bkO_far HOV.out hG HNF.out.2)
  have HYB := Lib.hid (grown_below HBV.out hG (Nat.le_refl _) (by have := HBV.out.size; omega))
  have g0 := hY.cell 0 _ rfl
  have g1 := hY.cell 1 _ rfl
  have g2 := hY.cell 2 _ rfl
  have g3 := hY.cell 3 _ rfl
  have g4 := hY.cell 4 _ rfl
  have g5 := hY.cell 5 _ rfl
  have HG := Lib.hid (And.intro g0 (And.intro g1 (And.intro g2 (And.intro g3 (And.intro g4 g5)))))
  have HYD := Lib.hid hYd
  have v0 := HVX.out.cell 0 _ rfl
  have v1 := HVX.out.cell 1 _ rfl
  have v2 := HVX.out.cell 2 _ rfl
  have v3 := HVX.out.cell 3 _ rfl
  have v4 := HVX.out.cell 4 _ rfl
  have v5 := HVX.out.cell 5 _ rfl
  clear hZV hY hG hYd g0 g1 g2 g3 g4 g5 HOV HBV
  go_wp2_with fail
  rw [← HYD.out]
  obtain ⟨g0, g1, g2, g3, g4, g5⟩ := HG.out
  clear z0 z1 z2 z3 z4 z5 f0 f1 f2 f3 f4 f5 v0 v1 v2 v3 v4 v5
  exact bodyPost_ret (v := .agg #[.int .i64 b.c0, .int .i64 b.c1, .int .i64 b.c2, .int .i64 b.c3, .slice a1 n1 a3, .slice a2 n2 a4]) (by simp [results, Tryz.results12, go_sem, g0, g1, g2, g3, g4, g5]) rfl ⟨a1, n1, a3, a2, n2, a4, rfl, HYO.out.mono (by have := HNF.out; omega), HYB.out⟩
end Go.Proofs.YtidcpdfhnhfelaaGreatDoor

