/- Texts put together: what the law uses of them. -/
import Derived.Deep.Cut
import Derived.Deep.RegionWith
import Derived.Test.YtidcpdfhnhfelaaGreatDoorQRpl14
import Derived.Test.YtidcpdfhnhfelaaGreatDoorQRpl28
import Derived.Test.YtidcpdfhnhfelaaGreatDoorQRpl00
/- Lists of deeds done to the zero book, one after the other: what the program answers. -/
namespace Go.Proofs.YtidcpdfhnhfelaaGreatDoor
open Go.RowKit Go.PlainAid G MGet MGF IRow MNum MJoin
set_option linter.unusedVariables false
/-- A book in new memory, and a number. -/
def NewBookN (b : Bk) (k : Nat) (w : World) (e : Ending) (w' : World) : Prop :=
  ∃ a1 n1 a3 a2 n2 a4, e = .returned (.tuple #[.agg #[.int .i64 b.c0, .int .i64 b.c1, .int .i64 b.c2, .int .i64 b.c3, .slice a1 n1 a3, .slice a2 n2 a4], .int .i64 (k : Int)]) ∧ BkO w' w.heap.size a1 n1 a3 a2 n2 a4 b.ts b.is ∧ Below w.heap.size w w'
set_option maxRecDepth 100000 in
set_option maxHeartbeats 3200000 in
theorem replayed_any (va : Option Addr) (n vc B : Nat) (rs : List Rw) (ls : List (List Dd)) (w : World) (hl : rs.length = n) (hn : ls.length = n) (hm : n ≤ 1048576) (h : SSL w B (.slice va n vc) rs (fun i => ls.getD i [])) (hr : ∀ l ∈ ls, LR l) :
    Calls Tryz.prog 30 #[.slice va n vc] w (NewBookN (rpS bk0 ls).1 (rpS bk0 ls).2 w) := by
  have HSL := Lib.hid h
  have HRL := Lib.hid hl
  have HLN := Lib.hid hn
  have HLR := Lib.hid hr
  clear h hl hn hr
  obtain ⟨W, hW⟩ : ∃ W, W = (w.alloc (.cells #[.int .i64 0, .int .i64 0, .int .i64 0, .int .i64 0, .slice none 0 0, .slice none 0 0] 32)).alloc (.cells #[.int .i64 0, .int .i64 0, .int .i64 0, .int .i64 0, .slice none 0 0, .slice none 0 0] 32) := ⟨_, rfl⟩
  have HB0 : Hid (Below w.heap.size w W) := Lib.hid (by rw [hW]; exact ((Below.refl _ _).alloc (Nat.le_refl _) _).alloc (by simp) _)
  have HZ0 : Hid (BoxC W w.heap.size [.int .i64 0, .int .i64 0, .int .i64 0, .int .i64 0, .slice none 0 0, .slice none 0 0]) := Lib.hid (by rw [hW]; exact (BoxC.made w #[.int .i64 0, .int .i64 0, .int .i64 0, .int .i64 0, .slice none 0 0, .slice none 0 0] 32).alloc _)
  have HX0 : Hid (BoxC W (w.heap.size + 1) [.int .i64 0, .int .i64 0, .int .i64 0, .int .i64 0, .slice none 0 0, .slice none 0 0]) := Lib.hid (by rw [hW]; have := BoxC.made (w.alloc (.cells #[.int .i64 0, .int .i64 0, .int .i64 0, .int .i64 0, .slice none 0 0, .slice none 0 0] 32)) #[.int .i64 0, .int .i64 0, .int .i64 0, .int .i64 0, .slice none 0 0, .slice none 0 0] 32; rwa [World.size_alloc] at this)
  have HWS : Hid (w.heap.size + 1 + 1 = W.heap.size) := Lib.hid (by rw [hW, World.size_alloc, World.size_alloc])
  go_enter Tryz.func30, Tryz.ntmps30
  go_wp2_with fail
  rw [← hW]
  clear hW
  go_loopw [10] (fun i wr => ∃ (k : Nat) (b : Bk) (x1 : Option Addr) (m1 x3 : Nat) (x2 : Option Addr) (m2 x4 : Nat), k ≤ n ∧ i = .int .i64 k ∧ Hid (BoxC wr (w.heap.size + 1) [.int .i64 b.c0, .int .i64 b.c1, .int .i64 b.c2, .int .i64 b.c3, .slice x1 m1 x3, .slice x2 m2 x4]) ∧ Hid (BkO wr W.heap.size x1 m1 x3 x2 m2 x4 b.ts b.is) ∧ Hid (bookB b = true) ∧ Hid ((rpS bk0 ls).1 = (rpS b (ls.drop k)).1 ∧ (rpS bk0 ls).2 = (rpS b (ls.drop k)).2 + k) ∧ Hid (Below w.heap.size w wr) ∧ Hid (BoxC wr w.heap.size [.int .i64 0, .int .i64 0, .int .i64 0, .int .i64 0, .slice none 0 0, .slice none 0 0]) ∧ Hid (W.heap.size ≤ wr.heap.size)) (fun i _ => n - (intOf i).toNat)
  case atStart => exact ⟨0, bk0, none, 0, 0, none, 0, 0, Nat.zero_le _, rfl, HX0, Lib.hid ⟨World.ownsRow_nil _ _ _ _, World.ownsRow_nil _ _ _ _⟩, Lib.hid bookB_bk0, Lib.hid ⟨by rw [List.drop_zero], by rw [List.drop_zero]; rfl⟩, HB0, HZ0, Lib.hid (Nat.le_refl _)⟩
  case round =>
    obtain ⟨k, b, x1, m1, x3, x2, m2, x4, hk, rfl, HX, HO, HBR, HRP, HB, HZ, HSZ⟩ := hrel
    clear HB0 HZ0 HX0
    by_cases hlt : k < n
    · have hlt2 : k < rs.length := by rw [HRL.out]; exact hlt
      have HS := Lib.hid (HSL.out.below HB.out)
      have hs := HS.out
      rw [← HRL.out] at hs
      obtain ⟨g, o, rfl, hg, t0, hdd⟩ := hs.at hlt2
      clear hs
      have hin : 0 ≤ (k : Int) ∧ (k : Int) < (n : Int) := by omega
      have hlk : k < ls.length := by rw [HLN.out]; exact hlt
      have HLM : Hid (LR (ls.getD k [])) := Lib.hid (HLR.out _ (by rw [show ls.getD k [] = ls[k] by simp [List.getD, List.getElem?_eq_getElem hlk]]; exact List.getElem_mem hlk))
      have HDP : Hid (ls.drop k = ls.getD k [] :: ls.drop (k + 1)) := Lib.hid (by
        rw [show ls.getD k [] = ls[k]'hlk by simp [List.getD, List.getElem?_eq_getElem hlk]]
        exact List.drop_eq_getElem_cons hlk)
      have HDD := Lib.hid hdd
      generalize ls.getD k [] = l at *
      generalize (rs.getD k rwD).a = ra at *
      generalize (rs.getD k rwD).n = rn at *
      generalize (rs.getD k rwD).c = rc at *
      have hrl : l.length = rn := hdd.len
      have y0 := HX.out.cell 0 _ rfl
      have y1 := HX.out.cell 1 _ rfl
      have y2 := HX.out.cell 2 _ rfl
      have y3 := HX.out.cell 3 _ rfl
      have y4 := HX.out.cell 4 _ rfl
      have y5 := HX.out.cell 5 _ rfl
      clear hdd hlk
      go_wp2_with fail
      clear y0 y1 y2 y3 y4 y5 t0
      refine (doneAll_any b x1 x2 m1 m2 x3 x4 ra rn rc l wr HO.out.read HBR.out HDD.out (by rw [← hrl]; exact HLM.out.2.1) (fun t ht => HLM.out.2.2 t (by omega))).mono ?_
      rintro e w2 hnb
      have HRT := Lib.hid (fun h0 => doAllS_right l HBR.out HLM.out.2.2 h0)
      have HRG := Lib.hid (fun h0 => rpS_go (b := b) (l := l) (r := ls.drop (k + 1)) h0)
      have HRN := Lib.hid (fun h0 => rpS_no (b := b) (l := l) (r := ls.drop (k + 1)) h0)
      rw [← HDP.out] at HRG HRN
      generalize doAllS b l = r at *
      obtain ⟨b3, cd⟩ := r
      obtain ⟨e1, p1, e3, e2, p2, e4, rfl, ho, hb⟩ := hnb
      dsimp only at HRT HRG HRN ho ⊢
      have HO2 := Lib.hid (ho.mono HSZ.out)
      have HB2 := Lib.hid (HB.out.trans (hb.mono HB.out.size))
      have HX2 := Lib.hid (HX.out.below hb)
      have HZ2 := Lib.hid (HZ.out.below hb)
      have HOB := Lib.hid (HO.out.below hb)
      have HSZ2 := Lib.hid (Nat.le_trans HSZ.out hb.size)
      clear ho hb HX HZ HO HB HSZ HS HDD
      obtain ⟨V, hV⟩ : ∃ V, V = w2.alloc (.cells #[.int .i64 b3.c0, .int .i64 b3.c1, .int .i64 b3.c2, .int .i64 b3.c3, .slice e1 p1 e3, .slice e2 p2 e4, .int .i64 cd] 128) := ⟨_, rfl⟩
      have HVB : Hid (Below w2.heap.size w2 V) := Lib.hid (by rw [hV]; exact (Below.refl _ _).alloc (Nat.le_refl _) _)
      have HVX : Hid (BoxC V w2.heap.size [.int .i64 b3.c0, .int .i64 b3.c1, .int .i64 b3.c2, .int .i64 b3.c3, .slice e1 p1 e3, .slice e2 p2 e4, .int .i64 cd]) := Lib.hid (by rw [hV]; exact BoxC.made _ _ _)
      by_cases hc : cd = 0
      · subst hc
        have v6 := HVX.out.cell 6 _ rfl
        have v0 := HVX.out.cell 0 _ rfl
        have v1 := HVX.out.cell 1 _ rfl
        have v2 := HVX.out.cell 2 _ rfl
        have v3 := HVX.out.cell 3 _ rfl
        have v4 := HVX.out.cell 4 _ rfl
        have v5 := HVX.out.cell 5 _ rfl
        have hXV := HX2.out.below HVB.out
        have z0 := hXV.cell 0 _ rfl
        have z1 := hXV.cell 1 _ rfl
        have z2 := hXV.cell 2 _ rfl
        have z3 := hXV.cell 3 _ rfl
        have z4 := hXV.cell 4 _ rfl
        have z5 := hXV.cell 5 _ rfl
        have f0 := hXV.free 0
        have f1 := hXV.free 1
        have f2 := hXV.free 2
        have f3 := hXV.free 3
        have f4 := hXV.free 4
        have f5 := hXV.free 5
        obtain ⟨hY, hG⟩ := box_put6 hXV (.int .i64 b3.c0) (.int .i64 b3.c1) (.int .i64 b3.c2) (.int .i64 b3.c3) (.slice e1 p1 e3) (.slice e2 p2 e4)
        obtain ⟨Y, hYd⟩ : ∃ Y, Y = (((((V.setCell ⟨w.heap.size + 1, 0, none⟩ (.int .i64 b3.c0)).setCell ⟨w.heap.size + 1, 1, none⟩ (.int .i64 b3.c1)).setCell ⟨w.heap.size + 1, 2, none⟩ (.int .i64 b3.c2)).setCell ⟨w.heap.size + 1, 3, none⟩ (.int .i64 b3.c3)).setCell ⟨w.heap.size + 1, 4, none⟩ (.slice e1 p1 e3)).setCell ⟨w.heap.size + 1, 5, none⟩ (.slice e2 p2 e4) := ⟨_, rfl⟩
        rw [← hYd] at hY hG
        have HYX := Lib.hid hY
        have HYO := Lib.hid (bkO_far (HO2.out.below HVB.out) hG (by have := HWS.out; omega))
        have HYB := Lib.hid (grown_below (HB2.out.trans (HVB.out.mono HB2.out.size)) hG (by omega) (Nat.le_trans HB2.out.size HVB.out.size))
        have HYZ := Lib.hid ((HZ2.out.below HVB.out).grown hG (by simp))
        have HYS : Hid (W.heap.size ≤ Y.heap.size) := Lib.hid (Nat.le_trans (Nat.le_trans HSZ2.out HVB.out.size) hG.size)
        have HYR := Lib.hid (HRT.out rfl)
        have HRE := Lib.hid (HRG.out rfl)
        have hwk : IntKind.i64.wrap ((k : Int) + 1) = (k : Int) + 1 := IntWalk.i64_in _ (by omega)
        have HYD := Lib.hid hYd
        clear hXV hY hG hYd HRT HRG HRN HO2 HB2 HX2 HZ2 HOB HSZ2 HVB
        subst hV
        go_wp2_with fail
        rw [← HYD.out]
        clear z0 z1 z2 z3 z4 z5 f0 f1 f2 f3 f4 f5 v0 v1 v2 v3 v4 v5 v6
        go_roundw
        case rel =>
          refine ⟨k + 1, b3, e1, p1, e3, e2, p2, e4, by omega, by go_num, HYX, HYO, HYR, Lib.hid ?_, HYB, HYZ, HYS⟩
          rw [HRP.out.1, HRP.out.2, HRE.out]
          exact ⟨rfl, by dsimp only; omega⟩
        case measure => simp [intOf]; omega
      · have hc2 : (cd != 0) = true := by simpa using hc
        have v6 := HVX.out.cell 6 _ rfl
        have HRE := Lib.hid (HRN.out hc)
        have HXB := Lib.hid (HX2.out.below HVB.out)
        have HOB2 := Lib.hid (HOB.out.below HVB.out)
        have HBV := Lib.hid (HB2.out.trans (HVB.out.mono HB2.out.size))
        have hXV := HXB.out
        have hZV := HZ2.out.below HVB.out
        have y0 := hXV.cell 0 _ rfl
        have y1 := hXV.cell 1 _ rfl
        have y2 := hXV.cell 2 _ rfl
        have y3 := hXV.cell 3 _ rfl
        have y4 := hXV.cell 4 _ rfl
        have y5 := hXV.cell 5 _ rfl
        have z0 := hZV.cell 0 _ rfl
        have z1 := hZV.cell 1 _ rfl
        have z2 := hZV.cell 2 _ rfl
        have z3 := hZV.cell 3 _ rfl
        have z4 := hZV.cell 4 _ rfl
        have z5 := hZV.cell 5 _ rfl
        have f0 := hZV.free 0
        have f1 := hZV.free 1
        have f2 := hZV.free 2
        have f3 := hZV.free 3
        have f4 := hZV.free 4
        have f5 := hZV.free 5
        obtain ⟨hY, hG⟩ := box_put6 hZV (.int .i64 b.c0) (.int .i64 b.c1) (.int .i64 b.c2) (.int .i64 b.c3) (.slice x1 m1 x3) (.slice x2 m2 x4)
        obtain ⟨Y, hYd⟩ : ∃ Y, Y = ((((((V.setCell ⟨w.heap.size, 0, none⟩ (.int .i64 b.c0)).setCell ⟨w.heap.size, 1, none⟩ (.int .i64 b.c1)).setCell ⟨w.heap.size, 2, none⟩ (.int .i64 b.c2)).setCell ⟨w.heap.size, 3, none⟩ (.int .i64 b.c3)).setCell ⟨w.heap.size, 4, none⟩ (.slice x1 m1 x3)).setCell ⟨w.heap.size, 5, none⟩ (.slice x2 m2 x4)) := ⟨_, rfl⟩
        rw [← hYd] at hY hG
        have HYO := Lib.hid (bkO_far HOB2.out hG (by have := HWS.out; omega))
        have HYB := Lib.hid (grown_below HBV.out hG (Nat.le_refl _) (by have := HBV.out.size; omega))
        have g0 := hY.cell 0 _ rfl
        have g1 := hY.cell 1 _ rfl
        have g2 := hY.cell 2 _ rfl
        have g3 := hY.cell 3 _ rfl
        have g4 := hY.cell 4 _ rfl
        have g5 := hY.cell 5 _ rfl
        have HG := Lib.hid (And.intro g0 (And.intro g1 (And.intro g2 (And.intro g3 (And.intro g4 g5)))))
        have HYD := Lib.hid hYd
        clear hXV hZV hY hG hYd g0 g1 g2 g3 g4 g5
        clear HRT HRG HRN HO2 HB2 HX2 HZ2 HOB HSZ2 HVB
        subst hV
        go_wp2_with fail
        rw [← HYD.out]
        obtain ⟨g0, g1, g2, g3, g4, g5⟩ := HG.out
        clear y0 y1 y2 y3 y4 y5 z0 z1 z2 z3 z4 z5 f0 f1 f2 f3 f4 f5 v6
        exact bodyPost_ret (v := .tuple #[.agg #[.int .i64 b.c0, .int .i64 b.c1, .int .i64 b.c2, .int .i64 b.c3, .slice x1 m1 x3, .slice x2 m2 x4], .int .i64 (k : Int)]) (by simp [results, Tryz.results30, go_sem, g0, g1, g2, g3, g4, g5]) rfl (by
          rw [show (rpS bk0 ls).1 = b by rw [HRP.out.1, HRE.out], show (rpS bk0 ls).2 = k by rw [HRP.out.2, HRE.out]; simp]
          exact ⟨x1, m1, x3, x2, m2, x4, rfl, HYO.out.mono (by have := HWS.out; omega), HYB.out⟩)
    · obtain rfl : k = n := by omega
      have HRE : Hid (rpS b (ls.drop k) = (b, 0)) := Lib.hid (by rw [List.drop_eq_nil_of_le (by rw [HLN.out]; exact Nat.le_refl _)]; rfl)
      have hXV := HX.out
      have hZV := HZ.out
      have y0 := hXV.cell 0 _ rfl
      have y1 := hXV.cell 1 _ rfl
      have y2 := hXV.cell 2 _ rfl
      have y3 := hXV.cell 3 _ rfl
      have y4 := hXV.cell 4 _ rfl
      have y5 := hXV.cell 5 _ rfl
      have z0 := hZV.cell 0 _ rfl
      have z1 := hZV.cell 1 _ rfl
      have z2 := hZV.cell 2 _ rfl
      have z3 := hZV.cell 3 _ rfl
      have z4 := hZV.cell 4 _ rfl
      have z5 := hZV.cell 5 _ rfl
      have f0 := hZV.free 0
      have f1 := hZV.free 1
      have f2 := hZV.free 2
      have f3 := hZV.free 3
      have f4 := hZV.free 4
      have f5 := hZV.free 5
      obtain ⟨hY, hG⟩ := box_put6 hZV (.int .i64 b.c0) (.int .i64 b.c1) (.int .i64 b.c2) (.int .i64 b.c3) (.slice x1 m1 x3) (.slice x2 m2 x4)
      obtain ⟨Y, hYd⟩ : ∃ Y, Y = ((((((wr.setCell ⟨w.heap.size, 0, none⟩ (.int .i64 b.c0)).setCell ⟨w.heap.size, 1, none⟩ (.int .i64 b.c1)).setCell ⟨w.heap.size, 2, none⟩ (.int .i64 b.c2)).setCell ⟨w.heap.size, 3, none⟩ (.int .i64 b.c3)).setCell ⟨w.heap.size, 4, none⟩ (.slice x1 m1 x3)).setCell ⟨w.heap.size, 5, none⟩ (.slice x2 m2 x4)) := ⟨_, rfl⟩
      rw [← hYd] at hY hG
      have HYO := Lib.hid (bkO_far HO.out hG (by have := HWS.out; omega))
      have HYB := Lib.hid (grown_below HB.out hG (Nat.le_refl _) (by have := HB.out.size; omega))
      have g0 := hY.cell 0 _ rfl
      have g1 := hY.cell 1 _ rfl
      have g2 := hY.cell 2 _ rfl
      have g3 := hY.cell 3 _ rfl
      have g4 := hY.cell 4 _ rfl
      have g5 := hY.cell 5 _ rfl
      have HG := Lib.hid (And.intro g0 (And.intro g1 (And.intro g2 (And.intro g3 (And.intro g4 g5)))))
      have HYD := Lib.hid hYd
      clear hXV hZV hY hG hYd g0 g1 g2 g3 g4 g5
      clear HX HZ HO HB HSZ
      go_wp2_with fail
      rw [← HYD.out]
      obtain ⟨g0, g1, g2, g3, g4, g5⟩ := HG.out
      clear y0 y1 y2 y3 y4 y5 z0 z1 z2 z3 z4 z5 f0 f1 f2 f3 f4 f5
      exact bodyPost_ret (v := .tuple #[.agg #[.int .i64 b.c0, .int .i64 b.c1, .int .i64 b.c2, .int .i64 b.c3, .slice x1 m1 x3, .slice x2 m2 x4], .int .i64 (k : Int)]) (by simp [results, Tryz.results30, go_sem, g0, g1, g2, g3, g4, g5]) rfl (by
        rw [show (rpS bk0 ls).1 = b by rw [HRP.out.1, HRE.out], show (rpS bk0 ls).2 = k by rw [HRP.out.2, HRE.out]; simp]
        exact ⟨x1, m1, x3, x2, m2, x4, rfl, HYO.out.mono (by have := HWS.out; omega), HYB.out⟩)
end Go.Proofs.YtidcpdfhnhfelaaGreatDoor

/- What the model's readers of an envelope answer. -/
namespace Go.Proofs.YtidcpdfhnhfelaaGreatDoor
open Go.RowKit Go.PlainAid G MGet MGF IRow MNum MJoin
set_option linter.unusedVariables false
/-- The model's reader in a block of its own. -/
structure SB (w : World) (b : Nat) (u : ByteArray) (p : Int) (k : Bool) : Prop where
  lt : b < w.heap.size
  c0 : w.cell? ⟨b, 0, none⟩ = some (.string u)
  c1 : w.cell? ⟨b, 1, none⟩ = some (.int .i64 p)
  c2 : w.cell? ⟨b, 2, none⟩ = some (.bool k)
  f1 : w.frozen? ⟨b, 1, none⟩ = false
  f2 : w.frozen? ⟨b, 2, none⟩ = false
theorem SB.below {w w' : World} {b : Nat} {u : ByteArray} {p : Int} {k : Bool} (h : SB w b u p k) (hb : Below w.heap.size w w') : SB w' b u p k :=
  ⟨Nat.lt_of_lt_of_le h.lt hb.size, (hb.cell (p := ⟨b, 0, none⟩) h.lt).trans h.c0, (hb.cell (p := ⟨b, 1, none⟩) h.lt).trans h.c1, (hb.cell (p := ⟨b, 2, none⟩) h.lt).trans h.c2, (hb.frozen (p := ⟨b, 1, none⟩) h.lt).trans h.f1, (hb.frozen (p := ⟨b, 2, none⟩) h.lt).trans h.f2⟩
theorem SB.move {w : World} {b : Nat} {u : ByteArray} {p : Int} {k : Bool} (h : SB w b u p k) (q : Int) : SB (w.setCell ⟨b, 1, none⟩ (.int .i64 q)) b u q k :=
  ⟨by simpa using h.lt, (sco (by decide)).trans h.c0, World.cell?_setCell_same _ _ _ h.c1, (sco (by decide)).trans h.c2, by simpa using h.f1, by simpa using h.f2⟩
theorem SB.mark {w : World} {b : Nat} {u : ByteArray} {p : Int} {k : Bool} (h : SB w b u p k) : SB (w.setCell ⟨b, 2, none⟩ (.bool true)) b u p true :=
  ⟨by simpa using h.lt, (sco (by decide)).trans h.c0, (sco (by decide)).trans h.c1, World.cell?_setCell_same _ _ _ h.c2, by simpa using h.f1, by simpa using h.f2⟩
theorem wf_i64_of {n : Int} (h : 0 ≤ n ∧ n ≤ 1000000) : (Lit.int .i64 n).wf = true := by
  simp only [Lit.wf, IntKind.min, IntKind.max, IntKind.signed, IntKind.bits]
  simp
  omega
set_option maxRecDepth 100000 in
set_option maxHeartbeats 3200000 in
theorem srcNum_any (b : Nat) (u : ByteArray) (q : Nat × Bool) (w : World) (hS : SB w b u (q.1 : Int) q.2) (hu : u.size ≤ 8000) (hq : q.1 ≤ u.size) :
    Calls Tryz.prog 64 #[.pointer (some ⟨b, 0, none⟩)] w fun e w' => e = .returned (.int .i64 (sN u q).1) ∧ SB w' b u ((sN u q).2.1 : Int) (sN u q).2.2 ∧ w.grownBy w' (some b) := by
  have hgn : ∀ v : World, Calls Tryz.prog 61 #[.string u, .int .i64 (q.1 : Int)] v fun e w' => e = .returned (numOutV (rdS u q.1 10 0 0)) ∧ Below v.heap.size v w' := fun v => by
    have hc := specGetNum_any u (q.1 : Int) v (wf_i64_of (by omega)) (by unfold maxLen; omega)
    rw [getS_read (by omega)] at hc
    exact hc
  have HS0 := Lib.hid hS
  by_cases hc : (rdS u q.1 10 0 0).2.2 = 0
  · obtain ⟨hy, hf, hp⟩ := sN_yes hc
    rw [hy] at hgn
    rw [hf]
    obtain ⟨a, k⟩ := q
    dsimp only at *
    generalize (sN u (a, k)).1 = n at *
    generalize (sN u (a, k)).2.1 = p at *
    have HGN := Lib.hid hgn
    unfold numOutV at HGN
    dsimp only at HGN
    obtain ⟨hlt, c0, c1, c2, f1, f2⟩ := hS
    have hltd : b < w.drew.heap.size := hlt
    clear hc hy hf hgn
    go_enter Tryz.func64, Tryz.ntmps64
    go_wp2_with fail
    go_region_with (go_at_call 61; refine (HGN.out _).mono ?_; rintro e w1 ⟨rfl, hb1⟩; have HB1 : Hid (Below w.heap.size w w1) := Lib.hid (Below.trans (by repeat' (first | exact Below.refl _ _ | refine Below.drew ?_ | refine Below.alloc ?_ (by first | exact Nat.le_refl _ | (simp; done)) _)) (hb1.mono (by first | exact Nat.le_refl _ | (simp; done)))); obtain ⟨hc1, hf1⟩ := bcell hb1; have hz1 := hb1.size; have hbw : b < w1.heap.size := Nat.lt_of_lt_of_le hlt HB1.out.size; have g1 := (HB1.out.cell (p := ⟨b, 1, none⟩) hlt).trans c1; have g2 := (HB1.out.cell (p := ⟨b, 2, none⟩) hlt).trans c2; have g3 := (HB1.out.frozen (p := ⟨b, 1, none⟩) hlt).trans f1; have g4 := (HB1.out.frozen (p := ⟨b, 2, none⟩) hlt).trans f2)
    all_goals
      clear hb1
      go_wp2_with fail
      go_ret
      first
        | with_reducible exact ⟨rfl, (SB.move (HS0.out.below HB1.out) _).below ((Below.refl _ _).alloc (Nat.le_refl _) _), grown_trans (grown_trans (fg_below HB1.out) (grown_set _ b 1 _)) (fg_below ((Below.refl _ _).alloc (Nat.le_refl _) _))⟩
        | exact ⟨rfl, SB.move (HS0.out.below (by repeat' (first | exact HB1.out | refine Below.setCell ?_ (by first | exact Nat.le_refl _ | exact HB1.out.size | (simp; done) | (simp; omega)) _ | refine Below.alloc ?_ (by first | exact HB1.out.size | exact Nat.le_refl _ | (simp; done) | (simp; omega)) _))) _, grown_trans (fg_below (by repeat' (first | exact HB1.out | refine Below.setCell ?_ (by first | exact Nat.le_refl _ | exact HB1.out.size | (simp; done) | (simp; omega)) _ | refine Below.alloc ?_ (by first | exact HB1.out.size | exact Nat.le_refl _ | (simp; done) | (simp; omega)) _))) (grown_set _ b 1 _)⟩
  · have hy := sN_no (u := u) (q := q) hc
    obtain ⟨c, hcc⟩ : ∃ c, c = (rdS u q.1 10 0 0).2.2 := ⟨_, rfl⟩
    rw [rd_zero u q.1 10 0 0 hc, ← hcc] at hgn
    rw [hy]
    rw [← hcc] at hc
    have hcb : (c != 0) = true := by simp [hc]
    obtain ⟨a, k⟩ := q
    dsimp only at *
    have HGN := Lib.hid hgn
    unfold numOutV at HGN
    dsimp only at HGN
    obtain ⟨hlt, c0, c1, c2, f1, f2⟩ := hS
    have hltd : b < w.drew.heap.size := hlt
    clear hc hy hgn hcc
    go_enter Tryz.func64, Tryz.ntmps64
    go_wp2_with fail
    go_region_with (go_at_call 61; refine (HGN.out _).mono ?_; rintro e w1 ⟨rfl, hb1⟩; have HB1 : Hid (Below w.heap.size w w1) := Lib.hid (Below.trans (by repeat' (first | exact Below.refl _ _ | refine Below.drew ?_ | refine Below.alloc ?_ (by first | exact Nat.le_refl _ | (simp; done)) _)) (hb1.mono (by first | exact Nat.le_refl _ | (simp; done)))); obtain ⟨hc1, hf1⟩ := bcell hb1; have hz1 := hb1.size; have hbw : b < w1.heap.size := Nat.lt_of_lt_of_le hlt HB1.out.size; have g1 := (HB1.out.cell (p := ⟨b, 1, none⟩) hlt).trans c1; have g2 := (HB1.out.cell (p := ⟨b, 2, none⟩) hlt).trans c2; have g3 := (HB1.out.frozen (p := ⟨b, 1, none⟩) hlt).trans f1; have g4 := (HB1.out.frozen (p := ⟨b, 2, none⟩) hlt).trans f2)
    all_goals
      clear hb1
      go_wp2_with fail
      go_ret
      first
        | with_reducible exact ⟨rfl, (SB.mark (HS0.out.below HB1.out)).below ((Below.refl _ _).alloc (Nat.le_refl _) _), grown_trans (grown_trans (fg_below HB1.out) (grown_set _ b 2 _)) (fg_below ((Below.refl _ _).alloc (Nat.le_refl _) _))⟩
        | exact ⟨rfl, SB.mark (HS0.out.below (by repeat' (first | exact HB1.out | refine Below.setCell ?_ (by first | exact Nat.le_refl _ | exact HB1.out.size | (simp; done) | (simp; omega)) _ | refine Below.alloc ?_ (by first | exact HB1.out.size | exact Nat.le_refl _ | (simp; done) | (simp; omega)) _))), grown_trans (fg_below (by repeat' (first | exact HB1.out | refine Below.setCell ?_ (by first | exact Nat.le_refl _ | exact HB1.out.size | (simp; done) | (simp; omega)) _ | refine Below.alloc ?_ (by first | exact HB1.out.size | exact Nat.le_refl _ | (simp; done) | (simp; omega)) _))) (grown_set _ b 2 _)⟩
set_option maxRecDepth 100000 in
set_option maxHeartbeats 3200000 in
theorem srcStr_any (b : Nat) (u : ByteArray) (q : Nat × Bool) (w : World) (hS : SB w b u (q.1 : Int) q.2) (hu : u.size ≤ 8000) (hq : q.1 ≤ u.size) :
    Calls Tryz.prog 102 #[.pointer (some ⟨b, 0, none⟩)] w fun e w' => e = .returned (.string (sT u q).1) ∧ SB w' b u ((sT u q).2.1 : Int) (sT u q).2.2 ∧ w.grownBy w' (some b) := by
  have hgn : ∀ v : World, Calls Tryz.prog 21 #[.string u, .int .i64 (q.1 : Int)] v fun e w' => e = .returned (textOutV (txtS u q.1)) ∧ Below v.heap.size v w' := fun v => by
    have hc := specGetText_any u (q.1 : Int) v (wf_i64_of (by omega)) (by unfold maxLen; omega)
    rw [getT_read (by omega)] at hc
    exact hc
  have HS0 := Lib.hid hS
  by_cases hc : (txtS u q.1).2.2 = 0
  · obtain ⟨hy, hf, hp⟩ := sT_yes hc
    rw [hy] at hgn
    rw [hf]
    obtain ⟨a, k⟩ := q
    dsimp only at *
    generalize (sT u (a, k)).1 = n at *
    generalize (sT u (a, k)).2.1 = p at *
    have HGN := Lib.hid hgn
    unfold textOutV at HGN
    dsimp only at HGN
    obtain ⟨hlt, c0, c1, c2, f1, f2⟩ := hS
    have hltd : b < w.drew.heap.size := hlt
    clear hc hy hf hgn
    go_enter Tryz.func102, Tryz.ntmps102
    go_wp2_with fail
    go_region_with (go_at_call 21; refine (HGN.out _).mono ?_; rintro e w1 ⟨rfl, hb1⟩; have HB1 : Hid (Below w.heap.size w w1) := Lib.hid (Below.trans (by repeat' (first | exact Below.refl _ _ | refine Below.drew ?_ | refine Below.alloc ?_ (by first | exact Nat.le_refl _ | (simp; done)) _)) (hb1.mono (by first | exact Nat.le_refl _ | (simp; done)))); obtain ⟨hc1, hf1⟩ := bcell hb1; have hz1 := hb1.size; have hbw : b < w1.heap.size := Nat.lt_of_lt_of_le hlt HB1.out.size; have g1 := (HB1.out.cell (p := ⟨b, 1, none⟩) hlt).trans c1; have g2 := (HB1.out.cell (p := ⟨b, 2, none⟩) hlt).trans c2; have g3 := (HB1.out.frozen (p := ⟨b, 1, none⟩) hlt).trans f1; have g4 := (HB1.out.frozen (p := ⟨b, 2, none⟩) hlt).trans f2)
    all_goals
      clear hb1
      go_wp2_with fail
      go_ret
      first
        | with_reducible exact ⟨rfl, (SB.move (HS0.out.below HB1.out) _).below ((Below.refl _ _).alloc (Nat.le_refl _) _), grown_trans (grown_trans (fg_below HB1.out) (grown_set _ b 1 _)) (fg_below ((Below.refl _ _).alloc (Nat.le_refl _) _))⟩
        | exact ⟨rfl, SB.move (HS0.out.below (by repeat' (first | exact HB1.out | refine Below.setCell ?_ (by first | exact Nat.le_refl _ | exact HB1.out.size | (simp; done) | (simp; omega)) _ | refine Below.alloc ?_ (by first | exact HB1.out.size | exact Nat.le_refl _ | (simp; done) | (simp; omega)) _))) _, grown_trans (fg_below (by repeat' (first | exact HB1.out | refine Below.setCell ?_ (by first | exact Nat.le_refl _ | exact HB1.out.size | (simp; done) | (simp; omega)) _ | refine Below.alloc ?_ (by first | exact HB1.out.size | exact Nat.le_refl _ | (simp; done) | (simp; omega)) _))) (grown_set _ b 1 _)⟩
  · have hy := sT_no (u := u) (q := q) hc
    obtain ⟨c, hcc⟩ : ∃ c, c = (txtS u q.1).2.2 := ⟨_, rfl⟩
    rw [txt_zero u q.1 hc, ← hcc] at hgn
    rw [hy]
    rw [← hcc] at hc
    have hcb : (c != 0) = true := by simp [hc]
    obtain ⟨a, k⟩ := q
    dsimp only at *
    have HGN := Lib.hid hgn
    unfold textOutV at HGN
    dsimp only at HGN
    obtain ⟨hlt, c0, c1, c2, f1, f2⟩ := hS
    have hltd : b < w.drew.heap.size := hlt
    clear hc hy hgn hcc
    go_enter Tryz.func102, Tryz.ntmps102
    go_wp2_with fail
    go_region_with (go_at_call 21; refine (HGN.out _).mono ?_; rintro e w1 ⟨rfl, hb1⟩; have HB1 : Hid (Below w.heap.size w w1) := Lib.hid (Below.trans (by repeat' (first | exact Below.refl _ _ | refine Below.drew ?_ | refine Below.alloc ?_ (by first | exact Nat.le_refl _ | (simp; done)) _)) (hb1.mono (by first | exact Nat.le_refl _ | (simp; done)))); obtain ⟨hc1, hf1⟩ := bcell hb1; have hz1 := hb1.size; have hbw : b < w1.heap.size := Nat.lt_of_lt_of_le hlt HB1.out.size; have g1 := (HB1.out.cell (p := ⟨b, 1, none⟩) hlt).trans c1; have g2 := (HB1.out.cell (p := ⟨b, 2, none⟩) hlt).trans c2; have g3 := (HB1.out.frozen (p := ⟨b, 1, none⟩) hlt).trans f1; have g4 := (HB1.out.frozen (p := ⟨b, 2, none⟩) hlt).trans f2)
    all_goals
      clear hb1
      go_wp2_with fail
      go_ret
      first
        | with_reducible exact ⟨rfl, (SB.mark (HS0.out.below HB1.out)).below ((Below.refl _ _).alloc (Nat.le_refl _) _), grown_trans (grown_trans (fg_below HB1.out) (grown_set _ b 2 _)) (fg_below ((Below.refl _ _).alloc (Nat.le_refl _) _))⟩
        | exact ⟨rfl, SB.mark (HS0.out.below (by repeat' (first | exact HB1.out | refine Below.setCell ?_ (by first | exact Nat.le_refl _ | exact HB1.out.size | (simp; done) | (simp; omega)) _ | refine Below.alloc ?_ (by first | exact HB1.out.size | exact Nat.le_refl _ | (simp; done) | (simp; omega)) _))), grown_trans (fg_below (by repeat' (first | exact HB1.out | refine Below.setCell ?_ (by first | exact Nat.le_refl _ | exact HB1.out.size | (simp; done) | (simp; omega)) _ | refine Below.alloc ?_ (by first | exact HB1.out.size | exact Nat.le_refl _ | (simp; done) | (simp; omega)) _))) (grown_set _ b 2 _)⟩
end Go.Proofs.YtidcpdfhnhfelaaGreatDoor

