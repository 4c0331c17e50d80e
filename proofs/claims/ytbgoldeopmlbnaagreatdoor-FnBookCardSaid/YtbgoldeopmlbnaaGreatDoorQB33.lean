/- Used by the law. -/
import Derived.Deep.CutRange
import Derived.Test.YtbgoldeopmlbnaaGreatDoorQB32
set_option maxRecDepth 100000
set_option maxHeartbeats 16000000
namespace Go.Proofs.YtbgoldeopmlbnaaGreatDoor
open Go.RowKit Go.PlainAid G MGet MGF IRow MNum MJoin
set_option linter.unusedVariables false
def NewBookN (b : Bk) (k : Nat) (w : World) (e : Ending) (w' : World) : Prop :=
 ∃ a1 n1 a3 a2 n2 a4,e = .returned (.tuple #[.agg #[.int .i64 b.c0,.int .i64 b.c1,.int .i64 b.c2,.int .i64 b.c3,.slice a1 n1 a3,.slice a2 n2 a4],.int .i64 (k : Int)]) /\ BkO w' w.heap.size a1 n1 a3 a2 n2 a4 b.ts b.is /\ Below w.heap.size w w'
theorem replayed_any (va : Option Addr) (n vc B : Nat) (rs : List Rw) (ls : List (List Dd)) (w : World) (hl : rs.length = n) (hn : ls.length = n) (hm : n <= 1048576) (h : SSL w B (.slice va n vc) rs (fun i => ls.getD i [])) (hr : ∀ l ∈ ls,LR l) :
 Calls Tryz.prog 42 #[.slice va n vc] w (NewBookN (rpS bk0 ls).1 (rpS bk0 ls).2 w):=by
 have HSL:=qH h
 have HRL:=qH hl
 have HLN:=qH hn
 have HLR:=qH hr
 clear h hl hn hr
 obtain ⟨W,hW⟩ : ∃ W,W = (w.alloc (.cells #[.int .i64 0,.int .i64 0,.int .i64 0,.int .i64 0,.slice none 0 0,.slice none 0 0] 28)).alloc (.cells #[.int .i64 0,.int .i64 0,.int .i64 0,.int .i64 0,.slice none 0 0,.slice none 0 0] 28):=⟨_,rfl⟩
 have HB0 : Hid (Below w.heap.size w W):=qH (by rw [hW];exact ((Below.refl _ _).alloc (Nat.le_refl _) _).alloc (by simp) _)
 have HZ0 : Hid (BoxC W w.heap.size [.int .i64 0,.int .i64 0,.int .i64 0,.int .i64 0,.slice none 0 0,.slice none 0 0]):=qH (by rw [hW];exact (BoxC.made w #[.int .i64 0,.int .i64 0,.int .i64 0,.int .i64 0,.slice none 0 0,.slice none 0 0] 28).alloc _)
 have HX0 : Hid (BoxC W (w.heap.size + 1) [.int .i64 0,.int .i64 0,.int .i64 0,.int .i64 0,.slice none 0 0,.slice none 0 0]):=qH (by rw [hW];have:=BoxC.made (w.alloc (.cells #[.int .i64 0,.int .i64 0,.int .i64 0,.int .i64 0,.slice none 0 0,.slice none 0 0] 28)) #[.int .i64 0,.int .i64 0,.int .i64 0,.int .i64 0,.slice none 0 0,.slice none 0 0] 28;rwa [World.size_alloc] at this)
 have HWS : Hid (w.heap.size + 1 + 1 = W.heap.size):=qH (by rw [hW,World.size_alloc,World.size_alloc])
 go_enter Tryz.func42,Tryz.ntmps42
 go_wp2_with fail
 rw [<- hW]
 clear hW
 go_loopw [10] (fun i wr => ∃ (k : Nat) (b : Bk) (x1 : Option Addr) (m1 x3 : Nat) (x2 : Option Addr) (m2 x4 : Nat),k <= n /\ i = .int .i64 k /\ Hid (BoxC wr (w.heap.size + 1) [.int .i64 b.c0,.int .i64 b.c1,.int .i64 b.c2,.int .i64 b.c3,.slice x1 m1 x3,.slice x2 m2 x4]) /\ Hid (BkO wr W.heap.size x1 m1 x3 x2 m2 x4 b.ts b.is) /\ Hid (bookB b = true) /\ Hid ((rpS bk0 ls).1 = (rpS b (ls.drop k)).1 /\ (rpS bk0 ls).2 = (rpS b (ls.drop k)).2 + k) /\ Hid (Below w.heap.size w wr) /\ Hid (BoxC wr w.heap.size [.int .i64 0,.int .i64 0,.int .i64 0,.int .i64 0,.slice none 0 0,.slice none 0 0]) /\ Hid (W.heap.size <= wr.heap.size)) (fun i _ => n - (intOf i).toNat)
 case atStart => exact ⟨0,bk0,none,0,0,none,0,0,Nat.zero_le _,rfl,HX0,qH ⟨World.ownsRow_nil _ _ _ _,World.ownsRow_nil _ _ _ _⟩,qH bookB_bk0,qH ⟨by rw [List.drop_zero],by rw [List.drop_zero];rfl⟩,HB0,HZ0,qH (Nat.le_refl _)⟩
 case round =>
  obtain ⟨k,b,x1,m1,x3,x2,m2,x4,hk,rfl,HX,HO,HBR,HRP,HB,HZ,HSZ⟩:=hrel
  clear HB0 HZ0 HX0
  by_cases hlt : k < n
  · have hlt2 : k < rs.length:=by rw [HRL.out];exact hlt
    have HS:=qH (HSL.out.below HB.out)
    have hs:=HS.out
    rw [<- HRL.out] at hs
    obtain ⟨g,o,rfl,hg,t0,hdd⟩:=hs.at hlt2
    clear hs
    have hin : 0 <= (k : Int) /\ (k : Int) < (n : Int):=by omega
    have hlk : k < ls.length:=by rw [HLN.out];exact hlt
    have HLM : Hid (LR (ls.getD k [])):=qH (HLR.out _ (by rw [show ls.getD k [] = ls[k] by simp [List.getD,List.getElem?_eq_getElem hlk]];exact List.getElem_mem hlk))
    have HDP : Hid (ls.drop k = ls.getD k [] :: ls.drop (k + 1)):=qH (by
     rw [show ls.getD k [] = ls[k]'hlk by simp [List.getD,List.getElem?_eq_getElem hlk]]
     exact List.drop_eq_getElem_cons hlk)
    have HDD:=qH hdd
    generalize ls.getD k [] = l at *
    generalize (rs.getD k rwD).a = ra at *
    generalize (rs.getD k rwD).n = rn at *
    generalize (rs.getD k rwD).c = rc at *
    have hrl : l.length = rn:=hdd.len
    have y0:=HX.out.cell 0 _ rfl
    have y1:=HX.out.cell 1 _ rfl
    have y2:=HX.out.cell 2 _ rfl
    have y3:=HX.out.cell 3 _ rfl
    have y4:=HX.out.cell 4 _ rfl
    have y5:=HX.out.cell 5 _ rfl
    clear hdd hlk
    go_wp2_with fail
    clear y0 y1 y2 y3 y4 y5 t0
    refine (doneAll_any b x1 x2 m1 m2 x3 x4 ra rn rc l wr HO.out.read HBR.out HDD.out (by rw [<- hrl];exact HLM.out.2.1) (fun t ht => HLM.out.2.2 t (by omega))).mono ?_
    rintro e w2 hnb
    have HRT:=qH (fun h0 => doAllS_right l HBR.out HLM.out.2.2 h0)
    have HRG:=qH (fun h0 => rpS_go (b:=b) (l:=l) (r:=ls.drop (k + 1)) h0)
    have HRN:=qH (fun h0 => rpS_no (b:=b) (l:=l) (r:=ls.drop (k + 1)) h0)
    rw [<- HDP.out] at HRG HRN
    generalize doAllS b l = r at *
    obtain ⟨b3,cd⟩:=r
    obtain ⟨e1,p1,e3,e2,p2,e4,rfl,ho,hb⟩:=hnb
    dsimp only at HRT HRG HRN ho ⊢
    have HO2:=qH (ho.mono HSZ.out)
    have HB2:=qH (HB.out.trans (hb.mono HB.out.size))
    have HX2:=qH (HX.out.below hb)
    have HZ2:=qH (HZ.out.below hb)
    have HOB:=qH (HO.out.below hb)
    have HSZ2:=qH (Nat.le_trans HSZ.out hb.size)
    clear ho hb HX HZ HO HB HSZ HS HDD
    obtain ⟨V,hV⟩ : ∃ V,V = w2.alloc (.cells #[.int .i64 b3.c0,.int .i64 b3.c1,.int .i64 b3.c2,.int .i64 b3.c3,.slice e1 p1 e3,.slice e2 p2 e4,.int .i64 cd] 46):=⟨_,rfl⟩
    have HVB : Hid (Below w2.heap.size w2 V):=qH (by rw [hV];exact (Below.refl _ _).alloc (Nat.le_refl _) _)
    have HVX : Hid (BoxC V w2.heap.size [.int .i64 b3.c0,.int .i64 b3.c1,.int .i64 b3.c2,.int .i64 b3.c3,.slice e1 p1 e3,.slice e2 p2 e4,.int .i64 cd]):=qH (by rw [hV];exact BoxC.made _ _ _)
    by_cases hc : cd = 0
    · subst hc
      have v6:=HVX.out.cell 6 _ rfl
      have v0:=HVX.out.cell 0 _ rfl
      have v1:=HVX.out.cell 1 _ rfl
      have v2:=HVX.out.cell 2 _ rfl
      have v3:=HVX.out.cell 3 _ rfl
      have v4:=HVX.out.cell 4 _ rfl
      have v5:=HVX.out.cell 5 _ rfl
      have hXV:=HX2.out.below HVB.out
      have z0:=hXV.cell 0 _ rfl
      have z1:=hXV.cell 1 _ rfl
      have z2:=hXV.cell 2 _ rfl
      have z3:=hXV.cell 3 _ rfl
      have z4:=hXV.cell 4 _ rfl
      have z5:=hXV.cell 5 _ rfl
      have f0:=hXV.free 0
      have f1:=hXV.free 1
      have f2:=hXV.free 2
      have f3:=hXV.free 3
      have f4:=hXV.free 4
      have f5:=hXV.free 5
      obtain ⟨hY,hG⟩:=box_put6 hXV (.int .i64 b3.c0) (.int .i64 b3.c1) (.int .i64 b3.c2) (.int .i64 b3.c3) (.slice e1 p1 e3) (.slice e2 p2 e4)
      obtain ⟨Y,hYd⟩ : ∃ Y,Y = (((((V.setCell ⟨w.heap.size + 1,0,none⟩ (.int .i64 b3.c0)).setCell ⟨w.heap.size + 1,1,none⟩ (.int .i64 b3.c1)).setCell ⟨w.heap.size + 1,2,none⟩ (.int .i64 b3.c2)).setCell ⟨w.heap.size + 1,3,none⟩ (.int .i64 b3.c3)).setCell ⟨w.heap.size + 1,4,none⟩ (.slice e1 p1 e3)).setCell ⟨w.heap.size + 1,5,none⟩ (.slice e2 p2 e4):=⟨_,rfl⟩
      rw [<- hYd] at hY hG
      have HYX:=qH hY
      have HYO:=qH (bkO_far (HO2.out.below HVB.out) hG (by have:=HWS.out;omega))
      have HYB:=qH (grown_below (HB2.out.trans (HVB.out.mono HB2.out.size)) hG (by omega) (Nat.le_trans HB2.out.size HVB.out.size))
      have HYZ:=qH ((HZ2.out.below HVB.out).grown hG (by simp))
      have HYS : Hid (W.heap.size <= Y.heap.size):=qH (Nat.le_trans (Nat.le_trans HSZ2.out HVB.out.size) hG.size)
      have HYR:=qH (HRT.out rfl)
      have HRE:=qH (HRG.out rfl)
      have hwk : IntKind.i64.wrap ((k : Int) + 1) = (k : Int) + 1:=IntWalk.i64_in _ (by omega)
      have HYD:=qH hYd
      clear hXV hY hG hYd HRT HRG HRN HO2 HB2 HX2 HZ2 HOB HSZ2 HVB
      subst hV
      go_wp2_with fail
      rw [<- HYD.out]
      clear z0 z1 z2 z3 z4 z5 f0 f1 f2 f3 f4 f5 v0 v1 v2 v3 v4 v5 v6
      go_roundw
      case rel =>
       refine ⟨k + 1,b3,e1,p1,e3,e2,p2,e4,by omega,by go_num,HYX,HYO,HYR,qH ?_,HYB,HYZ,HYS⟩
       rw [HRP.out.1,HRP.out.2,HRE.out]
       exact ⟨rfl,by dsimp only;omega⟩
      case measure => simp [intOf];omega
    · have hc2 : (cd != 0) = true:=by simpa using hc
      have v6:=HVX.out.cell 6 _ rfl
      have HRE:=qH (HRN.out hc)
      have HXB:=qH (HX2.out.below HVB.out)
      have HOB2:=qH (HOB.out.below HVB.out)
      have HBV:=qH (HB2.out.trans (HVB.out.mono HB2.out.size))
      have hXV:=HXB.out
      have hZV:=HZ2.out.below HVB.out
      have y0:=hXV.cell 0 _ rfl
      have y1:=hXV.cell 1 _ rfl
      have y2:=hXV.cell 2 _ rfl
      have y3:=hXV.cell 3 _ rfl
      have y4:=hXV.cell 4 _ rfl
      have y5:=hXV.cell 5 _ rfl
      have z0:=hZV.cell 0 _ rfl
      have z1:=hZV.cell 1 _ rfl
      have z2:=hZV.cell 2 _ rfl
      have z3:=hZV.cell 3 _ rfl
      have z4:=hZV.cell 4 _ rfl
      have z5:=hZV.cell 5 _ rfl
      have f0:=hZV.free 0
      have f1:=hZV.free 1
      have f2:=hZV.free 2
      have f3:=hZV.free 3
      have f4:=hZV.free 4
      have f5:=hZV.free 5
      obtain ⟨hY,hG⟩:=box_put6 hZV (.int .i64 b.c0) (.int .i64 b.c1) (.int .i64 b.c2) (.int .i64 b.c3) (.slice x1 m1 x3) (.slice x2 m2 x4)
      obtain ⟨Y,hYd⟩ : ∃ Y,Y = ((((((V.setCell ⟨w.heap.size,0,none⟩ (.int .i64 b.c0)).setCell ⟨w.heap.size,1,none⟩ (.int .i64 b.c1)).setCell ⟨w.heap.size,2,none⟩ (.int .i64 b.c2)).setCell ⟨w.heap.size,3,none⟩ (.int .i64 b.c3)).setCell ⟨w.heap.size,4,none⟩ (.slice x1 m1 x3)).setCell ⟨w.heap.size,5,none⟩ (.slice x2 m2 x4)):=⟨_,rfl⟩
      rw [<- hYd] at hY hG
      have HYO:=qH (bkO_far HOB2.out hG (by have:=HWS.out;omega))
      have HYB:=qH (grown_below HBV.out hG (Nat.le_refl _) (by have:=HBV.out.size;omega))
      have g0:=hY.cell 0 _ rfl
      have g1:=hY.cell 1 _ rfl
      have g2:=hY.cell 2 _ rfl
      have g3:=hY.cell 3 _ rfl
      have g4:=hY.cell 4 _ rfl
      have g5:=hY.cell 5 _ rfl
      have HG:=qH (And.intro g0 (And.intro g1 (And.intro g2 (And.intro g3 (And.intro g4 g5)))))
      have HYD:=qH hYd
      clear hXV hZV hY hG hYd g0 g1 g2 g3 g4 g5
      clear HRT HRG HRN HO2 HB2 HX2 HZ2 HOB HSZ2 HVB
      subst hV
      go_wp2_with fail
      rw [<- HYD.out]
      obtain ⟨g0,g1,g2,g3,g4,g5⟩:=HG.out
      clear y0 y1 y2 y3 y4 y5 z0 z1 z2 z3 z4 z5 f0 f1 f2 f3 f4 f5 v6
      exact bodyPost_ret (v:=.tuple #[.agg #[.int .i64 b.c0,.int .i64 b.c1,.int .i64 b.c2,.int .i64 b.c3,.slice x1 m1 x3,.slice x2 m2 x4],.int .i64 (k : Int)]) (by simp [results,Tryz.results42,go_sem,g0,g1,g2,g3,g4,g5]) rfl (by
       rw [show (rpS bk0 ls).1 = b by rw [HRP.out.1,HRE.out],show (rpS bk0 ls).2 = k by rw [HRP.out.2,HRE.out];simp]
       exact ⟨x1,m1,x3,x2,m2,x4,rfl,HYO.out.mono (by have:=HWS.out;omega),HYB.out⟩)
  · obtain rfl : k = n:=by omega
    have HRE : Hid (rpS b (ls.drop k) = (b,0)):=qH (by rw [List.drop_eq_nil_of_le (by rw [HLN.out];exact Nat.le_refl _)];rfl)
    have hXV:=HX.out
    have hZV:=HZ.out
    have y0:=hXV.cell 0 _ rfl
    have y1:=hXV.cell 1 _ rfl
    have y2:=hXV.cell 2 _ rfl
    have y3:=hXV.cell 3 _ rfl
    have y4:=hXV.cell 4 _ rfl
    have y5:=hXV.cell 5 _ rfl
    have z0:=hZV.cell 0 _ rfl
    have z1:=hZV.cell 1 _ rfl
    have z2:=hZV.cell 2 _ rfl
    have z3:=hZV.cell 3 _ rfl
    have z4:=hZV.cell 4 _ rfl
    have z5:=hZV.cell 5 _ rfl
    have f0:=hZV.free 0
    have f1:=hZV.free 1
    have f2:=hZV.free 2
    have f3:=hZV.free 3
    have f4:=hZV.free 4
    have f5:=hZV.free 5
    obtain ⟨hY,hG⟩:=box_put6 hZV (.int .i64 b.c0) (.int .i64 b.c1) (.int .i64 b.c2) (.int .i64 b.c3) (.slice x1 m1 x3) (.slice x2 m2 x4)
    obtain ⟨Y,hYd⟩ : ∃ Y,Y = ((((((wr.setCell ⟨w.heap.size,0,none⟩ (.int .i64 b.c0)).setCell ⟨w.heap.size,1,none⟩ (.int .i64 b.c1)).setCell ⟨w.heap.size,2,none⟩ (.int .i64 b.c2)).setCell ⟨w.heap.size,3,none⟩ (.int .i64 b.c3)).setCell ⟨w.heap.size,4,none⟩ (.slice x1 m1 x3)).setCell ⟨w.heap.size,5,none⟩ (.slice x2 m2 x4)):=⟨_,rfl⟩
    rw [<- hYd] at hY hG
    have HYO:=qH (bkO_far HO.out hG (by have:=HWS.out;omega))
    have HYB:=qH (grown_below HB.out hG (Nat.le_refl _) (by have:=HB.out.size;omega))
    have g0:=hY.cell 0 _ rfl
    have g1:=hY.cell 1 _ rfl
    have g2:=hY.cell 2 _ rfl
    have g3:=hY.cell 3 _ rfl
    have g4:=hY.cell 4 _ rfl
    have g5:=hY.cell 5 _ rfl
    have HG:=qH (And.intro g0 (And.intro g1 (And.intro g2 (And.intro g3 (And.intro g4 g5)))))
    have HYD:=qH hYd
    clear hXV hZV hY hG hYd g0 g1 g2 g3 g4 g5
    clear HX HZ HO HB HSZ
    go_wp2_with fail
    rw [<- HYD.out]
    obtain ⟨g0,g1,g2,g3,g4,g5⟩:=HG.out
    clear y0 y1 y2 y3 y4 y5 z0 z1 z2 z3 z4 z5 f0 f1 f2 f3 f4 f5
    exact bodyPost_ret (v:=.tuple #[.agg #[.int .i64 b.c0,.int .i64 b.c1,.int .i64 b.c2,.int .i64 b.c3,.slice x1 m1 x3,.slice x2 m2 x4],.int .i64 (k : Int)]) (by simp [results,Tryz.results42,go_sem,g0,g1,g2,g3,g4,g5]) rfl (by
     rw [show (rpS bk0 ls).1 = b by rw [HRP.out.1,HRE.out],show (rpS bk0 ls).2 = k by rw [HRP.out.2,HRE.out];simp]
     exact ⟨x1,m1,x3,x2,m2,x4,rfl,HYO.out.mono (by have:=HWS.out;omega),HYB.out⟩)
theorem implReplay_any (s : ByteArray) (w : World) (hs : s.size <= maxLen) (hg : ET w) :
 Calls Tryz.prog 10 #[.string s] w (NewBook (bkOf s).c0 (bkOf s).c1 (bkOf s).c2 (bkOf s).c3 (bkOf s).ts (bkOf s).is w):=by
 have HTL:=qH (txRd_len s)
 obtain ⟨R,hR⟩ : ∃ R,R = rpS bk0 (txRd s):=⟨_,rfl⟩
 have HBO : Hid (R.1 = bkOf s):=qH (by rw [hR];rfl)
 have HRR:=qH hR
 clear hR
 obtain ⟨W,hW⟩ : ∃ W,W = w.alloc (.cells #[.int .i64 0,.int .i64 0,.int .i64 0,.int .i64 0,.slice none 0 0,.slice none 0 0] 28):=⟨_,rfl⟩
 have HB0 : Hid (Below w.heap.size w W):=qH (by rw [hW];exact (Below.refl _ _).alloc (Nat.le_refl _) _)
 have HZ0 : Hid (BoxC W w.heap.size [.int .i64 0,.int .i64 0,.int .i64 0,.int .i64 0,.slice none 0 0,.slice none 0 0]):=qH (by rw [hW];exact BoxC.made w #[.int .i64 0,.int .i64 0,.int .i64 0,.int .i64 0,.slice none 0 0,.slice none 0 0] 28)
 have HE0:=qH (hg.below HB0.out)
 go_enter Tryz.func10,Tryz.ntmps10
 go_wp2_with fail
 rw [<- hW]
 clear hW
 refine (implTxRead_any s W hs HE0.out).mono ?_
 rintro e w1 ⟨va,n,vc,rs,rfl,hn,hS,hm,hb⟩
 obtain ⟨hl,hSS,_⟩:=hS.info hm
 have HNL:=qH (show (txRd s).length = n from (hn.trans hl).symm)
 have HRL:=qH (show rs.length = n from hn.symm)
 have HSS:=qH hSS
 have HB1:=qH (HB0.out.trans (hb.mono HB0.out.size))
 have HZ1:=qH (HZ0.out.below hb)
 clear hS hm hb hSS hn hl
 go_wp2_with fail
 have hcon:=replayed_any va n vc W.heap.size rs (txRd s) w1 HRL.out HNL.out (by have:=HTL.out;have:=HNL.out;omega) HSS.out (txRd_right s)
 rw [<- HRR.out] at hcon
 obtain ⟨rb,rk⟩:=R
 dsimp only at hcon HBO
 have hbo:=HBO.out
 subst hbo
 clear HRR HBO HTL HNL HRL
 generalize bkOf s = b at *
 refine hcon.mono ?_
 clear hcon
 rintro e w2 ⟨a1,n1,a3,a2,n2,a4,rfl,ho,hb⟩
 have HO2:=qH (ho.mono HB1.out.size)
 have HB2:=qH (HB1.out.trans (hb.mono HB1.out.size))
 have HZ2:=qH (HZ1.out.below hb)
 have HNF : Hid (w1.heap.size <= w2.heap.size /\ w.heap.size < w1.heap.size):=qH ⟨hb.size,HZ1.out.lt⟩
 have HOF:=qH ho
 clear ho hb HSS HB1 HZ1
 go_upto_region 2 with fail
 obtain ⟨V,hV⟩ : ∃ V,V = w2.alloc (.cells #[.int .i64 b.c0,.int .i64 b.c1,.int .i64 b.c2,.int .i64 b.c3,.slice a1 n1 a3,.slice a2 n2 a4] 28):=⟨_,rfl⟩
 have hAB : Below w2.heap.size w2 V:=by rw [hV];exact (Below.refl _ _).alloc (Nat.le_refl _) _
 have HVX:=qH (show BoxC V w2.heap.size [.int .i64 b.c0,.int .i64 b.c1,.int .i64 b.c2,.int .i64 b.c3,.slice a1 n1 a3,.slice a2 n2 a4] by rw [hV];exact BoxC.made _ _ _)
 rw [<- hV]
 clear hV
 have hZV:=HZ2.out.below hAB
 have HOV:=qH (HOF.out.below hAB)
 have HBV:=qH (HB2.out.trans (hAB.mono HB2.out.size))
 clear hAB HB2 HZ2 HO2 HOF
 have z0:=hZV.cell 0 _ rfl
 have z1:=hZV.cell 1 _ rfl
 have z2:=hZV.cell 2 _ rfl
 have z3:=hZV.cell 3 _ rfl
 have z4:=hZV.cell 4 _ rfl
 have z5:=hZV.cell 5 _ rfl
 have f0:=hZV.free 0
 have f1:=hZV.free 1
 have f2:=hZV.free 2
 have f3:=hZV.free 3
 have f4:=hZV.free 4
 have f5:=hZV.free 5
 obtain ⟨hY,hG⟩:=box_put6 hZV (.int .i64 b.c0) (.int .i64 b.c1) (.int .i64 b.c2) (.int .i64 b.c3) (.slice a1 n1 a3) (.slice a2 n2 a4)
 obtain ⟨Y,hYd⟩ : ∃ Y,Y = (((((V.setCell ⟨w.heap.size,0,none⟩ (.int .i64 b.c0)).setCell ⟨w.heap.size,1,none⟩ (.int .i64 b.c1)).setCell ⟨w.heap.size,2,none⟩ (.int .i64 b.c2)).setCell ⟨w.heap.size,3,none⟩ (.int .i64 b.c3)).setCell ⟨w.heap.size,4,none⟩ (.slice a1 n1 a3)).setCell ⟨w.heap.size,5,none⟩ (.slice a2 n2 a4):=⟨_,rfl⟩
 rw [<- hYd] at hY hG
 have HYO:=qH (bkO_far HOV.out hG HNF.out.2)
 have HYB:=qH (grown_below HBV.out hG (Nat.le_refl _) (by have:=HBV.out.size;omega))
 have g0:=hY.cell 0 _ rfl
 have g1:=hY.cell 1 _ rfl
 have g2:=hY.cell 2 _ rfl
 have g3:=hY.cell 3 _ rfl
 have g4:=hY.cell 4 _ rfl
 have g5:=hY.cell 5 _ rfl
 have HG:=qH (And.intro g0 (And.intro g1 (And.intro g2 (And.intro g3 (And.intro g4 g5)))))
 have HYD:=qH hYd
 have v0:=HVX.out.cell 0 _ rfl
 have v1:=HVX.out.cell 1 _ rfl
 have v2:=HVX.out.cell 2 _ rfl
 have v3:=HVX.out.cell 3 _ rfl
 have v4:=HVX.out.cell 4 _ rfl
 have v5:=HVX.out.cell 5 _ rfl
 clear hZV hY hG hYd g0 g1 g2 g3 g4 g5 HOV HBV
 go_wp2_with fail
 rw [<- HYD.out]
 obtain ⟨g0,g1,g2,g3,g4,g5⟩:=HG.out
 clear z0 z1 z2 z3 z4 z5 f0 f1 f2 f3 f4 f5 v0 v1 v2 v3 v4 v5
 exact bodyPost_ret (v:=.agg #[.int .i64 b.c0,.int .i64 b.c1,.int .i64 b.c2,.int .i64 b.c3,.slice a1 n1 a3,.slice a2 n2 a4]) (by simp [results,Tryz.results10,go_sem,g0,g1,g2,g3,g4,g5]) rfl ⟨a1,n1,a3,a2,n2,a4,rfl,HYO.out.mono (by have:=HNF.out;omega),HYB.out⟩
def AllOut (r : Bk × Int) (w : World) (e : Ending) (w' : World) : Prop :=
 ∃ (c0 c1 c2 c3 : Int) (a1 : Option Addr) (n1 a3 : Nat) (a2 : Option Addr) (n2 a4 : Nat),e = .returned (.tuple #[.agg #[.int .i64 c0,.int .i64 c1,.int .i64 c2,.int .i64 c3,.slice a1 n1 a3,.slice a2 n2 a4],.bool (decide (r.2 = 0))]) /\ (r.2 = 0 -> BkO w' w.heap.size a1 n1 a3 a2 n2 a4 r.1.ts r.1.is /\ c0 = r.1.c0 /\ c1 = r.1.c1 /\ c2 = r.1.c2 /\ c3 = r.1.c3) /\ Below w.heap.size w w'
theorem l07All_any (b : Bk) (a1 a2 : Option Addr) (n1 n2 a3 a4 base : Nat) (la : Option Addr) (ln lc : Nat) (ds : List Dd) (w : World) (h : BkO w base a1 n1 a3 a2 n2 a4 b.ts b.is) (hbs : base <= w.heap.size) (hb : bookB b = true) (hr : DdR w la ln lc ds) (h1 : 1 <= ln) (hn : ln <= 10) (hd : ∀ t,t < ln -> deedOf (ds.getD t ddD) = true) :
 Calls Tryz.prog 51 #[.agg #[.int .i64 b.c0,.int .i64 b.c1,.int .i64 b.c2,.int .i64 b.c3,.slice a1 n1 a3,.slice a2 n2 a4],.slice la ln lc] w (AllOut (doAllS b ds) w):=by
 have HR:=qH hr
 have HDS:=qH hd
 have HBB:=qH hb
 have HBK:=qH h
 clear hr hd hb h
 obtain ⟨W,hW⟩ : ∃ W,W = (w.alloc (.cells #[.int .i64 b.c0,.int .i64 b.c1,.int .i64 b.c2,.int .i64 b.c3,.slice a1 n1 a3,.slice a2 n2 a4] 28)).alloc (.cells #[.int .i64 0,.int .i64 0,.int .i64 0,.int .i64 0,.slice none 0 0,.slice none 0 0] 28):=⟨_,rfl⟩
 have HB0 : Hid (Below w.heap.size w W):=qH (by rw [hW];exact ((Below.refl _ _).alloc (Nat.le_refl _) _).alloc (by simp) _)
 have HX0 : Hid (BoxC W w.heap.size [.int .i64 b.c0,.int .i64 b.c1,.int .i64 b.c2,.int .i64 b.c3,.slice a1 n1 a3,.slice a2 n2 a4]):=qH (by rw [hW];exact (BoxC.made w #[.int .i64 b.c0,.int .i64 b.c1,.int .i64 b.c2,.int .i64 b.c3,.slice a1 n1 a3,.slice a2 n2 a4] 28).alloc _)
 have HZ0 : Hid (BoxC W (w.heap.size + 1) [.int .i64 0,.int .i64 0,.int .i64 0,.int .i64 0,.slice none 0 0,.slice none 0 0]):=qH (by rw [hW];have:=BoxC.made (w.alloc (.cells #[.int .i64 b.c0,.int .i64 b.c1,.int .i64 b.c2,.int .i64 b.c3,.slice a1 n1 a3,.slice a2 n2 a4] 28)) #[.int .i64 0,.int .i64 0,.int .i64 0,.int .i64 0,.slice none 0 0,.slice none 0 0] 28;rwa [World.size_alloc] at this)
 have HWS : Hid (w.heap.size + 1 + 1 = W.heap.size):=qH (by rw [hW,World.size_alloc,World.size_alloc])
 go_enter Tryz.func51,Tryz.ntmps51
 go_wp2_with fail
 rw [<- hW]
 clear hW
 go_loopw [6] (fun i wr => ∃ (k : Nat) (b2 : Bk) (x1 : Option Addr) (m1 x3 : Nat) (x2 : Option Addr) (m2 x4 : Nat),k <= ln /\ i = .int .i64 k /\ Hid (BoxC wr w.heap.size [.int .i64 b2.c0,.int .i64 b2.c1,.int .i64 b2.c2,.int .i64 b2.c3,.slice x1 m1 x3,.slice x2 m2 x4]) /\ Hid (BkO wr (if k = 0 then base else w.heap.size) x1 m1 x3 x2 m2 x4 b2.ts b2.is /\ (∀ q,(Value.slice x1 m1 x3).ownBlock = some q -> q ≠ w.heap.size /\ q ≠ w.heap.size + 1) /\ (∀ q,(Value.slice x2 m2 x4).ownBlock = some q -> q ≠ w.heap.size /\ q ≠ w.heap.size + 1)) /\ Hid (bookB b2 = true) /\ Hid (doAllS b ds = doAllS b2 (ds.drop k)) /\ Hid (Below w.heap.size w wr) /\ Hid (BoxC wr (w.heap.size + 1) [.int .i64 0,.int .i64 0,.int .i64 0,.int .i64 0,.slice none 0 0,.slice none 0 0]) /\ Hid (W.heap.size <= wr.heap.size)) (fun i _ => ln - (intOf i).toNat)
 case atStart => exact ⟨0,b,a1,n1,a3,a2,n2,a4,Nat.zero_le _,rfl,HX0,qH ⟨HBK.out.below HB0.out,fun q hq => by have:=(HBK.out.t.lt q hq).2;omega,fun q hq => by have:=(HBK.out.i.lt q hq).2;omega⟩,HBB,qH (by rw [List.drop_zero]),HB0,HZ0,qH (Nat.le_refl _)⟩
 case round =>
  obtain ⟨k,b2,x1,m1,x3,x2,m2,x4,hk,rfl,HX,HO,HBR,HDO,HB,HZ,HSZ⟩:=hrel
  clear HB0 HZ0 HX0 HBB HBK
  have hlds : ds.length = ln:=HR.out.len
  by_cases hlt : k < ln
  · obtain ⟨g,o,rfl,hg,t0,t1,t2,t3,t4,t5,t6,t7,t8,t9⟩:=DdR.at (SR.below HR.out HB.out) hlt
    have hin : 0 <= (k : Int) /\ (k : Int) < (ln : Int):=by omega
    have hrd:=HDS.out k hlt
    have HDP : Hid (ds.drop k = ds.getD k ddD :: ds.drop (k + 1)):=qH (by
     rw [show ds.getD k ddD = ds[k]'(by omega) by simp [List.getD,List.getElem?_eq_getElem (show k < ds.length by omega)]]
     exact List.drop_eq_getElem_cons (by omega))
    generalize ds.getD k ddD = d at *
    obtain ⟨q0,q1,q2,q3,q4,q5,q6,q7,q8,q9⟩:=d
    dsimp only at t0 t1 t2 t3 t4 t5 t6 t7 t8 t9
    go_upto_region 4 with fail
    obtain ⟨r,hrr⟩ : ∃ r,doS b2 ⟨q0,q1,q2,q3,q4,q5,q6,q7,q8,q9⟩ = r:=⟨_,rfl⟩
    have HRR : Hid (doS ⟨b2.c0,b2.c1,b2.c2,b2.c3,b2.ts,b2.is⟩ ⟨q0,q1,q2,q3,q4,q5,q6,q7,q8,q9⟩ = r):=qH hrr
    have HDP2 : Hid (doAllS b ds = if r.2 = 0 then doAllS r.1 (ds.drop (k + 1)) else (bk0,r.2)):=qH (by rw [HDO.out,HDP.out,<- hrr];rfl)
    have HRT : Hid (r.2 = 0 -> RightB r.1):=qH (by rw [<- hrr];exact fun h0 => doS_right HBR.out (d:=⟨q0,q1,q2,q3,q4,q5,q6,q7,q8,q9⟩) hrd h0)
    have HRD:=qH hrd
    have hBB : bookB ⟨b2.c0,b2.c1,b2.c2,b2.c3,b2.ts,b2.is⟩ = true:=HBR.out
    have HSS : Hid (∀ u,Below wr.heap.size wr u -> (BoxC u w.heap.size [.int .i64 b2.c0,.int .i64 b2.c1,.int .i64 b2.c2,.int .i64 b2.c3,.slice x1 m1 x3,.slice x2 m2 x4] /\ u.cell? ⟨g,o + k * 10,none⟩ = some (.int .i64 q0) /\ u.cell? ⟨g,o + k * 10 + 1,none⟩ = some (.int .i64 q1) /\ u.cell? ⟨g,o + k * 10 + 2,none⟩ = some (.int .i64 q2) /\ u.cell? ⟨g,o + k * 10 + 3,none⟩ = some (.int .i64 q3) /\ u.cell? ⟨g,o + k * 10 + 4,none⟩ = some (.int .i64 q4) /\ u.cell? ⟨g,o + k * 10 + 5,none⟩ = some (.int .i64 q5) /\ u.cell? ⟨g,o + k * 10 + 6,none⟩ = some (.string q6) /\ u.cell? ⟨g,o + k * 10 + 7,none⟩ = some (.string q7) /\ u.cell? ⟨g,o + k * 10 + 8,none⟩ = some (.int .i64 q8) /\ u.cell? ⟨g,o + k * 10 + 9,none⟩ = some (.string q9))):=qH (fun u hu => ⟨HX.out.below hu,(hu.cell (p:=⟨g,o + k * 10,none⟩) hg).trans t0,(hu.cell (p:=⟨g,o + k * 10 + 1,none⟩) hg).trans t1,(hu.cell (p:=⟨g,o + k * 10 + 2,none⟩) hg).trans t2,(hu.cell (p:=⟨g,o + k * 10 + 3,none⟩) hg).trans t3,(hu.cell (p:=⟨g,o + k * 10 + 4,none⟩) hg).trans t4,(hu.cell (p:=⟨g,o + k * 10 + 5,none⟩) hg).trans t5,(hu.cell (p:=⟨g,o + k * 10 + 6,none⟩) hg).trans t6,(hu.cell (p:=⟨g,o + k * 10 + 7,none⟩) hg).trans t7,(hu.cell (p:=⟨g,o + k * 10 + 8,none⟩) hg).trans t8,(hu.cell (p:=⟨g,o + k * 10 + 9,none⟩) hg).trans t9⟩)
    have HB0:=qH (Below.refl wr.heap.size wr)
    have hmx : Tryz.prog.follows .mixedOrders = true:=by kernel_rfl
    clear hrr HDP HDO hrd t0 t1 t2 t3 t4 t5 t6 t7 t8 t9
    go_cut [7] from 8 to 25 (fun v u => ∃ nb e1 p1 e3 e2 p2 e4,v = .pointer (some ⟨nb,0,none⟩) /\ BoxC u nb [.int .i64 r.1.c0,.int .i64 r.1.c1,.int .i64 r.1.c2,.int .i64 r.1.c3,.slice e1 p1 e3,.slice e2 p2 e4,.int .i64 r.2] /\ BkO u wr.heap.size e1 p1 e3 e2 p2 e4 r.1.ts r.1.is /\ wr.heap.size <= nb /\ Below wr.heap.size wr u)
    case first =>
     refine TillZ.region (t:=7) hmx (fun u => BoxC u w.heap.size [.int .i64 b2.c0,.int .i64 b2.c1,.int .i64 b2.c2,.int .i64 b2.c3,.slice x1 m1 x3,.slice x2 m2 x4] /\ u.cell? ⟨g,o + k * 10,none⟩ = some (.int .i64 q0) /\ u.cell? ⟨g,o + k * 10 + 1,none⟩ = some (.int .i64 q1) /\ u.cell? ⟨g,o + k * 10 + 2,none⟩ = some (.int .i64 q2) /\ u.cell? ⟨g,o + k * 10 + 3,none⟩ = some (.int .i64 q3) /\ u.cell? ⟨g,o + k * 10 + 4,none⟩ = some (.int .i64 q4) /\ u.cell? ⟨g,o + k * 10 + 5,none⟩ = some (.int .i64 q5) /\ u.cell? ⟨g,o + k * 10 + 6,none⟩ = some (.string q6) /\ u.cell? ⟨g,o + k * 10 + 7,none⟩ = some (.string q7) /\ u.cell? ⟨g,o + k * 10 + 8,none⟩ = some (.int .i64 q8) /\ u.cell? ⟨g,o + k * 10 + 9,none⟩ = some (.string q9)) ?_
     have HU0:=qH (HB0.out.drew)
     have hS0:=HSS.out _ HU0.out
     refine TillZ.take4 (i:=0) (v:=.agg #[.int .i64 b2.c0,.int .i64 b2.c1,.int .i64 b2.c2,.int .i64 b2.c3,.slice x1 m1 x3,.slice x2 m2 x4]) rfl rfl rfl (by kernel_rfl) hS0 (fun u hu => by have z0:=hu.1.cell 0 _ rfl;have z1:=hu.1.cell 1 _ rfl;have z2:=hu.1.cell 2 _ rfl;have z3:=hu.1.cell 3 _ rfl;have z4:=hu.1.cell 4 _ rfl;have z5:=hu.1.cell 5 _ rfl;go_simp) ?_
     simp only [pS,List.set,zT,zZ]
     refine TillZ.take4 (i:=1) (v:=.slice (some ⟨g,o,none⟩) ln lc) rfl rfl rfl (by kernel_rfl) hS0 (fun u hu => by go_simp) ?_
     simp only [pS,List.set,zT,zZ,zU]
     refine TillZ.take4 (i:=2) (v:=.int .i64 (k : Int)) rfl rfl rfl (by kernel_rfl) hS0 (fun u hu => by go_simp) ?_
     simp only [pS,List.set,zT,zZ,zU]
     refine TillZ.take4 (i:=3) (v:=.pointer (some ⟨g,o + k * 10,none⟩)) rfl rfl rfl (by kernel_rfl) hS0 (fun u hu => by go_simp) ?_
     simp only [pS,List.set,zT,zZ,zU]
     refine TillZ.take4 (i:=4) (v:=.agg #[.int .i64 q0,.int .i64 q1,.int .i64 q2,.int .i64 q3,.int .i64 q4,.int .i64 q5,.string q6,.string q7,.int .i64 q8,.string q9]) rfl rfl rfl (by kernel_rfl) hS0 (fun u hu => by obtain ⟨_,y0,y1,y2,y3,y4,y5,y6,y7,y8,y9⟩:=hu;go_simp) ?_
     simp only [pS,List.set,zT,zZ,zU]
     generalize hu0 : wr.drew = u0 at *
     clear hu0
     refine TillZ.two (i:=5) (j:=6) (by kernel_rfl) ?_ ?_
     · skip
       refine TillZ.callz (i:=5) (f:=46) (args:=#[.agg #[.int .i64 b2.c0,.int .i64 b2.c1,.int .i64 b2.c2,.int .i64 b2.c3,.slice x1 m1 x3,.slice x2 m2 x4],.agg #[.int .i64 q0,.int .i64 q1,.int .i64 q2,.int .i64 q3,.int .i64 q4,.int .i64 q5,.string q6,.string q7,.int .i64 q8,.string q9]]) rfl rfl rfl (by go_simp) ?_
       refine Calls.mono (l07Do_any b2.c0 b2.c1 b2.c2 b2.c3 b2.ts b2.is q0 q1 q2 q3 q4 q5 q6 q7 q8 q9 x1 x2 m1 m2 x3 x4 u0 ((HO.out.1.below HU0.out).read) hBB HRD.out) ?_
       rintro e ua hnb
       rw [HRR.out] at hnb
       obtain ⟨e1,p1,e3,e2,p2,e4,rfl,ho,hb⟩:=hnb
       have HUua:=qH (HU0.out.trans (hb.mono HU0.out.size))
       refine ⟨_,rfl,HSS.out _ HUua.out,?_⟩
       simp only [pS,List.set,zT,zZ,zU]
       refine TillZ.one (i:=6) (by kernel_rfl) ?_
       refine TillZ.opz (i:=6) (v:=.pointer (some ⟨ua.heap.size,0,none⟩)) (w':=ua.alloc (.cells #[.int .i64 0,.int .i64 0,.int .i64 0,.int .i64 0,.slice none 0 0,.slice none 0 0,.int .i64 0] 46)) rfl rfl rfl (by go_simp) (HSS.out _ (HUua.out.alloc HUua.out.size _)) ?_
       simp only [pS,List.set,zT,zZ,zU]
       have HUub:=qH (HUua.out.alloc HUua.out.size (.cells #[.int .i64 0,.int .i64 0,.int .i64 0,.int .i64 0,.slice none 0 0,.slice none 0 0,.int .i64 0] 46))
       have HXub:=qH (BoxC.made ua #[.int .i64 0,.int .i64 0,.int .i64 0,.int .i64 0,.slice none 0 0,.slice none 0 0,.int .i64 0] 46)
       have HNBub:=qH HUua.out.size
       have HO:=qH (ho.below ((Below.refl ua.heap.size ua).alloc (Nat.le_refl _) (.cells #[.int .i64 0,.int .i64 0,.int .i64 0,.int .i64 0,.slice none 0 0,.slice none 0 0,.int .i64 0] 46)))
       have HQ : Hid ((∀ q,(Value.slice e1 p1 e3).ownBlock = some q -> q ≠ ua.heap.size) /\ ∀ q,(Value.slice e2 p2 e4).ownBlock = some q -> q ≠ ua.heap.size):=qH ⟨fun q hq => by have:=(ho.t.lt q hq).2;omega,fun q hq => by have:=(ho.i.lt q hq).2;omega⟩
       have HOB:=qH (HO.out.mono HU0.out.size)
       generalize hub : ua.alloc (.cells #[.int .i64 0,.int .i64 0,.int .i64 0,.int .i64 0,.slice none 0 0,.slice none 0 0,.int .i64 0] 46) = ub at *
       clear hub
       have z0:=HXub.out.cell 0 _ rfl
       have f0:=HXub.out.free 0
       have z1:=HXub.out.cell 1 _ rfl
       have f1:=HXub.out.free 1
       have z2:=HXub.out.cell 2 _ rfl
       have f2:=HXub.out.free 2
       have z3:=HXub.out.cell 3 _ rfl
       have f3:=HXub.out.free 3
       have z4:=HXub.out.cell 4 _ rfl
       have f4:=HXub.out.free 4
       have z5:=HXub.out.cell 5 _ rfl
       have f5:=HXub.out.free 5
       have z6:=HXub.out.cell 6 _ rfl
       have f6:=HXub.out.free 6
       obtain ⟨hY,hG⟩:=box_put7 HXub.out (.int .i64 r.1.c0) (.int .i64 r.1.c1) (.int .i64 r.1.c2) (.int .i64 r.1.c3) (.slice e1 p1 e3) (.slice e2 p2 e4) (.int .i64 r.2)
       refine TillZ.hand_skip (w':=((((((ub.setCell ⟨ua.heap.size,0,none⟩ (.int .i64 r.1.c0)).setCell ⟨ua.heap.size,1,none⟩ (.int .i64 r.1.c1)).setCell ⟨ua.heap.size,2,none⟩ (.int .i64 r.1.c2)).setCell ⟨ua.heap.size,3,none⟩ (.int .i64 r.1.c3)).setCell ⟨ua.heap.size,4,none⟩ (.slice e1 p1 e3)).setCell ⟨ua.heap.size,5,none⟩ (.slice e2 p2 e4)).setCell ⟨ua.heap.size,6,none⟩ (.int .i64 r.2)) (by kernel_rfl) rfl rfl (by go_simp) ?_
       simp only [pN,zT,zZ,zU]
       refine TillZ.any_done (by kernel_rfl) ?_ _
       clear z0 f0 z1 f1 z2 f2 z3 f3 z4 f4 z5 f5 z6 f6
       generalize ((((((ub.setCell ⟨ua.heap.size,0,none⟩ (.int .i64 r.1.c0)).setCell ⟨ua.heap.size,1,none⟩ (.int .i64 r.1.c1)).setCell ⟨ua.heap.size,2,none⟩ (.int .i64 r.1.c2)).setCell ⟨ua.heap.size,3,none⟩ (.int .i64 r.1.c3)).setCell ⟨ua.heap.size,4,none⟩ (.slice e1 p1 e3)).setCell ⟨ua.heap.size,5,none⟩ (.slice e2 p2 e4)).setCell ⟨ua.heap.size,6,none⟩ (.int .i64 r.2) = Y at *
       go_wp2_with fail
       go_meet
       case rel => exact ⟨ua.heap.size,e1,p1,e3,e2,p2,e4,rfl,hY,⟨own_apartP HOB.out.t hG HQ.out.1,own_apartP HOB.out.i hG HQ.out.2⟩,HNBub.out,grown_below HUub.out hG HNBub.out HUub.out.size⟩
     · skip
       refine TillZ.opz (i:=6) (v:=.pointer (some ⟨u0.heap.size,0,none⟩)) (w':=u0.alloc (.cells #[.int .i64 0,.int .i64 0,.int .i64 0,.int .i64 0,.slice none 0 0,.slice none 0 0,.int .i64 0] 46)) rfl rfl rfl (by go_simp) (HSS.out _ (HU0.out.alloc HU0.out.size _)) ?_
       simp only [pS,List.set,zT,zZ,zU]
       have HUub:=qH (HU0.out.alloc HU0.out.size (.cells #[.int .i64 0,.int .i64 0,.int .i64 0,.int .i64 0,.slice none 0 0,.slice none 0 0,.int .i64 0] 46))
       have HXub:=qH (BoxC.made u0 #[.int .i64 0,.int .i64 0,.int .i64 0,.int .i64 0,.slice none 0 0,.slice none 0 0,.int .i64 0] 46)
       have HNBub:=qH HU0.out.size
       generalize hub : u0.alloc (.cells #[.int .i64 0,.int .i64 0,.int .i64 0,.int .i64 0,.slice none 0 0,.slice none 0 0,.int .i64 0] 46) = ub at *
       clear hub
       refine TillZ.one (i:=5) (by kernel_rfl) ?_
       refine TillZ.callz (i:=5) (f:=46) (args:=#[.agg #[.int .i64 b2.c0,.int .i64 b2.c1,.int .i64 b2.c2,.int .i64 b2.c3,.slice x1 m1 x3,.slice x2 m2 x4],.agg #[.int .i64 q0,.int .i64 q1,.int .i64 q2,.int .i64 q3,.int .i64 q4,.int .i64 q5,.string q6,.string q7,.int .i64 q8,.string q9]]) rfl rfl rfl (by go_simp) ?_
       refine Calls.mono (l07Do_any b2.c0 b2.c1 b2.c2 b2.c3 b2.ts b2.is q0 q1 q2 q3 q4 q5 q6 q7 q8 q9 x1 x2 m1 m2 x3 x4 ub ((HO.out.1.below HUub.out).read) hBB HRD.out) ?_
       rintro e ua hnb
       rw [HRR.out] at hnb
       obtain ⟨e1,p1,e3,e2,p2,e4,rfl,ho,hb⟩:=hnb
       have HUua:=qH (HUub.out.trans (hb.mono HUub.out.size))
       refine ⟨_,rfl,HSS.out _ HUua.out,?_⟩
       simp only [pS,List.set,zT,zZ,zU]
       have HX:=qH (HXub.out.below hb)
       have HQ : Hid ((∀ q,(Value.slice e1 p1 e3).ownBlock = some q -> q ≠ u0.heap.size) /\ ∀ q,(Value.slice e2 p2 e4).ownBlock = some q -> q ≠ u0.heap.size):=qH ⟨fun q hq => by have:=(ho.t.lt q hq).1;have:=HXub.out.lt;omega,fun q hq => by have:=(ho.i.lt q hq).1;have:=HXub.out.lt;omega⟩
       have HOB:=qH (ho.mono HUub.out.size)
       have z0:=HX.out.cell 0 _ rfl
       have f0:=HX.out.free 0
       have z1:=HX.out.cell 1 _ rfl
       have f1:=HX.out.free 1
       have z2:=HX.out.cell 2 _ rfl
       have f2:=HX.out.free 2
       have z3:=HX.out.cell 3 _ rfl
       have f3:=HX.out.free 3
       have z4:=HX.out.cell 4 _ rfl
       have f4:=HX.out.free 4
       have z5:=HX.out.cell 5 _ rfl
       have f5:=HX.out.free 5
       have z6:=HX.out.cell 6 _ rfl
       have f6:=HX.out.free 6
       obtain ⟨hY,hG⟩:=box_put7 HX.out (.int .i64 r.1.c0) (.int .i64 r.1.c1) (.int .i64 r.1.c2) (.int .i64 r.1.c3) (.slice e1 p1 e3) (.slice e2 p2 e4) (.int .i64 r.2)
       refine TillZ.hand_skip (w':=((((((ua.setCell ⟨u0.heap.size,0,none⟩ (.int .i64 r.1.c0)).setCell ⟨u0.heap.size,1,none⟩ (.int .i64 r.1.c1)).setCell ⟨u0.heap.size,2,none⟩ (.int .i64 r.1.c2)).setCell ⟨u0.heap.size,3,none⟩ (.int .i64 r.1.c3)).setCell ⟨u0.heap.size,4,none⟩ (.slice e1 p1 e3)).setCell ⟨u0.heap.size,5,none⟩ (.slice e2 p2 e4)).setCell ⟨u0.heap.size,6,none⟩ (.int .i64 r.2)) (by kernel_rfl) rfl rfl (by go_simp) ?_
       simp only [pN,zT,zZ,zU]
       refine TillZ.any_done (by kernel_rfl) ?_ _
       clear z0 f0 z1 f1 z2 f2 z3 f3 z4 f4 z5 f5 z6 f6
       generalize ((((((ua.setCell ⟨u0.heap.size,0,none⟩ (.int .i64 r.1.c0)).setCell ⟨u0.heap.size,1,none⟩ (.int .i64 r.1.c1)).setCell ⟨u0.heap.size,2,none⟩ (.int .i64 r.1.c2)).setCell ⟨u0.heap.size,3,none⟩ (.int .i64 r.1.c3)).setCell ⟨u0.heap.size,4,none⟩ (.slice e1 p1 e3)).setCell ⟨u0.heap.size,5,none⟩ (.slice e2 p2 e4)).setCell ⟨u0.heap.size,6,none⟩ (.int .i64 r.2) = Y at *
       go_wp2_with fail
       go_meet
       case rel => exact ⟨u0.heap.size,e1,p1,e3,e2,p2,e4,rfl,hY,⟨own_apartP HOB.out.t hG HQ.out.1,own_apartP HOB.out.i hG HQ.out.2⟩,HNBub.out,grown_below HUua.out hG HNBub.out HUua.out.size⟩
    case rest =>
     obtain ⟨nb,e1,p1,e3,e2,p2,e4,rfl,hXB,hOB,hnb,hU⟩:=hcut
     have HXB:=qH hXB
     have HU:=qH hU
     have HOB:=qH (hOB.mono HB.out.size)
     have HOF : Hid ((∀ q,(Value.slice e1 p1 e3).ownBlock = some q -> q ≠ w.heap.size /\ q ≠ w.heap.size + 1) /\ (∀ q,(Value.slice e2 p2 e4).ownBlock = some q -> q ≠ w.heap.size /\ q ≠ w.heap.size + 1)):=qH ⟨fun q hq => by have:=(hOB.t.lt q hq).1;have:=HSZ.out;have:=HWS.out;omega,fun q hq => by have:=(hOB.i.lt q hq).1;have:=HSZ.out;have:=HWS.out;omega⟩
     have HX2:=qH (HX.out.below hU)
     have HZ2:=qH (HZ.out.below hU)
     have HO2:=qH (show BkO wc (if k = 0 then base else w.heap.size) x1 m1 x3 x2 m2 x4 b2.ts b2.is /\ (∀ q,(Value.slice x1 m1 x3).ownBlock = some q -> q ≠ w.heap.size /\ q ≠ w.heap.size + 1) /\ (∀ q,(Value.slice x2 m2 x4).ownBlock = some q -> q ≠ w.heap.size /\ q ≠ w.heap.size + 1) from ⟨HO.out.1.below hU,HO.out.2⟩)
     have HB2:=qH (HB.out.trans (hU.mono HB.out.size))
     have HS2:=qH (Nat.le_trans HSZ.out hU.size)
     clear hXB hU hOB hnb HSS HB0 HX HZ HO HB HSZ HRR hBB HRD
     obtain ⟨b3,cd⟩:=r
     dsimp only at HDP2 HRT HXB HOB ⊢
     by_cases hc : cd = 0
     · subst hc
       have v0:=(HXB.out).cell 0 _ rfl
       have v1:=(HXB.out).cell 1 _ rfl
       have v2:=(HXB.out).cell 2 _ rfl
       have v3:=(HXB.out).cell 3 _ rfl
       have v4:=(HXB.out).cell 4 _ rfl
       have v5:=(HXB.out).cell 5 _ rfl
       have v6:=(HXB.out).cell 6 _ rfl
       have hXV:=HX2.out
       have z0:=(hXV).cell 0 _ rfl
       have z1:=(hXV).cell 1 _ rfl
       have z2:=(hXV).cell 2 _ rfl
       have z3:=(hXV).cell 3 _ rfl
       have z4:=(hXV).cell 4 _ rfl
       have z5:=(hXV).cell 5 _ rfl
       have f0:=(hXV).free 0
       have f1:=(hXV).free 1
       have f2:=(hXV).free 2
       have f3:=(hXV).free 3
       have f4:=(hXV).free 4
       have f5:=(hXV).free 5
       obtain ⟨hY,hG⟩:=box_put6 hXV (.int .i64 b3.c0) (.int .i64 b3.c1) (.int .i64 b3.c2) (.int .i64 b3.c3) (.slice e1 p1 e3) (.slice e2 p2 e4)
       obtain ⟨Y,hYd⟩ : ∃ Y,Y = (((((wc.setCell ⟨w.heap.size,0,none⟩ (.int .i64 b3.c0)).setCell ⟨w.heap.size,1,none⟩ (.int .i64 b3.c1)).setCell ⟨w.heap.size,2,none⟩ (.int .i64 b3.c2)).setCell ⟨w.heap.size,3,none⟩ (.int .i64 b3.c3)).setCell ⟨w.heap.size,4,none⟩ (.slice e1 p1 e3)).setCell ⟨w.heap.size,5,none⟩ (.slice e2 p2 e4):=⟨_,rfl⟩
       rw [<- hYd] at hY hG
       have HYX:=qH hY
       have HYO:=qH (show BkO Y w.heap.size e1 p1 e3 e2 p2 e4 b3.ts b3.is from ⟨own_apartP HOB.out.t hG (fun q hq => (HOF.out.1 q hq).1),own_apartP HOB.out.i hG (fun q hq => (HOF.out.2 q hq).1)⟩)
       have HYB:=qH (grown_below HB2.out hG (Nat.le_refl _) HB2.out.size)
       have HYZ:=qH (HZ2.out.grown hG (by simp))
       have HYS : Hid (W.heap.size <= Y.heap.size):=qH (Nat.le_trans HS2.out hG.size)
       have HDN : Hid (doAllS b ds = doAllS b3 (ds.drop (k + 1))):=qH (by rw [HDP2.out,if_pos rfl])
       have HBN:=qH (bookB_right (HRT.out rfl))
       have HYD:=qH hYd
       have hwk : IntKind.i64.wrap ((k : Int) + 1) = (k : Int) + 1:=IntWalk.i64_in _ (by omega)
       clear hXV hY hG hYd HX2 HZ2 HO2 HB2 HS2 HDP2 HRT HOB HXB
       go_wp2_with fail
       rw [<- HYD.out]
       clear v0 v1 v2 v3 v4 v5 v6 z0 z1 z2 z3 z4 z5 f0 f1 f2 f3 f4 f5
       go_roundw
       case rel => exact ⟨k + 1,b3,e1,p1,e3,e2,p2,e4,by omega,by go_num,HYX,qH ⟨by rw [if_neg (by omega)];exact HYO.out,HOF.out⟩,HBN,HDN,HYB,HYZ,HYS⟩
       case measure => simp [intOf];omega
     · have hc2 : (cd != 0) = true:=by simpa using hc
       have v6:=HXB.out.cell 6 _ rfl
       have HRE : Hid ((doAllS b ds).2 = cd):=qH (by rw [HDP2.out,if_neg hc])
       have hZV:=HZ2.out
       have y0:=(HX2.out).cell 0 _ rfl
       have y1:=(HX2.out).cell 1 _ rfl
       have y2:=(HX2.out).cell 2 _ rfl
       have y3:=(HX2.out).cell 3 _ rfl
       have y4:=(HX2.out).cell 4 _ rfl
       have y5:=(HX2.out).cell 5 _ rfl
       have z0:=(hZV).cell 0 _ rfl
       have z1:=(hZV).cell 1 _ rfl
       have z2:=(hZV).cell 2 _ rfl
       have z3:=(hZV).cell 3 _ rfl
       have z4:=(hZV).cell 4 _ rfl
       have z5:=(hZV).cell 5 _ rfl
       have f0:=(hZV).free 0
       have f1:=(hZV).free 1
       have f2:=(hZV).free 2
       have f3:=(hZV).free 3
       have f4:=(hZV).free 4
       have f5:=(hZV).free 5
       obtain ⟨hY,hG⟩:=box_put6 hZV (.int .i64 b2.c0) (.int .i64 b2.c1) (.int .i64 b2.c2) (.int .i64 b2.c3) (.slice x1 m1 x3) (.slice x2 m2 x4)
       obtain ⟨Y,hYd⟩ : ∃ Y,Y = ((((((wc.setCell ⟨w.heap.size + 1,0,none⟩ (.int .i64 b2.c0)).setCell ⟨w.heap.size + 1,1,none⟩ (.int .i64 b2.c1)).setCell ⟨w.heap.size + 1,2,none⟩ (.int .i64 b2.c2)).setCell ⟨w.heap.size + 1,3,none⟩ (.int .i64 b2.c3)).setCell ⟨w.heap.size + 1,4,none⟩ (.slice x1 m1 x3)).setCell ⟨w.heap.size + 1,5,none⟩ (.slice x2 m2 x4)):=⟨_,rfl⟩
       rw [<- hYd] at hY hG
       have HYO:=qH (show BkO Y (if k = 0 then base else w.heap.size) x1 m1 x3 x2 m2 x4 b2.ts b2.is from ⟨own_apartP HO2.out.1.t hG (fun q hq => (HO2.out.2.1 q hq).2),own_apartP HO2.out.1.i hG (fun q hq => (HO2.out.2.2 q hq).2)⟩)
       have HYB:=qH (grown_below HB2.out hG (by omega) (by have:=HB2.out.size;omega))
       have g0:=(hY).cell 0 _ rfl
       have g1:=(hY).cell 1 _ rfl
       have g2:=(hY).cell 2 _ rfl
       have g3:=(hY).cell 3 _ rfl
       have g4:=(hY).cell 4 _ rfl
       have g5:=(hY).cell 5 _ rfl
       have HG:=qH (And.intro g0 (And.intro g1 (And.intro g2 (And.intro g3 (And.intro g4 g5)))))
       have HYD:=qH hYd
       clear hZV hY hG hYd g0 g1 g2 g3 g4 g5
       go_wp2_with fail
       rw [<- HYD.out]
       obtain ⟨g0,g1,g2,g3,g4,g5⟩:=HG.out
       clear y0 y1 y2 y3 y4 y5 z0 z1 z2 z3 z4 z5 f0 f1 f2 f3 f4 f5
       exact bodyPost_ret (v:=.tuple #[.agg #[.int .i64 b2.c0,.int .i64 b2.c1,.int .i64 b2.c2,.int .i64 b2.c3,.slice x1 m1 x3,.slice x2 m2 x4],.bool false]) (by simp [results,Tryz.results51,go_sem,g0,g1,g2,g3,g4,g5]) rfl ⟨b2.c0,b2.c1,b2.c2,b2.c3,x1,m1,x3,x2,m2,x4,by rw [HRE.out,decide_eq_false hc],fun h0 => absurd (HRE.out.symm.trans h0) hc,HYB.out⟩
  · obtain rfl : k = ln:=by omega
    have HRE : Hid (doAllS b ds = (b2,0)):=qH (by rw [HDO.out,List.drop_eq_nil_of_le (by omega)];rfl)
    have hZV:=HZ.out
    have y0:=(HX.out).cell 0 _ rfl
    have y1:=(HX.out).cell 1 _ rfl
    have y2:=(HX.out).cell 2 _ rfl
    have y3:=(HX.out).cell 3 _ rfl
    have y4:=(HX.out).cell 4 _ rfl
    have y5:=(HX.out).cell 5 _ rfl
    have z0:=(hZV).cell 0 _ rfl
    have z1:=(hZV).cell 1 _ rfl
    have z2:=(hZV).cell 2 _ rfl
    have z3:=(hZV).cell 3 _ rfl
    have z4:=(hZV).cell 4 _ rfl
    have z5:=(hZV).cell 5 _ rfl
    have f0:=(hZV).free 0
    have f1:=(hZV).free 1
    have f2:=(hZV).free 2
    have f3:=(hZV).free 3
    have f4:=(hZV).free 4
    have f5:=(hZV).free 5
    obtain ⟨hY,hG⟩:=box_put6 hZV (.int .i64 b2.c0) (.int .i64 b2.c1) (.int .i64 b2.c2) (.int .i64 b2.c3) (.slice x1 m1 x3) (.slice x2 m2 x4)
    obtain ⟨Y,hYd⟩ : ∃ Y,Y = ((((((wr.setCell ⟨w.heap.size + 1,0,none⟩ (.int .i64 b2.c0)).setCell ⟨w.heap.size + 1,1,none⟩ (.int .i64 b2.c1)).setCell ⟨w.heap.size + 1,2,none⟩ (.int .i64 b2.c2)).setCell ⟨w.heap.size + 1,3,none⟩ (.int .i64 b2.c3)).setCell ⟨w.heap.size + 1,4,none⟩ (.slice x1 m1 x3)).setCell ⟨w.heap.size + 1,5,none⟩ (.slice x2 m2 x4)):=⟨_,rfl⟩
    rw [<- hYd] at hY hG
    have HYO:=qH (show BkO Y (if k = 0 then base else w.heap.size) x1 m1 x3 x2 m2 x4 b2.ts b2.is from ⟨own_apartP HO.out.1.t hG (fun q hq => (HO.out.2.1 q hq).2),own_apartP HO.out.1.i hG (fun q hq => (HO.out.2.2 q hq).2)⟩)
    have HYB:=qH (grown_below HB.out hG (by omega) (by have:=HB.out.size;omega))
    have g0:=(hY).cell 0 _ rfl
    have g1:=(hY).cell 1 _ rfl
    have g2:=(hY).cell 2 _ rfl
    have g3:=(hY).cell 3 _ rfl
    have g4:=(hY).cell 4 _ rfl
    have g5:=(hY).cell 5 _ rfl
    have HG:=qH (And.intro g0 (And.intro g1 (And.intro g2 (And.intro g3 (And.intro g4 g5)))))
    have HYD:=qH hYd
    clear hZV hY hG hYd g0 g1 g2 g3 g4 g5
    go_wp2_with fail
    rw [<- HYD.out]
    obtain ⟨g0,g1,g2,g3,g4,g5⟩:=HG.out
    clear y0 y1 y2 y3 y4 y5 z0 z1 z2 z3 z4 z5 f0 f1 f2 f3 f4 f5
    exact bodyPost_ret (v:=.tuple #[.agg #[.int .i64 b2.c0,.int .i64 b2.c1,.int .i64 b2.c2,.int .i64 b2.c3,.slice x1 m1 x3,.slice x2 m2 x4],.bool true]) (by simp [results,Tryz.results51,go_sem,g0,g1,g2,g3,g4,g5]) rfl ⟨b2.c0,b2.c1,b2.c2,b2.c3,x1,m1,x3,x2,m2,x4,by rw [HRE.out];rfl,fun _ => by rw [HRE.out];exact ⟨by have:=HYO.out;rwa [if_neg (by omega)] at this,rfl,rfl,rfl,rfl⟩,HYB.out⟩
end Go.Proofs.YtbgoldeopmlbnaaGreatDoor
