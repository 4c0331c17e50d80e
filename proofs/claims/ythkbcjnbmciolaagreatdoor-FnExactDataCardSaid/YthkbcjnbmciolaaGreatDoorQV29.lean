/- Used by the law. -/
import Derived.Test.YthkbcjnbmciolaaGreatDoorQV25
set_option maxRecDepth 100000
set_option maxHeartbeats 16000000
namespace Go.Proofs.YthkbcjnbmciolaaGreatDoor
open Go.RowKit Go.PlainAid G MGet MGF IRow MNum MJoin
set_option linter.unusedVariables false
def NewBookN (b : Bk) (k : Nat) (w : World) (e : Ending) (w' : World) : Prop :=
 ∃ a1 n1 a3 a2 n2 a4,e = .returned (.tuple #[.agg #[.int .i64 b.c0,.int .i64 b.c1,.int .i64 b.c2,.int .i64 b.c3,.slice a1 n1 a3,.slice a2 n2 a4],.int .i64 (k : Int)]) /\ BkO w' w.heap.size a1 n1 a3 a2 n2 a4 b.ts b.is /\ Below w.heap.size w w'
theorem replayed_any (va : Option Addr) (n vc B : Nat) (rs : List Rw) (ls : List (List Dd)) (w : World) (hl : rs.length = n) (hn : ls.length = n) (hm : n <= 1048576) (h : SSL w B (.slice va n vc) rs (fun i => ls.getD i [])) (hr : ∀ l ∈ ls,LR l) :
 Calls Tryz.prog 82 #[.slice va n vc] w (NewBookN (rpS bk0 ls).1 (rpS bk0 ls).2 w):=by
 have HSL:=qH h
 have HRL:=qH hl
 have HLN:=qH hn
 have HLR:=qH hr
 clear h hl hn hr
 obtain ⟨W,hW⟩ : ∃ W,W = (w.alloc (.cells #[.int .i64 0,.int .i64 0,.int .i64 0,.int .i64 0,.slice none 0 0,.slice none 0 0] 43)).alloc (.cells #[.int .i64 0,.int .i64 0,.int .i64 0,.int .i64 0,.slice none 0 0,.slice none 0 0] 43):=⟨_,rfl⟩
 have HB0 : Hid (Below w.heap.size w W):=qH (by rw [hW];exact ((Below.refl _ _).alloc (Nat.le_refl _) _).alloc (by simp) _)
 have HZ0 : Hid (BoxC W w.heap.size [.int .i64 0,.int .i64 0,.int .i64 0,.int .i64 0,.slice none 0 0,.slice none 0 0]):=qH (by rw [hW];exact (BoxC.made w #[.int .i64 0,.int .i64 0,.int .i64 0,.int .i64 0,.slice none 0 0,.slice none 0 0] 43).alloc _)
 have HX0 : Hid (BoxC W (w.heap.size + 1) [.int .i64 0,.int .i64 0,.int .i64 0,.int .i64 0,.slice none 0 0,.slice none 0 0]):=qH (by rw [hW];have:=BoxC.made (w.alloc (.cells #[.int .i64 0,.int .i64 0,.int .i64 0,.int .i64 0,.slice none 0 0,.slice none 0 0] 43)) #[.int .i64 0,.int .i64 0,.int .i64 0,.int .i64 0,.slice none 0 0,.slice none 0 0] 43;rwa [World.size_alloc] at this)
 have HWS : Hid (w.heap.size + 1 + 1 = W.heap.size):=qH (by rw [hW,World.size_alloc,World.size_alloc])
 go_enter Tryz.func82,Tryz.ntmps82
 go_wp2_with fail
 rw [<- hW]
 clear hW
 go_loopw [10] (fun i wr => ∃ (k : Nat) (b : Bk) (x1 : Option Addr) (m1 x3 : Nat) (x2 : Option Addr) (m2 x4 : Nat),k <= n /\ i = .int .i64 k /\ Hid (BoxC wr (w.heap.size + 1) [.int .i64 b.c0,.int .i64 b.c1,.int .i64 b.c2,.int .i64 b.c3,.slice x1 m1 x3,.slice x2 m2 x4]) /\ Hid (BkO wr W.heap.size x1 m1 x3 x2 m2 x4 b.ts b.is) /\ Hid (bookB b = true) /\ Hid ((rpS bk0 ls).1 = (rpS b (ls.drop k)).1 /\ (rpS bk0 ls).2 = (rpS b (ls.drop k)).2 + k) /\ Hid (Below w.heap.size w wr) /\ Hid (BoxC wr w.heap.size [.int .i64 0,.int .i64 0,.int .i64 0,.int .i64 0,.slice none 0 0,.slice none 0 0]) /\ Hid (W.heap.size <= wr.heap.size)) (fun i _ => n - (intOf i).toNat)
 case atStart => exact ⟨0,bk0,none,0,0,none,0,0,Nat.zero_le _,rfl,HX0,qH ⟨World.ownsRow_nil _ _ _ _,World.ownsRow_nil _ _ _ _⟩,qH bookB_bk0,qH ⟨by rw [List.drop_zero],by rw [List.drop_zero];rfl⟩,HB0,HZ0,qH (Nat.le_refl _)⟩
 case round =>
  obtain ⟨k,b,x1,m1,x3,x2,m2,x4,hk,rfl,HX,HO,HBR,HRP,HB,HZ,HSZ⟩:=hrel
  clear HB0 HZ0 HX0
  by_cases hlt : k < n
  · have hlt2 : k < rs.length:=by rw [HRL.out];exact hlt
    have HS:=qH (HSL.out.below HB.out)
    have hs:=HS.out
    rw [<- HRL.out] at hs
    obtain ⟨g,o,rfl,hg,t0,hdd⟩:=hs.at hlt2
    clear hs
    have hin : 0 <= (k : Int) /\ (k : Int) < (n : Int):=by omega
    have hlk : k < ls.length:=by rw [HLN.out];exact hlt
    have HLM : Hid (LR (ls.getD k [])):=qH (HLR.out _ (by rw [show ls.getD k [] = ls[k] by simp [List.getD,List.getElem?_eq_getElem hlk]];exact List.getElem_mem hlk))
    have HDP : Hid (ls.drop k = ls.getD k [] :: ls.drop (k + 1)):=qH (by
     rw [show ls.getD k [] = ls[k]'hlk by simp [List.getD,List.getElem?_eq_getElem hlk]]
     exact List.drop_eq_getElem_cons hlk)
    have HDD:=qH hdd
    generalize ls.getD k [] = l at *
    generalize (rs.getD k rwD).a = ra at *
    generalize (rs.getD k rwD).n = rn at *
    generalize (rs.getD k rwD).c = rc at *
    have hrl : l.length = rn:=hdd.len
    have y0:=HX.out.cell 0 _ rfl
    have y1:=HX.out.cell 1 _ rfl
    have y2:=HX.out.cell 2 _ rfl
    have y3:=HX.out.cell 3 _ rfl
    have y4:=HX.out.cell 4 _ rfl
    have y5:=HX.out.cell 5 _ rfl
    clear hdd hlk
    go_wp2_with fail
    clear y0 y1 y2 y3 y4 y5 t0
    refine (doneAll_any b x1 x2 m1 m2 x3 x4 ra rn rc l wr HO.out.read HBR.out HDD.out (by rw [<- hrl];exact HLM.out.2.1) (fun t ht => HLM.out.2.2 t (by omega))).mono ?_
    rintro e w2 hnb
    have HRT:=qH (fun h0 => doAllS_right l HBR.out HLM.out.2.2 h0)
    have HRG:=qH (fun h0 => rpS_go (b:=b) (l:=l) (r:=ls.drop (k + 1)) h0)
    have HRN:=qH (fun h0 => rpS_no (b:=b) (l:=l) (r:=ls.drop (k + 1)) h0)
    rw [<- HDP.out] at HRG HRN
    generalize doAllS b l = r at *
    obtain ⟨b3,cd⟩:=r
    obtain ⟨e1,p1,e3,e2,p2,e4,rfl,ho,hb⟩:=hnb
    dsimp only at HRT HRG HRN ho ⊢
    have HO2:=qH (ho.mono HSZ.out)
    have HB2:=qH (HB.out.trans (hb.mono HB.out.size))
    have HX2:=qH (HX.out.below hb)
    have HZ2:=qH (HZ.out.below hb)
    have HOB:=qH (HO.out.below hb)
    have HSZ2:=qH (Nat.le_trans HSZ.out hb.size)
    clear ho hb HX HZ HO HB HSZ HS HDD
    obtain ⟨V,hV⟩ : ∃ V,V = w2.alloc (.cells #[.int .i64 b3.c0,.int .i64 b3.c1,.int .i64 b3.c2,.int .i64 b3.c3,.slice e1 p1 e3,.slice e2 p2 e4,.int .i64 cd] 142):=⟨_,rfl⟩
    have HVB : Hid (Below w2.heap.size w2 V):=qH (by rw [hV];exact (Below.refl _ _).alloc (Nat.le_refl _) _)
    have HVX : Hid (BoxC V w2.heap.size [.int .i64 b3.c0,.int .i64 b3.c1,.int .i64 b3.c2,.int .i64 b3.c3,.slice e1 p1 e3,.slice e2 p2 e4,.int .i64 cd]):=qH (by rw [hV];exact BoxC.made _ _ _)
    by_cases hc : cd = 0
    · subst hc
      have v6:=HVX.out.cell 6 _ rfl
      have v0:=HVX.out.cell 0 _ rfl
      have v1:=HVX.out.cell 1 _ rfl
      have v2:=HVX.out.cell 2 _ rfl
      have v3:=HVX.out.cell 3 _ rfl
      have v4:=HVX.out.cell 4 _ rfl
      have v5:=HVX.out.cell 5 _ rfl
      have hXV:=HX2.out.below HVB.out
      have z0:=hXV.cell 0 _ rfl
      have z1:=hXV.cell 1 _ rfl
      have z2:=hXV.cell 2 _ rfl
      have z3:=hXV.cell 3 _ rfl
      have z4:=hXV.cell 4 _ rfl
      have z5:=hXV.cell 5 _ rfl
      have f0:=hXV.free 0
      have f1:=hXV.free 1
      have f2:=hXV.free 2
      have f3:=hXV.free 3
      have f4:=hXV.free 4
      have f5:=hXV.free 5
      obtain ⟨hY,hG⟩:=box_put6 hXV (.int .i64 b3.c0) (.int .i64 b3.c1) (.int .i64 b3.c2) (.int .i64 b3.c3) (.slice e1 p1 e3) (.slice e2 p2 e4)
      obtain ⟨Y,hYd⟩ : ∃ Y,Y = (((((V.setCell ⟨w.heap.size + 1,0,none⟩ (.int .i64 b3.c0)).setCell ⟨w.heap.size + 1,1,none⟩ (.int .i64 b3.c1)).setCell ⟨w.heap.size + 1,2,none⟩ (.int .i64 b3.c2)).setCell ⟨w.heap.size + 1,3,none⟩ (.int .i64 b3.c3)).setCell ⟨w.heap.size + 1,4,none⟩ (.slice e1 p1 e3)).setCell ⟨w.heap.size + 1,5,none⟩ (.slice e2 p2 e4):=⟨_,rfl⟩
      rw [<- hYd] at hY hG
      have HYX:=qH hY
      have HYO:=qH (bkO_far (HO2.out.below HVB.out) hG (by have:=HWS.out;omega))
      have HYB:=qH (grown_below (HB2.out.trans (HVB.out.mono HB2.out.size)) hG (by omega) (Nat.le_trans HB2.out.size HVB.out.size))
      have HYZ:=qH ((HZ2.out.below HVB.out).grown hG (by simp))
      have HYS : Hid (W.heap.size <= Y.heap.size):=qH (Nat.le_trans (Nat.le_trans HSZ2.out HVB.out.size) hG.size)
      have HYR:=qH (HRT.out rfl)
      have HRE:=qH (HRG.out rfl)
      have hwk : IntKind.i64.wrap ((k : Int) + 1) = (k : Int) + 1:=IntWalk.i64_in _ (by omega)
      have HYD:=qH hYd
      clear hXV hY hG hYd HRT HRG HRN HO2 HB2 HX2 HZ2 HOB HSZ2 HVB
      subst hV
      go_wp2_with fail
      rw [<- HYD.out]
      clear z0 z1 z2 z3 z4 z5 f0 f1 f2 f3 f4 f5 v0 v1 v2 v3 v4 v5 v6
      go_roundw
      case rel =>
       refine ⟨k + 1,b3,e1,p1,e3,e2,p2,e4,by omega,by go_num,HYX,HYO,HYR,qH ?_,HYB,HYZ,HYS⟩
       rw [HRP.out.1,HRP.out.2,HRE.out]
       exact ⟨rfl,by dsimp only;omega⟩
      case measure => simp [intOf];omega
    · have hc2 : (cd != 0) = true:=by simpa using hc
      have v6:=HVX.out.cell 6 _ rfl
      have HRE:=qH (HRN.out hc)
      have HXB:=qH (HX2.out.below HVB.out)
      have HOB2:=qH (HOB.out.below HVB.out)
      have HBV:=qH (HB2.out.trans (HVB.out.mono HB2.out.size))
      have hXV:=HXB.out
      have hZV:=HZ2.out.below HVB.out
      have y0:=hXV.cell 0 _ rfl
      have y1:=hXV.cell 1 _ rfl
      have y2:=hXV.cell 2 _ rfl
      have y3:=hXV.cell 3 _ rfl
      have y4:=hXV.cell 4 _ rfl
      have y5:=hXV.cell 5 _ rfl
      have z0:=hZV.cell 0 _ rfl
      have z1:=hZV.cell 1 _ rfl
      have z2:=hZV.cell 2 _ rfl
      have z3:=hZV.cell 3 _ rfl
      have z4:=hZV.cell 4 _ rfl
      have z5:=hZV.cell 5 _ rfl
      have f0:=hZV.free 0
      have f1:=hZV.free 1
      have f2:=hZV.free 2
      have f3:=hZV.free 3
      have f4:=hZV.free 4
      have f5:=hZV.free 5
      obtain ⟨hY,hG⟩:=box_put6 hZV (.int .i64 b.c0) (.int .i64 b.c1) (.int .i64 b.c2) (.int .i64 b.c3) (.slice x1 m1 x3) (.slice x2 m2 x4)
      obtain ⟨Y,hYd⟩ : ∃ Y,Y = ((((((V.setCell ⟨w.heap.size,0,none⟩ (.int .i64 b.c0)).setCell ⟨w.heap.size,1,none⟩ (.int .i64 b.c1)).setCell ⟨w.heap.size,2,none⟩ (.int .i64 b.c2)).setCell ⟨w.heap.size,3,none⟩ (.int .i64 b.c3)).setCell ⟨w.heap.size,4,none⟩ (.slice x1 m1 x3)).setCell ⟨w.heap.size,5,none⟩ (.slice x2 m2 x4)):=⟨_,rfl⟩
      rw [<- hYd] at hY hG
      have HYO:=qH (bkO_far HOB2.out hG (by have:=HWS.out;omega))
      have HYB:=qH (grown_below HBV.out hG (Nat.le_refl _) (by have:=HBV.out.size;omega))
      have g0:=hY.cell 0 _ rfl
      have g1:=hY.cell 1 _ rfl
      have g2:=hY.cell 2 _ rfl
      have g3:=hY.cell 3 _ rfl
      have g4:=hY.cell 4 _ rfl
      have g5:=hY.cell 5 _ rfl
      have HG:=qH (And.intro g0 (And.intro g1 (And.intro g2 (And.intro g3 (And.intro g4 g5)))))
      have HYD:=qH hYd
      clear hXV hZV hY hG hYd g0 g1 g2 g3 g4 g5
      clear HRT HRG HRN HO2 HB2 HX2 HZ2 HOB HSZ2 HVB
      subst hV
      go_wp2_with fail
      rw [<- HYD.out]
      obtain ⟨g0,g1,g2,g3,g4,g5⟩:=HG.out
      clear y0 y1 y2 y3 y4 y5 z0 z1 z2 z3 z4 z5 f0 f1 f2 f3 f4 f5 v6
      exact bodyPost_ret (v:=.tuple #[.agg #[.int .i64 b.c0,.int .i64 b.c1,.int .i64 b.c2,.int .i64 b.c3,.slice x1 m1 x3,.slice x2 m2 x4],.int .i64 (k : Int)]) (by simp [results,Tryz.results82,go_sem,g0,g1,g2,g3,g4,g5]) rfl (by
       rw [show (rpS bk0 ls).1 = b by rw [HRP.out.1,HRE.out],show (rpS bk0 ls).2 = k by rw [HRP.out.2,HRE.out];simp]
       exact ⟨x1,m1,x3,x2,m2,x4,rfl,HYO.out.mono (by have:=HWS.out;omega),HYB.out⟩)
  · obtain rfl : k = n:=by omega
    have HRE : Hid (rpS b (ls.drop k) = (b,0)):=qH (by rw [List.drop_eq_nil_of_le (by rw [HLN.out];exact Nat.le_refl _)];rfl)
    have hXV:=HX.out
    have hZV:=HZ.out
    have y0:=hXV.cell 0 _ rfl
    have y1:=hXV.cell 1 _ rfl
    have y2:=hXV.cell 2 _ rfl
    have y3:=hXV.cell 3 _ rfl
    have y4:=hXV.cell 4 _ rfl
    have y5:=hXV.cell 5 _ rfl
    have z0:=hZV.cell 0 _ rfl
    have z1:=hZV.cell 1 _ rfl
    have z2:=hZV.cell 2 _ rfl
    have z3:=hZV.cell 3 _ rfl
    have z4:=hZV.cell 4 _ rfl
    have z5:=hZV.cell 5 _ rfl
    have f0:=hZV.free 0
    have f1:=hZV.free 1
    have f2:=hZV.free 2
    have f3:=hZV.free 3
    have f4:=hZV.free 4
    have f5:=hZV.free 5
    obtain ⟨hY,hG⟩:=box_put6 hZV (.int .i64 b.c0) (.int .i64 b.c1) (.int .i64 b.c2) (.int .i64 b.c3) (.slice x1 m1 x3) (.slice x2 m2 x4)
    obtain ⟨Y,hYd⟩ : ∃ Y,Y = ((((((wr.setCell ⟨w.heap.size,0,none⟩ (.int .i64 b.c0)).setCell ⟨w.heap.size,1,none⟩ (.int .i64 b.c1)).setCell ⟨w.heap.size,2,none⟩ (.int .i64 b.c2)).setCell ⟨w.heap.size,3,none⟩ (.int .i64 b.c3)).setCell ⟨w.heap.size,4,none⟩ (.slice x1 m1 x3)).setCell ⟨w.heap.size,5,none⟩ (.slice x2 m2 x4)):=⟨_,rfl⟩
    rw [<- hYd] at hY hG
    have HYO:=qH (bkO_far HO.out hG (by have:=HWS.out;omega))
    have HYB:=qH (grown_below HB.out hG (Nat.le_refl _) (by have:=HB.out.size;omega))
    have g0:=hY.cell 0 _ rfl
    have g1:=hY.cell 1 _ rfl
    have g2:=hY.cell 2 _ rfl
    have g3:=hY.cell 3 _ rfl
    have g4:=hY.cell 4 _ rfl
    have g5:=hY.cell 5 _ rfl
    have HG:=qH (And.intro g0 (And.intro g1 (And.intro g2 (And.intro g3 (And.intro g4 g5)))))
    have HYD:=qH hYd
    clear hXV hZV hY hG hYd g0 g1 g2 g3 g4 g5
    clear HX HZ HO HB HSZ
    go_wp2_with fail
    rw [<- HYD.out]
    obtain ⟨g0,g1,g2,g3,g4,g5⟩:=HG.out
    clear y0 y1 y2 y3 y4 y5 z0 z1 z2 z3 z4 z5 f0 f1 f2 f3 f4 f5
    exact bodyPost_ret (v:=.tuple #[.agg #[.int .i64 b.c0,.int .i64 b.c1,.int .i64 b.c2,.int .i64 b.c3,.slice x1 m1 x3,.slice x2 m2 x4],.int .i64 (k : Int)]) (by simp [results,Tryz.results82,go_sem,g0,g1,g2,g3,g4,g5]) rfl (by
     rw [show (rpS bk0 ls).1 = b by rw [HRP.out.1,HRE.out],show (rpS bk0 ls).2 = k by rw [HRP.out.2,HRE.out];simp]
     exact ⟨x1,m1,x3,x2,m2,x4,rfl,HYO.out.mono (by have:=HWS.out;omega),HYB.out⟩)
end Go.Proofs.YthkbcjnbmciolaaGreatDoor
namespace Go.Proofs.YthkbcjnbmciolaaGreatDoor
open Go.RowKit Go.PlainAid G IRow MNum MJoin
set_option linter.unusedVariables false
def deedT (q0 q1 q2 q3 q4 q5 : Int) (q6 q7 : ByteArray) (q8 : Int) (q9 : ByteArray) : ByteArray :=
 if q0 = 1 then numS q0 ++ numS q1 ++ numS q2 ++ numS q3 ++ numS q4 else if q0 = 2 then numS q0 ++ numS q5 ++ putTextS q6 else if q0 = 3 then numS q0 ++ putTextS q7 ++ numS q8 ++ putTextS q9 else numS q0 ++ putTextS q7
def deedTx (d : Dd) : ByteArray:=deedT d.kd d.gn d.nd d.mn d.ck d.no d.lk d.nm d.tm d.bd
theorem i64_in {n : Int} (h1 : -9000000000000000000 <= n) (h2 : n <= 9000000000000000000) : i64P n:=by unfold i64P;omega
theorem deedB_bounds {q0 q1 q2 q3 q4 q5 : Int} {q6 q7 : ByteArray} {q8 : Int} {q9 : ByteArray} (h : deedB q0 q1 q2 q3 q4 q5 q6 q7 q8 q9 = true) : (q0 = 1 /\ (1 <= q1 /\ q1 <= 999) /\ (1 <= q2 /\ q2 <= 10) /\ (q2 <= q3 /\ q3 <= 20) /\ (0 <= q4 /\ q4 <= 4294967295)) ∨ (q0 = 2 /\ (1 <= q5 /\ q5 <= 5) /\ (1 <= q6.size /\ q6.size <= 16)) ∨ (q0 = 3 /\ (1 <= q7.size /\ q7.size <= 8) /\ (1 <= q8 /\ q8 <= 5) /\ (1 <= q9.size /\ q9.size <= 20)) ∨ (q0 = 4 /\ (1 <= q7.size /\ q7.size <= 8)):=by
 unfold deedB at h
 by_cases k1 : q0 = 1
 · rw [if_pos k1] at h
   simp only [Bool.and_eq_true] at h
   exact .inl ⟨k1,confB_iff.1 h.1.1⟩
 · rw [if_neg k1] at h
   by_cases k2 : q0 = 2
   · rw [if_pos k2] at h
     simp only [Bool.and_eq_true] at h
     exact .inr (.inl ⟨k2,termB_iff.1 h.1.2⟩)
   · rw [if_neg k2] at h
     by_cases k3 : q0 = 3
     · rw [if_pos k3] at h
       simp only [Bool.and_eq_true] at h
       obtain ⟨h1,h2,h3⟩:=itemB_iff.1 h.2
       exact .inr (.inr (.inl ⟨k3,wordB_size h1,h2,h3⟩))
     · rw [if_neg k3] at h
       by_cases k4 : q0 = 4
       · rw [if_pos k4] at h
         simp only [Bool.and_eq_true] at h
         exact .inr (.inr (.inr ⟨k4,wordB_size h.2⟩))
       · rw [if_neg k4] at h
         cases h
theorem l07Deed_any (q0 q1 q2 q3 q4 q5 : Int) (q6 q7 : ByteArray) (q8 : Int) (q9 : ByteArray) (w : World) (hB : deedB q0 q1 q2 q3 q4 q5 q6 q7 q8 q9 = true) :
 Calls Tryz.prog 120 #[.agg #[.int .i64 q0,.int .i64 q1,.int .i64 q2,.int .i64 q3,.int .i64 q4,.int .i64 q5,.string q6,.string q7,.int .i64 q8,.string q9]] w fun e w' => e = .returned (.string (deedT q0 q1 q2 q3 q4 q5 q6 q7 q8 q9)) /\ Below w.heap.size w w':=by
 have hbd:=deedB_bounds hB
 clear hB
 obtain ⟨W,hW⟩ : ∃ W,W = w.alloc (.cells #[.int .i64 q0,.int .i64 q1,.int .i64 q2,.int .i64 q3,.int .i64 q4,.int .i64 q5,.string q6,.string q7,.int .i64 q8,.string q9] 145):=⟨_,rfl⟩
 have HA : Hid (BoxC W w.heap.size [.int .i64 q0,.int .i64 q1,.int .i64 q2,.int .i64 q3,.int .i64 q4,.int .i64 q5,.string q6,.string q7,.int .i64 q8,.string q9]):=qH (by rw [hW];exact BoxC.made _ _ _)
 have HW0 : Hid (Below w.heap.size w W):=qH (by rw [hW];exact (Below.refl _ _).alloc (Nat.le_refl _) _)
 have HC : Hid (∀ u : World,Below W.heap.size W u -> u.cell? ⟨w.heap.size,0,none⟩ = some (.int .i64 q0) /\ u.cell? ⟨w.heap.size,1,none⟩ = some (.int .i64 q1) /\ u.cell? ⟨w.heap.size,2,none⟩ = some (.int .i64 q2) /\ u.cell? ⟨w.heap.size,3,none⟩ = some (.int .i64 q3) /\ u.cell? ⟨w.heap.size,4,none⟩ = some (.int .i64 q4) /\ u.cell? ⟨w.heap.size,5,none⟩ = some (.int .i64 q5) /\ u.cell? ⟨w.heap.size,6,none⟩ = some (.string q6) /\ u.cell? ⟨w.heap.size,7,none⟩ = some (.string q7) /\ u.cell? ⟨w.heap.size,8,none⟩ = some (.int .i64 q8) /\ u.cell? ⟨w.heap.size,9,none⟩ = some (.string q9)):=qH (fun u hu => ⟨(HA.out.below hu).cell 0 _ rfl,(HA.out.below hu).cell 1 _ rfl,(HA.out.below hu).cell 2 _ rfl,(HA.out.below hu).cell 3 _ rfl,(HA.out.below hu).cell 4 _ rfl,(HA.out.below hu).cell 5 _ rfl,(HA.out.below hu).cell 6 _ rfl,(HA.out.below hu).cell 7 _ rfl,(HA.out.below hu).cell 8 _ rfl,(HA.out.below hu).cell 9 _ rfl⟩)
 clear HA
 rcases hbd with hbd | hbd | hbd | hbd
 · obtain ⟨rfl,hbd⟩:=hbd
   have P0 : Hid (∀ u,Calls Tryz.prog 119 #[.int .i64 1] u fun e w' => e = .returned (.string (numS 1)) /\ Below u.heap.size u w'):=qH (fun u => specPutNum_any 1 u (i64_in (by omega) (by omega)))
   have z0:=(numS_size 1).2
   have P1 : Hid (∀ u,Calls Tryz.prog 119 #[.int .i64 q1] u fun e w' => e = .returned (.string (numS q1)) /\ Below u.heap.size u w'):=qH (fun u => specPutNum_any q1 u (i64_in (by omega) (by omega)))
   have z1:=(numS_size q1).2
   have P2 : Hid (∀ u,Calls Tryz.prog 119 #[.int .i64 q2] u fun e w' => e = .returned (.string (numS q2)) /\ Below u.heap.size u w'):=qH (fun u => specPutNum_any q2 u (i64_in (by omega) (by omega)))
   have z2:=(numS_size q2).2
   have P3 : Hid (∀ u,Calls Tryz.prog 119 #[.int .i64 q3] u fun e w' => e = .returned (.string (numS q3)) /\ Below u.heap.size u w'):=qH (fun u => specPutNum_any q3 u (i64_in (by omega) (by omega)))
   have z3:=(numS_size q3).2
   have P4 : Hid (∀ u,Calls Tryz.prog 119 #[.int .i64 q4] u fun e w' => e = .returned (.string (numS q4)) /\ Below u.heap.size u w'):=qH (fun u => specPutNum_any q4 u (i64_in (by omega) (by omega)))
   have z4:=(numS_size q4).2
   have HT : Hid (numS 1 ++ numS q1 ++ numS q2 ++ numS q3 ++ numS q4 = deedT 1 q1 q2 q3 q4 q5 q6 q7 q8 q9):=qH rfl
   generalize numS 1 = p0 at *
   generalize numS q1 = p1 at *
   generalize numS q2 = p2 at *
   generalize numS q3 = p3 at *
   generalize numS q4 = p4 at *
   have r0 : ∀ u : World,(Op.stringOp .add (p0) p1).run Tryz.prog u = .ok (.string (p0 ++ p1)) u:=fun u => run_string_add_sum u _ _ (by omega)
   have s1 : (p0 ++ p1).size <= 300:=by rw [ByteArray.size_append];omega
   have r1 : ∀ u : World,(Op.stringOp .add (p0 ++ p1) p2).run Tryz.prog u = .ok (.string (p0 ++ p1 ++ p2)) u:=fun u => run_string_add_sum u _ _ (by omega)
   have s2 : (p0 ++ p1 ++ p2).size <= 400:=by rw [ByteArray.size_append];omega
   have r2 : ∀ u : World,(Op.stringOp .add (p0 ++ p1 ++ p2) p3).run Tryz.prog u = .ok (.string (p0 ++ p1 ++ p2 ++ p3)) u:=fun u => run_string_add_sum u _ _ (by omega)
   have s3 : (p0 ++ p1 ++ p2 ++ p3).size <= 500:=by rw [ByteArray.size_append];omega
   have r3 : ∀ u : World,(Op.stringOp .add (p0 ++ p1 ++ p2 ++ p3) p4).run Tryz.prog u = .ok (.string (p0 ++ p1 ++ p2 ++ p3 ++ p4)) u:=fun u => run_string_add_sum u _ _ (by omega)
   clear z0 hbd z1 z2 z3 z4 s1 s2 s3
   go_enter Tryz.func120,Tryz.ntmps120
   go_wp2_with fail
   rw [<- hW]
   clear hW
   refine Calls.mono (P0.out _) ?_
   rintro e w1 ⟨rfl,hb⟩
   have hFn : Below W.heap.size W w1:=hb
   clear hb
   obtain ⟨x0,x1,x2,x3,x4,x5,x6,x7,x8,x9⟩:=HC.out _ hFn
   skip
   go_wp2_with fail
   clear x0 x1 x2 x3 x4 x5 x6 x7 x8 x9
   replace hFn:=hFn.drew
   go_region_held3 (fun u => u.cell? ⟨w.heap.size,1,none⟩ = some (.int .i64 q1) /\ u.cell? ⟨w.heap.size,2,none⟩ = some (.int .i64 q2) /\ u.cell? ⟨w.heap.size,3,none⟩ = some (.int .i64 q3) /\ u.cell? ⟨w.heap.size,4,none⟩ = some (.int .i64 q4)) (exact ⟨(HC.out _ hFn).2.1,(HC.out _ hFn).2.2.1,(HC.out _ hFn).2.2.2.1,(HC.out _ hFn).2.2.2.2.1⟩)
    (first | (go_at_call 119;(with_reducible refine Calls.mono (P1.out _) ?_);rintro e w1 ⟨rfl,hb⟩;have hFn:=hFn.trans (hb.mono hFn.size)) | (go_at_call 119;(with_reducible refine Calls.mono (P2.out _) ?_);rintro e w1 ⟨rfl,hb⟩;have hFn:=hFn.trans (hb.mono hFn.size)) | (go_at_call 119;(with_reducible refine Calls.mono (P3.out _) ?_);rintro e w1 ⟨rfl,hb⟩;have hFn:=hFn.trans (hb.mono hFn.size)) | (go_at_call 119;(with_reducible refine Calls.mono (P4.out _) ?_);rintro e w1 ⟨rfl,hb⟩;have hFn:=hFn.trans (hb.mono hFn.size)))
   all_goals
    go_wp2_with fail
    go_ret
    exact ⟨ret_string HT.out,HW0.out.trans (hFn.mono HW0.out.size)⟩
 · obtain ⟨rfl,hbd⟩:=hbd
   have P0 : Hid (∀ u,Calls Tryz.prog 119 #[.int .i64 2] u fun e w' => e = .returned (.string (numS 2)) /\ Below u.heap.size u w'):=qH (fun u => specPutNum_any 2 u (i64_in (by omega) (by omega)))
   have z0:=(numS_size 2).2
   have P5 : Hid (∀ u,Calls Tryz.prog 119 #[.int .i64 q5] u fun e w' => e = .returned (.string (numS q5)) /\ Below u.heap.size u w'):=qH (fun u => specPutNum_any q5 u (i64_in (by omega) (by omega)))
   have z5:=(numS_size q5).2
   have P6 : Hid (∀ u,Calls Tryz.prog 121 #[.string q6] u fun e w' => e = .returned (.string (putTextS q6)) /\ Below u.heap.size u w'):=qH (fun u => specPutText_any q6 u (by unfold maxLen;omega))
   have z6 : (putTextS q6).size <= 100:=by rw [putTextS_short (by omega),ByteArray.size_append];have:=(numS_size (q6.size : Int)).2;omega
   have HT : Hid (numS 2 ++ numS q5 ++ putTextS q6 = deedT 2 q1 q2 q3 q4 q5 q6 q7 q8 q9):=qH rfl
   generalize numS 2 = p0 at *
   generalize numS q5 = p5 at *
   generalize putTextS q6 = p6 at *
   have r0 : ∀ u : World,(Op.stringOp .add (p0) p5).run Tryz.prog u = .ok (.string (p0 ++ p5)) u:=fun u => run_string_add_sum u _ _ (by omega)
   have s1 : (p0 ++ p5).size <= 300:=by rw [ByteArray.size_append];omega
   have r1 : ∀ u : World,(Op.stringOp .add (p0 ++ p5) p6).run Tryz.prog u = .ok (.string (p0 ++ p5 ++ p6)) u:=fun u => run_string_add_sum u _ _ (by omega)
   clear z0 hbd z5 z6 s1
   go_enter Tryz.func120,Tryz.ntmps120
   go_wp2_with fail
   rw [<- hW]
   clear hW
   refine Calls.mono (P0.out _) ?_
   rintro e w1 ⟨rfl,hb⟩
   have hFn : Below W.heap.size W w1:=hb
   clear hb
   obtain ⟨x0,x1,x2,x3,x4,x5,x6,x7,x8,x9⟩:=HC.out _ hFn
   skip
   go_wp2_with fail
   clear x0 x1 x2 x3 x4 x5 x6 x7 x8 x9
   replace hFn:=hFn.drew
   go_region_held3 (fun u => u.cell? ⟨w.heap.size,5,none⟩ = some (.int .i64 q5) /\ u.cell? ⟨w.heap.size,6,none⟩ = some (.string q6)) (exact ⟨(HC.out _ hFn).2.2.2.2.2.1,(HC.out _ hFn).2.2.2.2.2.2.1⟩)
    (first | (go_at_call 119;(with_reducible refine Calls.mono (P5.out _) ?_);rintro e w1 ⟨rfl,hb⟩;have hFn:=hFn.trans (hb.mono hFn.size)) | (go_at_call 121;(with_reducible refine Calls.mono (P6.out _) ?_);rintro e w1 ⟨rfl,hb⟩;have hFn:=hFn.trans (hb.mono hFn.size)))
   all_goals
    go_wp2_with fail
    go_ret
    exact ⟨ret_string HT.out,HW0.out.trans (hFn.mono HW0.out.size)⟩
 · obtain ⟨rfl,hbd⟩:=hbd
   have P0 : Hid (∀ u,Calls Tryz.prog 119 #[.int .i64 3] u fun e w' => e = .returned (.string (numS 3)) /\ Below u.heap.size u w'):=qH (fun u => specPutNum_any 3 u (i64_in (by omega) (by omega)))
   have z0:=(numS_size 3).2
   have P7 : Hid (∀ u,Calls Tryz.prog 121 #[.string q7] u fun e w' => e = .returned (.string (putTextS q7)) /\ Below u.heap.size u w'):=qH (fun u => specPutText_any q7 u (by unfold maxLen;omega))
   have z7 : (putTextS q7).size <= 100:=by rw [putTextS_short (by omega),ByteArray.size_append];have:=(numS_size (q7.size : Int)).2;omega
   have P8 : Hid (∀ u,Calls Tryz.prog 119 #[.int .i64 q8] u fun e w' => e = .returned (.string (numS q8)) /\ Below u.heap.size u w'):=qH (fun u => specPutNum_any q8 u (i64_in (by omega) (by omega)))
   have z8:=(numS_size q8).2
   have P9 : Hid (∀ u,Calls Tryz.prog 121 #[.string q9] u fun e w' => e = .returned (.string (putTextS q9)) /\ Below u.heap.size u w'):=qH (fun u => specPutText_any q9 u (by unfold maxLen;omega))
   have z9 : (putTextS q9).size <= 100:=by rw [putTextS_short (by omega),ByteArray.size_append];have:=(numS_size (q9.size : Int)).2;omega
   have HT : Hid (numS 3 ++ putTextS q7 ++ numS q8 ++ putTextS q9 = deedT 3 q1 q2 q3 q4 q5 q6 q7 q8 q9):=qH rfl
   generalize numS 3 = p0 at *
   generalize putTextS q7 = p7 at *
   generalize numS q8 = p8 at *
   generalize putTextS q9 = p9 at *
   have r0 : ∀ u : World,(Op.stringOp .add (p0) p7).run Tryz.prog u = .ok (.string (p0 ++ p7)) u:=fun u => run_string_add_sum u _ _ (by omega)
   have s1 : (p0 ++ p7).size <= 300:=by rw [ByteArray.size_append];omega
   have r1 : ∀ u : World,(Op.stringOp .add (p0 ++ p7) p8).run Tryz.prog u = .ok (.string (p0 ++ p7 ++ p8)) u:=fun u => run_string_add_sum u _ _ (by omega)
   have s2 : (p0 ++ p7 ++ p8).size <= 400:=by rw [ByteArray.size_append];omega
   have r2 : ∀ u : World,(Op.stringOp .add (p0 ++ p7 ++ p8) p9).run Tryz.prog u = .ok (.string (p0 ++ p7 ++ p8 ++ p9)) u:=fun u => run_string_add_sum u _ _ (by omega)
   clear z0 hbd z7 z8 z9 s1 s2
   go_enter Tryz.func120,Tryz.ntmps120
   go_wp2_with fail
   rw [<- hW]
   clear hW
   refine Calls.mono (P0.out _) ?_
   rintro e w1 ⟨rfl,hb⟩
   have hFn : Below W.heap.size W w1:=hb
   clear hb
   obtain ⟨x0,x1,x2,x3,x4,x5,x6,x7,x8,x9⟩:=HC.out _ hFn
   skip
   go_wp2_with fail
   clear x0 x1 x2 x3 x4 x5 x6 x7 x8 x9
   replace hFn:=hFn.drew
   go_region_held3 (fun u => u.cell? ⟨w.heap.size,7,none⟩ = some (.string q7) /\ u.cell? ⟨w.heap.size,8,none⟩ = some (.int .i64 q8) /\ u.cell? ⟨w.heap.size,9,none⟩ = some (.string q9)) (exact ⟨(HC.out _ hFn).2.2.2.2.2.2.2.1,(HC.out _ hFn).2.2.2.2.2.2.2.2.1,(HC.out _ hFn).2.2.2.2.2.2.2.2.2⟩)
    (first | (go_at_call 121;(with_reducible refine Calls.mono (P7.out _) ?_);rintro e w1 ⟨rfl,hb⟩;have hFn:=hFn.trans (hb.mono hFn.size)) | (go_at_call 119;(with_reducible refine Calls.mono (P8.out _) ?_);rintro e w1 ⟨rfl,hb⟩;have hFn:=hFn.trans (hb.mono hFn.size)) | (go_at_call 121;(with_reducible refine Calls.mono (P9.out _) ?_);rintro e w1 ⟨rfl,hb⟩;have hFn:=hFn.trans (hb.mono hFn.size)))
   all_goals
    go_wp2_with fail
    go_ret
    exact ⟨ret_string HT.out,HW0.out.trans (hFn.mono HW0.out.size)⟩
 · obtain ⟨rfl,hbd⟩:=hbd
   have P0 : Hid (∀ u,Calls Tryz.prog 119 #[.int .i64 4] u fun e w' => e = .returned (.string (numS 4)) /\ Below u.heap.size u w'):=qH (fun u => specPutNum_any 4 u (i64_in (by omega) (by omega)))
   have z0:=(numS_size 4).2
   have P7 : Hid (∀ u,Calls Tryz.prog 121 #[.string q7] u fun e w' => e = .returned (.string (putTextS q7)) /\ Below u.heap.size u w'):=qH (fun u => specPutText_any q7 u (by unfold maxLen;omega))
   have z7 : (putTextS q7).size <= 100:=by rw [putTextS_short (by omega),ByteArray.size_append];have:=(numS_size (q7.size : Int)).2;omega
   have HT : Hid (numS 4 ++ putTextS q7 = deedT 4 q1 q2 q3 q4 q5 q6 q7 q8 q9):=qH rfl
   generalize numS 4 = p0 at *
   generalize putTextS q7 = p7 at *
   have r0 : ∀ u : World,(Op.stringOp .add (p0) p7).run Tryz.prog u = .ok (.string (p0 ++ p7)) u:=fun u => run_string_add_sum u _ _ (by omega)
   clear z0 hbd z7 
   go_enter Tryz.func120,Tryz.ntmps120
   go_wp2_with fail
   rw [<- hW]
   clear hW
   refine Calls.mono (P0.out _) ?_
   rintro e w1 ⟨rfl,hb⟩
   have hFn : Below W.heap.size W w1:=hb
   clear hb
   obtain ⟨x0,x1,x2,x3,x4,x5,x6,x7,x8,x9⟩:=HC.out _ hFn
   skip
   go_wp2_with fail
   clear x0 x1 x2 x3 x4 x5 x6 x7 x8 x9
   refine Calls.mono (P7.out _) ?_
   rintro e w2 ⟨rfl,hb⟩
   replace hFn:=hFn.trans (hb.mono hFn.size)
   clear hb
   go_wp2_with fail
   go_ret
   exact ⟨ret_string HT.out,HW0.out.trans (hFn.mono HW0.out.size)⟩
end Go.Proofs.YthkbcjnbmciolaaGreatDoor
namespace Go.Proofs.YthkbcjnbmciolaaGreatDoor
open Go.RowKit Go.PlainAid G IRow MNum MJoin MCrc
set_option linter.unusedVariables false
def txTo (ds : List Dd) (k : Nat) : ByteArray:=(ds.take k).foldl (fun t d => t ++ deedTx d) (numS (ds.length : Int))
theorem txTo_zero (ds : List Dd) : txTo ds 0 = numS (ds.length : Int):=rfl
theorem txTo_succ {ds : List Dd} {k : Nat} (h : k < ds.length) : txTo ds (k + 1) = txTo ds k ++ deedTx (ds.getD k ddD):=by
 unfold txTo
 have e : ds.take (k + 1) = ds.take k ++ [ds.getD k ddD]:=by
  rw [show ds.getD k ddD = ds[k] by simp [List.getD,List.getElem?_eq_getElem h]]
  exact (List.take_append_getElem h).symm
 rw [e,List.foldl_append]
 rfl
def txOk (ds : List Dd) : Bool:=decide (1 <= ds.length /\ ds.length <= 10) && allTo' (fun i => deedOf (ds.getD i ddD)) ds.length
def txS (ds : List Dd) : ByteArray:=if txOk ds = true then putTextS (sealS (txTo ds ds.length)) else ⟨#[]⟩
theorem txS_no {ds : List Dd} (h : txOk ds = false) : txS ds = ⟨#[]⟩:=by unfold txS;rw [if_neg (by rw [h];decide)]
theorem txS_yes {ds : List Dd} (h : txOk ds = true) : txS ds = putTextS (sealS (txTo ds ds.length)):=by unfold txS;rw [if_pos h]
theorem deedT_size {q0 q1 q2 q3 q4 q5 : Int} {q6 q7 : ByteArray} {q8 : Int} {q9 : ByteArray} (h : deedB q0 q1 q2 q3 q4 q5 q6 q7 q8 q9 = true) : (deedT q0 q1 q2 q3 q4 q5 q6 q7 q8 q9).size <= 200:=by
 have a0:=(numS_size q0).2
 have a1:=(numS_size q1).2
 have a2:=(numS_size q2).2
 have a3:=(numS_size q3).2
 have a4:=(numS_size q4).2
 have a5:=(numS_size q5).2
 have a8:=(numS_size q8).2
 have pt : ∀ t : ByteArray,t.size <= 20 -> (putTextS t).size <= 30:=fun t ht => by
  rw [putTextS_short (by omega),ByteArray.size_append]
  have:=(numS_size (t.size : Int)).2
  omega
 unfold deedT
 rcases deedB_bounds h with ⟨rfl,_⟩ | ⟨rfl,_,h6,h7⟩ | ⟨rfl,⟨_,h7⟩,_,_,h9⟩ | ⟨rfl,_,h7⟩
 · simp only [if_pos,ByteArray.size_append];omega
 · have:=pt q6 (by omega)
   rw [if_neg (by decide),if_pos rfl]
   simp only [ByteArray.size_append];omega
 · have:=pt q7 (by omega)
   have:=pt q9 (by omega)
   rw [if_neg (by decide),if_neg (by decide),if_pos rfl]
   simp only [ByteArray.size_append];omega
 · have:=pt q7 (by omega)
   rw [if_neg (by decide),if_neg (by decide),if_neg (by decide)]
   simp only [ByteArray.size_append];omega
theorem specTxBytes_any (a : Option Addr) (n cap : Nat) (ds : List Dd) (w : World) (h : DdR w a n cap ds) (hn : n <= 1048576) (hs : ∀ t,t < n -> (ds.getD t ddD).lk.size <= maxLen /\ (ds.getD t ddD).nm.size <= maxLen /\ (ds.getD t ddD).bd.size <= maxLen) :
 Calls Tryz.prog 97 #[.slice a n cap] w fun e w' => e = .returned (.string (txS ds)) /\ Below w.heap.size w w':=by
 have hl : ds.length = n:=h.len
 have HS:=qH hs
 clear hs
 by_cases h1 : 1 <= n
 · by_cases h2 : n <= 10
   · have hz:=(numS_size (n : Int)).2
     go_enter Tryz.func97,Tryz.ntmps97
     go_wp2_with fail
     refine (specPutNum_any (n : Int) _ (i64_in (by omega) (by omega))).mono ?_
     rintro e w1 ⟨rfl,hb⟩
     have HB1:=qH hb
     clear hb
     go_wp2_with fail
     go_loopw [3,4] (fun t i wr => ∃ k : Nat,k <= n /\ i = .int .i64 k /\ t = .string (txTo ds k) /\ (txTo ds k).size <= 10 + 200 * k /\ Hid (allTo' (fun i => deedOf (ds.getD i ddD)) k = true) /\ Below w.heap.size w wr) (fun _ i _ => n - (intOf i).toNat)
     case atStart => exact ⟨0,Nat.zero_le _,rfl,by rw [txTo_zero,hl],by rw [txTo_zero,hl];omega,qH rfl,HB1.out⟩
     case round =>
      obtain ⟨k,hk,rfl,rfl,hsz,HA,hB⟩:=hrel
      clear HB1
      have HB:=qH hB
      by_cases hlt : k < n
      · obtain ⟨g,o,rfl,hg,t0,t1,t2,t3,t4,t5,t6,t7,t8,t9⟩:=h.at hlt
        have hin : 0 <= (k : Int) /\ (k : Int) < (n : Int):=by omega
        have hgw : g < wr.heap.size:=Nat.lt_of_lt_of_le hg hB.size
        have x0:=(hB.cell (p:=⟨g,o + k * 10,none⟩) hg).trans t0
        have x1:=(hB.cell (p:=⟨g,o + k * 10 + 1,none⟩) hg).trans t1
        have x2:=(hB.cell (p:=⟨g,o + k * 10 + 2,none⟩) hg).trans t2
        have x3:=(hB.cell (p:=⟨g,o + k * 10 + 3,none⟩) hg).trans t3
        have x4:=(hB.cell (p:=⟨g,o + k * 10 + 4,none⟩) hg).trans t4
        have x5:=(hB.cell (p:=⟨g,o + k * 10 + 5,none⟩) hg).trans t5
        have x6:=(hB.cell (p:=⟨g,o + k * 10 + 6,none⟩) hg).trans t6
        have x7:=(hB.cell (p:=⟨g,o + k * 10 + 7,none⟩) hg).trans t7
        have x8:=(hB.cell (p:=⟨g,o + k * 10 + 8,none⟩) hg).trans t8
        have x9:=(hB.cell (p:=⟨g,o + k * 10 + 9,none⟩) hg).trans t9
        have hsj:=HS.out k hlt
        have HST:=qH (txTo_succ (ds:=ds) (k:=k) (by omega))
        have HD : Hid (deedOf (ds.getD k ddD) = deedB (ds.getD k ddD).kd (ds.getD k ddD).gn (ds.getD k ddD).nd (ds.getD k ddD).mn (ds.getD k ddD).ck (ds.getD k ddD).no (ds.getD k ddD).lk (ds.getD k ddD).nm (ds.getD k ddD).tm (ds.getD k ddD).bd):=qH rfl
        have HTX : Hid (deedTx (ds.getD k ddD) = deedT (ds.getD k ddD).kd (ds.getD k ddD).gn (ds.getD k ddD).nd (ds.getD k ddD).mn (ds.getD k ddD).ck (ds.getD k ddD).no (ds.getD k ddD).lk (ds.getD k ddD).nm (ds.getD k ddD).tm (ds.getD k ddD).bd):=qH rfl
        generalize (ds.getD k ddD).kd = q0 at *
        generalize (ds.getD k ddD).gn = q1 at *
        generalize (ds.getD k ddD).nd = q2 at *
        generalize (ds.getD k ddD).mn = q3 at *
        generalize (ds.getD k ddD).ck = q4 at *
        generalize (ds.getD k ddD).no = q5 at *
        generalize (ds.getD k ddD).lk = q6 at *
        generalize (ds.getD k ddD).nm = q7 at *
        generalize (ds.getD k ddD).tm = q8 at *
        generalize (ds.getD k ddD).bd = q9 at *
        generalize htk : txTo ds k = tk at *
        have HTK:=qH htk
        have HX:=qH (And.intro x0 (And.intro x1 (And.intro x2 (And.intro x3 (And.intro x4 (And.intro x5 (And.intro x6 (And.intro x7 (And.intro x8 x9)))))))))
        clear htk hB t0 t1 t2 t3 t4 t5 t6 t7 t8 t9
        go_wp2_with fail
        refine (specDeedRight_any q0 q1 q2 q3 q4 q5 q6 q7 q8 q9 _ hsj.1 hsj.2.1 hsj.2.2).mono ?_
        rintro e w5 ⟨rfl,hb⟩
        have HB5:=qH (HB.out.trans (hb.mono HB.out.size))
        obtain ⟨y0,y1,y2,y3,y4,y5,y6,y7,y8,y9⟩:=HX.out
        have z0:=(hb.cell (p:=⟨g,o + k * 10,none⟩) hgw).trans y0
        have z1:=(hb.cell (p:=⟨g,o + k * 10 + 1,none⟩) hgw).trans y1
        have z2:=(hb.cell (p:=⟨g,o + k * 10 + 2,none⟩) hgw).trans y2
        have z3:=(hb.cell (p:=⟨g,o + k * 10 + 3,none⟩) hgw).trans y3
        have z4:=(hb.cell (p:=⟨g,o + k * 10 + 4,none⟩) hgw).trans y4
        have z5:=(hb.cell (p:=⟨g,o + k * 10 + 5,none⟩) hgw).trans y5
        have z6:=(hb.cell (p:=⟨g,o + k * 10 + 6,none⟩) hgw).trans y6
        have z7:=(hb.cell (p:=⟨g,o + k * 10 + 7,none⟩) hgw).trans y7
        have z8:=(hb.cell (p:=⟨g,o + k * 10 + 8,none⟩) hgw).trans y8
        have z9:=(hb.cell (p:=⟨g,o + k * 10 + 9,none⟩) hgw).trans y9
        clear hb x0 y0 x1 y1 x2 y2 x3 y3 x4 y4 x5 y5 x6 y6 x7 y7 x8 y8 x9 y9
        cases hv : deedB q0 q1 q2 q3 q4 q5 q6 q7 q8 q9
        · have HF:=qH (txS_no (ds:=ds) (by unfold txOk;rw [hl,allTo'_no hlt (by rw [HD.out];exact hv),Bool.and_false])).symm
          go_wp2_with fail
          go_ret
          exact ⟨ret_string HF.out,HB5.out⟩
        · have hz5:=deedT_size hv
          have HA2:=qH (allTo'_succ HA.out (by rw [HD.out];exact hv))
          have HV:=qH hv
          clear hv
          go_wp2_with fail
          refine (l07Deed_any q0 q1 q2 q3 q4 q5 q6 q7 q8 q9 _ HV.out).mono ?_
          rintro e w6 ⟨rfl,hb⟩
          have HB6:=qH (HB5.out.trans (hb.mono HB5.out.size))
          have HTT : Hid (txTo ds (k + 1) = tk ++ deedT q0 q1 q2 q3 q4 q5 q6 q7 q8 q9):=qH (by rw [HST.out,HTX.out])
          clear hb z0 z1 z2 z3 z4 z5 z6 z7 z8 z9 HTX HST
          generalize deedT q0 q1 q2 q3 q4 q5 q6 q7 q8 q9 = dt at *
          have hadd : ∀ u : World,(Op.stringOp .add tk dt).run Tryz.prog u = .ok (.string (tk ++ dt)) u:=fun u => run_string_add_sum u _ _ (by omega)
          have hns : (tk ++ dt).size <= 10 + 200 * (k + 1):=by rw [ByteArray.size_append];omega
          rw [<- HTT.out] at hns
          go_wp2_with fail
          go_roundw
          case rel => exact ⟨k + 1,by omega,by go_num,by rw [HTT.out],hns,HA2,HB6.out⟩
          case measure => simp [intOf] <;> omega
      · obtain rfl : n = k:=by omega
        have HOK : Hid (txOk ds = true):=qH (by unfold txOk;rw [hl,decide_eq_true ⟨h1,h2⟩,HA.out];rfl)
        have HF:=qH (txS_yes HOK.out).symm
        rw [hl] at HF
        have hss : (sealS (txTo ds n)).size <= maxLen:=by rw [sealS_yes (by omega),ByteArray.size_append,crc4_size];unfold maxLen;omega
        have HSS:=qH hss
        have HSM : Hid ((txTo ds n).size <= maxLen):=qH (by unfold maxLen;omega)
        clear hss hB h
        go_wp2_with fail
        refine (specSeal_any _ _ HSM.out).mono ?_
        rintro e w5 ⟨rfl,hb⟩
        have HB5:=qH (HB.out.trans (hb.mono HB.out.size))
        clear hb
        go_wp2_with fail
        refine (specPutText_any _ _ HSS.out).mono ?_
        rintro e w6 ⟨rfl,hb⟩
        have HB6:=qH (HB5.out.trans (hb.mono HB5.out.size))
        clear hb
        go_wp2_with fail
        go_ret
        exact ⟨ret_string HF.out,HB6.out⟩
   · have HF:=qH (txS_no (ds:=ds) (by unfold txOk;rw [hl,decide_eq_false (by omega)];rfl)).symm
     go_enter Tryz.func97,Tryz.ntmps97
     go_wp2_with fail
     go_ret
     exact ⟨ret_string HF.out,Below.refl _ _⟩
 · have HF:=qH (txS_no (ds:=ds) (by unfold txOk;rw [hl,decide_eq_false (by omega)];rfl)).symm
   go_enter Tryz.func97,Tryz.ntmps97
   go_wp2_with fail
   go_ret
   exact ⟨ret_string HF.out,Below.refl _ _⟩
end Go.Proofs.YthkbcjnbmciolaaGreatDoor
