/- Used by the law. -/
import Derived.Test.YtbgoldeopmlbnaaGreatDoorQB20
set_option maxRecDepth 100000
set_option maxHeartbeats 16000000
namespace Go.Proofs.YtbgoldeopmlbnaaGreatDoor
open Go.RowKit Go.PlainAid G MGF IRow
set_option linter.unusedVariables false
theorem nsTm (no : Int) (lk : ByteArray) (W : World) : (binOp .neq 30 (.agg #[.int .i64 no,.string lk]) (.agg #[.int .i64 no,.string lk])).run Tryz.prog W = .ok (.bool false) W:=by simp [go_sem]
theorem nsIm (nm : ByteArray) (tm : Int) (bd : ByteArray) (W : World) : (binOp .neq 32 (.agg #[.string nm,.int .i64 tm,.string bd]) (.agg #[.string nm,.int .i64 tm,.string bd])).run Tryz.prog W = .ok (.bool false) W:=by simp [go_sem]
theorem nsCf (a b c d : Int) (W : World) : (binOp .neq 24 (.agg #[.int .i64 a,.int .i64 b,.int .i64 c,.int .i64 d]) (.agg #[.int .i64 a,.int .i64 b,.int .i64 c,.int .i64 d])).run Tryz.prog W = .ok (.bool false) W:=by simp [go_sem]
theorem lwBook_same (b : Bk) (a1 a2 b1 b2 : Option Addr) (n1 n2 a3 a4 b3 b4 : Nat) (w : World) (h : BkR w a1 n1 a3 a2 n2 a4 b.ts b.is) (k : BkR w b1 n1 b3 b2 n2 b4 b.ts b.is) (hn1 : n1 <= 1048576) (hn2 : n2 <= 1048576) :
 Calls Tryz.prog 16 #[.agg #[.int .i64 b.c0,.int .i64 b.c1,.int .i64 b.c2,.int .i64 b.c3,.slice a1 n1 a3,.slice a2 n2 a4],.agg #[.int .i64 b.c0,.int .i64 b.c1,.int .i64 b.c2,.int .i64 b.c3,.slice b1 n1 b3,.slice b2 n2 b4]] w fun e w' => e = .returned (.bool true) /\ Below w.heap.size w w':=by
 obtain ⟨c0,c1,c2,c3,ts,is⟩:=b
 dsimp only at h k ⊢
 obtain ⟨W,hW⟩ : ∃ W,W = (w.alloc (.cells #[.int .i64 c0,.int .i64 c1,.int .i64 c2,.int .i64 c3,.slice a1 n1 a3,.slice a2 n2 a4] 28)).alloc (.cells #[.int .i64 c0,.int .i64 c1,.int .i64 c2,.int .i64 c3,.slice b1 n1 b3,.slice b2 n2 b4] 28):=⟨_,rfl⟩
 have HB0:=qH (show Below w.heap.size w W by rw [hW];exact ((Below.refl _ _).alloc (Nat.le_refl _) _).alloc (by simp) _)
 have HX:=qH (show BoxC W w.heap.size [.int .i64 c0,.int .i64 c1,.int .i64 c2,.int .i64 c3,.slice a1 n1 a3,.slice a2 n2 a4] by rw [hW];exact (BoxC.made w #[.int .i64 c0,.int .i64 c1,.int .i64 c2,.int .i64 c3,.slice a1 n1 a3,.slice a2 n2 a4] 28).alloc _)
 have HY:=qH (show BoxC W (w.heap.size + 1) [.int .i64 c0,.int .i64 c1,.int .i64 c2,.int .i64 c3,.slice b1 n1 b3,.slice b2 n2 b4] by
  rw [hW]
  have:=BoxC.made (w.alloc (.cells #[.int .i64 c0,.int .i64 c1,.int .i64 c2,.int .i64 c3,.slice a1 n1 a3,.slice a2 n2 a4] 28)) #[.int .i64 c0,.int .i64 c1,.int .i64 c2,.int .i64 c3,.slice b1 n1 b3,.slice b2 n2 b4] 28
  rwa [World.size_alloc] at this)
 have HA:=qH (h.below HB0.out)
 have HK:=qH (k.below HB0.out)
 have x0:=HX.out.cell 0 _ rfl
 have x1:=HX.out.cell 1 _ rfl
 have x2:=HX.out.cell 2 _ rfl
 have x3:=HX.out.cell 3 _ rfl
 have x4:=HX.out.cell 4 _ rfl
 have x5:=HX.out.cell 5 _ rfl
 have y0:=HY.out.cell 0 _ rfl
 have y1:=HY.out.cell 1 _ rfl
 have y2:=HY.out.cell 2 _ rfl
 have y3:=HY.out.cell 3 _ rfl
 have y4:=HY.out.cell 4 _ rfl
 have y5:=HY.out.cell 5 _ rfl
 have hcf:=nsCf c0 c1 c2 c3
 clear h k
 go_enter Tryz.func16,Tryz.ntmps16
 go_upto_region 1 with fail
 rw [<- hW]
 clear hW
 go_wp2_with fail
 go_loopw [5] (fun i wr => ∃ j : Nat,j <= n1 /\ i = .int .i64 j /\ ∃ m,wr = W.drewN m) (fun i _ => n1 - (intOf i).toNat)
 case atStart => exact ⟨0,Nat.zero_le _,rfl,0,rfl⟩
 case round =>
  obtain ⟨j,hj,rfl,m,rfl⟩:=hrel
  by_cases hlt : j < n1
  · obtain ⟨g,o,rfl,hg,t0,t1⟩:=HA.out.t.at hlt
    obtain ⟨g',o',rfl,hg',s0,s1⟩:=HK.out.t.at hlt
    have hin : 0 <= (j : Int) /\ (j : Int) < (n1 : Int):=by omega
    generalize ts.getD j tmD = td at *
    have hns:=nsTm td.no td.lk
    go_wp2_with fail
    go_quiet (fail)
    go_wp2_with fail
    go_roundw
    case rel => exact ⟨j + 1,by omega,by go_num,_,rfl⟩
    case measure => simp [intOf];omega
  · obtain rfl : j = n1:=by omega
    go_wp2_with fail
    go_loopw [6] (fun i wr => ∃ j : Nat,j <= n2 /\ i = .int .i64 j /\ ∃ m,wr = W.drewN m) (fun i _ => n2 - (intOf i).toNat)
    case atStart => exact ⟨0,Nat.zero_le _,rfl,m,rfl⟩
    case round =>
     obtain ⟨q,hq,rfl,m,rfl⟩:=hrel
     by_cases hlt : q < n2
     · obtain ⟨g,o,rfl,hg,t0,t1,t2⟩:=HA.out.i.at hlt
       obtain ⟨g',o',rfl,hg',s0,s1,s2⟩:=HK.out.i.at hlt
       have hin : 0 <= (q : Int) /\ (q : Int) < (n2 : Int):=by omega
       generalize is.getD q imD = td at *
       have hns:=nsIm td.nm td.tm td.bd
       go_wp2_with fail
       go_quiet (fail)
       go_wp2_with fail
       go_roundw
       case rel => exact ⟨q + 1,by omega,by go_num,_,rfl⟩
       case measure => simp [intOf];omega
     · go_wp2_with fail
       go_ret
       exact ⟨rfl,HB0.out.os,HB0.out.tape,HB0.out.output,HB0.out.size,HB0.out.block⟩
theorem lwBooks_same (b : Bk) (cd : Int) (a1 a2 b1 b2 : Option Addr) (n1 n2 a3 a4 b3 b4 : Nat) (w : World) (h : BkR w a1 n1 a3 a2 n2 a4 b.ts b.is) (k : BkR w b1 n1 b3 b2 n2 b4 b.ts b.is) (hn1 : n1 <= 1048576) (hn2 : n2 <= 1048576) (hs1 : ∀ t,t < n1 -> (b.ts.getD t tmD).lk.size <= maxLen) (hs2 : ∀ t,t < n2 -> (b.is.getD t imD).nm.size <= maxLen /\ (b.is.getD t imD).bd.size <= maxLen) (hb : cd = 0 -> bookB b = true) :
 Calls Tryz.prog 12 #[.agg #[.int .i64 b.c0,.int .i64 b.c1,.int .i64 b.c2,.int .i64 b.c3,.slice a1 n1 a3,.slice a2 n2 a4,.int .i64 cd],.agg #[.int .i64 b.c0,.int .i64 b.c1,.int .i64 b.c2,.int .i64 b.c3,.slice b1 n1 b3,.slice b2 n2 b4,.int .i64 cd]] w fun e w' => e = .returned (.bool true) /\ Below w.heap.size w w':=by
 obtain ⟨W,hW⟩ : ∃ W,W = (w.alloc (.cells #[.int .i64 b.c0,.int .i64 b.c1,.int .i64 b.c2,.int .i64 b.c3,.slice a1 n1 a3,.slice a2 n2 a4,.int .i64 cd] 46)).alloc (.cells #[.int .i64 b.c0,.int .i64 b.c1,.int .i64 b.c2,.int .i64 b.c3,.slice b1 n1 b3,.slice b2 n2 b4,.int .i64 cd] 46):=⟨_,rfl⟩
 have HB0:=qH (show Below w.heap.size w W by rw [hW];exact ((Below.refl _ _).alloc (Nat.le_refl _) _).alloc (by simp) _)
 have HX:=qH (show BoxC W w.heap.size [.int .i64 b.c0,.int .i64 b.c1,.int .i64 b.c2,.int .i64 b.c3,.slice a1 n1 a3,.slice a2 n2 a4,.int .i64 cd] by rw [hW];exact (BoxC.made w #[.int .i64 b.c0,.int .i64 b.c1,.int .i64 b.c2,.int .i64 b.c3,.slice a1 n1 a3,.slice a2 n2 a4,.int .i64 cd] 46).alloc _)
 have HY:=qH (show BoxC W (w.heap.size + 1) [.int .i64 b.c0,.int .i64 b.c1,.int .i64 b.c2,.int .i64 b.c3,.slice b1 n1 b3,.slice b2 n2 b4,.int .i64 cd] by
  rw [hW]
  have:=BoxC.made (w.alloc (.cells #[.int .i64 b.c0,.int .i64 b.c1,.int .i64 b.c2,.int .i64 b.c3,.slice a1 n1 a3,.slice a2 n2 a4,.int .i64 cd] 46)) #[.int .i64 b.c0,.int .i64 b.c1,.int .i64 b.c2,.int .i64 b.c3,.slice b1 n1 b3,.slice b2 n2 b4,.int .i64 cd] 46
  rwa [World.size_alloc] at this)
 have HA:=qH (h.below HB0.out)
 have HK:=qH (k.below HB0.out)
 have HS1:=qH hs1
 have HS2:=qH hs2
 have x0:=HX.out.cell 0 _ rfl
 have x1:=HX.out.cell 1 _ rfl
 have x2:=HX.out.cell 2 _ rfl
 have x3:=HX.out.cell 3 _ rfl
 have x4:=HX.out.cell 4 _ rfl
 have x5:=HX.out.cell 5 _ rfl
 have x6:=HX.out.cell 6 _ rfl
 have y0:=HY.out.cell 0 _ rfl
 have y1:=HY.out.cell 1 _ rfl
 have y2:=HY.out.cell 2 _ rfl
 have y3:=HY.out.cell 3 _ rfl
 have y4:=HY.out.cell 4 _ rfl
 have y5:=HY.out.cell 5 _ rfl
 have y6:=HY.out.cell 6 _ rfl
 clear h k hs1 hs2
 by_cases hc : cd = 0
 · have HBB:=qH (hb hc)
   subst hc
   go_enter Tryz.func12,Tryz.ntmps12
   go_upto_region 1 with fail
   rw [<- hW]
   clear hW
   go_wp2_with fail
   refine (lwBook_same b a1 a2 b1 b2 n1 n2 a3 a4 b3 b4 W HA.out HK.out hn1 hn2).mono ?_
   rintro e w3 ⟨rfl,hb3⟩
   have HX3:=qH (HX.out.below hb3)
   have HA3:=qH (HA.out.below hb3)
   have HB3:=qH (HB0.out.trans (hb3.mono HB0.out.size))
   clear x0 x1 x2 x3 x4 x5 x6 y0 y1 y2 y3 y4 y5 y6 hb3
   have x0:=HX3.out.cell 0 _ rfl
   have x1:=HX3.out.cell 1 _ rfl
   have x2:=HX3.out.cell 2 _ rfl
   have x3:=HX3.out.cell 3 _ rfl
   have x4:=HX3.out.cell 4 _ rfl
   have x5:=HX3.out.cell 5 _ rfl
   have x6:=HX3.out.cell 6 _ rfl
   go_wp2_with fail
   refine (specBookRight_any b a1 a2 n1 n2 a3 a4 w3 HA3.out hn1 hn2 HS1.out HS2.out).mono ?_
   rintro e w4 ⟨rfl,hb4⟩
   have HB4:=qH (HB3.out.trans (hb4.mono HB3.out.size))
   clear x0 x1 x2 x3 x4 x5 x6 hb4
   rw [HBB.out]
   go_wp2_with fail
   go_ret
   exact ⟨rfl,HB4.out⟩
 · go_enter Tryz.func12,Tryz.ntmps12
   go_upto_region 1 with fail
   rw [<- hW]
   clear hW
   go_wp2_with fail
   refine (lwBook_same b a1 a2 b1 b2 n1 n2 a3 a4 b3 b4 W HA.out HK.out hn1 hn2).mono ?_
   rintro e w3 ⟨rfl,hb3⟩
   have HX3:=qH (HX.out.below hb3)
   have HB3:=qH (HB0.out.trans (hb3.mono HB0.out.size))
   clear x0 x1 x2 x3 x4 x5 x6 y0 y1 y2 y3 y4 y5 y6 hb3
   have x6:=HX3.out.cell 6 _ rfl
   have hcb : (cd == 0) = false:=by simpa using hc
   go_wp2_with fail
   go_ret
   exact ⟨rfl,HB3.out⟩
end Go.Proofs.YtbgoldeopmlbnaaGreatDoor
namespace Go.Proofs.YtbgoldeopmlbnaaGreatDoor
open Go.RowKit Go.PlainAid G IRow
set_option linter.unusedVariables false
theorem specBookDo_any (b : Bk) (a1 a2 : Option Addr) (n1 n2 a3 a4 : Nat) (q0 q1 q2 q3 q4 q5 : Int) (q6 q7 : ByteArray) (q8 : Int) (q9 : ByteArray) (w : World) (h : BkR w a1 n1 a3 a2 n2 a4 b.ts b.is) (hn1 : n1 <= 1048576) (hn2 : n2 <= 1048576) (hs1 : ∀ t,t < n1 -> (b.ts.getD t tmD).lk.size <= maxLen) (hs2 : ∀ t,t < n2 -> (b.is.getD t imD).nm.size <= maxLen /\ (b.is.getD t imD).bd.size <= maxLen) (h6 : q6.size <= maxLen) (h7 : q7.size <= maxLen) (h9 : q9.size <= maxLen) :
 Calls Tryz.prog 14 #[.agg #[.int .i64 b.c0,.int .i64 b.c1,.int .i64 b.c2,.int .i64 b.c3,.slice a1 n1 a3,.slice a2 n2 a4],.agg #[.int .i64 q0,.int .i64 q1,.int .i64 q2,.int .i64 q3,.int .i64 q4,.int .i64 q5,.string q6,.string q7,.int .i64 q8,.string q9]] w (NewBookOut (bookDoS b ⟨q0,q1,q2,q3,q4,q5,q6,q7,q8,q9⟩) w):=by
 have HBK:=qH h
 have HS1:=qH hs1
 have HS2:=qH hs2
 clear h hs1 hs2
 obtain ⟨W,hW⟩ : ∃ W,W = ((w.alloc (.cells #[.int .i64 b.c0,.int .i64 b.c1,.int .i64 b.c2,.int .i64 b.c3,.slice a1 n1 a3,.slice a2 n2 a4] 28)).alloc (.cells #[.int .i64 q0,.int .i64 q1,.int .i64 q2,.int .i64 q3,.int .i64 q4,.int .i64 q5,.string q6,.string q7,.int .i64 q8,.string q9] 34)).alloc (.cells #[.int .i64 0,.int .i64 0,.int .i64 0,.int .i64 0,.slice none 0 0,.slice none 0 0,.int .i64 0] 46):=⟨_,rfl⟩
 have HB0 : Hid (Below w.heap.size w W):=qH (by rw [hW];repeat' (first | exact Below.refl _ _ | refine Below.alloc ?_ (by first | exact Nat.le_refl _ | (simp;done) | (simp;omega)) _))
 have HXb : Hid (BoxC W w.heap.size [.int .i64 b.c0,.int .i64 b.c1,.int .i64 b.c2,.int .i64 b.c3,.slice a1 n1 a3,.slice a2 n2 a4]):=qH (by rw [hW];exact ((BoxC.made _ _ _).alloc _).alloc _)
 have HXd : Hid (BoxC W (w.heap.size + 1) [.int .i64 q0,.int .i64 q1,.int .i64 q2,.int .i64 q3,.int .i64 q4,.int .i64 q5,.string q6,.string q7,.int .i64 q8,.string q9]):=qH (by rw [hW];have:=(BoxC.made (w.alloc (.cells #[.int .i64 b.c0,.int .i64 b.c1,.int .i64 b.c2,.int .i64 b.c3,.slice a1 n1 a3,.slice a2 n2 a4] 28)) #[.int .i64 q0,.int .i64 q1,.int .i64 q2,.int .i64 q3,.int .i64 q4,.int .i64 q5,.string q6,.string q7,.int .i64 q8,.string q9] 34).alloc (.cells #[.int .i64 0,.int .i64 0,.int .i64 0,.int .i64 0,.slice none 0 0,.slice none 0 0,.int .i64 0] 46);rwa [World.size_alloc] at this)
 have HXr : Hid (BoxC W (w.heap.size + 1 + 1) [.int .i64 0,.int .i64 0,.int .i64 0,.int .i64 0,.slice none 0 0,.slice none 0 0,.int .i64 0]):=qH (by rw [hW];have:=BoxC.made ((w.alloc (.cells #[.int .i64 b.c0,.int .i64 b.c1,.int .i64 b.c2,.int .i64 b.c3,.slice a1 n1 a3,.slice a2 n2 a4] 28)).alloc (.cells #[.int .i64 q0,.int .i64 q1,.int .i64 q2,.int .i64 q3,.int .i64 q4,.int .i64 q5,.string q6,.string q7,.int .i64 q8,.string q9] 34)) #[.int .i64 0,.int .i64 0,.int .i64 0,.int .i64 0,.slice none 0 0,.slice none 0 0,.int .i64 0] 46;rwa [World.size_alloc,World.size_alloc] at this)
 go_enter Tryz.func14,Tryz.ntmps14
 go_wp2_with fail
 rw [<- hW]
 clear hW
 refine (specBookRight_any b a1 a2 n1 n2 a3 a4 _ (HBK.out.below HB0.out) hn1 hn2 HS1.out HS2.out).mono ?_
 rintro e w1 ⟨rfl,hb⟩
 have HB1:=qH hb
 clear hb
 cases hbr : bookB b
 · have HN : Hid (bookDoS b ⟨q0,q1,q2,q3,q4,q5,q6,q7,q8,q9⟩ = (bk0,1)):=qH (by unfold bookDoS;rw [if_neg (fun h => by rw [hbr] at h;cases h.1)])
   go_wp2_with fail
   refine (l07Ill_any 1 _).mono ?_
   rintro e w3 ⟨rfl,hb⟩
   have hz3:=(HXr.out.below HB1.out).below hb
   have HB3:=qH (HB0.out.trans ((HB1.out.trans (hb.mono HB1.out.size)).mono HB0.out.size))
   clear hb
   have z0:=hz3.cell 0 _ rfl
   have f0:=hz3.free 0
   have z1:=hz3.cell 1 _ rfl
   have f1:=hz3.free 1
   have z2:=hz3.cell 2 _ rfl
   have f2:=hz3.free 2
   have z3:=hz3.cell 3 _ rfl
   have f3:=hz3.free 3
   have z4:=hz3.cell 4 _ rfl
   have f4:=hz3.free 4
   have z5:=hz3.cell 5 _ rfl
   have f5:=hz3.free 5
   have z6:=hz3.cell 6 _ rfl
   have f6:=hz3.free 6
   have hY:=(((((((hz3.set (j:=0) (by simp) (.int .i64 0)).set (j:=1) (by simp) (.int .i64 0)).set (j:=2) (by simp) (.int .i64 0)).set (j:=3) (by simp) (.int .i64 0)).set (j:=4) (by simp) (.slice none 0 0)).set (j:=5) (by simp) (.slice none 0 0)).set (j:=6) (by simp) (.int .i64 1))
   have HYB:=qH (((((((HB3.out.setCell (p:=⟨w.heap.size + 1 + 1,0,none⟩) (by dsimp only;omega) (.int .i64 0)).setCell (p:=⟨w.heap.size + 1 + 1,1,none⟩) (by dsimp only;omega) (.int .i64 0)).setCell (p:=⟨w.heap.size + 1 + 1,2,none⟩) (by dsimp only;omega) (.int .i64 0)).setCell (p:=⟨w.heap.size + 1 + 1,3,none⟩) (by dsimp only;omega) (.int .i64 0)).setCell (p:=⟨w.heap.size + 1 + 1,4,none⟩) (by dsimp only;omega) (.slice none 0 0)).setCell (p:=⟨w.heap.size + 1 + 1,5,none⟩) (by dsimp only;omega) (.slice none 0 0)).setCell (p:=⟨w.heap.size + 1 + 1,6,none⟩) (by dsimp only;omega) (.int .i64 1))
   obtain ⟨Y,hYd⟩ : ∃ Y,Y = ((((((w3.setCell ⟨w.heap.size + 1 + 1,0,none⟩ (.int .i64 0)).setCell ⟨w.heap.size + 1 + 1,1,none⟩ (.int .i64 0)).setCell ⟨w.heap.size + 1 + 1,2,none⟩ (.int .i64 0)).setCell ⟨w.heap.size + 1 + 1,3,none⟩ (.int .i64 0)).setCell ⟨w.heap.size + 1 + 1,4,none⟩ (.slice none 0 0)).setCell ⟨w.heap.size + 1 + 1,5,none⟩ (.slice none 0 0)).setCell ⟨w.heap.size + 1 + 1,6,none⟩ (.int .i64 1):=⟨_,rfl⟩
   rw [<- hYd] at hY HYB
   have g0:=hY.cell 0 _ rfl
   have g1:=hY.cell 1 _ rfl
   have g2:=hY.cell 2 _ rfl
   have g3:=hY.cell 3 _ rfl
   have g4:=hY.cell 4 _ rfl
   have g5:=hY.cell 5 _ rfl
   have g6:=hY.cell 6 _ rfl
   have HG:=qH (And.intro g0 (And.intro g1 (And.intro g2 (And.intro g3 (And.intro g4 (And.intro g5 g6))))))
   have HYD:=qH hYd
   clear hz3 hY hYd g0 g1 g2 g3 g4 g5 g6
   go_wp2_with fail
   rw [<- HYD.out]
   obtain ⟨g0,g1,g2,g3,g4,g5,g6⟩:=HG.out
   clear z0 f0 z1 f1 z2 f2 z3 f3 z4 f4 z5 f5 z6 f6
   exact bodyPost_ret (v:=.agg #[.int .i64 0,.int .i64 0,.int .i64 0,.int .i64 0,.slice none 0 0,.slice none 0 0,.int .i64 1]) (by simp [results,Tryz.results14,go_sem,g0,g1,g2,g3,g4,g5,g6]) rfl (by rw [HN.out];exact ⟨none,0,0,none,0,0,rfl,⟨World.ownsRow_nil _ _ _ _,World.ownsRow_nil _ _ _ _⟩,HYB.out⟩)
 · have d0:=(HXd.out.below HB1.out).cell 0 _ rfl
   have d1:=(HXd.out.below HB1.out).cell 1 _ rfl
   have d2:=(HXd.out.below HB1.out).cell 2 _ rfl
   have d3:=(HXd.out.below HB1.out).cell 3 _ rfl
   have d4:=(HXd.out.below HB1.out).cell 4 _ rfl
   have d5:=(HXd.out.below HB1.out).cell 5 _ rfl
   have d6:=(HXd.out.below HB1.out).cell 6 _ rfl
   have d7:=(HXd.out.below HB1.out).cell 7 _ rfl
   have d8:=(HXd.out.below HB1.out).cell 8 _ rfl
   have d9:=(HXd.out.below HB1.out).cell 9 _ rfl
   go_wp2_with fail
   refine (specDeedRight_any q0 q1 q2 q3 q4 q5 q6 q7 q8 q9 _ h6 h7 h9).mono ?_
   rintro e w2 ⟨rfl,hb⟩
   have HB2:=qH (HB1.out.trans (hb.mono HB1.out.size))
   clear hb d0 d1 d2 d3 d4 d5 d6 d7 d8 d9
   cases hdr : deedB q0 q1 q2 q3 q4 q5 q6 q7 q8 q9
   · have HN : Hid (bookDoS b ⟨q0,q1,q2,q3,q4,q5,q6,q7,q8,q9⟩ = (bk0,1)):=qH (by unfold bookDoS;rw [if_neg (fun h => by have h2 : deedB q0 q1 q2 q3 q4 q5 q6 q7 q8 q9 = true:=h.2;rw [hdr] at h2;cases h2)])
     go_wp2_with fail
     refine (l07Ill_any 1 _).mono ?_
     rintro e w3 ⟨rfl,hb⟩
     have hz3:=(HXr.out.below HB2.out).below hb
     have HB3:=qH (HB0.out.trans ((HB2.out.trans (hb.mono HB2.out.size)).mono HB0.out.size))
     clear hb
     have z0:=hz3.cell 0 _ rfl
     have f0:=hz3.free 0
     have z1:=hz3.cell 1 _ rfl
     have f1:=hz3.free 1
     have z2:=hz3.cell 2 _ rfl
     have f2:=hz3.free 2
     have z3:=hz3.cell 3 _ rfl
     have f3:=hz3.free 3
     have z4:=hz3.cell 4 _ rfl
     have f4:=hz3.free 4
     have z5:=hz3.cell 5 _ rfl
     have f5:=hz3.free 5
     have z6:=hz3.cell 6 _ rfl
     have f6:=hz3.free 6
     have hY:=(((((((hz3.set (j:=0) (by simp) (.int .i64 0)).set (j:=1) (by simp) (.int .i64 0)).set (j:=2) (by simp) (.int .i64 0)).set (j:=3) (by simp) (.int .i64 0)).set (j:=4) (by simp) (.slice none 0 0)).set (j:=5) (by simp) (.slice none 0 0)).set (j:=6) (by simp) (.int .i64 1))
     have HYB:=qH (((((((HB3.out.setCell (p:=⟨w.heap.size + 1 + 1,0,none⟩) (by dsimp only;omega) (.int .i64 0)).setCell (p:=⟨w.heap.size + 1 + 1,1,none⟩) (by dsimp only;omega) (.int .i64 0)).setCell (p:=⟨w.heap.size + 1 + 1,2,none⟩) (by dsimp only;omega) (.int .i64 0)).setCell (p:=⟨w.heap.size + 1 + 1,3,none⟩) (by dsimp only;omega) (.int .i64 0)).setCell (p:=⟨w.heap.size + 1 + 1,4,none⟩) (by dsimp only;omega) (.slice none 0 0)).setCell (p:=⟨w.heap.size + 1 + 1,5,none⟩) (by dsimp only;omega) (.slice none 0 0)).setCell (p:=⟨w.heap.size + 1 + 1,6,none⟩) (by dsimp only;omega) (.int .i64 1))
     obtain ⟨Y,hYd⟩ : ∃ Y,Y = ((((((w3.setCell ⟨w.heap.size + 1 + 1,0,none⟩ (.int .i64 0)).setCell ⟨w.heap.size + 1 + 1,1,none⟩ (.int .i64 0)).setCell ⟨w.heap.size + 1 + 1,2,none⟩ (.int .i64 0)).setCell ⟨w.heap.size + 1 + 1,3,none⟩ (.int .i64 0)).setCell ⟨w.heap.size + 1 + 1,4,none⟩ (.slice none 0 0)).setCell ⟨w.heap.size + 1 + 1,5,none⟩ (.slice none 0 0)).setCell ⟨w.heap.size + 1 + 1,6,none⟩ (.int .i64 1):=⟨_,rfl⟩
     rw [<- hYd] at hY HYB
     have g0:=hY.cell 0 _ rfl
     have g1:=hY.cell 1 _ rfl
     have g2:=hY.cell 2 _ rfl
     have g3:=hY.cell 3 _ rfl
     have g4:=hY.cell 4 _ rfl
     have g5:=hY.cell 5 _ rfl
     have g6:=hY.cell 6 _ rfl
     have HG:=qH (And.intro g0 (And.intro g1 (And.intro g2 (And.intro g3 (And.intro g4 (And.intro g5 g6))))))
     have HYD:=qH hYd
     clear hz3 hY hYd g0 g1 g2 g3 g4 g5 g6
     go_wp2_with fail
     rw [<- HYD.out]
     obtain ⟨g0,g1,g2,g3,g4,g5,g6⟩:=HG.out
     clear z0 f0 z1 f1 z2 f2 z3 f3 z4 f4 z5 f5 z6 f6
     exact bodyPost_ret (v:=.agg #[.int .i64 0,.int .i64 0,.int .i64 0,.int .i64 0,.slice none 0 0,.slice none 0 0,.int .i64 1]) (by simp [results,Tryz.results14,go_sem,g0,g1,g2,g3,g4,g5,g6]) rfl (by rw [HN.out];exact ⟨none,0,0,none,0,0,rfl,⟨World.ownsRow_nil _ _ _ _,World.ownsRow_nil _ _ _ _⟩,HYB.out⟩)
   · have HN : Hid (bookDoS b ⟨q0,q1,q2,q3,q4,q5,q6,q7,q8,q9⟩ = doS ⟨b.c0,b.c1,b.c2,b.c3,b.ts,b.is⟩ ⟨q0,q1,q2,q3,q4,q5,q6,q7,q8,q9⟩):=qH (by unfold bookDoS;rw [if_pos ⟨hbr,hdr⟩])
     have HBR:=qH hbr
     have HDR:=qH hdr
     clear hbr hdr
     have d0:=(HXd.out.below HB2.out).cell 0 _ rfl
     have d1:=(HXd.out.below HB2.out).cell 1 _ rfl
     have d2:=(HXd.out.below HB2.out).cell 2 _ rfl
     have d3:=(HXd.out.below HB2.out).cell 3 _ rfl
     have d4:=(HXd.out.below HB2.out).cell 4 _ rfl
     have d5:=(HXd.out.below HB2.out).cell 5 _ rfl
     have d6:=(HXd.out.below HB2.out).cell 6 _ rfl
     have d7:=(HXd.out.below HB2.out).cell 7 _ rfl
     have d8:=(HXd.out.below HB2.out).cell 8 _ rfl
     have d9:=(HXd.out.below HB2.out).cell 9 _ rfl
     have b0:=(HXb.out.below HB2.out).cell 0 _ rfl
     have b1:=(HXb.out.below HB2.out).cell 1 _ rfl
     have b2:=(HXb.out.below HB2.out).cell 2 _ rfl
     have b3:=(HXb.out.below HB2.out).cell 3 _ rfl
     have b4:=(HXb.out.below HB2.out).cell 4 _ rfl
     have b5:=(HXb.out.below HB2.out).cell 5 _ rfl
     go_wp2_with fail
     clear d0 d1 d2 d3 d4 d5 d6 d7 d8 d9 b0 b1 b2 b3 b4 b5
     refine (l07Do_any b.c0 b.c1 b.c2 b.c3 b.ts b.is q0 q1 q2 q3 q4 q5 q6 q7 q8 q9 a1 a2 n1 n2 a3 a4 w2 (HBK.out.below (HB0.out.trans (HB2.out.mono HB0.out.size))) HBR.out HDR.out).mono ?_
     rintro e w4 hnb
     rw [<- HN.out] at hnb
     generalize bookDoS b ⟨q0,q1,q2,q3,q4,q5,q6,q7,q8,q9⟩ = r at *
     obtain ⟨e1,m1,e3,e2,m2,e4,rfl,ho,hb4⟩:=hnb
     have HBO:=qH ho
     have HB4:=qH (HB0.out.trans ((HB2.out.trans (hb4.mono HB2.out.size)).mono HB0.out.size))
     have hz3:=(HXr.out.below HB2.out).below hb4
     have HXS:=qH (show w.heap.size + 1 + 1 < w2.heap.size from (HXr.out.below HB2.out).lt)
     clear ho hb4 HN
     have z0:=hz3.cell 0 _ rfl
     have f0:=hz3.free 0
     have z1:=hz3.cell 1 _ rfl
     have f1:=hz3.free 1
     have z2:=hz3.cell 2 _ rfl
     have f2:=hz3.free 2
     have z3:=hz3.cell 3 _ rfl
     have f3:=hz3.free 3
     have z4:=hz3.cell 4 _ rfl
     have f4:=hz3.free 4
     have z5:=hz3.cell 5 _ rfl
     have f5:=hz3.free 5
     have z6:=hz3.cell 6 _ rfl
     have f6:=hz3.free 6
     have hY:=(((((((hz3.set (j:=0) (by simp) (.int .i64 r.1.c0)).set (j:=1) (by simp) (.int .i64 r.1.c1)).set (j:=2) (by simp) (.int .i64 r.1.c2)).set (j:=3) (by simp) (.int .i64 r.1.c3)).set (j:=4) (by simp) (.slice e1 m1 e3)).set (j:=5) (by simp) (.slice e2 m2 e4)).set (j:=6) (by simp) (.int .i64 r.2))
     have HYB:=qH (((((((HB4.out.setCell (p:=⟨w.heap.size + 1 + 1,0,none⟩) (by dsimp only;omega) (.int .i64 r.1.c0)).setCell (p:=⟨w.heap.size + 1 + 1,1,none⟩) (by dsimp only;omega) (.int .i64 r.1.c1)).setCell (p:=⟨w.heap.size + 1 + 1,2,none⟩) (by dsimp only;omega) (.int .i64 r.1.c2)).setCell (p:=⟨w.heap.size + 1 + 1,3,none⟩) (by dsimp only;omega) (.int .i64 r.1.c3)).setCell (p:=⟨w.heap.size + 1 + 1,4,none⟩) (by dsimp only;omega) (.slice e1 m1 e3)).setCell (p:=⟨w.heap.size + 1 + 1,5,none⟩) (by dsimp only;omega) (.slice e2 m2 e4)).setCell (p:=⟨w.heap.size + 1 + 1,6,none⟩) (by dsimp only;omega) (.int .i64 r.2))
     obtain ⟨Y,hYd⟩ : ∃ Y,Y = ((((((w4.setCell ⟨w.heap.size + 1 + 1,0,none⟩ (.int .i64 r.1.c0)).setCell ⟨w.heap.size + 1 + 1,1,none⟩ (.int .i64 r.1.c1)).setCell ⟨w.heap.size + 1 + 1,2,none⟩ (.int .i64 r.1.c2)).setCell ⟨w.heap.size + 1 + 1,3,none⟩ (.int .i64 r.1.c3)).setCell ⟨w.heap.size + 1 + 1,4,none⟩ (.slice e1 m1 e3)).setCell ⟨w.heap.size + 1 + 1,5,none⟩ (.slice e2 m2 e4)).setCell ⟨w.heap.size + 1 + 1,6,none⟩ (.int .i64 r.2):=⟨_,rfl⟩
     have HYT : Hid (Y.ownsRow w.heap.size 30 tmE.k (.slice e1 m1 e3) m1 (tmE.flat r.1.ts)):=qH (by rw [hYd];exact (own_other (own_other (own_other (own_other (own_other (own_other (own_other (own_mono HBO.out.t (show w.heap.size <= w2.heap.size by have:=HXS.out;omega)) (b:=w.heap.size + 1 + 1) (fun q hq => by have:=(HBO.out.t.lt q hq).1;have:=HXS.out;omega) ⟨w.heap.size + 1 + 1,0,none⟩ (.int .i64 r.1.c0) rfl) (b:=w.heap.size + 1 + 1) (fun q hq => by have:=(HBO.out.t.lt q hq).1;have:=HXS.out;omega) ⟨w.heap.size + 1 + 1,1,none⟩ (.int .i64 r.1.c1) rfl) (b:=w.heap.size + 1 + 1) (fun q hq => by have:=(HBO.out.t.lt q hq).1;have:=HXS.out;omega) ⟨w.heap.size + 1 + 1,2,none⟩ (.int .i64 r.1.c2) rfl) (b:=w.heap.size + 1 + 1) (fun q hq => by have:=(HBO.out.t.lt q hq).1;have:=HXS.out;omega) ⟨w.heap.size + 1 + 1,3,none⟩ (.int .i64 r.1.c3) rfl) (b:=w.heap.size + 1 + 1) (fun q hq => by have:=(HBO.out.t.lt q hq).1;have:=HXS.out;omega) ⟨w.heap.size + 1 + 1,4,none⟩ (.slice e1 m1 e3) rfl) (b:=w.heap.size + 1 + 1) (fun q hq => by have:=(HBO.out.t.lt q hq).1;have:=HXS.out;omega) ⟨w.heap.size + 1 + 1,5,none⟩ (.slice e2 m2 e4) rfl) (b:=w.heap.size + 1 + 1) (fun q hq => by have:=(HBO.out.t.lt q hq).1;have:=HXS.out;omega) ⟨w.heap.size + 1 + 1,6,none⟩ (.int .i64 r.2) rfl))
     have HYI : Hid (Y.ownsRow w.heap.size 32 imE.k (.slice e2 m2 e4) m2 (imE.flat r.1.is)):=qH (by rw [hYd];exact (own_other (own_other (own_other (own_other (own_other (own_other (own_other (own_mono HBO.out.i (show w.heap.size <= w2.heap.size by have:=HXS.out;omega)) (b:=w.heap.size + 1 + 1) (fun q hq => by have:=(HBO.out.i.lt q hq).1;have:=HXS.out;omega) ⟨w.heap.size + 1 + 1,0,none⟩ (.int .i64 r.1.c0) rfl) (b:=w.heap.size + 1 + 1) (fun q hq => by have:=(HBO.out.i.lt q hq).1;have:=HXS.out;omega) ⟨w.heap.size + 1 + 1,1,none⟩ (.int .i64 r.1.c1) rfl) (b:=w.heap.size + 1 + 1) (fun q hq => by have:=(HBO.out.i.lt q hq).1;have:=HXS.out;omega) ⟨w.heap.size + 1 + 1,2,none⟩ (.int .i64 r.1.c2) rfl) (b:=w.heap.size + 1 + 1) (fun q hq => by have:=(HBO.out.i.lt q hq).1;have:=HXS.out;omega) ⟨w.heap.size + 1 + 1,3,none⟩ (.int .i64 r.1.c3) rfl) (b:=w.heap.size + 1 + 1) (fun q hq => by have:=(HBO.out.i.lt q hq).1;have:=HXS.out;omega) ⟨w.heap.size + 1 + 1,4,none⟩ (.slice e1 m1 e3) rfl) (b:=w.heap.size + 1 + 1) (fun q hq => by have:=(HBO.out.i.lt q hq).1;have:=HXS.out;omega) ⟨w.heap.size + 1 + 1,5,none⟩ (.slice e2 m2 e4) rfl) (b:=w.heap.size + 1 + 1) (fun q hq => by have:=(HBO.out.i.lt q hq).1;have:=HXS.out;omega) ⟨w.heap.size + 1 + 1,6,none⟩ (.int .i64 r.2) rfl))
     rw [<- hYd] at hY HYB
     have g0:=hY.cell 0 _ rfl
     have g1:=hY.cell 1 _ rfl
     have g2:=hY.cell 2 _ rfl
     have g3:=hY.cell 3 _ rfl
     have g4:=hY.cell 4 _ rfl
     have g5:=hY.cell 5 _ rfl
     have g6:=hY.cell 6 _ rfl
     have HG:=qH (And.intro g0 (And.intro g1 (And.intro g2 (And.intro g3 (And.intro g4 (And.intro g5 g6))))))
     have HYD:=qH hYd
     clear hz3 hY hYd g0 g1 g2 g3 g4 g5 g6
     go_wp2_with fail
     rw [<- HYD.out]
     obtain ⟨g0,g1,g2,g3,g4,g5,g6⟩:=HG.out
     clear z0 f0 z1 f1 z2 f2 z3 f3 z4 f4 z5 f5 z6 f6
     exact bodyPost_ret (v:=.agg #[.int .i64 r.1.c0,.int .i64 r.1.c1,.int .i64 r.1.c2,.int .i64 r.1.c3,.slice e1 m1 e3,.slice e2 m2 e4,.int .i64 r.2]) (by simp [results,Tryz.results14,go_sem,g0,g1,g2,g3,g4,g5,g6]) rfl ⟨e1,m1,e3,e2,m2,e4,rfl,⟨HYT.out,HYI.out⟩,HYB.out⟩
end Go.Proofs.YtbgoldeopmlbnaaGreatDoor
