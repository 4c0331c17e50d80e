/- Used by the law. -/
import Derived.Deep.CutRange
import Derived.Test.YthkbcjnbmciolaaGreatDoorQV25
set_option maxRecDepth 100000
set_option maxHeartbeats 16000000
namespace Go.Proofs.YthkbcjnbmciolaaGreatDoor
open Go.RowKit Go.PlainAid G IRow
set_option linter.unusedVariables false
theorem row_apart {w : World} {base B n : Nat} {v : Value} {ts : List Tm} {x : Int} (hr : w.ownsRow base 97 tmE.k v n (tmE.flat ts)) (h0 : 0 < n) (hb : w.cell? ⟨B,1,none⟩ = some (.int .i64 x)) : ∀ q,v.ownBlock = some q -> q ≠ B:=by
 intro q hq
 rcases hr.2 with ⟨rfl,h⟩ | ⟨g,cap,cur,rfl,_,hg,_⟩
 · omega
 · have hgq : g = q:=by simpa [Value.ownBlock] using hq
   subst hgq
   obtain ⟨g',o',hge,_,_,t1⟩:=TmR.at (TmR.own hr) h0
   simp only [Option.some.injEq,Addr.mk.injEq,and_true] at hge
   obtain ⟨rfl,rfl⟩:=hge
   intro e
   subst e
   simp only [Nat.zero_mul,Nat.zero_add] at t1
   rw [hb] at t1
   cases t1
theorem l07Items_any (c0 c1 c2 c3 : Int) (ts : List Tm) (is : List Im) (q0 q1 q2 q3 q4 q5 : Int) (q6 q7 : ByteArray) (q8 : Int) (q9 : ByteArray) (a1 a2 : Option Addr) (n1 n2 a3 a4 : Nat) (w : World) (h : BkR w a1 n1 a3 a2 n2 a4 ts is) (hn1 : n1 <= 5) (hn2 : n2 <= 8) (hkd : q0 = 3 ∨ q0 = 4) :
 Calls Tryz.prog 118 #[.agg #[.int .i64 c0,.int .i64 c1,.int .i64 c2,.int .i64 c3,.slice a1 n1 a3,.slice a2 n2 a4],.agg #[.int .i64 q0,.int .i64 q1,.int .i64 q2,.int .i64 q3,.int .i64 q4,.int .i64 q5,.string q6,.string q7,.int .i64 q8,.string q9]] w (NewBookOut (itemsR ⟨c0,c1,c2,c3,ts,is⟩ ⟨q0,q1,q2,q3,q4,q5,q6,q7,q8,q9⟩) w):=by
 have key : ((q0 = 3 /\ (n1 : Int) < q8) ∨ (q0 = 3 /\ ¬ (n1 : Int) < q8 /\ hasI is q7 = false /\ 8 <= n2) ∨ (q0 = 4 /\ hasI is q7 = false)) ∨ ((q0 = 3 /\ ¬ (n1 : Int) < q8 /\ (hasI is q7 = true ∨ n2 < 8)) ∨ (q0 = 4 /\ hasI is q7 = true)):=by
  cases hh : hasI is q7
  · rcases hkd with rfl | rfl
    · by_cases h1 : (n1 : Int) < q8
      · exact .inl (.inl ⟨rfl,h1⟩)
      · by_cases h8 : 8 <= n2
        · exact .inl (.inr (.inl ⟨rfl,h1,rfl,h8⟩))
        · exact .inr (.inl ⟨rfl,h1,.inr (by omega)⟩)
    · exact .inl (.inr (.inr ⟨rfl,rfl⟩))
  · rcases hkd with rfl | rfl
    · by_cases h1 : (n1 : Int) < q8
      · exact .inl (.inl ⟨rfl,h1⟩)
      · exact .inr (.inl ⟨rfl,h1,.inl rfl⟩)
    · exact .inr (.inr ⟨rfl,rfl⟩)
 rcases key with hbad | hok
 · exact l07Items_code c0 c1 c2 c3 ts is q0 q1 q2 q3 q4 q5 q6 q7 q8 q9 a1 a2 n1 n2 a3 a4 w h hn1 hn2 hbad
 · exact l07Items_ok c0 c1 c2 c3 ts is q0 q1 q2 q3 q4 q5 q6 q7 q8 q9 a1 a2 n1 n2 a3 a4 w h hn1 hn2 hok
theorem l07Do_any (c0 c1 c2 c3 : Int) (ts : List Tm) (is : List Im) (q0 q1 q2 q3 q4 q5 : Int) (q6 q7 : ByteArray) (q8 : Int) (q9 : ByteArray) (a1 a2 : Option Addr) (n1 n2 a3 a4 : Nat) (w : World) (h : BkR w a1 n1 a3 a2 n2 a4 ts is) (hb : bookB ⟨c0,c1,c2,c3,ts,is⟩ = true) (hd : deedB q0 q1 q2 q3 q4 q5 q6 q7 q8 q9 = true) :
 Calls Tryz.prog 96 #[.agg #[.int .i64 c0,.int .i64 c1,.int .i64 c2,.int .i64 c3,.slice a1 n1 a3,.slice a2 n2 a4],.agg #[.int .i64 q0,.int .i64 q1,.int .i64 q2,.int .i64 q3,.int .i64 q4,.int .i64 q5,.string q6,.string q7,.int .i64 q8,.string q9]] w (NewBookOut (doS ⟨c0,c1,c2,c3,ts,is⟩ ⟨q0,q1,q2,q3,q4,q5,q6,q7,q8,q9⟩) w):=by
 have hl1 : ts.length = n1:=h.t.len
 have hl2 : is.length = n2:=h.i.len
 have hsz:=book_sizes hb
 dsimp only at hsz
 have hn1 : n1 <= 5:=by rw [<- hl1];exact hsz.1
 have hn2 : n2 <= 8:=by rw [<- hl2];exact hsz.2.1
 clear hsz
 obtain ⟨W,hW⟩ : ∃ W,W = ((w.alloc (.cells #[.int .i64 c0,.int .i64 c1,.int .i64 c2,.int .i64 c3,.slice a1 n1 a3,.slice a2 n2 a4] 43)).alloc (.cells #[.int .i64 q0,.int .i64 q1,.int .i64 q2,.int .i64 q3,.int .i64 q4,.int .i64 q5,.string q6,.string q7,.int .i64 q8,.string q9] 145)).alloc (.cells #[.int .i64 0,.int .i64 0,.int .i64 0,.int .i64 0,.slice none 0 0,.slice none 0 0,.int .i64 0] 142):=⟨_,rfl⟩
 have HB0 : Hid (Below w.heap.size w W):=qH (by rw [hW];repeat' (first | exact Below.refl _ _ | refine Below.alloc ?_ (by first | exact Nat.le_refl _ | (simp;done) | (simp;omega)) _))
 have HAb : Hid (BoxC W w.heap.size [.int .i64 c0,.int .i64 c1,.int .i64 c2,.int .i64 c3,.slice a1 n1 a3,.slice a2 n2 a4]):=qH (by rw [hW];exact ((BoxC.made _ _ _).alloc _).alloc _)
 have HAd : Hid (BoxC W (w.heap.size + 1) [.int .i64 q0,.int .i64 q1,.int .i64 q2,.int .i64 q3,.int .i64 q4,.int .i64 q5,.string q6,.string q7,.int .i64 q8,.string q9]):=qH (by rw [hW];have:=(BoxC.made (w.alloc (.cells #[.int .i64 c0,.int .i64 c1,.int .i64 c2,.int .i64 c3,.slice a1 n1 a3,.slice a2 n2 a4] 43)) #[.int .i64 q0,.int .i64 q1,.int .i64 q2,.int .i64 q3,.int .i64 q4,.int .i64 q5,.string q6,.string q7,.int .i64 q8,.string q9] 145).alloc (.cells #[.int .i64 0,.int .i64 0,.int .i64 0,.int .i64 0,.slice none 0 0,.slice none 0 0,.int .i64 0] 142);rwa [World.size_alloc] at this)
 have HAr : Hid (BoxC W (w.heap.size + 1 + 1) [.int .i64 0,.int .i64 0,.int .i64 0,.int .i64 0,.slice none 0 0,.slice none 0 0,.int .i64 0]):=qH (by rw [hW];have:=BoxC.made ((w.alloc (.cells #[.int .i64 c0,.int .i64 c1,.int .i64 c2,.int .i64 c3,.slice a1 n1 a3,.slice a2 n2 a4] 43)).alloc (.cells #[.int .i64 q0,.int .i64 q1,.int .i64 q2,.int .i64 q3,.int .i64 q4,.int .i64 q5,.string q6,.string q7,.int .i64 q8,.string q9] 145)) #[.int .i64 0,.int .i64 0,.int .i64 0,.int .i64 0,.slice none 0 0,.slice none 0 0,.int .i64 0] 142;rwa [World.size_alloc,World.size_alloc] at this)
 have HR:=qH h
 clear h
 go_enter Tryz.func96,Tryz.ntmps96
 go_wp2_with fail
 rw [<- hW]
 clear hW
 refine (l07Zero_any c0 c1 c2 c3 a1 a2 n1 n2 a3 a4 _).mono ?_
 rintro e w1 ⟨rfl,hb1⟩
 have HW1:=qH hb1
 have x0:=(HAb.out.below hb1).cell 0 _ rfl
 have x1:=(HAb.out.below hb1).cell 1 _ rfl
 have x2:=(HAb.out.below hb1).cell 2 _ rfl
 have x3:=(HAb.out.below hb1).cell 3 _ rfl
 have x4:=(HAb.out.below hb1).cell 4 _ rfl
 have x5:=(HAb.out.below hb1).cell 5 _ rfl
 clear hb1
 go_wp2_with fail
 refine (l07Copy_any c0 c1 c2 c3 a1 a2 n1 n2 a3 a4 ts is _ (HR.out.below (HB0.out.trans (HW1.out.mono HB0.out.size))) (by omega) (by omega)).mono ?_
 rintro e w2 ⟨b1,m1,b3,b2,m2,b4,rfl,ho,hb2⟩
 have hm1 : m1 = n1:=ho.len.1.symm.trans hl1
 have hm2 : m2 = n2:=ho.len.2.symm.trans hl2
 rw [hm1,hm2] at ho
 rw [hm1,hm2]
 have HO2:=qH ho
 have HW2:=qH (HW1.out.trans (hb2.mono HW1.out.size))
 clear ho hb2 hm1 hm2 m1 m2 x0 x1 x2 x3 x4 x5
 obtain ⟨V,hV⟩ : ∃ V,V = w2.alloc (.cells #[.int .i64 c0,.int .i64 c1,.int .i64 c2,.int .i64 c3,.slice b1 n1 b3,.slice b2 n2 b4] 43):=⟨_,rfl⟩
 have HVW : Hid (Below W.heap.size W V):=qH (by rw [hV];exact HW2.out.alloc HW2.out.size _)
 have HVB : Hid (Below w.heap.size w V):=qH (HB0.out.trans (HVW.out.mono HB0.out.size))
 have HVo : Hid (BoxC V w2.heap.size [.int .i64 c0,.int .i64 c1,.int .i64 c2,.int .i64 c3,.slice b1 n1 b3,.slice b2 n2 b4]):=qH (by rw [hV];exact BoxC.made _ _ _)
 have HVT : Hid (V.ownsRow W.heap.size 97 tmE.k (.slice b1 n1 b3) n1 (tmE.flat ts)):=qH (by rw [hV];exact World.ownsRow.alloc (own_mono HO2.out.t HW1.out.size) _)
 have HVI : Hid (V.ownsRow W.heap.size 62 imE.k (.slice b2 n2 b4) n2 (imE.flat is)):=qH (by rw [hV];exact World.ownsRow.alloc (own_mono HO2.out.i HW1.out.size) _)
 have HVb:=qH (HAb.out.below HVW.out)
 have HVd:=qH (HAd.out.below HVW.out)
 have HVr:=qH (HAr.out.below HVW.out)
 have HTL : Hid (∀ q,(Value.slice b1 n1 b3).ownBlock = some q -> q < w2.heap.size):=qH (fun q hq => (HO2.out.t.lt q hq).2)
 have HIL : Hid (∀ q,(Value.slice b2 n2 b4).ownBlock = some q -> q < w2.heap.size):=qH (fun q hq => (HO2.out.i.lt q hq).2)
 have HWS : Hid (w.heap.size + 1 + 1 < W.heap.size):=qH HAr.out.lt
 have HWT : Hid (W.heap.size <= w2.heap.size):=qH HW2.out.size
 have hne1 : ¬ w2.heap.size = w.heap.size + 1 + 1:=by have:=HWS.out;have:=HWT.out;omega
 have hne2 : ¬ w.heap.size + 1 + 1 = w2.heap.size:=by have:=HWS.out;have:=HWT.out;omega
 go_upto_region 3 with fail
 rw [<- hV]
 clear hV
 have x4:=HVb.out.cell 4 _ rfl
 have d0:=HVd.out.cell 0 _ rfl
 have hZK : zeroK ⟨c0,c1,c2,c3,ts,is⟩ = zeroB c0 c1 c2 c3 n1 n2:=by unfold zeroK;dsimp only;rw [hl1,hl2]
 have hwn : IntKind.i64.wrap (n1 : Int) = (n1 : Int):=IntWalk.i64_in _ (by omega)
 by_cases k1 : q0 = 1
 · subst k1
   have d1:=HVd.out.cell 1 _ rfl
   have d2:=HVd.out.cell 2 _ rfl
   have d3:=HVd.out.cell 3 _ rfl
   have d4:=HVd.out.cell 4 _ rfl
   have o0:=HVo.out.cell 0 _ rfl
   have o1:=HVo.out.cell 1 _ rfl
   have o2:=HVo.out.cell 2 _ rfl
   have o3:=HVo.out.cell 3 _ rfl
   have o4:=HVo.out.cell 4 _ rfl
   have o5:=HVo.out.cell 5 _ rfl
   have p0:=HVo.out.free 0
   have p1:=HVo.out.free 1
   have p2:=HVo.out.free 2
   have p3:=HVo.out.free 3
   have p4:=HVo.out.free 4
   cases hz : zeroB c0 c1 c2 c3 n1 n2
   · have HD : Hid (doS ⟨c0,c1,c2,c3,ts,is⟩ ⟨1,q1,q2,q3,q4,q5,q6,q7,q8,q9⟩ = (⟨q1,q2,q3,q4,ts,is⟩,0)):=qH (by unfold doS;rw [if_pos rfl,hZK,hz];rfl)
     have z0:=HVr.out.cell 0 _ rfl
     have f0:=HVr.out.free 0
     have z1:=HVr.out.cell 1 _ rfl
     have f1:=HVr.out.free 1
     have z2:=HVr.out.cell 2 _ rfl
     have f2:=HVr.out.free 2
     have z3:=HVr.out.cell 3 _ rfl
     have f3:=HVr.out.free 3
     have z4:=HVr.out.cell 4 _ rfl
     have f4:=HVr.out.free 4
     have z5:=HVr.out.cell 5 _ rfl
     have f5:=HVr.out.free 5
     have z6:=HVr.out.cell 6 _ rfl
     have f6:=HVr.out.free 6
     have hY:=(((((((((((HVr.out.other ⟨w2.heap.size,0,none⟩ (.int .i64 q1) (by dsimp only;omega)).other ⟨w2.heap.size,1,none⟩ (.int .i64 q2) (by dsimp only;omega)).other ⟨w2.heap.size,2,none⟩ (.int .i64 q3) (by dsimp only;omega)).other ⟨w2.heap.size,3,none⟩ (.int .i64 q4) (by dsimp only;omega)).set (j:=0) (by simp) (.int .i64 q1)).set (j:=1) (by simp) (.int .i64 q2)).set (j:=2) (by simp) (.int .i64 q3)).set (j:=3) (by simp) (.int .i64 q4)).set (j:=4) (by simp) (.slice b1 n1 b3)).set (j:=5) (by simp) (.slice b2 n2 b4)).set (j:=6) (by simp) (.int .i64 0))
     have HYB:=qH (((((((((((HVB.out.setCell (p:=⟨w2.heap.size,0,none⟩) (by dsimp only;have:=HWS.out;have:=HWT.out;omega) (.int .i64 q1)).setCell (p:=⟨w2.heap.size,1,none⟩) (by dsimp only;have:=HWS.out;have:=HWT.out;omega) (.int .i64 q2)).setCell (p:=⟨w2.heap.size,2,none⟩) (by dsimp only;have:=HWS.out;have:=HWT.out;omega) (.int .i64 q3)).setCell (p:=⟨w2.heap.size,3,none⟩) (by dsimp only;have:=HWS.out;have:=HWT.out;omega) (.int .i64 q4)).setCell (p:=⟨w.heap.size + 1 + 1,0,none⟩) (by dsimp only;omega) (.int .i64 q1)).setCell (p:=⟨w.heap.size + 1 + 1,1,none⟩) (by dsimp only;omega) (.int .i64 q2)).setCell (p:=⟨w.heap.size + 1 + 1,2,none⟩) (by dsimp only;omega) (.int .i64 q3)).setCell (p:=⟨w.heap.size + 1 + 1,3,none⟩) (by dsimp only;omega) (.int .i64 q4)).setCell (p:=⟨w.heap.size + 1 + 1,4,none⟩) (by dsimp only;omega) (.slice b1 n1 b3)).setCell (p:=⟨w.heap.size + 1 + 1,5,none⟩) (by dsimp only;omega) (.slice b2 n2 b4)).setCell (p:=⟨w.heap.size + 1 + 1,6,none⟩) (by dsimp only;omega) (.int .i64 0))
     obtain ⟨Y,hYd⟩ : ∃ Y,Y = ((((((((((V.setCell ⟨w2.heap.size,0,none⟩ (.int .i64 q1)).setCell ⟨w2.heap.size,1,none⟩ (.int .i64 q2)).setCell ⟨w2.heap.size,2,none⟩ (.int .i64 q3)).setCell ⟨w2.heap.size,3,none⟩ (.int .i64 q4)).setCell ⟨w.heap.size + 1 + 1,0,none⟩ (.int .i64 q1)).setCell ⟨w.heap.size + 1 + 1,1,none⟩ (.int .i64 q2)).setCell ⟨w.heap.size + 1 + 1,2,none⟩ (.int .i64 q3)).setCell ⟨w.heap.size + 1 + 1,3,none⟩ (.int .i64 q4)).setCell ⟨w.heap.size + 1 + 1,4,none⟩ (.slice b1 n1 b3)).setCell ⟨w.heap.size + 1 + 1,5,none⟩ (.slice b2 n2 b4)).setCell ⟨w.heap.size + 1 + 1,6,none⟩ (.int .i64 0):=⟨_,rfl⟩
     have HYT : Hid (Y.ownsRow w.heap.size 97 tmE.k (.slice b1 n1 b3) n1 (tmE.flat ts)):=qH (by rw [hYd];exact (own_other (own_other (own_other (own_other (own_other (own_other (own_other (own_other (own_other (own_other (own_other (own_mono HVT.out (show w.heap.size <= W.heap.size from HB0.out.size)) (b:=w2.heap.size) (fun q hq => by have:=HTL.out q hq;omega) ⟨w2.heap.size,0,none⟩ (.int .i64 q1) rfl) (b:=w2.heap.size) (fun q hq => by have:=HTL.out q hq;omega) ⟨w2.heap.size,1,none⟩ (.int .i64 q2) rfl) (b:=w2.heap.size) (fun q hq => by have:=HTL.out q hq;omega) ⟨w2.heap.size,2,none⟩ (.int .i64 q3) rfl) (b:=w2.heap.size) (fun q hq => by have:=HTL.out q hq;omega) ⟨w2.heap.size,3,none⟩ (.int .i64 q4) rfl) (b:=w.heap.size + 1 + 1) (fun q hq => by have:=(HVT.out.lt q hq).1;have:=HWS.out;omega) ⟨w.heap.size + 1 + 1,0,none⟩ (.int .i64 q1) rfl) (b:=w.heap.size + 1 + 1) (fun q hq => by have:=(HVT.out.lt q hq).1;have:=HWS.out;omega) ⟨w.heap.size + 1 + 1,1,none⟩ (.int .i64 q2) rfl) (b:=w.heap.size + 1 + 1) (fun q hq => by have:=(HVT.out.lt q hq).1;have:=HWS.out;omega) ⟨w.heap.size + 1 + 1,2,none⟩ (.int .i64 q3) rfl) (b:=w.heap.size + 1 + 1) (fun q hq => by have:=(HVT.out.lt q hq).1;have:=HWS.out;omega) ⟨w.heap.size + 1 + 1,3,none⟩ (.int .i64 q4) rfl) (b:=w.heap.size + 1 + 1) (fun q hq => by have:=(HVT.out.lt q hq).1;have:=HWS.out;omega) ⟨w.heap.size + 1 + 1,4,none⟩ (.slice b1 n1 b3) rfl) (b:=w.heap.size + 1 + 1) (fun q hq => by have:=(HVT.out.lt q hq).1;have:=HWS.out;omega) ⟨w.heap.size + 1 + 1,5,none⟩ (.slice b2 n2 b4) rfl) (b:=w.heap.size + 1 + 1) (fun q hq => by have:=(HVT.out.lt q hq).1;have:=HWS.out;omega) ⟨w.heap.size + 1 + 1,6,none⟩ (.int .i64 0) rfl))
     have HYI : Hid (Y.ownsRow w.heap.size 62 imE.k (.slice b2 n2 b4) n2 (imE.flat is)):=qH (by rw [hYd];exact (own_other (own_other (own_other (own_other (own_other (own_other (own_other (own_other (own_other (own_other (own_other (own_mono HVI.out (show w.heap.size <= W.heap.size from HB0.out.size)) (b:=w2.heap.size) (fun q hq => by have:=HIL.out q hq;omega) ⟨w2.heap.size,0,none⟩ (.int .i64 q1) rfl) (b:=w2.heap.size) (fun q hq => by have:=HIL.out q hq;omega) ⟨w2.heap.size,1,none⟩ (.int .i64 q2) rfl) (b:=w2.heap.size) (fun q hq => by have:=HIL.out q hq;omega) ⟨w2.heap.size,2,none⟩ (.int .i64 q3) rfl) (b:=w2.heap.size) (fun q hq => by have:=HIL.out q hq;omega) ⟨w2.heap.size,3,none⟩ (.int .i64 q4) rfl) (b:=w.heap.size + 1 + 1) (fun q hq => by have:=(HVI.out.lt q hq).1;have:=HWS.out;omega) ⟨w.heap.size + 1 + 1,0,none⟩ (.int .i64 q1) rfl) (b:=w.heap.size + 1 + 1) (fun q hq => by have:=(HVI.out.lt q hq).1;have:=HWS.out;omega) ⟨w.heap.size + 1 + 1,1,none⟩ (.int .i64 q2) rfl) (b:=w.heap.size + 1 + 1) (fun q hq => by have:=(HVI.out.lt q hq).1;have:=HWS.out;omega) ⟨w.heap.size + 1 + 1,2,none⟩ (.int .i64 q3) rfl) (b:=w.heap.size + 1 + 1) (fun q hq => by have:=(HVI.out.lt q hq).1;have:=HWS.out;omega) ⟨w.heap.size + 1 + 1,3,none⟩ (.int .i64 q4) rfl) (b:=w.heap.size + 1 + 1) (fun q hq => by have:=(HVI.out.lt q hq).1;have:=HWS.out;omega) ⟨w.heap.size + 1 + 1,4,none⟩ (.slice b1 n1 b3) rfl) (b:=w.heap.size + 1 + 1) (fun q hq => by have:=(HVI.out.lt q hq).1;have:=HWS.out;omega) ⟨w.heap.size + 1 + 1,5,none⟩ (.slice b2 n2 b4) rfl) (b:=w.heap.size + 1 + 1) (fun q hq => by have:=(HVI.out.lt q hq).1;have:=HWS.out;omega) ⟨w.heap.size + 1 + 1,6,none⟩ (.int .i64 0) rfl))
     rw [<- hYd] at hY HYB
     have g0:=hY.cell 0 _ rfl
     have g1:=hY.cell 1 _ rfl
     have g2:=hY.cell 2 _ rfl
     have g3:=hY.cell 3 _ rfl
     have g4:=hY.cell 4 _ rfl
     have g5:=hY.cell 5 _ rfl
     have g6:=hY.cell 6 _ rfl
     have HG:=qH (And.intro g0 (And.intro g1 (And.intro g2 (And.intro g3 (And.intro g4 (And.intro g5 g6))))))
     have HYD:=qH hYd
     clear hY hYd g0 g1 g2 g3 g4 g5 g6
     go_wp2_with fail
     rw [<- HYD.out]
     obtain ⟨g0,g1,g2,g3,g4,g5,g6⟩:=HG.out
     clear z0 f0 z1 f1 z2 f2 z3 f3 z4 f4 z5 f5 z6 f6
     exact bodyPost_ret (v:=.agg #[.int .i64 q1,.int .i64 q2,.int .i64 q3,.int .i64 q4,.slice b1 n1 b3,.slice b2 n2 b4,.int .i64 0]) (by simp [results,Tryz.results96,go_sem,g0,g1,g2,g3,g4,g5,g6]) rfl (by rw [HD.out];exact ⟨b1,n1,b3,b2,n2,b4,rfl,⟨HYT.out,HYI.out⟩,HYB.out⟩)
   · have HD : Hid (doS ⟨c0,c1,c2,c3,ts,is⟩ ⟨1,q1,q2,q3,q4,q5,q6,q7,q8,q9⟩ = (⟨q1,q2,q3,q4,[⟨1,⟨#[120]⟩⟩],is⟩,0)):=qH (by unfold doS;rw [if_pos rfl,hZK,hz];rfl)
     go_upto_region 6 with fail
     have hCo:=((((HVo.out.set (j:=0) (by simp) (.int .i64 q1)).set (j:=1) (by simp) (.int .i64 q2)).set (j:=2) (by simp) (.int .i64 q3)).set (j:=3) (by simp) (.int .i64 q4))
     have hCr:=((((HVr.out.other ⟨w2.heap.size,0,none⟩ (.int .i64 q1) (by dsimp only;omega)).other ⟨w2.heap.size,1,none⟩ (.int .i64 q2) (by dsimp only;omega)).other ⟨w2.heap.size,2,none⟩ (.int .i64 q3) (by dsimp only;omega)).other ⟨w2.heap.size,3,none⟩ (.int .i64 q4) (by dsimp only;omega))
     have hCB:=((((HVB.out.setCell (p:=⟨w2.heap.size,0,none⟩) (by dsimp only;have:=HWS.out;have:=HWT.out;omega) (.int .i64 q1)).setCell (p:=⟨w2.heap.size,1,none⟩) (by dsimp only;have:=HWS.out;have:=HWT.out;omega) (.int .i64 q2)).setCell (p:=⟨w2.heap.size,2,none⟩) (by dsimp only;have:=HWS.out;have:=HWT.out;omega) (.int .i64 q3)).setCell (p:=⟨w2.heap.size,3,none⟩) (by dsimp only;have:=HWS.out;have:=HWT.out;omega) (.int .i64 q4))
     have hCI:=(own_other (own_other (own_other (own_other (own_mono HVI.out (show w.heap.size <= W.heap.size from HB0.out.size)) (b:=w2.heap.size) (fun q hq => by have:=HIL.out q hq;omega) ⟨w2.heap.size,0,none⟩ (.int .i64 q1) rfl) (b:=w2.heap.size) (fun q hq => by have:=HIL.out q hq;omega) ⟨w2.heap.size,1,none⟩ (.int .i64 q2) rfl) (b:=w2.heap.size) (fun q hq => by have:=HIL.out q hq;omega) ⟨w2.heap.size,2,none⟩ (.int .i64 q3) rfl) (b:=w2.heap.size) (fun q hq => by have:=HIL.out q hq;omega) ⟨w2.heap.size,3,none⟩ (.int .i64 q4) rfl)
     generalize ((((V.setCell ⟨w2.heap.size,0,none⟩ (.int .i64 q1)).setCell ⟨w2.heap.size,1,none⟩ (.int .i64 q2)).setCell ⟨w2.heap.size,2,none⟩ (.int .i64 q3)).setCell ⟨w2.heap.size,3,none⟩ (.int .i64 q4)) = C at *
     have HCo:=qH hCo
     have HCr:=qH hCr
     have HCB:=qH hCB
     have HCI:=qH hCI
     clear hCo hCr hCB hCI o0 o1 o2 o3 o4 o5 p0 p1 p2 p3 p4 d0 d1 d2 d3 d4 x4
     have hxo:=HCo.out.alloc (.cells #[.int .i64 1,.string ⟨#[120]⟩] 97)
     have hxr:=qH (HCr.out.alloc (.cells #[.int .i64 1,.string ⟨#[120]⟩] 97))
     have hxB:=qH (HCB.out.alloc HCB.out.size (.cells #[.int .i64 1,.string ⟨#[120]⟩] 97))
     have hxI:=qH (World.ownsRow.alloc HCI.out (.cells #[.int .i64 1,.string ⟨#[120]⟩] 97))
     have hxT : Hid ((C.alloc (.cells #[.int .i64 1,.string ⟨#[120]⟩] 97)).ownsRow C.heap.size 97 tmE.k (.slice (some ⟨C.heap.size,0,none⟩) 1 1) 1 (tmE.flat [⟨1,⟨#[120]⟩⟩])):=qH (World.ownsRow_lit C #[.int .i64 1,.string ⟨#[120]⟩] 1 (Nat.le_refl _) (by decide) rfl)
     have HOC:=qH HCo.out.lt
     have o0:=hxo.cell 0 _ rfl
     have o1:=hxo.cell 1 _ rfl
     have o2:=hxo.cell 2 _ rfl
     have o3:=hxo.cell 3 _ rfl
     have o4:=hxo.cell 4 _ rfl
     have o5:=hxo.cell 5 _ rfl
     have p4:=hxo.free 4
     clear hxo
     have z0:=hxr.out.cell 0 _ rfl
     have f0:=hxr.out.free 0
     have z1:=hxr.out.cell 1 _ rfl
     have f1:=hxr.out.free 1
     have z2:=hxr.out.cell 2 _ rfl
     have f2:=hxr.out.free 2
     have z3:=hxr.out.cell 3 _ rfl
     have f3:=hxr.out.free 3
     have z4:=hxr.out.cell 4 _ rfl
     have f4:=hxr.out.free 4
     have z5:=hxr.out.cell 5 _ rfl
     have f5:=hxr.out.free 5
     have z6:=hxr.out.cell 6 _ rfl
     have f6:=hxr.out.free 6
     have hY:=((((((((hxr.out.other ⟨w2.heap.size,4,none⟩ (.slice (some ⟨C.heap.size,0,none⟩) 1 1) (by dsimp only;omega)).set (j:=0) (by simp) (.int .i64 q1)).set (j:=1) (by simp) (.int .i64 q2)).set (j:=2) (by simp) (.int .i64 q3)).set (j:=3) (by simp) (.int .i64 q4)).set (j:=4) (by simp) (.slice (some ⟨C.heap.size,0,none⟩) 1 1)).set (j:=5) (by simp) (.slice b2 n2 b4)).set (j:=6) (by simp) (.int .i64 0))
     have HYB:=qH ((((((((hxB.out.setCell (p:=⟨w2.heap.size,4,none⟩) (by dsimp only;have:=HWS.out;have:=HWT.out;omega) (.slice (some ⟨C.heap.size,0,none⟩) 1 1)).setCell (p:=⟨w.heap.size + 1 + 1,0,none⟩) (by dsimp only;omega) (.int .i64 q1)).setCell (p:=⟨w.heap.size + 1 + 1,1,none⟩) (by dsimp only;omega) (.int .i64 q2)).setCell (p:=⟨w.heap.size + 1 + 1,2,none⟩) (by dsimp only;omega) (.int .i64 q3)).setCell (p:=⟨w.heap.size + 1 + 1,3,none⟩) (by dsimp only;omega) (.int .i64 q4)).setCell (p:=⟨w.heap.size + 1 + 1,4,none⟩) (by dsimp only;omega) (.slice (some ⟨C.heap.size,0,none⟩) 1 1)).setCell (p:=⟨w.heap.size + 1 + 1,5,none⟩) (by dsimp only;omega) (.slice b2 n2 b4)).setCell (p:=⟨w.heap.size + 1 + 1,6,none⟩) (by dsimp only;omega) (.int .i64 0))
     obtain ⟨Y,hYd⟩ : ∃ Y,Y = ((((((((C.alloc (.cells #[.int .i64 1,.string ⟨#[120]⟩] 97)).setCell ⟨w2.heap.size,4,none⟩ (.slice (some ⟨C.heap.size,0,none⟩) 1 1)).setCell ⟨w.heap.size + 1 + 1,0,none⟩ (.int .i64 q1)).setCell ⟨w.heap.size + 1 + 1,1,none⟩ (.int .i64 q2)).setCell ⟨w.heap.size + 1 + 1,2,none⟩ (.int .i64 q3)).setCell ⟨w.heap.size + 1 + 1,3,none⟩ (.int .i64 q4)).setCell ⟨w.heap.size + 1 + 1,4,none⟩ (.slice (some ⟨C.heap.size,0,none⟩) 1 1)).setCell ⟨w.heap.size + 1 + 1,5,none⟩ (.slice b2 n2 b4)).setCell ⟨w.heap.size + 1 + 1,6,none⟩ (.int .i64 0):=⟨_,rfl⟩
     have HYT : Hid (Y.ownsRow w.heap.size 97 tmE.k (.slice (some ⟨C.heap.size,0,none⟩) 1 1) 1 (tmE.flat [⟨1,⟨#[120]⟩⟩])):=qH (by rw [hYd];exact (own_other (own_other (own_other (own_other (own_other (own_other (own_other (own_other (own_mono hxT.out HCB.out.size) (b:=w2.heap.size) (fun q hq => by have:=(hxT.out.lt q hq).1;have:=HOC.out;omega) ⟨w2.heap.size,4,none⟩ (.slice (some ⟨C.heap.size,0,none⟩) 1 1) rfl) (b:=w.heap.size + 1 + 1) (fun q hq => by have:=(hxT.out.lt q hq).1;have:=HOC.out;have:=HWS.out;have:=HWT.out;omega) ⟨w.heap.size + 1 + 1,0,none⟩ (.int .i64 q1) rfl) (b:=w.heap.size + 1 + 1) (fun q hq => by have:=(hxT.out.lt q hq).1;have:=HOC.out;have:=HWS.out;have:=HWT.out;omega) ⟨w.heap.size + 1 + 1,1,none⟩ (.int .i64 q2) rfl) (b:=w.heap.size + 1 + 1) (fun q hq => by have:=(hxT.out.lt q hq).1;have:=HOC.out;have:=HWS.out;have:=HWT.out;omega) ⟨w.heap.size + 1 + 1,2,none⟩ (.int .i64 q3) rfl) (b:=w.heap.size + 1 + 1) (fun q hq => by have:=(hxT.out.lt q hq).1;have:=HOC.out;have:=HWS.out;have:=HWT.out;omega) ⟨w.heap.size + 1 + 1,3,none⟩ (.int .i64 q4) rfl) (b:=w.heap.size + 1 + 1) (fun q hq => by have:=(hxT.out.lt q hq).1;have:=HOC.out;have:=HWS.out;have:=HWT.out;omega) ⟨w.heap.size + 1 + 1,4,none⟩ (.slice (some ⟨C.heap.size,0,none⟩) 1 1) rfl) (b:=w.heap.size + 1 + 1) (fun q hq => by have:=(hxT.out.lt q hq).1;have:=HOC.out;have:=HWS.out;have:=HWT.out;omega) ⟨w.heap.size + 1 + 1,5,none⟩ (.slice b2 n2 b4) rfl) (b:=w.heap.size + 1 + 1) (fun q hq => by have:=(hxT.out.lt q hq).1;have:=HOC.out;have:=HWS.out;have:=HWT.out;omega) ⟨w.heap.size + 1 + 1,6,none⟩ (.int .i64 0) rfl))
     have HYI : Hid (Y.ownsRow w.heap.size 62 imE.k (.slice b2 n2 b4) n2 (imE.flat is)):=qH (by rw [hYd];exact (own_other (own_other (own_other (own_other (own_other (own_other (own_other (own_other hxI.out (b:=w2.heap.size) (fun q hq => by have:=HIL.out q hq;omega) ⟨w2.heap.size,4,none⟩ (.slice (some ⟨C.heap.size,0,none⟩) 1 1) rfl) (b:=w.heap.size + 1 + 1) (fun q hq => by have:=(HVI.out.lt q hq).1;have:=HWS.out;omega) ⟨w.heap.size + 1 + 1,0,none⟩ (.int .i64 q1) rfl) (b:=w.heap.size + 1 + 1) (fun q hq => by have:=(HVI.out.lt q hq).1;have:=HWS.out;omega) ⟨w.heap.size + 1 + 1,1,none⟩ (.int .i64 q2) rfl) (b:=w.heap.size + 1 + 1) (fun q hq => by have:=(HVI.out.lt q hq).1;have:=HWS.out;omega) ⟨w.heap.size + 1 + 1,2,none⟩ (.int .i64 q3) rfl) (b:=w.heap.size + 1 + 1) (fun q hq => by have:=(HVI.out.lt q hq).1;have:=HWS.out;omega) ⟨w.heap.size + 1 + 1,3,none⟩ (.int .i64 q4) rfl) (b:=w.heap.size + 1 + 1) (fun q hq => by have:=(HVI.out.lt q hq).1;have:=HWS.out;omega) ⟨w.heap.size + 1 + 1,4,none⟩ (.slice (some ⟨C.heap.size,0,none⟩) 1 1) rfl) (b:=w.heap.size + 1 + 1) (fun q hq => by have:=(HVI.out.lt q hq).1;have:=HWS.out;omega) ⟨w.heap.size + 1 + 1,5,none⟩ (.slice b2 n2 b4) rfl) (b:=w.heap.size + 1 + 1) (fun q hq => by have:=(HVI.out.lt q hq).1;have:=HWS.out;omega) ⟨w.heap.size + 1 + 1,6,none⟩ (.int .i64 0) rfl))
     rw [<- hYd] at hY HYB
     have g0:=hY.cell 0 _ rfl
     have g1:=hY.cell 1 _ rfl
     have g2:=hY.cell 2 _ rfl
     have g3:=hY.cell 3 _ rfl
     have g4:=hY.cell 4 _ rfl
     have g5:=hY.cell 5 _ rfl
     have g6:=hY.cell 6 _ rfl
     have HG:=qH (And.intro g0 (And.intro g1 (And.intro g2 (And.intro g3 (And.intro g4 (And.intro g5 g6))))))
     have HYD:=qH hYd
     clear hY hYd g0 g1 g2 g3 g4 g5 g6
     go_wp2_with fail
     rw [<- HYD.out]
     obtain ⟨g0,g1,g2,g3,g4,g5,g6⟩:=HG.out
     clear z0 f0 z1 f1 z2 f2 z3 f3 z4 f4 z5 f5 z6 f6
     exact bodyPost_ret (v:=.agg #[.int .i64 q1,.int .i64 q2,.int .i64 q3,.int .i64 q4,.slice (some ⟨C.heap.size,0,none⟩) 1 1,.slice b2 n2 b4,.int .i64 0]) (by simp [results,Tryz.results96,go_sem,g0,g1,g2,g3,g4,g5,g6]) rfl (by rw [HD.out];exact ⟨_,1,1,b2,n2,b4,rfl,⟨HYT.out,HYI.out⟩,HYB.out⟩)
 · have k1b : (q0 == 1) = false:=by rw [beq_eq_false_iff_ne];exact k1
   cases hz : zeroB c0 c1 c2 c3 n1 n2
   · by_cases k2 : q0 = 2
     · subst k2
       have hw1 : IntKind.i64.wrap ((n1 : Int) + 1) = (n1 : Int) + 1:=IntWalk.i64_in _ (by omega)
       have hno : 1 <= q5 /\ q5 <= 5:=by
        unfold deedB at hd
        rw [if_neg (by decide),if_pos rfl,Bool.and_eq_true,Bool.and_eq_true] at hd
        exact (termB_iff.1 hd.1.2).1
       have hds : doS ⟨c0,c1,c2,c3,ts,is⟩ ⟨2,q1,q2,q3,q4,q5,q6,q7,q8,q9⟩ = (if (n1 : Int) + 1 < q5 then (bk0,6) else if q5 = (n1 : Int) + 1 then (⟨c0,c1,c2,c3,ts ++ [⟨q5,q6⟩],is⟩,0) else (⟨c0,c1,c2,c3,ts.set (q5.toNat - 1) ⟨q5,q6⟩,is⟩,0)):=by
        unfold doS;dsimp only;rw [if_neg (by decide),hZK,hz,if_neg (by decide),if_pos rfl,hl1]
       have d5:=HVd.out.cell 5 _ rfl
       have d6:=HVd.out.cell 6 _ rfl
       have o0:=HVo.out.cell 0 _ rfl
       have o1:=HVo.out.cell 1 _ rfl
       have o2:=HVo.out.cell 2 _ rfl
       have o3:=HVo.out.cell 3 _ rfl
       have o4:=HVo.out.cell 4 _ rfl
       have o5:=HVo.out.cell 5 _ rfl
       obtain ⟨i1,hi1,hz1,hs1,hy1⟩:=info_parts infoTerm
       by_cases j1 : (n1 : Int) + 1 < q5
       · have HD : Hid (doS ⟨c0,c1,c2,c3,ts,is⟩ ⟨2,q1,q2,q3,q4,q5,q6,q7,q8,q9⟩ = (bk0,6)):=qH (by rw [hds,if_pos j1])
         clear hds
         go_wp2_with fail
         refine (l07Ill_any 6 _).mono ?_
         rintro e w3 ⟨rfl,hb⟩
         have hz3:=HVr.out.below hb
         have HB3:=qH (HVB.out.trans (hb.mono HVB.out.size))
         clear hb
         have z0:=hz3.cell 0 _ rfl
         have f0:=hz3.free 0
         have z1:=hz3.cell 1 _ rfl
         have f1:=hz3.free 1
         have z2:=hz3.cell 2 _ rfl
         have f2:=hz3.free 2
         have z3:=hz3.cell 3 _ rfl
         have f3:=hz3.free 3
         have z4:=hz3.cell 4 _ rfl
         have f4:=hz3.free 4
         have z5:=hz3.cell 5 _ rfl
         have f5:=hz3.free 5
         have z6:=hz3.cell 6 _ rfl
         have f6:=hz3.free 6
         have hY:=(((((((hz3.set (j:=0) (by simp) (.int .i64 0)).set (j:=1) (by simp) (.int .i64 0)).set (j:=2) (by simp) (.int .i64 0)).set (j:=3) (by simp) (.int .i64 0)).set (j:=4) (by simp) (.slice none 0 0)).set (j:=5) (by simp) (.slice none 0 0)).set (j:=6) (by simp) (.int .i64 6))
         have HYB:=qH (((((((HB3.out.setCell (p:=⟨w.heap.size + 1 + 1,0,none⟩) (by dsimp only;omega) (.int .i64 0)).setCell (p:=⟨w.heap.size + 1 + 1,1,none⟩) (by dsimp only;omega) (.int .i64 0)).setCell (p:=⟨w.heap.size + 1 + 1,2,none⟩) (by dsimp only;omega) (.int .i64 0)).setCell (p:=⟨w.heap.size + 1 + 1,3,none⟩) (by dsimp only;omega) (.int .i64 0)).setCell (p:=⟨w.heap.size + 1 + 1,4,none⟩) (by dsimp only;omega) (.slice none 0 0)).setCell (p:=⟨w.heap.size + 1 + 1,5,none⟩) (by dsimp only;omega) (.slice none 0 0)).setCell (p:=⟨w.heap.size + 1 + 1,6,none⟩) (by dsimp only;omega) (.int .i64 6))
         obtain ⟨Y,hYd⟩ : ∃ Y,Y = ((((((w3.setCell ⟨w.heap.size + 1 + 1,0,none⟩ (.int .i64 0)).setCell ⟨w.heap.size + 1 + 1,1,none⟩ (.int .i64 0)).setCell ⟨w.heap.size + 1 + 1,2,none⟩ (.int .i64 0)).setCell ⟨w.heap.size + 1 + 1,3,none⟩ (.int .i64 0)).setCell ⟨w.heap.size + 1 + 1,4,none⟩ (.slice none 0 0)).setCell ⟨w.heap.size + 1 + 1,5,none⟩ (.slice none 0 0)).setCell ⟨w.heap.size + 1 + 1,6,none⟩ (.int .i64 6):=⟨_,rfl⟩
         rw [<- hYd] at hY HYB
         have g0:=hY.cell 0 _ rfl
         have g1:=hY.cell 1 _ rfl
         have g2:=hY.cell 2 _ rfl
         have g3:=hY.cell 3 _ rfl
         have g4:=hY.cell 4 _ rfl
         have g5:=hY.cell 5 _ rfl
         have g6:=hY.cell 6 _ rfl
         have HG:=qH (And.intro g0 (And.intro g1 (And.intro g2 (And.intro g3 (And.intro g4 (And.intro g5 g6))))))
         have HYD:=qH hYd
         clear hY hYd g0 g1 g2 g3 g4 g5 g6
         go_wp2_with fail
         rw [<- HYD.out]
         obtain ⟨g0,g1,g2,g3,g4,g5,g6⟩:=HG.out
         clear z0 f0 z1 f1 z2 f2 z3 f3 z4 f4 z5 f5 z6 f6
         exact bodyPost_ret (v:=.agg #[.int .i64 0,.int .i64 0,.int .i64 0,.int .i64 0,.slice none 0 0,.slice none 0 0,.int .i64 6]) (by simp [results,Tryz.results96,go_sem,g0,g1,g2,g3,g4,g5,g6]) rfl (by rw [HD.out];exact ⟨none,0,0,none,0,0,rfl,⟨World.ownsRow_nil _ _ _ _,World.ownsRow_nil _ _ _ _⟩,HYB.out⟩)
       · by_cases j2 : q5 = (n1 : Int) + 1
         · have HD : Hid (doS ⟨c0,c1,c2,c3,ts,is⟩ ⟨2,q1,q2,q3,q4,q5,q6,q7,q8,q9⟩ = (⟨c0,c1,c2,c3,ts ++ [⟨q5,q6⟩],is⟩,0)):=qH (by rw [hds,if_neg j1,if_pos j2])
           have j2b : (q5 == (n1 : Int) + 1) = true:=by rw [j2];simp
           have hj2:=qH j2
           clear hds j2
           have HXB : Hid (Below V.heap.size V (V.alloc (.cells #[.int .i64 q5,.string q6] 97))):=qH ((Below.refl _ _).alloc (Nat.le_refl _) _)
           have HXT:=qH (own_below HVT.out HXB.out)
           have HXI:=qH (own_below HVI.out HXB.out)
           have HXo:=qH (HVo.out.below HXB.out)
           have HXr:=qH (HVr.out.below HXB.out)
           have HXW:=qH (HVB.out.trans (HXB.out.mono HVB.out.size))
           have HXL : Hid (SR tmE tmD (V.alloc (.cells #[.int .i64 q5,.string q6] 97)) (some ⟨V.heap.size,0,none⟩) 1 1 [⟨q5,q6⟩]):=qH (SR.own (by decide) (World.ownsRow_lit V #[.int .i64 q5,.string q6] 1 (Nat.le_refl _) (by decide) rfl))
           have HXS : Hid (W.heap.size <= (V.alloc (.cells #[.int .i64 q5,.string q6] 97)).heap.size):=qH (Nat.le_trans HVW.out.size HXB.out.size)
           go_wp2_with (at_builtin;refine append_wl tmE tmD rfl _ _ 40 rfl 97 i1 _ 24 Tryz.underlying40 hi1 hz1 hs1 hy1 rfl (by decide) (by decide) W.heap.size _ n1 ts rfl HXT.out _ 1 1 [(⟨q5,q6⟩ : Tm)] rfl HXL.out HXS.out (by omega) (by omega) ?_;intro v3 u3 O3 G3;have HO3:=qH O3;have HBo3:=qH (HXo.out.grown G3 (fun e => Nat.lt_irrefl _ (HTL.out _ e.symm)));have HBr3:=qH (HXr.out.grown G3 (fun e => by have:=(HVT.out.lt _ e.symm).1;have:=HWS.out;omega));have HI3:=qH (own_grown HXI.out G3 (own_types HXI.out HXT.out (by decide)));have HB3:=qH (HXW.out.grown G3 HXW.out.size (fun q hq => by have:=(HVT.out.lt q hq).1;have:=HWS.out;omega));obtain ⟨a5,c5,rfl⟩:=own_shape HO3.out;clear O3 G3 d0 d5 d6 o0 o1 o2 o3 o4 o5 x4;have o0:=HBo3.out.cell 0 _ rfl;have o1:=HBo3.out.cell 1 _ rfl;have o2:=HBo3.out.cell 2 _ rfl;have o3:=HBo3.out.cell 3 _ rfl;have o4:=HBo3.out.cell 4 _ rfl;have o5:=HBo3.out.cell 5 _ rfl;have p4:=HBo3.out.free 4;have z0:=HBr3.out.cell 0 _ rfl;have f0:=HBr3.out.free 0;have z1:=HBr3.out.cell 1 _ rfl;have f1:=HBr3.out.free 1;have z2:=HBr3.out.cell 2 _ rfl;have f2:=HBr3.out.free 2;have z3:=HBr3.out.cell 3 _ rfl;have f3:=HBr3.out.free 3;have z4:=HBr3.out.cell 4 _ rfl;have f4:=HBr3.out.free 4;have z5:=HBr3.out.cell 5 _ rfl;have f5:=HBr3.out.free 5;have z6:=HBr3.out.cell 6 _ rfl;have f6:=HBr3.out.free 6)
           have HTQ : Hid (∀ q,(Value.slice a5 (n1 + 1) c5).ownBlock = some q -> q ≠ w2.heap.size /\ q ≠ w.heap.size + 1 + 1):=qH (fun q hq => ⟨row_apart HO3.out (by omega) (HBo3.out.cell 1 _ rfl) q hq,by have:=(HO3.out.lt q hq).1;have:=HWS.out;omega⟩)
           have hY:=((((((((HBr3.out.other ⟨w2.heap.size,4,none⟩ (.slice a5 (n1 + 1) c5) (by dsimp only;omega)).set (j:=0) (by simp) (.int .i64 c0)).set (j:=1) (by simp) (.int .i64 c1)).set (j:=2) (by simp) (.int .i64 c2)).set (j:=3) (by simp) (.int .i64 c3)).set (j:=4) (by simp) (.slice a5 (n1 + 1) c5)).set (j:=5) (by simp) (.slice b2 n2 b4)).set (j:=6) (by simp) (.int .i64 0))
           have HYB:=qH ((((((((HB3.out.setCell (p:=⟨w2.heap.size,4,none⟩) (by dsimp only;have:=HWS.out;have:=HWT.out;omega) (.slice a5 (n1 + 1) c5)).setCell (p:=⟨w.heap.size + 1 + 1,0,none⟩) (by dsimp only;omega) (.int .i64 c0)).setCell (p:=⟨w.heap.size + 1 + 1,1,none⟩) (by dsimp only;omega) (.int .i64 c1)).setCell (p:=⟨w.heap.size + 1 + 1,2,none⟩) (by dsimp only;omega) (.int .i64 c2)).setCell (p:=⟨w.heap.size + 1 + 1,3,none⟩) (by dsimp only;omega) (.int .i64 c3)).setCell (p:=⟨w.heap.size + 1 + 1,4,none⟩) (by dsimp only;omega) (.slice a5 (n1 + 1) c5)).setCell (p:=⟨w.heap.size + 1 + 1,5,none⟩) (by dsimp only;omega) (.slice b2 n2 b4)).setCell (p:=⟨w.heap.size + 1 + 1,6,none⟩) (by dsimp only;omega) (.int .i64 0))
           obtain ⟨Y,hYd⟩ : ∃ Y,Y = (((((((u3.setCell ⟨w2.heap.size,4,none⟩ (.slice a5 (n1 + 1) c5)).setCell ⟨w.heap.size + 1 + 1,0,none⟩ (.int .i64 c0)).setCell ⟨w.heap.size + 1 + 1,1,none⟩ (.int .i64 c1)).setCell ⟨w.heap.size + 1 + 1,2,none⟩ (.int .i64 c2)).setCell ⟨w.heap.size + 1 + 1,3,none⟩ (.int .i64 c3)).setCell ⟨w.heap.size + 1 + 1,4,none⟩ (.slice a5 (n1 + 1) c5)).setCell ⟨w.heap.size + 1 + 1,5,none⟩ (.slice b2 n2 b4)).setCell ⟨w.heap.size + 1 + 1,6,none⟩ (.int .i64 0):=⟨_,rfl⟩
           have HYT : Hid (Y.ownsRow w.heap.size 97 tmE.k (.slice a5 (n1 + 1) c5) (n1 + 1) (tmE.flat (ts ++ [⟨q5,q6⟩]))):=qH (by rw [hYd];exact (own_other (own_other (own_other (own_other (own_other (own_other (own_other (own_other (own_mono HO3.out HB0.out.size) (b:=w2.heap.size) (fun q hq => (HTQ.out q hq).1) ⟨w2.heap.size,4,none⟩ (.slice a5 (n1 + 1) c5) rfl) (b:=w.heap.size + 1 + 1) (fun q hq => (HTQ.out q hq).2) ⟨w.heap.size + 1 + 1,0,none⟩ (.int .i64 c0) rfl) (b:=w.heap.size + 1 + 1) (fun q hq => (HTQ.out q hq).2) ⟨w.heap.size + 1 + 1,1,none⟩ (.int .i64 c1) rfl) (b:=w.heap.size + 1 + 1) (fun q hq => (HTQ.out q hq).2) ⟨w.heap.size + 1 + 1,2,none⟩ (.int .i64 c2) rfl) (b:=w.heap.size + 1 + 1) (fun q hq => (HTQ.out q hq).2) ⟨w.heap.size + 1 + 1,3,none⟩ (.int .i64 c3) rfl) (b:=w.heap.size + 1 + 1) (fun q hq => (HTQ.out q hq).2) ⟨w.heap.size + 1 + 1,4,none⟩ (.slice a5 (n1 + 1) c5) rfl) (b:=w.heap.size + 1 + 1) (fun q hq => (HTQ.out q hq).2) ⟨w.heap.size + 1 + 1,5,none⟩ (.slice b2 n2 b4) rfl) (b:=w.heap.size + 1 + 1) (fun q hq => (HTQ.out q hq).2) ⟨w.heap.size + 1 + 1,6,none⟩ (.int .i64 0) rfl))
           have HYI : Hid (Y.ownsRow w.heap.size 62 imE.k (.slice b2 n2 b4) n2 (imE.flat is)):=qH (by rw [hYd];exact (own_other (own_other (own_other (own_other (own_other (own_other (own_other (own_other (own_mono HI3.out HB0.out.size) (b:=w2.heap.size) (fun q hq => by have:=HIL.out q hq;omega) ⟨w2.heap.size,4,none⟩ (.slice a5 (n1 + 1) c5) rfl) (b:=w.heap.size + 1 + 1) (fun q hq => by have:=(HVI.out.lt q hq).1;have:=HWS.out;omega) ⟨w.heap.size + 1 + 1,0,none⟩ (.int .i64 c0) rfl) (b:=w.heap.size + 1 + 1) (fun q hq => by have:=(HVI.out.lt q hq).1;have:=HWS.out;omega) ⟨w.heap.size + 1 + 1,1,none⟩ (.int .i64 c1) rfl) (b:=w.heap.size + 1 + 1) (fun q hq => by have:=(HVI.out.lt q hq).1;have:=HWS.out;omega) ⟨w.heap.size + 1 + 1,2,none⟩ (.int .i64 c2) rfl) (b:=w.heap.size + 1 + 1) (fun q hq => by have:=(HVI.out.lt q hq).1;have:=HWS.out;omega) ⟨w.heap.size + 1 + 1,3,none⟩ (.int .i64 c3) rfl) (b:=w.heap.size + 1 + 1) (fun q hq => by have:=(HVI.out.lt q hq).1;have:=HWS.out;omega) ⟨w.heap.size + 1 + 1,4,none⟩ (.slice a5 (n1 + 1) c5) rfl) (b:=w.heap.size + 1 + 1) (fun q hq => by have:=(HVI.out.lt q hq).1;have:=HWS.out;omega) ⟨w.heap.size + 1 + 1,5,none⟩ (.slice b2 n2 b4) rfl) (b:=w.heap.size + 1 + 1) (fun q hq => by have:=(HVI.out.lt q hq).1;have:=HWS.out;omega) ⟨w.heap.size + 1 + 1,6,none⟩ (.int .i64 0) rfl))
           rw [<- hYd] at hY HYB
           have g0:=hY.cell 0 _ rfl
           have g1:=hY.cell 1 _ rfl
           have g2:=hY.cell 2 _ rfl
           have g3:=hY.cell 3 _ rfl
           have g4:=hY.cell 4 _ rfl
           have g5:=hY.cell 5 _ rfl
           have g6:=hY.cell 6 _ rfl
           have HG:=qH (And.intro g0 (And.intro g1 (And.intro g2 (And.intro g3 (And.intro g4 (And.intro g5 g6))))))
           have HYD:=qH hYd
           clear hY hYd g0 g1 g2 g3 g4 g5 g6
           rw [<- HYD.out]
           obtain ⟨g0,g1,g2,g3,g4,g5,g6⟩:=HG.out
           clear z0 f0 z1 f1 z2 f2 z3 f3 z4 f4 z5 f5 z6 f6
           exact bodyPost_ret (v:=.agg #[.int .i64 c0,.int .i64 c1,.int .i64 c2,.int .i64 c3,.slice a5 (n1 + 1) c5,.slice b2 n2 b4,.int .i64 0]) (by simp [results,Tryz.results96,go_sem,g0,g1,g2,g3,g4,g5,g6]) rfl (by rw [HD.out];exact ⟨a5,n1 + 1,c5,b2,n2,b4,rfl,⟨HYT.out,HYI.out⟩,HYB.out⟩)
         · have HD : Hid (doS ⟨c0,c1,c2,c3,ts,is⟩ ⟨2,q1,q2,q3,q4,q5,q6,q7,q8,q9⟩ = (⟨c0,c1,c2,c3,ts.set (q5.toNat - 1) ⟨q5,q6⟩,is⟩,0)):=qH (by rw [hds,if_neg j1,if_neg j2])
           have j2b : (q5 == (n1 : Int) + 1) = false:=by rw [beq_eq_false_iff_ne];exact j2
           clear hds
           obtain ⟨i,hi⟩ : ∃ i : Nat,(i : Int) = q5 - 1:=⟨(q5 - 1).toNat,by omega⟩
           have hit : q5.toNat - 1 = i:=by omega
           have hin : 0 <= (i : Int) /\ (i : Int) < (n1 : Int):=by omega
           have hil : i < n1:=by omega
           have hsub : IntKind.i64.wrap (q5 - 1) = (i : Int):=by rw [IntWalk.i64_in _ (by omega)];omega
           rw [hit] at HD
           obtain ⟨g,rfl⟩ : ∃ g,b1 = some ⟨g,0,none⟩:=by
            rcases HVT.out.2 with ⟨_,h0⟩ | ⟨g,cap,cur,hv,_⟩
            · omega
            · simp only [Value.slice.injEq] at hv;exact ⟨g,hv.1⟩
           clear hi hit j2
           obtain ⟨g',o',hge,_,t0,t1⟩:=TmR.at (TmR.own HVT.out) hil
           simp only [Option.some.injEq,Addr.mk.injEq,and_true] at hge
           obtain ⟨rfl,rfl⟩:=hge
           rw [Nat.zero_add] at t0 t1
           have k0:=HVT.out.frozenAt (i * 2)
           have k1:=HVT.out.frozenAt (i * 2 + 1)
           have hst:=TmR.stored HVT.out hil q5 q6
           have HST:=qH hst.1
           clear hst
           have hg1 : ¬ g = w2.heap.size:=by have:=HTL.out g rfl;omega
           have hg2 : ¬ w2.heap.size = g:=fun e => hg1 e.symm
           have hg3 : ¬ g = w.heap.size + 1 + 1:=by have:=(HVT.out.lt g rfl).1;have:=HWS.out;omega
           have hg4 : ¬ w.heap.size + 1 + 1 = g:=fun e => hg3 e.symm
           have HGB:=qH (HVT.out.lt g rfl).1
           have z0:=HVr.out.cell 0 _ rfl
           have f0:=HVr.out.free 0
           have z1:=HVr.out.cell 1 _ rfl
           have f1:=HVr.out.free 1
           have z2:=HVr.out.cell 2 _ rfl
           have f2:=HVr.out.free 2
           have z3:=HVr.out.cell 3 _ rfl
           have f3:=HVr.out.free 3
           have z4:=HVr.out.cell 4 _ rfl
           have f4:=HVr.out.free 4
           have z5:=HVr.out.cell 5 _ rfl
           have f5:=HVr.out.free 5
           have z6:=HVr.out.cell 6 _ rfl
           have f6:=HVr.out.free 6
           have hY:=(((((((((HVr.out.other ⟨g,i * 2,none⟩ (.int .i64 q5) (by dsimp only;omega)).other ⟨g,i * 2 + 1,none⟩ (.string q6) (by dsimp only;omega)).set (j:=0) (by simp) (.int .i64 c0)).set (j:=1) (by simp) (.int .i64 c1)).set (j:=2) (by simp) (.int .i64 c2)).set (j:=3) (by simp) (.int .i64 c3)).set (j:=4) (by simp) (.slice (some ⟨g,0,none⟩) n1 b3)).set (j:=5) (by simp) (.slice b2 n2 b4)).set (j:=6) (by simp) (.int .i64 0))
           have HYB:=qH (((((((((HVB.out.setCell (p:=⟨g,i * 2,none⟩) (by dsimp only;have:=HGB.out;have:=HWS.out;omega) (.int .i64 q5)).setCell (p:=⟨g,i * 2 + 1,none⟩) (by dsimp only;have:=HGB.out;have:=HWS.out;omega) (.string q6)).setCell (p:=⟨w.heap.size + 1 + 1,0,none⟩) (by dsimp only;omega) (.int .i64 c0)).setCell (p:=⟨w.heap.size + 1 + 1,1,none⟩) (by dsimp only;omega) (.int .i64 c1)).setCell (p:=⟨w.heap.size + 1 + 1,2,none⟩) (by dsimp only;omega) (.int .i64 c2)).setCell (p:=⟨w.heap.size + 1 + 1,3,none⟩) (by dsimp only;omega) (.int .i64 c3)).setCell (p:=⟨w.heap.size + 1 + 1,4,none⟩) (by dsimp only;omega) (.slice (some ⟨g,0,none⟩) n1 b3)).setCell (p:=⟨w.heap.size + 1 + 1,5,none⟩) (by dsimp only;omega) (.slice b2 n2 b4)).setCell (p:=⟨w.heap.size + 1 + 1,6,none⟩) (by dsimp only;omega) (.int .i64 0))
           obtain ⟨Y,hYd⟩ : ∃ Y,Y = ((((((((V.setCell ⟨g,i * 2,none⟩ (.int .i64 q5)).setCell ⟨g,i * 2 + 1,none⟩ (.string q6)).setCell ⟨w.heap.size + 1 + 1,0,none⟩ (.int .i64 c0)).setCell ⟨w.heap.size + 1 + 1,1,none⟩ (.int .i64 c1)).setCell ⟨w.heap.size + 1 + 1,2,none⟩ (.int .i64 c2)).setCell ⟨w.heap.size + 1 + 1,3,none⟩ (.int .i64 c3)).setCell ⟨w.heap.size + 1 + 1,4,none⟩ (.slice (some ⟨g,0,none⟩) n1 b3)).setCell ⟨w.heap.size + 1 + 1,5,none⟩ (.slice b2 n2 b4)).setCell ⟨w.heap.size + 1 + 1,6,none⟩ (.int .i64 0):=⟨_,rfl⟩
           have HYT : Hid (Y.ownsRow w.heap.size 97 tmE.k (.slice (some ⟨g,0,none⟩) n1 b3) n1 (tmE.flat (ts.set i ⟨q5,q6⟩))):=qH (by rw [hYd];exact (own_other (own_other (own_other (own_other (own_other (own_other (own_other (own_mono HST.out (show w.heap.size <= W.heap.size from HB0.out.size)) (b:=w.heap.size + 1 + 1) (fun q hq => by have:=(HVT.out.lt q hq).1;have:=HWS.out;omega) ⟨w.heap.size + 1 + 1,0,none⟩ (.int .i64 c0) rfl) (b:=w.heap.size + 1 + 1) (fun q hq => by have:=(HVT.out.lt q hq).1;have:=HWS.out;omega) ⟨w.heap.size + 1 + 1,1,none⟩ (.int .i64 c1) rfl) (b:=w.heap.size + 1 + 1) (fun q hq => by have:=(HVT.out.lt q hq).1;have:=HWS.out;omega) ⟨w.heap.size + 1 + 1,2,none⟩ (.int .i64 c2) rfl) (b:=w.heap.size + 1 + 1) (fun q hq => by have:=(HVT.out.lt q hq).1;have:=HWS.out;omega) ⟨w.heap.size + 1 + 1,3,none⟩ (.int .i64 c3) rfl) (b:=w.heap.size + 1 + 1) (fun q hq => by have:=(HVT.out.lt q hq).1;have:=HWS.out;omega) ⟨w.heap.size + 1 + 1,4,none⟩ (.slice (some ⟨g,0,none⟩) n1 b3) rfl) (b:=w.heap.size + 1 + 1) (fun q hq => by have:=(HVT.out.lt q hq).1;have:=HWS.out;omega) ⟨w.heap.size + 1 + 1,5,none⟩ (.slice b2 n2 b4) rfl) (b:=w.heap.size + 1 + 1) (fun q hq => by have:=(HVT.out.lt q hq).1;have:=HWS.out;omega) ⟨w.heap.size + 1 + 1,6,none⟩ (.int .i64 0) rfl))
           have HYI : Hid (Y.ownsRow w.heap.size 62 imE.k (.slice b2 n2 b4) n2 (imE.flat is)):=qH (by rw [hYd];exact (own_other (own_other (own_other (own_other (own_other (own_other (own_other (own_other (own_other (own_mono HVI.out (show w.heap.size <= W.heap.size from HB0.out.size)) (b:=g) (fun q hq => by have:=(own_types HVI.out HVT.out (by decide)) q hq;intro e;subst e;exact this rfl) ⟨g,i * 2,none⟩ (.int .i64 q5) rfl) (b:=g) (fun q hq => by have:=(own_types HVI.out HVT.out (by decide)) q hq;intro e;subst e;exact this rfl) ⟨g,i * 2 + 1,none⟩ (.string q6) rfl) (b:=w.heap.size + 1 + 1) (fun q hq => by have:=(HVI.out.lt q hq).1;have:=HWS.out;omega) ⟨w.heap.size + 1 + 1,0,none⟩ (.int .i64 c0) rfl) (b:=w.heap.size + 1 + 1) (fun q hq => by have:=(HVI.out.lt q hq).1;have:=HWS.out;omega) ⟨w.heap.size + 1 + 1,1,none⟩ (.int .i64 c1) rfl) (b:=w.heap.size + 1 + 1) (fun q hq => by have:=(HVI.out.lt q hq).1;have:=HWS.out;omega) ⟨w.heap.size + 1 + 1,2,none⟩ (.int .i64 c2) rfl) (b:=w.heap.size + 1 + 1) (fun q hq => by have:=(HVI.out.lt q hq).1;have:=HWS.out;omega) ⟨w.heap.size + 1 + 1,3,none⟩ (.int .i64 c3) rfl) (b:=w.heap.size + 1 + 1) (fun q hq => by have:=(HVI.out.lt q hq).1;have:=HWS.out;omega) ⟨w.heap.size + 1 + 1,4,none⟩ (.slice (some ⟨g,0,none⟩) n1 b3) rfl) (b:=w.heap.size + 1 + 1) (fun q hq => by have:=(HVI.out.lt q hq).1;have:=HWS.out;omega) ⟨w.heap.size + 1 + 1,5,none⟩ (.slice b2 n2 b4) rfl) (b:=w.heap.size + 1 + 1) (fun q hq => by have:=(HVI.out.lt q hq).1;have:=HWS.out;omega) ⟨w.heap.size + 1 + 1,6,none⟩ (.int .i64 0) rfl))
           rw [<- hYd] at hY HYB
           have g0:=hY.cell 0 _ rfl
           have g1:=hY.cell 1 _ rfl
           have g2:=hY.cell 2 _ rfl
           have g3:=hY.cell 3 _ rfl
           have g4:=hY.cell 4 _ rfl
           have g5:=hY.cell 5 _ rfl
           have g6:=hY.cell 6 _ rfl
           have HG:=qH (And.intro g0 (And.intro g1 (And.intro g2 (And.intro g3 (And.intro g4 (And.intro g5 g6))))))
           have HYD:=qH hYd
           clear hY hYd g0 g1 g2 g3 g4 g5 g6
           go_wp2_with fail
           rw [<- HYD.out]
           obtain ⟨g0,g1,g2,g3,g4,g5,g6⟩:=HG.out
           clear z0 f0 z1 f1 z2 f2 z3 f3 z4 f4 z5 f5 z6 f6
           exact bodyPost_ret (v:=.agg #[.int .i64 c0,.int .i64 c1,.int .i64 c2,.int .i64 c3,.slice (some ⟨g,0,none⟩) n1 b3,.slice b2 n2 b4,.int .i64 0]) (by simp [results,Tryz.results96,go_sem,g0,g1,g2,g3,g4,g5,g6]) rfl (by rw [HD.out];exact ⟨some ⟨g,0,none⟩,n1,b3,b2,n2,b4,rfl,⟨HYT.out,HYI.out⟩,HYB.out⟩)
     · have k2b : (q0 == 2) = false:=by rw [beq_eq_false_iff_ne];exact k2
       have HD : Hid (doS ⟨c0,c1,c2,c3,ts,is⟩ ⟨q0,q1,q2,q3,q4,q5,q6,q7,q8,q9⟩ = itemsR ⟨c0,c1,c2,c3,ts,is⟩ ⟨q0,q1,q2,q3,q4,q5,q6,q7,q8,q9⟩):=qH (by unfold doS;rw [if_neg k1,hZK,hz,if_neg (by decide),if_neg k2])
       have hkd : q0 = 3 ∨ q0 = 4:=by
        by_cases k3 : q0 = 3
        · exact .inl k3
        · by_cases k4 : q0 = 4
          · exact .inr k4
          · unfold deedB at hd
            rw [if_neg k1,if_neg k2,if_neg k3,if_neg k4] at hd
            cases hd
       have d1:=HVd.out.cell 1 _ rfl
       have d2:=HVd.out.cell 2 _ rfl
       have d3:=HVd.out.cell 3 _ rfl
       have d4:=HVd.out.cell 4 _ rfl
       have d5:=HVd.out.cell 5 _ rfl
       have d6:=HVd.out.cell 6 _ rfl
       have d7:=HVd.out.cell 7 _ rfl
       have d8:=HVd.out.cell 8 _ rfl
       have d9:=HVd.out.cell 9 _ rfl
       have x0:=HVb.out.cell 0 _ rfl
       have x1:=HVb.out.cell 1 _ rfl
       have x2:=HVb.out.cell 2 _ rfl
       have x3:=HVb.out.cell 3 _ rfl
       have x5:=HVb.out.cell 5 _ rfl
       go_wp2_with fail
       refine (l07Items_any c0 c1 c2 c3 ts is q0 q1 q2 q3 q4 q5 q6 q7 q8 q9 a1 a2 n1 n2 a3 a4 _ (HR.out.below HVB.out) hn1 hn2 hkd).mono ?_
       rintro e w4 hnb
       rw [<- HD.out] at hnb
       generalize doS ⟨c0,c1,c2,c3,ts,is⟩ ⟨q0,q1,q2,q3,q4,q5,q6,q7,q8,q9⟩ = r at *
       obtain ⟨e1,m1,e3,e2,m2,e4,rfl,ho,hb4⟩:=hnb
       have HBO:=qH ho
       have HB4:=qH (HVB.out.trans (hb4.mono HVB.out.size))
       have hz3:=HVr.out.below hb4
       have HVS:=qH (show W.heap.size <= V.heap.size from HVW.out.size)
       clear ho hb4 d0 d1 d2 d3 d4 d5 d6 d7 d8 d9 x0 x1 x2 x3 x4 x5
       have z0:=hz3.cell 0 _ rfl
       have f0:=hz3.free 0
       have z1:=hz3.cell 1 _ rfl
       have f1:=hz3.free 1
       have z2:=hz3.cell 2 _ rfl
       have f2:=hz3.free 2
       have z3:=hz3.cell 3 _ rfl
       have f3:=hz3.free 3
       have z4:=hz3.cell 4 _ rfl
       have f4:=hz3.free 4
       have z5:=hz3.cell 5 _ rfl
       have f5:=hz3.free 5
       have z6:=hz3.cell 6 _ rfl
       have f6:=hz3.free 6
       have hY:=(((((((hz3.set (j:=0) (by simp) (.int .i64 r.1.c0)).set (j:=1) (by simp) (.int .i64 r.1.c1)).set (j:=2) (by simp) (.int .i64 r.1.c2)).set (j:=3) (by simp) (.int .i64 r.1.c3)).set (j:=4) (by simp) (.slice e1 m1 e3)).set (j:=5) (by simp) (.slice e2 m2 e4)).set (j:=6) (by simp) (.int .i64 r.2))
       have HYB:=qH (((((((HB4.out.setCell (p:=⟨w.heap.size + 1 + 1,0,none⟩) (by dsimp only;omega) (.int .i64 r.1.c0)).setCell (p:=⟨w.heap.size + 1 + 1,1,none⟩) (by dsimp only;omega) (.int .i64 r.1.c1)).setCell (p:=⟨w.heap.size + 1 + 1,2,none⟩) (by dsimp only;omega) (.int .i64 r.1.c2)).setCell (p:=⟨w.heap.size + 1 + 1,3,none⟩) (by dsimp only;omega) (.int .i64 r.1.c3)).setCell (p:=⟨w.heap.size + 1 + 1,4,none⟩) (by dsimp only;omega) (.slice e1 m1 e3)).setCell (p:=⟨w.heap.size + 1 + 1,5,none⟩) (by dsimp only;omega) (.slice e2 m2 e4)).setCell (p:=⟨w.heap.size + 1 + 1,6,none⟩) (by dsimp only;omega) (.int .i64 r.2))
       obtain ⟨Y,hYd⟩ : ∃ Y,Y = ((((((w4.setCell ⟨w.heap.size + 1 + 1,0,none⟩ (.int .i64 r.1.c0)).setCell ⟨w.heap.size + 1 + 1,1,none⟩ (.int .i64 r.1.c1)).setCell ⟨w.heap.size + 1 + 1,2,none⟩ (.int .i64 r.1.c2)).setCell ⟨w.heap.size + 1 + 1,3,none⟩ (.int .i64 r.1.c3)).setCell ⟨w.heap.size + 1 + 1,4,none⟩ (.slice e1 m1 e3)).setCell ⟨w.heap.size + 1 + 1,5,none⟩ (.slice e2 m2 e4)).setCell ⟨w.heap.size + 1 + 1,6,none⟩ (.int .i64 r.2):=⟨_,rfl⟩
       have HYT : Hid (Y.ownsRow w.heap.size 97 tmE.k (.slice e1 m1 e3) m1 (tmE.flat r.1.ts)):=qH (by rw [hYd];exact (own_other (own_other (own_other (own_other (own_other (own_other (own_other (own_mono HBO.out.t (show w.heap.size <= V.heap.size from HVB.out.size)) (b:=w.heap.size + 1 + 1) (fun q hq => by have:=(HBO.out.t.lt q hq).1;have:=HWS.out;have:=HVS.out;omega) ⟨w.heap.size + 1 + 1,0,none⟩ (.int .i64 r.1.c0) rfl) (b:=w.heap.size + 1 + 1) (fun q hq => by have:=(HBO.out.t.lt q hq).1;have:=HWS.out;have:=HVS.out;omega) ⟨w.heap.size + 1 + 1,1,none⟩ (.int .i64 r.1.c1) rfl) (b:=w.heap.size + 1 + 1) (fun q hq => by have:=(HBO.out.t.lt q hq).1;have:=HWS.out;have:=HVS.out;omega) ⟨w.heap.size + 1 + 1,2,none⟩ (.int .i64 r.1.c2) rfl) (b:=w.heap.size + 1 + 1) (fun q hq => by have:=(HBO.out.t.lt q hq).1;have:=HWS.out;have:=HVS.out;omega) ⟨w.heap.size + 1 + 1,3,none⟩ (.int .i64 r.1.c3) rfl) (b:=w.heap.size + 1 + 1) (fun q hq => by have:=(HBO.out.t.lt q hq).1;have:=HWS.out;have:=HVS.out;omega) ⟨w.heap.size + 1 + 1,4,none⟩ (.slice e1 m1 e3) rfl) (b:=w.heap.size + 1 + 1) (fun q hq => by have:=(HBO.out.t.lt q hq).1;have:=HWS.out;have:=HVS.out;omega) ⟨w.heap.size + 1 + 1,5,none⟩ (.slice e2 m2 e4) rfl) (b:=w.heap.size + 1 + 1) (fun q hq => by have:=(HBO.out.t.lt q hq).1;have:=HWS.out;have:=HVS.out;omega) ⟨w.heap.size + 1 + 1,6,none⟩ (.int .i64 r.2) rfl))
       have HYI : Hid (Y.ownsRow w.heap.size 62 imE.k (.slice e2 m2 e4) m2 (imE.flat r.1.is)):=qH (by rw [hYd];exact (own_other (own_other (own_other (own_other (own_other (own_other (own_other (own_mono HBO.out.i (show w.heap.size <= V.heap.size from HVB.out.size)) (b:=w.heap.size + 1 + 1) (fun q hq => by have:=(HBO.out.i.lt q hq).1;have:=HWS.out;have:=HVS.out;omega) ⟨w.heap.size + 1 + 1,0,none⟩ (.int .i64 r.1.c0) rfl) (b:=w.heap.size + 1 + 1) (fun q hq => by have:=(HBO.out.i.lt q hq).1;have:=HWS.out;have:=HVS.out;omega) ⟨w.heap.size + 1 + 1,1,none⟩ (.int .i64 r.1.c1) rfl) (b:=w.heap.size + 1 + 1) (fun q hq => by have:=(HBO.out.i.lt q hq).1;have:=HWS.out;have:=HVS.out;omega) ⟨w.heap.size + 1 + 1,2,none⟩ (.int .i64 r.1.c2) rfl) (b:=w.heap.size + 1 + 1) (fun q hq => by have:=(HBO.out.i.lt q hq).1;have:=HWS.out;have:=HVS.out;omega) ⟨w.heap.size + 1 + 1,3,none⟩ (.int .i64 r.1.c3) rfl) (b:=w.heap.size + 1 + 1) (fun q hq => by have:=(HBO.out.i.lt q hq).1;have:=HWS.out;have:=HVS.out;omega) ⟨w.heap.size + 1 + 1,4,none⟩ (.slice e1 m1 e3) rfl) (b:=w.heap.size + 1 + 1) (fun q hq => by have:=(HBO.out.i.lt q hq).1;have:=HWS.out;have:=HVS.out;omega) ⟨w.heap.size + 1 + 1,5,none⟩ (.slice e2 m2 e4) rfl) (b:=w.heap.size + 1 + 1) (fun q hq => by have:=(HBO.out.i.lt q hq).1;have:=HWS.out;have:=HVS.out;omega) ⟨w.heap.size + 1 + 1,6,none⟩ (.int .i64 r.2) rfl))
       rw [<- hYd] at hY HYB
       have g0:=hY.cell 0 _ rfl
       have g1:=hY.cell 1 _ rfl
       have g2:=hY.cell 2 _ rfl
       have g3:=hY.cell 3 _ rfl
       have g4:=hY.cell 4 _ rfl
       have g5:=hY.cell 5 _ rfl
       have g6:=hY.cell 6 _ rfl
       have HG:=qH (And.intro g0 (And.intro g1 (And.intro g2 (And.intro g3 (And.intro g4 (And.intro g5 g6))))))
       have HYD:=qH hYd
       clear hY hYd g0 g1 g2 g3 g4 g5 g6
       go_wp2_with fail
       rw [<- HYD.out]
       obtain ⟨g0,g1,g2,g3,g4,g5,g6⟩:=HG.out
       clear z0 f0 z1 f1 z2 f2 z3 f3 z4 f4 z5 f5 z6 f6
       exact bodyPost_ret (v:=.agg #[.int .i64 r.1.c0,.int .i64 r.1.c1,.int .i64 r.1.c2,.int .i64 r.1.c3,.slice e1 m1 e3,.slice e2 m2 e4,.int .i64 r.2]) (by simp [results,Tryz.results96,go_sem,g0,g1,g2,g3,g4,g5,g6]) rfl ⟨e1,m1,e3,e2,m2,e4,rfl,⟨HYT.out,HYI.out⟩,HYB.out⟩
   · have HD : Hid (doS ⟨c0,c1,c2,c3,ts,is⟩ ⟨q0,q1,q2,q3,q4,q5,q6,q7,q8,q9⟩ = (bk0,10)):=qH (by unfold doS;rw [if_neg k1,hZK,hz,if_pos rfl])
     go_wp2_with fail
     refine (l07Ill_any 10 _).mono ?_
     rintro e w3 ⟨rfl,hb⟩
     have hz3:=HVr.out.below hb
     have HB3:=qH (HVB.out.trans (hb.mono HVB.out.size))
     clear hb
     have z0:=hz3.cell 0 _ rfl
     have f0:=hz3.free 0
     have z1:=hz3.cell 1 _ rfl
     have f1:=hz3.free 1
     have z2:=hz3.cell 2 _ rfl
     have f2:=hz3.free 2
     have z3:=hz3.cell 3 _ rfl
     have f3:=hz3.free 3
     have z4:=hz3.cell 4 _ rfl
     have f4:=hz3.free 4
     have z5:=hz3.cell 5 _ rfl
     have f5:=hz3.free 5
     have z6:=hz3.cell 6 _ rfl
     have f6:=hz3.free 6
     have hY:=(((((((hz3.set (j:=0) (by simp) (.int .i64 0)).set (j:=1) (by simp) (.int .i64 0)).set (j:=2) (by simp) (.int .i64 0)).set (j:=3) (by simp) (.int .i64 0)).set (j:=4) (by simp) (.slice none 0 0)).set (j:=5) (by simp) (.slice none 0 0)).set (j:=6) (by simp) (.int .i64 10))
     have HYB:=qH (((((((HB3.out.setCell (p:=⟨w.heap.size + 1 + 1,0,none⟩) (by dsimp only;omega) (.int .i64 0)).setCell (p:=⟨w.heap.size + 1 + 1,1,none⟩) (by dsimp only;omega) (.int .i64 0)).setCell (p:=⟨w.heap.size + 1 + 1,2,none⟩) (by dsimp only;omega) (.int .i64 0)).setCell (p:=⟨w.heap.size + 1 + 1,3,none⟩) (by dsimp only;omega) (.int .i64 0)).setCell (p:=⟨w.heap.size + 1 + 1,4,none⟩) (by dsimp only;omega) (.slice none 0 0)).setCell (p:=⟨w.heap.size + 1 + 1,5,none⟩) (by dsimp only;omega) (.slice none 0 0)).setCell (p:=⟨w.heap.size + 1 + 1,6,none⟩) (by dsimp only;omega) (.int .i64 10))
     obtain ⟨Y,hYd⟩ : ∃ Y,Y = ((((((w3.setCell ⟨w.heap.size + 1 + 1,0,none⟩ (.int .i64 0)).setCell ⟨w.heap.size + 1 + 1,1,none⟩ (.int .i64 0)).setCell ⟨w.heap.size + 1 + 1,2,none⟩ (.int .i64 0)).setCell ⟨w.heap.size + 1 + 1,3,none⟩ (.int .i64 0)).setCell ⟨w.heap.size + 1 + 1,4,none⟩ (.slice none 0 0)).setCell ⟨w.heap.size + 1 + 1,5,none⟩ (.slice none 0 0)).setCell ⟨w.heap.size + 1 + 1,6,none⟩ (.int .i64 10):=⟨_,rfl⟩
     rw [<- hYd] at hY HYB
     have g0:=hY.cell 0 _ rfl
     have g1:=hY.cell 1 _ rfl
     have g2:=hY.cell 2 _ rfl
     have g3:=hY.cell 3 _ rfl
     have g4:=hY.cell 4 _ rfl
     have g5:=hY.cell 5 _ rfl
     have g6:=hY.cell 6 _ rfl
     have HG:=qH (And.intro g0 (And.intro g1 (And.intro g2 (And.intro g3 (And.intro g4 (And.intro g5 g6))))))
     have HYD:=qH hYd
     clear hY hYd g0 g1 g2 g3 g4 g5 g6
     go_wp2_with fail
     rw [<- HYD.out]
     obtain ⟨g0,g1,g2,g3,g4,g5,g6⟩:=HG.out
     clear z0 f0 z1 f1 z2 f2 z3 f3 z4 f4 z5 f5 z6 f6
     exact bodyPost_ret (v:=.agg #[.int .i64 0,.int .i64 0,.int .i64 0,.int .i64 0,.slice none 0 0,.slice none 0 0,.int .i64 10]) (by simp [results,Tryz.results96,go_sem,g0,g1,g2,g3,g4,g5,g6]) rfl (by rw [HD.out];exact ⟨none,0,0,none,0,0,rfl,⟨World.ownsRow_nil _ _ _ _,World.ownsRow_nil _ _ _ _⟩,HYB.out⟩)
end Go.Proofs.YthkbcjnbmciolaaGreatDoor
namespace Go.Proofs.YthkbcjnbmciolaaGreatDoor
open Go.RowKit Go.PlainAid G MGet MGF IRow MNum MJoin
set_option linter.unusedVariables false
def AllOut (r : Bk × Int) (w : World) (e : Ending) (w' : World) : Prop :=
 ∃ (c0 c1 c2 c3 : Int) (a1 : Option Addr) (n1 a3 : Nat) (a2 : Option Addr) (n2 a4 : Nat),e = .returned (.tuple #[.agg #[.int .i64 c0,.int .i64 c1,.int .i64 c2,.int .i64 c3,.slice a1 n1 a3,.slice a2 n2 a4],.bool (decide (r.2 = 0))]) /\ (r.2 = 0 -> BkO w' w.heap.size a1 n1 a3 a2 n2 a4 r.1.ts r.1.is /\ c0 = r.1.c0 /\ c1 = r.1.c1 /\ c2 = r.1.c2 /\ c3 = r.1.c3) /\ Below w.heap.size w w'
theorem l07All_any (b : Bk) (a1 a2 : Option Addr) (n1 n2 a3 a4 base : Nat) (la : Option Addr) (ln lc : Nat) (ds : List Dd) (w : World) (h : BkO w base a1 n1 a3 a2 n2 a4 b.ts b.is) (hbs : base <= w.heap.size) (hb : bookB b = true) (hr : DdR w la ln lc ds) (h1 : 1 <= ln) (hn : ln <= 10) (hd : ∀ t,t < ln -> deedOf (ds.getD t ddD) = true) :
 Calls Tryz.prog 75 #[.agg #[.int .i64 b.c0,.int .i64 b.c1,.int .i64 b.c2,.int .i64 b.c3,.slice a1 n1 a3,.slice a2 n2 a4],.slice la ln lc] w (AllOut (doAllS b ds) w):=by
 have HR:=qH hr
 have HDS:=qH hd
 have HBB:=qH hb
 have HBK:=qH h
 clear hr hd hb h
 obtain ⟨W,hW⟩ : ∃ W,W = (w.alloc (.cells #[.int .i64 b.c0,.int .i64 b.c1,.int .i64 b.c2,.int .i64 b.c3,.slice a1 n1 a3,.slice a2 n2 a4] 43)).alloc (.cells #[.int .i64 0,.int .i64 0,.int .i64 0,.int .i64 0,.slice none 0 0,.slice none 0 0] 43):=⟨_,rfl⟩
 have HB0 : Hid (Below w.heap.size w W):=qH (by rw [hW];exact ((Below.refl _ _).alloc (Nat.le_refl _) _).alloc (by simp) _)
 have HX0 : Hid (BoxC W w.heap.size [.int .i64 b.c0,.int .i64 b.c1,.int .i64 b.c2,.int .i64 b.c3,.slice a1 n1 a3,.slice a2 n2 a4]):=qH (by rw [hW];exact (BoxC.made w #[.int .i64 b.c0,.int .i64 b.c1,.int .i64 b.c2,.int .i64 b.c3,.slice a1 n1 a3,.slice a2 n2 a4] 43).alloc _)
 have HZ0 : Hid (BoxC W (w.heap.size + 1) [.int .i64 0,.int .i64 0,.int .i64 0,.int .i64 0,.slice none 0 0,.slice none 0 0]):=qH (by rw [hW];have:=BoxC.made (w.alloc (.cells #[.int .i64 b.c0,.int .i64 b.c1,.int .i64 b.c2,.int .i64 b.c3,.slice a1 n1 a3,.slice a2 n2 a4] 43)) #[.int .i64 0,.int .i64 0,.int .i64 0,.int .i64 0,.slice none 0 0,.slice none 0 0] 43;rwa [World.size_alloc] at this)
 have HWS : Hid (w.heap.size + 1 + 1 = W.heap.size):=qH (by rw [hW,World.size_alloc,World.size_alloc])
 go_enter Tryz.func75,Tryz.ntmps75
 go_wp2_with fail
 rw [<- hW]
 clear hW
 go_loopw [6] (fun i wr => ∃ (k : Nat) (b2 : Bk) (x1 : Option Addr) (m1 x3 : Nat) (x2 : Option Addr) (m2 x4 : Nat),k <= ln /\ i = .int .i64 k /\ Hid (BoxC wr w.heap.size [.int .i64 b2.c0,.int .i64 b2.c1,.int .i64 b2.c2,.int .i64 b2.c3,.slice x1 m1 x3,.slice x2 m2 x4]) /\ Hid (BkO wr (if k = 0 then base else w.heap.size) x1 m1 x3 x2 m2 x4 b2.ts b2.is /\ (∀ q,(Value.slice x1 m1 x3).ownBlock = some q -> q ≠ w.heap.size /\ q ≠ w.heap.size + 1) /\ (∀ q,(Value.slice x2 m2 x4).ownBlock = some q -> q ≠ w.heap.size /\ q ≠ w.heap.size + 1)) /\ Hid (bookB b2 = true) /\ Hid (doAllS b ds = doAllS b2 (ds.drop k)) /\ Hid (Below w.heap.size w wr) /\ Hid (BoxC wr (w.heap.size + 1) [.int .i64 0,.int .i64 0,.int .i64 0,.int .i64 0,.slice none 0 0,.slice none 0 0]) /\ Hid (W.heap.size <= wr.heap.size)) (fun i _ => ln - (intOf i).toNat)
 case atStart => exact ⟨0,b,a1,n1,a3,a2,n2,a4,Nat.zero_le _,rfl,HX0,qH ⟨HBK.out.below HB0.out,fun q hq => by have:=(HBK.out.t.lt q hq).2;omega,fun q hq => by have:=(HBK.out.i.lt q hq).2;omega⟩,HBB,qH (by rw [List.drop_zero]),HB0,HZ0,qH (Nat.le_refl _)⟩
 case round =>
  obtain ⟨k,b2,x1,m1,x3,x2,m2,x4,hk,rfl,HX,HO,HBR,HDO,HB,HZ,HSZ⟩:=hrel
  clear HB0 HZ0 HX0 HBB HBK
  have hlds : ds.length = ln:=HR.out.len
  by_cases hlt : k < ln
  · obtain ⟨g,o,rfl,hg,t0,t1,t2,t3,t4,t5,t6,t7,t8,t9⟩:=DdR.at (SR.below HR.out HB.out) hlt
    have hin : 0 <= (k : Int) /\ (k : Int) < (ln : Int):=by omega
    have hrd:=HDS.out k hlt
    have HDP : Hid (ds.drop k = ds.getD k ddD :: ds.drop (k + 1)):=qH (by
     rw [show ds.getD k ddD = ds[k]'(by omega) by simp [List.getD,List.getElem?_eq_getElem (show k < ds.length by omega)]]
     exact List.drop_eq_getElem_cons (by omega))
    generalize ds.getD k ddD = d at *
    obtain ⟨q0,q1,q2,q3,q4,q5,q6,q7,q8,q9⟩:=d
    dsimp only at t0 t1 t2 t3 t4 t5 t6 t7 t8 t9
    go_upto_region 4 with fail
    obtain ⟨r,hrr⟩ : ∃ r,doS b2 ⟨q0,q1,q2,q3,q4,q5,q6,q7,q8,q9⟩ = r:=⟨_,rfl⟩
    have HRR : Hid (doS ⟨b2.c0,b2.c1,b2.c2,b2.c3,b2.ts,b2.is⟩ ⟨q0,q1,q2,q3,q4,q5,q6,q7,q8,q9⟩ = r):=qH hrr
    have HDP2 : Hid (doAllS b ds = if r.2 = 0 then doAllS r.1 (ds.drop (k + 1)) else (bk0,r.2)):=qH (by rw [HDO.out,HDP.out,<- hrr];rfl)
    have HRT : Hid (r.2 = 0 -> RightB r.1):=qH (by rw [<- hrr];exact fun h0 => doS_right HBR.out (d:=⟨q0,q1,q2,q3,q4,q5,q6,q7,q8,q9⟩) hrd h0)
    have HRD:=qH hrd
    have hBB : bookB ⟨b2.c0,b2.c1,b2.c2,b2.c3,b2.ts,b2.is⟩ = true:=HBR.out
    have HSS : Hid (∀ u,Below wr.heap.size wr u -> (BoxC u w.heap.size [.int .i64 b2.c0,.int .i64 b2.c1,.int .i64 b2.c2,.int .i64 b2.c3,.slice x1 m1 x3,.slice x2 m2 x4] /\ u.cell? ⟨g,o + k * 10,none⟩ = some (.int .i64 q0) /\ u.cell? ⟨g,o + k * 10 + 1,none⟩ = some (.int .i64 q1) /\ u.cell? ⟨g,o + k * 10 + 2,none⟩ = some (.int .i64 q2) /\ u.cell? ⟨g,o + k * 10 + 3,none⟩ = some (.int .i64 q3) /\ u.cell? ⟨g,o + k * 10 + 4,none⟩ = some (.int .i64 q4) /\ u.cell? ⟨g,o + k * 10 + 5,none⟩ = some (.int .i64 q5) /\ u.cell? ⟨g,o + k * 10 + 6,none⟩ = some (.string q6) /\ u.cell? ⟨g,o + k * 10 + 7,none⟩ = some (.string q7) /\ u.cell? ⟨g,o + k * 10 + 8,none⟩ = some (.int .i64 q8) /\ u.cell? ⟨g,o + k * 10 + 9,none⟩ = some (.string q9))):=qH (fun u hu => ⟨HX.out.below hu,(hu.cell (p:=⟨g,o + k * 10,none⟩) hg).trans t0,(hu.cell (p:=⟨g,o + k * 10 + 1,none⟩) hg).trans t1,(hu.cell (p:=⟨g,o + k * 10 + 2,none⟩) hg).trans t2,(hu.cell (p:=⟨g,o + k * 10 + 3,none⟩) hg).trans t3,(hu.cell (p:=⟨g,o + k * 10 + 4,none⟩) hg).trans t4,(hu.cell (p:=⟨g,o + k * 10 + 5,none⟩) hg).trans t5,(hu.cell (p:=⟨g,o + k * 10 + 6,none⟩) hg).trans t6,(hu.cell (p:=⟨g,o + k * 10 + 7,none⟩) hg).trans t7,(hu.cell (p:=⟨g,o + k * 10 + 8,none⟩) hg).trans t8,(hu.cell (p:=⟨g,o + k * 10 + 9,none⟩) hg).trans t9⟩)
    have HB0:=qH (Below.refl wr.heap.size wr)
    have hmx : Tryz.prog.follows .mixedOrders = true:=by kernel_rfl
    clear hrr HDP HDO hrd t0 t1 t2 t3 t4 t5 t6 t7 t8 t9
    go_cut [7] from 8 to 25 (fun v u => ∃ nb e1 p1 e3 e2 p2 e4,v = .pointer (some ⟨nb,0,none⟩) /\ BoxC u nb [.int .i64 r.1.c0,.int .i64 r.1.c1,.int .i64 r.1.c2,.int .i64 r.1.c3,.slice e1 p1 e3,.slice e2 p2 e4,.int .i64 r.2] /\ BkO u wr.heap.size e1 p1 e3 e2 p2 e4 r.1.ts r.1.is /\ wr.heap.size <= nb /\ Below wr.heap.size wr u)
    case first =>
     refine TillZ.region (t:=7) hmx (fun u => BoxC u w.heap.size [.int .i64 b2.c0,.int .i64 b2.c1,.int .i64 b2.c2,.int .i64 b2.c3,.slice x1 m1 x3,.slice x2 m2 x4] /\ u.cell? ⟨g,o + k * 10,none⟩ = some (.int .i64 q0) /\ u.cell? ⟨g,o + k * 10 + 1,none⟩ = some (.int .i64 q1) /\ u.cell? ⟨g,o + k * 10 + 2,none⟩ = some (.int .i64 q2) /\ u.cell? ⟨g,o + k * 10 + 3,none⟩ = some (.int .i64 q3) /\ u.cell? ⟨g,o + k * 10 + 4,none⟩ = some (.int .i64 q4) /\ u.cell? ⟨g,o + k * 10 + 5,none⟩ = some (.int .i64 q5) /\ u.cell? ⟨g,o + k * 10 + 6,none⟩ = some (.string q6) /\ u.cell? ⟨g,o + k * 10 + 7,none⟩ = some (.string q7) /\ u.cell? ⟨g,o + k * 10 + 8,none⟩ = some (.int .i64 q8) /\ u.cell? ⟨g,o + k * 10 + 9,none⟩ = some (.string q9)) ?_
     have HU0:=qH (HB0.out.drew)
     have hS0:=HSS.out _ HU0.out
     refine TillZ.take4 (i:=0) (v:=.agg #[.int .i64 b2.c0,.int .i64 b2.c1,.int .i64 b2.c2,.int .i64 b2.c3,.slice x1 m1 x3,.slice x2 m2 x4]) rfl rfl rfl (by kernel_rfl) hS0 (fun u hu => by have z0:=hu.1.cell 0 _ rfl;have z1:=hu.1.cell 1 _ rfl;have z2:=hu.1.cell 2 _ rfl;have z3:=hu.1.cell 3 _ rfl;have z4:=hu.1.cell 4 _ rfl;have z5:=hu.1.cell 5 _ rfl;go_simp) ?_
     simp only [pS,List.set,zT,zZ]
     refine TillZ.take4 (i:=1) (v:=.slice (some ⟨g,o,none⟩) ln lc) rfl rfl rfl (by kernel_rfl) hS0 (fun u hu => by go_simp) ?_
     simp only [pS,List.set,zT,zZ,zU]
     refine TillZ.take4 (i:=2) (v:=.int .i64 (k : Int)) rfl rfl rfl (by kernel_rfl) hS0 (fun u hu => by go_simp) ?_
     simp only [pS,List.set,zT,zZ,zU]
     refine TillZ.take4 (i:=3) (v:=.pointer (some ⟨g,o + k * 10,none⟩)) rfl rfl rfl (by kernel_rfl) hS0 (fun u hu => by go_simp) ?_
     simp only [pS,List.set,zT,zZ,zU]
     refine TillZ.take4 (i:=4) (v:=.agg #[.int .i64 q0,.int .i64 q1,.int .i64 q2,.int .i64 q3,.int .i64 q4,.int .i64 q5,.string q6,.string q7,.int .i64 q8,.string q9]) rfl rfl rfl (by kernel_rfl) hS0 (fun u hu => by obtain ⟨_,y0,y1,y2,y3,y4,y5,y6,y7,y8,y9⟩:=hu;go_simp) ?_
     simp only [pS,List.set,zT,zZ,zU]
     generalize hu0 : wr.drew = u0 at *
     clear hu0
     refine TillZ.two (i:=5) (j:=6) (by kernel_rfl) ?_ ?_
     · skip
       refine TillZ.callz (i:=5) (f:=96) (args:=#[.agg #[.int .i64 b2.c0,.int .i64 b2.c1,.int .i64 b2.c2,.int .i64 b2.c3,.slice x1 m1 x3,.slice x2 m2 x4],.agg #[.int .i64 q0,.int .i64 q1,.int .i64 q2,.int .i64 q3,.int .i64 q4,.int .i64 q5,.string q6,.string q7,.int .i64 q8,.string q9]]) rfl rfl rfl (by go_simp) ?_
       refine Calls.mono (l07Do_any b2.c0 b2.c1 b2.c2 b2.c3 b2.ts b2.is q0 q1 q2 q3 q4 q5 q6 q7 q8 q9 x1 x2 m1 m2 x3 x4 u0 ((HO.out.1.below HU0.out).read) hBB HRD.out) ?_
       rintro e ua hnb
       rw [HRR.out] at hnb
       obtain ⟨e1,p1,e3,e2,p2,e4,rfl,ho,hb⟩:=hnb
       have HUua:=qH (HU0.out.trans (hb.mono HU0.out.size))
       refine ⟨_,rfl,HSS.out _ HUua.out,?_⟩
       simp only [pS,List.set,zT,zZ,zU]
       refine TillZ.one (i:=6) (by kernel_rfl) ?_
       refine TillZ.opz (i:=6) (v:=.pointer (some ⟨ua.heap.size,0,none⟩)) (w':=ua.alloc (.cells #[.int .i64 0,.int .i64 0,.int .i64 0,.int .i64 0,.slice none 0 0,.slice none 0 0,.int .i64 0] 142)) rfl rfl rfl (by go_simp) (HSS.out _ (HUua.out.alloc HUua.out.size _)) ?_
       simp only [pS,List.set,zT,zZ,zU]
       have HUub:=qH (HUua.out.alloc HUua.out.size (.cells #[.int .i64 0,.int .i64 0,.int .i64 0,.int .i64 0,.slice none 0 0,.slice none 0 0,.int .i64 0] 142))
       have HXub:=qH (BoxC.made ua #[.int .i64 0,.int .i64 0,.int .i64 0,.int .i64 0,.slice none 0 0,.slice none 0 0,.int .i64 0] 142)
       have HNBub:=qH HUua.out.size
       have HO:=qH (ho.below ((Below.refl ua.heap.size ua).alloc (Nat.le_refl _) (.cells #[.int .i64 0,.int .i64 0,.int .i64 0,.int .i64 0,.slice none 0 0,.slice none 0 0,.int .i64 0] 142)))
       have HQ : Hid ((∀ q,(Value.slice e1 p1 e3).ownBlock = some q -> q ≠ ua.heap.size) /\ ∀ q,(Value.slice e2 p2 e4).ownBlock = some q -> q ≠ ua.heap.size):=qH ⟨fun q hq => by have:=(ho.t.lt q hq).2;omega,fun q hq => by have:=(ho.i.lt q hq).2;omega⟩
       have HOB:=qH (HO.out.mono HU0.out.size)
       generalize hub : ua.alloc (.cells #[.int .i64 0,.int .i64 0,.int .i64 0,.int .i64 0,.slice none 0 0,.slice none 0 0,.int .i64 0] 142) = ub at *
       clear hub
       have z0:=HXub.out.cell 0 _ rfl
       have f0:=HXub.out.free 0
       have z1:=HXub.out.cell 1 _ rfl
       have f1:=HXub.out.free 1
       have z2:=HXub.out.cell 2 _ rfl
       have f2:=HXub.out.free 2
       have z3:=HXub.out.cell 3 _ rfl
       have f3:=HXub.out.free 3
       have z4:=HXub.out.cell 4 _ rfl
       have f4:=HXub.out.free 4
       have z5:=HXub.out.cell 5 _ rfl
       have f5:=HXub.out.free 5
       have z6:=HXub.out.cell 6 _ rfl
       have f6:=HXub.out.free 6
       obtain ⟨hY,hG⟩:=box_put7 HXub.out (.int .i64 r.1.c0) (.int .i64 r.1.c1) (.int .i64 r.1.c2) (.int .i64 r.1.c3) (.slice e1 p1 e3) (.slice e2 p2 e4) (.int .i64 r.2)
       refine TillZ.hand_skip (w':=((((((ub.setCell ⟨ua.heap.size,0,none⟩ (.int .i64 r.1.c0)).setCell ⟨ua.heap.size,1,none⟩ (.int .i64 r.1.c1)).setCell ⟨ua.heap.size,2,none⟩ (.int .i64 r.1.c2)).setCell ⟨ua.heap.size,3,none⟩ (.int .i64 r.1.c3)).setCell ⟨ua.heap.size,4,none⟩ (.slice e1 p1 e3)).setCell ⟨ua.heap.size,5,none⟩ (.slice e2 p2 e4)).setCell ⟨ua.heap.size,6,none⟩ (.int .i64 r.2)) (by kernel_rfl) rfl rfl (by go_simp) ?_
       simp only [pN,zT,zZ,zU]
       refine TillZ.any_done (by kernel_rfl) ?_ _
       clear z0 f0 z1 f1 z2 f2 z3 f3 z4 f4 z5 f5 z6 f6
       generalize ((((((ub.setCell ⟨ua.heap.size,0,none⟩ (.int .i64 r.1.c0)).setCell ⟨ua.heap.size,1,none⟩ (.int .i64 r.1.c1)).setCell ⟨ua.heap.size,2,none⟩ (.int .i64 r.1.c2)).setCell ⟨ua.heap.size,3,none⟩ (.int .i64 r.1.c3)).setCell ⟨ua.heap.size,4,none⟩ (.slice e1 p1 e3)).setCell ⟨ua.heap.size,5,none⟩ (.slice e2 p2 e4)).setCell ⟨ua.heap.size,6,none⟩ (.int .i64 r.2) = Y at *
       go_wp2_with fail
       go_meet
       case rel => exact ⟨ua.heap.size,e1,p1,e3,e2,p2,e4,rfl,hY,⟨own_apartP HOB.out.t hG HQ.out.1,own_apartP HOB.out.i hG HQ.out.2⟩,HNBub.out,grown_below HUub.out hG HNBub.out HUub.out.size⟩
     · skip
       refine TillZ.opz (i:=6) (v:=.pointer (some ⟨u0.heap.size,0,none⟩)) (w':=u0.alloc (.cells #[.int .i64 0,.int .i64 0,.int .i64 0,.int .i64 0,.slice none 0 0,.slice none 0 0,.int .i64 0] 142)) rfl rfl rfl (by go_simp) (HSS.out _ (HU0.out.alloc HU0.out.size _)) ?_
       simp only [pS,List.set,zT,zZ,zU]
       have HUub:=qH (HU0.out.alloc HU0.out.size (.cells #[.int .i64 0,.int .i64 0,.int .i64 0,.int .i64 0,.slice none 0 0,.slice none 0 0,.int .i64 0] 142))
       have HXub:=qH (BoxC.made u0 #[.int .i64 0,.int .i64 0,.int .i64 0,.int .i64 0,.slice none 0 0,.slice none 0 0,.int .i64 0] 142)
       have HNBub:=qH HU0.out.size
       generalize hub : u0.alloc (.cells #[.int .i64 0,.int .i64 0,.int .i64 0,.int .i64 0,.slice none 0 0,.slice none 0 0,.int .i64 0] 142) = ub at *
       clear hub
       refine TillZ.one (i:=5) (by kernel_rfl) ?_
       refine TillZ.callz (i:=5) (f:=96) (args:=#[.agg #[.int .i64 b2.c0,.int .i64 b2.c1,.int .i64 b2.c2,.int .i64 b2.c3,.slice x1 m1 x3,.slice x2 m2 x4],.agg #[.int .i64 q0,.int .i64 q1,.int .i64 q2,.int .i64 q3,.int .i64 q4,.int .i64 q5,.string q6,.string q7,.int .i64 q8,.string q9]]) rfl rfl rfl (by go_simp) ?_
       refine Calls.mono (l07Do_any b2.c0 b2.c1 b2.c2 b2.c3 b2.ts b2.is q0 q1 q2 q3 q4 q5 q6 q7 q8 q9 x1 x2 m1 m2 x3 x4 ub ((HO.out.1.below HUub.out).read) hBB HRD.out) ?_
       rintro e ua hnb
       rw [HRR.out] at hnb
       obtain ⟨e1,p1,e3,e2,p2,e4,rfl,ho,hb⟩:=hnb
       have HUua:=qH (HUub.out.trans (hb.mono HUub.out.size))
       refine ⟨_,rfl,HSS.out _ HUua.out,?_⟩
       simp only [pS,List.set,zT,zZ,zU]
       have HX:=qH (HXub.out.below hb)
       have HQ : Hid ((∀ q,(Value.slice e1 p1 e3).ownBlock = some q -> q ≠ u0.heap.size) /\ ∀ q,(Value.slice e2 p2 e4).ownBlock = some q -> q ≠ u0.heap.size):=qH ⟨fun q hq => by have:=(ho.t.lt q hq).1;have:=HXub.out.lt;omega,fun q hq => by have:=(ho.i.lt q hq).1;have:=HXub.out.lt;omega⟩
       have HOB:=qH (ho.mono HUub.out.size)
       have z0:=HX.out.cell 0 _ rfl
       have f0:=HX.out.free 0
       have z1:=HX.out.cell 1 _ rfl
       have f1:=HX.out.free 1
       have z2:=HX.out.cell 2 _ rfl
       have f2:=HX.out.free 2
       have z3:=HX.out.cell 3 _ rfl
       have f3:=HX.out.free 3
       have z4:=HX.out.cell 4 _ rfl
       have f4:=HX.out.free 4
       have z5:=HX.out.cell 5 _ rfl
       have f5:=HX.out.free 5
       have z6:=HX.out.cell 6 _ rfl
       have f6:=HX.out.free 6
       obtain ⟨hY,hG⟩:=box_put7 HX.out (.int .i64 r.1.c0) (.int .i64 r.1.c1) (.int .i64 r.1.c2) (.int .i64 r.1.c3) (.slice e1 p1 e3) (.slice e2 p2 e4) (.int .i64 r.2)
       refine TillZ.hand_skip (w':=((((((ua.setCell ⟨u0.heap.size,0,none⟩ (.int .i64 r.1.c0)).setCell ⟨u0.heap.size,1,none⟩ (.int .i64 r.1.c1)).setCell ⟨u0.heap.size,2,none⟩ (.int .i64 r.1.c2)).setCell ⟨u0.heap.size,3,none⟩ (.int .i64 r.1.c3)).setCell ⟨u0.heap.size,4,none⟩ (.slice e1 p1 e3)).setCell ⟨u0.heap.size,5,none⟩ (.slice e2 p2 e4)).setCell ⟨u0.heap.size,6,none⟩ (.int .i64 r.2)) (by kernel_rfl) rfl rfl (by go_simp) ?_
       simp only [pN,zT,zZ,zU]
       refine TillZ.any_done (by kernel_rfl) ?_ _
       clear z0 f0 z1 f1 z2 f2 z3 f3 z4 f4 z5 f5 z6 f6
       generalize ((((((ua.setCell ⟨u0.heap.size,0,none⟩ (.int .i64 r.1.c0)).setCell ⟨u0.heap.size,1,none⟩ (.int .i64 r.1.c1)).setCell ⟨u0.heap.size,2,none⟩ (.int .i64 r.1.c2)).setCell ⟨u0.heap.size,3,none⟩ (.int .i64 r.1.c3)).setCell ⟨u0.heap.size,4,none⟩ (.slice e1 p1 e3)).setCell ⟨u0.heap.size,5,none⟩ (.slice e2 p2 e4)).setCell ⟨u0.heap.size,6,none⟩ (.int .i64 r.2) = Y at *
       go_wp2_with fail
       go_meet
       case rel => exact ⟨u0.heap.size,e1,p1,e3,e2,p2,e4,rfl,hY,⟨own_apartP HOB.out.t hG HQ.out.1,own_apartP HOB.out.i hG HQ.out.2⟩,HNBub.out,grown_below HUua.out hG HNBub.out HUua.out.size⟩
    case rest =>
     obtain ⟨nb,e1,p1,e3,e2,p2,e4,rfl,hXB,hOB,hnb,hU⟩:=hcut
     have HXB:=qH hXB
     have HU:=qH hU
     have HOB:=qH (hOB.mono HB.out.size)
     have HOF : Hid ((∀ q,(Value.slice e1 p1 e3).ownBlock = some q -> q ≠ w.heap.size /\ q ≠ w.heap.size + 1) /\ (∀ q,(Value.slice e2 p2 e4).ownBlock = some q -> q ≠ w.heap.size /\ q ≠ w.heap.size + 1)):=qH ⟨fun q hq => by have:=(hOB.t.lt q hq).1;have:=HSZ.out;have:=HWS.out;omega,fun q hq => by have:=(hOB.i.lt q hq).1;have:=HSZ.out;have:=HWS.out;omega⟩
     have HX2:=qH (HX.out.below hU)
     have HZ2:=qH (HZ.out.below hU)
     have HO2:=qH (show BkO wc (if k = 0 then base else w.heap.size) x1 m1 x3 x2 m2 x4 b2.ts b2.is /\ (∀ q,(Value.slice x1 m1 x3).ownBlock = some q -> q ≠ w.heap.size /\ q ≠ w.heap.size + 1) /\ (∀ q,(Value.slice x2 m2 x4).ownBlock = some q -> q ≠ w.heap.size /\ q ≠ w.heap.size + 1) from ⟨HO.out.1.below hU,HO.out.2⟩)
     have HB2:=qH (HB.out.trans (hU.mono HB.out.size))
     have HS2:=qH (Nat.le_trans HSZ.out hU.size)
     clear hXB hU hOB hnb HSS HB0 HX HZ HO HB HSZ HRR hBB HRD
     obtain ⟨b3,cd⟩:=r
     dsimp only at HDP2 HRT HXB HOB ⊢
     by_cases hc : cd = 0
     · subst hc
       have v0:=(HXB.out).cell 0 _ rfl
       have v1:=(HXB.out).cell 1 _ rfl
       have v2:=(HXB.out).cell 2 _ rfl
       have v3:=(HXB.out).cell 3 _ rfl
       have v4:=(HXB.out).cell 4 _ rfl
       have v5:=(HXB.out).cell 5 _ rfl
       have v6:=(HXB.out).cell 6 _ rfl
       have hXV:=HX2.out
       have z0:=(hXV).cell 0 _ rfl
       have z1:=(hXV).cell 1 _ rfl
       have z2:=(hXV).cell 2 _ rfl
       have z3:=(hXV).cell 3 _ rfl
       have z4:=(hXV).cell 4 _ rfl
       have z5:=(hXV).cell 5 _ rfl
       have f0:=(hXV).free 0
       have f1:=(hXV).free 1
       have f2:=(hXV).free 2
       have f3:=(hXV).free 3
       have f4:=(hXV).free 4
       have f5:=(hXV).free 5
       obtain ⟨hY,hG⟩:=box_put6 hXV (.int .i64 b3.c0) (.int .i64 b3.c1) (.int .i64 b3.c2) (.int .i64 b3.c3) (.slice e1 p1 e3) (.slice e2 p2 e4)
       obtain ⟨Y,hYd⟩ : ∃ Y,Y = (((((wc.setCell ⟨w.heap.size,0,none⟩ (.int .i64 b3.c0)).setCell ⟨w.heap.size,1,none⟩ (.int .i64 b3.c1)).setCell ⟨w.heap.size,2,none⟩ (.int .i64 b3.c2)).setCell ⟨w.heap.size,3,none⟩ (.int .i64 b3.c3)).setCell ⟨w.heap.size,4,none⟩ (.slice e1 p1 e3)).setCell ⟨w.heap.size,5,none⟩ (.slice e2 p2 e4):=⟨_,rfl⟩
       rw [<- hYd] at hY hG
       have HYX:=qH hY
       have HYO:=qH (show BkO Y w.heap.size e1 p1 e3 e2 p2 e4 b3.ts b3.is from ⟨own_apartP HOB.out.t hG (fun q hq => (HOF.out.1 q hq).1),own_apartP HOB.out.i hG (fun q hq => (HOF.out.2 q hq).1)⟩)
       have HYB:=qH (grown_below HB2.out hG (Nat.le_refl _) HB2.out.size)
       have HYZ:=qH (HZ2.out.grown hG (by simp))
       have HYS : Hid (W.heap.size <= Y.heap.size):=qH (Nat.le_trans HS2.out hG.size)
       have HDN : Hid (doAllS b ds = doAllS b3 (ds.drop (k + 1))):=qH (by rw [HDP2.out,if_pos rfl])
       have HBN:=qH (bookB_right (HRT.out rfl))
       have HYD:=qH hYd
       have hwk : IntKind.i64.wrap ((k : Int) + 1) = (k : Int) + 1:=IntWalk.i64_in _ (by omega)
       clear hXV hY hG hYd HX2 HZ2 HO2 HB2 HS2 HDP2 HRT HOB HXB
       go_wp2_with fail
       rw [<- HYD.out]
       clear v0 v1 v2 v3 v4 v5 v6 z0 z1 z2 z3 z4 z5 f0 f1 f2 f3 f4 f5
       go_roundw
       case rel => exact ⟨k + 1,b3,e1,p1,e3,e2,p2,e4,by omega,by go_num,HYX,qH ⟨by rw [if_neg (by omega)];exact HYO.out,HOF.out⟩,HBN,HDN,HYB,HYZ,HYS⟩
       case measure => simp [intOf];omega
     · have hc2 : (cd != 0) = true:=by simpa using hc
       have v6:=HXB.out.cell 6 _ rfl
       have HRE : Hid ((doAllS b ds).2 = cd):=qH (by rw [HDP2.out,if_neg hc])
       have hZV:=HZ2.out
       have y0:=(HX2.out).cell 0 _ rfl
       have y1:=(HX2.out).cell 1 _ rfl
       have y2:=(HX2.out).cell 2 _ rfl
       have y3:=(HX2.out).cell 3 _ rfl
       have y4:=(HX2.out).cell 4 _ rfl
       have y5:=(HX2.out).cell 5 _ rfl
       have z0:=(hZV).cell 0 _ rfl
       have z1:=(hZV).cell 1 _ rfl
       have z2:=(hZV).cell 2 _ rfl
       have z3:=(hZV).cell 3 _ rfl
       have z4:=(hZV).cell 4 _ rfl
       have z5:=(hZV).cell 5 _ rfl
       have f0:=(hZV).free 0
       have f1:=(hZV).free 1
       have f2:=(hZV).free 2
       have f3:=(hZV).free 3
       have f4:=(hZV).free 4
       have f5:=(hZV).free 5
       obtain ⟨hY,hG⟩:=box_put6 hZV (.int .i64 b2.c0) (.int .i64 b2.c1) (.int .i64 b2.c2) (.int .i64 b2.c3) (.slice x1 m1 x3) (.slice x2 m2 x4)
       obtain ⟨Y,hYd⟩ : ∃ Y,Y = ((((((wc.setCell ⟨w.heap.size + 1,0,none⟩ (.int .i64 b2.c0)).setCell ⟨w.heap.size + 1,1,none⟩ (.int .i64 b2.c1)).setCell ⟨w.heap.size + 1,2,none⟩ (.int .i64 b2.c2)).setCell ⟨w.heap.size + 1,3,none⟩ (.int .i64 b2.c3)).setCell ⟨w.heap.size + 1,4,none⟩ (.slice x1 m1 x3)).setCell ⟨w.heap.size + 1,5,none⟩ (.slice x2 m2 x4)):=⟨_,rfl⟩
       rw [<- hYd] at hY hG
       have HYO:=qH (show BkO Y (if k = 0 then base else w.heap.size) x1 m1 x3 x2 m2 x4 b2.ts b2.is from ⟨own_apartP HO2.out.1.t hG (fun q hq => (HO2.out.2.1 q hq).2),own_apartP HO2.out.1.i hG (fun q hq => (HO2.out.2.2 q hq).2)⟩)
       have HYB:=qH (grown_below HB2.out hG (by omega) (by have:=HB2.out.size;omega))
       have g0:=(hY).cell 0 _ rfl
       have g1:=(hY).cell 1 _ rfl
       have g2:=(hY).cell 2 _ rfl
       have g3:=(hY).cell 3 _ rfl
       have g4:=(hY).cell 4 _ rfl
       have g5:=(hY).cell 5 _ rfl
       have HG:=qH (And.intro g0 (And.intro g1 (And.intro g2 (And.intro g3 (And.intro g4 g5)))))
       have HYD:=qH hYd
       clear hZV hY hG hYd g0 g1 g2 g3 g4 g5
       go_wp2_with fail
       rw [<- HYD.out]
       obtain ⟨g0,g1,g2,g3,g4,g5⟩:=HG.out
       clear y0 y1 y2 y3 y4 y5 z0 z1 z2 z3 z4 z5 f0 f1 f2 f3 f4 f5
       exact bodyPost_ret (v:=.tuple #[.agg #[.int .i64 b2.c0,.int .i64 b2.c1,.int .i64 b2.c2,.int .i64 b2.c3,.slice x1 m1 x3,.slice x2 m2 x4],.bool false]) (by simp [results,Tryz.results75,go_sem,g0,g1,g2,g3,g4,g5]) rfl ⟨b2.c0,b2.c1,b2.c2,b2.c3,x1,m1,x3,x2,m2,x4,by rw [HRE.out,decide_eq_false hc],fun h0 => absurd (HRE.out.symm.trans h0) hc,HYB.out⟩
  · obtain rfl : k = ln:=by omega
    have HRE : Hid (doAllS b ds = (b2,0)):=qH (by rw [HDO.out,List.drop_eq_nil_of_le (by omega)];rfl)
    have hZV:=HZ.out
    have y0:=(HX.out).cell 0 _ rfl
    have y1:=(HX.out).cell 1 _ rfl
    have y2:=(HX.out).cell 2 _ rfl
    have y3:=(HX.out).cell 3 _ rfl
    have y4:=(HX.out).cell 4 _ rfl
    have y5:=(HX.out).cell 5 _ rfl
    have z0:=(hZV).cell 0 _ rfl
    have z1:=(hZV).cell 1 _ rfl
    have z2:=(hZV).cell 2 _ rfl
    have z3:=(hZV).cell 3 _ rfl
    have z4:=(hZV).cell 4 _ rfl
    have z5:=(hZV).cell 5 _ rfl
    have f0:=(hZV).free 0
    have f1:=(hZV).free 1
    have f2:=(hZV).free 2
    have f3:=(hZV).free 3
    have f4:=(hZV).free 4
    have f5:=(hZV).free 5
    obtain ⟨hY,hG⟩:=box_put6 hZV (.int .i64 b2.c0) (.int .i64 b2.c1) (.int .i64 b2.c2) (.int .i64 b2.c3) (.slice x1 m1 x3) (.slice x2 m2 x4)
    obtain ⟨Y,hYd⟩ : ∃ Y,Y = ((((((wr.setCell ⟨w.heap.size + 1,0,none⟩ (.int .i64 b2.c0)).setCell ⟨w.heap.size + 1,1,none⟩ (.int .i64 b2.c1)).setCell ⟨w.heap.size + 1,2,none⟩ (.int .i64 b2.c2)).setCell ⟨w.heap.size + 1,3,none⟩ (.int .i64 b2.c3)).setCell ⟨w.heap.size + 1,4,none⟩ (.slice x1 m1 x3)).setCell ⟨w.heap.size + 1,5,none⟩ (.slice x2 m2 x4)):=⟨_,rfl⟩
    rw [<- hYd] at hY hG
    have HYO:=qH (show BkO Y (if k = 0 then base else w.heap.size) x1 m1 x3 x2 m2 x4 b2.ts b2.is from ⟨own_apartP HO.out.1.t hG (fun q hq => (HO.out.2.1 q hq).2),own_apartP HO.out.1.i hG (fun q hq => (HO.out.2.2 q hq).2)⟩)
    have HYB:=qH (grown_below HB.out hG (by omega) (by have:=HB.out.size;omega))
    have g0:=(hY).cell 0 _ rfl
    have g1:=(hY).cell 1 _ rfl
    have g2:=(hY).cell 2 _ rfl
    have g3:=(hY).cell 3 _ rfl
    have g4:=(hY).cell 4 _ rfl
    have g5:=(hY).cell 5 _ rfl
    have HG:=qH (And.intro g0 (And.intro g1 (And.intro g2 (And.intro g3 (And.intro g4 g5)))))
    have HYD:=qH hYd
    clear hZV hY hG hYd g0 g1 g2 g3 g4 g5
    go_wp2_with fail
    rw [<- HYD.out]
    obtain ⟨g0,g1,g2,g3,g4,g5⟩:=HG.out
    clear y0 y1 y2 y3 y4 y5 z0 z1 z2 z3 z4 z5 f0 f1 f2 f3 f4 f5
    exact bodyPost_ret (v:=.tuple #[.agg #[.int .i64 b2.c0,.int .i64 b2.c1,.int .i64 b2.c2,.int .i64 b2.c3,.slice x1 m1 x3,.slice x2 m2 x4],.bool true]) (by simp [results,Tryz.results75,go_sem,g0,g1,g2,g3,g4,g5]) rfl ⟨b2.c0,b2.c1,b2.c2,b2.c3,x1,m1,x3,x2,m2,x4,by rw [HRE.out];rfl,fun _ => by rw [HRE.out];exact ⟨by have:=HYO.out;rwa [if_neg (by omega)] at this,rfl,rfl,rfl,rfl⟩,HYB.out⟩
structure SB (w : World) (b : Nat) (u : ByteArray) (p : Int) (k : Bool) : Prop where
 lt : b < w.heap.size
 c0 : w.cell? ⟨b,0,none⟩ = some (.string u)
 c1 : w.cell? ⟨b,1,none⟩ = some (.int .i64 p)
 c2 : w.cell? ⟨b,2,none⟩ = some (.bool k)
 f1 : w.frozen? ⟨b,1,none⟩ = false
 f2 : w.frozen? ⟨b,2,none⟩ = false
theorem SB.below {w w' : World} {b : Nat} {u : ByteArray} {p : Int} {k : Bool} (h : SB w b u p k) (hb : Below w.heap.size w w') : SB w' b u p k :=
 ⟨Nat.lt_of_lt_of_le h.lt hb.size,(hb.cell (p:=⟨b,0,none⟩) h.lt).trans h.c0,(hb.cell (p:=⟨b,1,none⟩) h.lt).trans h.c1,(hb.cell (p:=⟨b,2,none⟩) h.lt).trans h.c2,(hb.frozen (p:=⟨b,1,none⟩) h.lt).trans h.f1,(hb.frozen (p:=⟨b,2,none⟩) h.lt).trans h.f2⟩
theorem SB.move {w : World} {b : Nat} {u : ByteArray} {p : Int} {k : Bool} (h : SB w b u p k) (q : Int) : SB (w.setCell ⟨b,1,none⟩ (.int .i64 q)) b u q k :=
 ⟨by simpa using h.lt,(sco (by decide)).trans h.c0,World.cell?_setCell_same _ _ _ h.c1,(sco (by decide)).trans h.c2,by simpa using h.f1,by simpa using h.f2⟩
theorem SB.mark {w : World} {b : Nat} {u : ByteArray} {p : Int} {k : Bool} (h : SB w b u p k) : SB (w.setCell ⟨b,2,none⟩ (.bool true)) b u p true :=
 ⟨by simpa using h.lt,(sco (by decide)).trans h.c0,(sco (by decide)).trans h.c1,World.cell?_setCell_same _ _ _ h.c2,by simpa using h.f1,by simpa using h.f2⟩
theorem wf_i64_of {n : Int} (h : 0 <= n /\ n <= 1000000) : (Lit.int .i64 n).wf = true:=by
 simp only [Lit.wf,IntKind.min,IntKind.max,IntKind.signed,IntKind.bits]
 simp
 omega
theorem srcNum_any (b : Nat) (u : ByteArray) (q : Nat × Bool) (w : World) (hS : SB w b u (q.1 : Int) q.2) (hu : u.size <= 8000) (hq : q.1 <= u.size) :
 Calls Tryz.prog 112 #[.pointer (some ⟨b,0,none⟩)] w fun e w' => e = .returned (.int .i64 (sN u q).1) /\ SB w' b u ((sN u q).2.1 : Int) (sN u q).2.2 /\ w.grownBy w' (some b):=by
 have hgn : ∀ v : World,Calls Tryz.prog 110 #[.string u,.int .i64 (q.1 : Int)] v fun e w' => e = .returned (numOutV (rdS u q.1 10 0 0)) /\ Below v.heap.size v w':=fun v => by
  have hc:=specGetNum_any u (q.1 : Int) v (wf_i64_of (by omega)) (by unfold maxLen;omega)
  rw [getS_read (by omega)] at hc
  exact hc
 have HS0:=qH hS
 by_cases hc : (rdS u q.1 10 0 0).2.2 = 0
 · obtain ⟨hy,hf,hp⟩:=sN_yes hc
   rw [hy] at hgn
   rw [hf]
   obtain ⟨a,k⟩:=q
   dsimp only at *
   generalize (sN u (a,k)).1 = n at *
   generalize (sN u (a,k)).2.1 = p at *
   have HGN:=qH hgn
   unfold numOutV at HGN
   dsimp only at HGN
   obtain ⟨hlt,c0,c1,c2,f1,f2⟩:=hS
   have hltd : b < w.drew.heap.size:=hlt
   clear hc hy hf hgn
   go_enter Tryz.func112,Tryz.ntmps112
   go_wp2_with fail
   go_region_with (go_at_call 110;refine (HGN.out _).mono ?_;rintro e w1 ⟨rfl,hb1⟩;have HB1 : Hid (Below w.heap.size w w1):=qH (Below.trans (by repeat' (first | exact Below.refl _ _ | refine Below.drew ?_ | refine Below.alloc ?_ (by first | exact Nat.le_refl _ | (simp;done)) _)) (hb1.mono (by first | exact Nat.le_refl _ | (simp;done))));obtain ⟨hc1,hf1⟩:=bcell hb1;have hz1:=hb1.size;have hbw : b < w1.heap.size:=Nat.lt_of_lt_of_le hlt HB1.out.size;have g1:=(HB1.out.cell (p:=⟨b,1,none⟩) hlt).trans c1;have g2:=(HB1.out.cell (p:=⟨b,2,none⟩) hlt).trans c2;have g3:=(HB1.out.frozen (p:=⟨b,1,none⟩) hlt).trans f1;have g4:=(HB1.out.frozen (p:=⟨b,2,none⟩) hlt).trans f2)
   all_goals
    clear hb1
    go_wp2_with fail
    go_ret
    first
     | with_reducible exact ⟨rfl,(SB.move (HS0.out.below HB1.out) _).below ((Below.refl _ _).alloc (Nat.le_refl _) _),grown_trans (grown_trans (fg_below HB1.out) (grown_set _ b 1 _)) (fg_below ((Below.refl _ _).alloc (Nat.le_refl _) _))⟩
     | exact ⟨rfl,SB.move (HS0.out.below (by repeat' (first | exact HB1.out | refine Below.setCell ?_ (by first | exact Nat.le_refl _ | exact HB1.out.size | (simp;done) | (simp;omega)) _ | refine Below.alloc ?_ (by first | exact HB1.out.size | exact Nat.le_refl _ | (simp;done) | (simp;omega)) _))) _,grown_trans (fg_below (by repeat' (first | exact HB1.out | refine Below.setCell ?_ (by first | exact Nat.le_refl _ | exact HB1.out.size | (simp;done) | (simp;omega)) _ | refine Below.alloc ?_ (by first | exact HB1.out.size | exact Nat.le_refl _ | (simp;done) | (simp;omega)) _))) (grown_set _ b 1 _)⟩
 · have hy:=sN_no (u:=u) (q:=q) hc
   obtain ⟨c,hcc⟩ : ∃ c,c = (rdS u q.1 10 0 0).2.2:=⟨_,rfl⟩
   rw [rd_zero u q.1 10 0 0 hc,<- hcc] at hgn
   rw [hy]
   rw [<- hcc] at hc
   have hcb : (c != 0) = true:=by simp [hc]
   obtain ⟨a,k⟩:=q
   dsimp only at *
   have HGN:=qH hgn
   unfold numOutV at HGN
   dsimp only at HGN
   obtain ⟨hlt,c0,c1,c2,f1,f2⟩:=hS
   have hltd : b < w.drew.heap.size:=hlt
   clear hc hy hgn hcc
   go_enter Tryz.func112,Tryz.ntmps112
   go_wp2_with fail
   go_region_with (go_at_call 110;refine (HGN.out _).mono ?_;rintro e w1 ⟨rfl,hb1⟩;have HB1 : Hid (Below w.heap.size w w1):=qH (Below.trans (by repeat' (first | exact Below.refl _ _ | refine Below.drew ?_ | refine Below.alloc ?_ (by first | exact Nat.le_refl _ | (simp;done)) _)) (hb1.mono (by first | exact Nat.le_refl _ | (simp;done))));obtain ⟨hc1,hf1⟩:=bcell hb1;have hz1:=hb1.size;have hbw : b < w1.heap.size:=Nat.lt_of_lt_of_le hlt HB1.out.size;have g1:=(HB1.out.cell (p:=⟨b,1,none⟩) hlt).trans c1;have g2:=(HB1.out.cell (p:=⟨b,2,none⟩) hlt).trans c2;have g3:=(HB1.out.frozen (p:=⟨b,1,none⟩) hlt).trans f1;have g4:=(HB1.out.frozen (p:=⟨b,2,none⟩) hlt).trans f2)
   all_goals
    clear hb1
    go_wp2_with fail
    go_ret
    first
     | with_reducible exact ⟨rfl,(SB.mark (HS0.out.below HB1.out)).below ((Below.refl _ _).alloc (Nat.le_refl _) _),grown_trans (grown_trans (fg_below HB1.out) (grown_set _ b 2 _)) (fg_below ((Below.refl _ _).alloc (Nat.le_refl _) _))⟩
     | exact ⟨rfl,SB.mark (HS0.out.below (by repeat' (first | exact HB1.out | refine Below.setCell ?_ (by first | exact Nat.le_refl _ | exact HB1.out.size | (simp;done) | (simp;omega)) _ | refine Below.alloc ?_ (by first | exact HB1.out.size | exact Nat.le_refl _ | (simp;done) | (simp;omega)) _))),grown_trans (fg_below (by repeat' (first | exact HB1.out | refine Below.setCell ?_ (by first | exact Nat.le_refl _ | exact HB1.out.size | (simp;done) | (simp;omega)) _ | refine Below.alloc ?_ (by first | exact HB1.out.size | exact Nat.le_refl _ | (simp;done) | (simp;omega)) _))) (grown_set _ b 2 _)⟩
theorem srcStr_any (b : Nat) (u : ByteArray) (q : Nat × Bool) (w : World) (hS : SB w b u (q.1 : Int) q.2) (hu : u.size <= 8000) (hq : q.1 <= u.size) :
 Calls Tryz.prog 142 #[.pointer (some ⟨b,0,none⟩)] w fun e w' => e = .returned (.string (sT u q).1) /\ SB w' b u ((sT u q).2.1 : Int) (sT u q).2.2 /\ w.grownBy w' (some b):=by
 have hgn : ∀ v : World,Calls Tryz.prog 93 #[.string u,.int .i64 (q.1 : Int)] v fun e w' => e = .returned (textOutV (txtS u q.1)) /\ Below v.heap.size v w':=fun v => by
  have hc:=specGetText_any u (q.1 : Int) v (wf_i64_of (by omega)) (by unfold maxLen;omega)
  rw [getT_read (by omega)] at hc
  exact hc
 have HS0:=qH hS
 by_cases hc : (txtS u q.1).2.2 = 0
 · obtain ⟨hy,hf,hp⟩:=sT_yes hc
   rw [hy] at hgn
   rw [hf]
   obtain ⟨a,k⟩:=q
   dsimp only at *
   generalize (sT u (a,k)).1 = n at *
   generalize (sT u (a,k)).2.1 = p at *
   have HGN:=qH hgn
   unfold textOutV at HGN
   dsimp only at HGN
   obtain ⟨hlt,c0,c1,c2,f1,f2⟩:=hS
   have hltd : b < w.drew.heap.size:=hlt
   clear hc hy hf hgn
   go_enter Tryz.func142,Tryz.ntmps142
   go_wp2_with fail
   go_region_with (go_at_call 93;refine (HGN.out _).mono ?_;rintro e w1 ⟨rfl,hb1⟩;have HB1 : Hid (Below w.heap.size w w1):=qH (Below.trans (by repeat' (first | exact Below.refl _ _ | refine Below.drew ?_ | refine Below.alloc ?_ (by first | exact Nat.le_refl _ | (simp;done)) _)) (hb1.mono (by first | exact Nat.le_refl _ | (simp;done))));obtain ⟨hc1,hf1⟩:=bcell hb1;have hz1:=hb1.size;have hbw : b < w1.heap.size:=Nat.lt_of_lt_of_le hlt HB1.out.size;have g1:=(HB1.out.cell (p:=⟨b,1,none⟩) hlt).trans c1;have g2:=(HB1.out.cell (p:=⟨b,2,none⟩) hlt).trans c2;have g3:=(HB1.out.frozen (p:=⟨b,1,none⟩) hlt).trans f1;have g4:=(HB1.out.frozen (p:=⟨b,2,none⟩) hlt).trans f2)
   all_goals
    clear hb1
    go_wp2_with fail
    go_ret
    first
     | with_reducible exact ⟨rfl,(SB.move (HS0.out.below HB1.out) _).below ((Below.refl _ _).alloc (Nat.le_refl _) _),grown_trans (grown_trans (fg_below HB1.out) (grown_set _ b 1 _)) (fg_below ((Below.refl _ _).alloc (Nat.le_refl _) _))⟩
     | exact ⟨rfl,SB.move (HS0.out.below (by repeat' (first | exact HB1.out | refine Below.setCell ?_ (by first | exact Nat.le_refl _ | exact HB1.out.size | (simp;done) | (simp;omega)) _ | refine Below.alloc ?_ (by first | exact HB1.out.size | exact Nat.le_refl _ | (simp;done) | (simp;omega)) _))) _,grown_trans (fg_below (by repeat' (first | exact HB1.out | refine Below.setCell ?_ (by first | exact Nat.le_refl _ | exact HB1.out.size | (simp;done) | (simp;omega)) _ | refine Below.alloc ?_ (by first | exact HB1.out.size | exact Nat.le_refl _ | (simp;done) | (simp;omega)) _))) (grown_set _ b 1 _)⟩
 · have hy:=sT_no (u:=u) (q:=q) hc
   obtain ⟨c,hcc⟩ : ∃ c,c = (txtS u q.1).2.2:=⟨_,rfl⟩
   rw [txt_zero u q.1 hc,<- hcc] at hgn
   rw [hy]
   rw [<- hcc] at hc
   have hcb : (c != 0) = true:=by simp [hc]
   obtain ⟨a,k⟩:=q
   dsimp only at *
   have HGN:=qH hgn
   unfold textOutV at HGN
   dsimp only at HGN
   obtain ⟨hlt,c0,c1,c2,f1,f2⟩:=hS
   have hltd : b < w.drew.heap.size:=hlt
   clear hc hy hgn hcc
   go_enter Tryz.func142,Tryz.ntmps142
   go_wp2_with fail
   go_region_with (go_at_call 93;refine (HGN.out _).mono ?_;rintro e w1 ⟨rfl,hb1⟩;have HB1 : Hid (Below w.heap.size w w1):=qH (Below.trans (by repeat' (first | exact Below.refl _ _ | refine Below.drew ?_ | refine Below.alloc ?_ (by first | exact Nat.le_refl _ | (simp;done)) _)) (hb1.mono (by first | exact Nat.le_refl _ | (simp;done))));obtain ⟨hc1,hf1⟩:=bcell hb1;have hz1:=hb1.size;have hbw : b < w1.heap.size:=Nat.lt_of_lt_of_le hlt HB1.out.size;have g1:=(HB1.out.cell (p:=⟨b,1,none⟩) hlt).trans c1;have g2:=(HB1.out.cell (p:=⟨b,2,none⟩) hlt).trans c2;have g3:=(HB1.out.frozen (p:=⟨b,1,none⟩) hlt).trans f1;have g4:=(HB1.out.frozen (p:=⟨b,2,none⟩) hlt).trans f2)
   all_goals
    clear hb1
    go_wp2_with fail
    go_ret
    first
     | with_reducible exact ⟨rfl,(SB.mark (HS0.out.below HB1.out)).below ((Below.refl _ _).alloc (Nat.le_refl _) _),grown_trans (grown_trans (fg_below HB1.out) (grown_set _ b 2 _)) (fg_below ((Below.refl _ _).alloc (Nat.le_refl _) _))⟩
     | exact ⟨rfl,SB.mark (HS0.out.below (by repeat' (first | exact HB1.out | refine Below.setCell ?_ (by first | exact Nat.le_refl _ | exact HB1.out.size | (simp;done) | (simp;omega)) _ | refine Below.alloc ?_ (by first | exact HB1.out.size | exact Nat.le_refl _ | (simp;done) | (simp;omega)) _))),grown_trans (fg_below (by repeat' (first | exact HB1.out | refine Below.setCell ?_ (by first | exact Nat.le_refl _ | exact HB1.out.size | (simp;done) | (simp;omega)) _ | refine Below.alloc ?_ (by first | exact HB1.out.size | exact Nat.le_refl _ | (simp;done) | (simp;omega)) _))) (grown_set _ b 2 _)⟩
end Go.Proofs.YthkbcjnbmciolaaGreatDoor
